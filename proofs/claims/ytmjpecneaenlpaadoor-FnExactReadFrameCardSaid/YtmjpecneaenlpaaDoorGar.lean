import Derived.Test.YtmjpecneaenlpaaDoorGan
import Derived.Test.YtmjpecneaenlpaaDoorAsc
namespace Go.Proofs.YtmjpecneaenlpaaDoor
open Go.RowKit
theorem eqNote_any (a p b q : Int) (w : World) :
    Calls Tryd.prog 34 #[.agg #[.int .i16 a, .int .i8 p], .agg #[.int .i16 b, .int .i8 q]] w fun e w' => e = .returned (.bool (decide (a = b ∧ p = q))) ∧ Below w.heap.size w w' := by
  go_enter Tryd.func34, Tryd.ntmps34
  go_wp2
  all_goals go_ret
  all_goals exact ⟨ret_bool (by simp_all), by repeat (first | exact Below.refl _ _ | refine Below.alloc ?_ (by simp <;> omega) _)⟩
theorem same_of (l m : List (Int × Int)) (hl : l.length = m.length) (h : ∀ k, k < l.length → nAt l k = nAt m k ∧ nPi l k = nPi m k) : sameB l m = true := by
  refine decide_eq_true (List.ext_getElem hl fun k h1 h2 => ?_)
  have := h k h1
  simp only [nAt, nPi, List.getD, List.getElem?_eq_getElem h1, List.getElem?_eq_getElem h2, Option.getD_some] at this
  exact Prod.ext this.1 this.2
theorem same_not (l m : List (Int × Int)) (k : Nat) (h : ¬ (nAt l k = nAt m k ∧ nPi l k = nPi m k)) : sameB l m = false := by
  refine decide_eq_false fun e => h ?_
  rw [e]
  exact ⟨rfl, rfl⟩

set_option maxHeartbeats 400000 in
theorem eqTune_any (A B : Option Addr) (c d : Nat) (l m : List (Int × Int)) (w : World) (hA : NA w A l) (hB : NA w B m) (hn : l.length ≤ 1048576) (_hm : m.length ≤ 1048576) :
    Calls Tryd.prog 9 #[.slice A l.length c, .slice B m.length d] w (Says (sameB l m) w) := by
  by_cases hlm : l.length = m.length
  · have HL := hide hlm
    have H1 : ((l.length : Int) != (m.length : Int)) = false := by simp [hlm]
    have H2 : (l.length != m.length) = false := by simp [hlm]
    clear hlm
    go_enter Tryd.func9, Tryd.ntmps9
    go_wp2_with fail
    go_loopw [5] (fun i wr => ∃ k : Nat, k ≤ l.length ∧ i = .int .i64 k ∧ (∀ j, j < k → nAt l j = nAt m j ∧ nPi l j = nPi m j) ∧ Below w.heap.size w wr)
      (fun i _ => l.length - (intOf i).toNat)
    case atStart =>
      exact ⟨0, Nat.zero_le _, rfl, fun j hj => absurd hj (Nat.not_lt_zero _), Below.refl _ _⟩
    case round =>
      obtain ⟨k, hk, rfl, hG, hb⟩ := hrel
      have HG := hide hG
      clear hG
      by_cases hlt : k < l.length
      · have hlt2 : k < m.length := by rw [← HL.out]; exact hlt
        obtain ⟨b, o, rfl, hbb, c1, c2⟩ := hA k hlt
        obtain ⟨b', o', rfl, hbb', c3, c4⟩ := hB k hlt2
        have d1 := Later.cell ((hb.cell (p := ⟨b, o + k * 2, none⟩) hbb).trans c1)
        have d2 := Later.cell ((hb.cell (p := ⟨b, o + k * 2 + 1, none⟩) hbb).trans c2)
        have d3 := Later.cell ((hb.cell (p := ⟨b', o' + k * 2, none⟩) hbb').trans c3)
        have d4 := Later.cell ((hb.cell (p := ⟨b', o' + k * 2 + 1, none⟩) hbb').trans c4)
        have hs := hb.size
        clear c1 c2 c3 c4 hA hB
        by_cases he : nAt l k = nAt m k ∧ nPi l k = nPi m k
        · have HE := hide he
          have HD := hide (decide_eq_true he)
          clear he
          go_wp2_with fail
          refine wp_region_later (by kernel_rfl) (by kernel_rfl) ?_
          repeat (go_big_quiet_step ((go_at_call 34; exact Later.call (HD.out ▸ eqNote_any _ _ _ _ _))))
          refine wpQuiet_nil ?_
          rintro _ ⟨⟨wq, hq⟩, rfl⟩
          go_wp2
          go_roundw
          case rel => exact ⟨k + 1, by omega, by go_num, fun j hj => by
            rcases Nat.lt_or_ge j k with h1 | h1
            · exact HG.out j h1
            · rw [show j = k by omega]; exact HE.out, hb.trans (hq.mono hs)⟩
          case measure => simp [intOf]; omega
        · have HE := hide he
          have HD := hide (decide_eq_false he)
          clear he
          go_wp2_with fail
          refine wp_region_later (by kernel_rfl) (by kernel_rfl) ?_
          repeat (go_big_quiet_step ((go_at_call 34; exact Later.call (HD.out ▸ eqNote_any _ _ _ _ _))))
          refine wpQuiet_nil ?_
          rintro _ ⟨⟨wq, hq⟩, rfl⟩
          go_wp2
          go_ret
          exact ⟨ret_bool (same_not l m k HE.out).symm, hb.trans (hq.mono hs)⟩
      · obtain rfl : k = l.length := by omega
        go_wp2
        go_ret
        exact ⟨ret_bool (same_of l m HL.out HG.out).symm, hb⟩
  · have H1 : ((l.length : Int) != (m.length : Int)) = true := by simp; omega
    have H2 : (l.length != m.length) = true := by simpa using hlm
    have HL := hide hlm
    clear hlm
    go_enter Tryd.func9, Tryd.ntmps9
    go_wp2
    go_ret
    exact ⟨ret_bool (decide_eq_false fun e => HL.out (by rw [e])).symm, Below.refl _ _⟩
theorem eqTune_self (A B : Option Addr) (c d : Nat) (l : List (Int × Int)) (w : World) (hA : NA w A l) (hB : NA w B l) (hn : l.length ≤ 1048576) :
    Calls Tryd.prog 9 #[.slice A l.length c, .slice B l.length d] w (Says true w) := by
  have h := eqTune_any A B c d l l w hA hB hn hn
  rwa [sameB_refl] at h
end Go.Proofs.YtmjpecneaenlpaaDoor
namespace Go.Proofs.YtmjpecneaenlpaaDoor
open Go.RowKit

theorem okB_eq (l : List (Int × Int)) : okB l = (decide (l.length ≤ 120) && rangeB l && ascB l) := by
  have : (List.range l.length).all (good l) = (rangeB l && ascB l) := by
    rw [Bool.eq_iff_iff]
    simp only [good, rangeB, ascB, List.all_eq_true, List.mem_range, Bool.and_eq_true]
    exact ⟨fun h => ⟨fun j hj => (h j hj).1, fun j hj => (h j hj).2⟩, fun h j hj => ⟨h.1 j hj, h.2 j hj⟩⟩
  rw [okB, this, Bool.and_comm, Bool.and_assoc]

set_option maxHeartbeats 400000 in
theorem implValid_any (A : Option Addr) (c : Nat) (l : List (Int × Int)) (w : World) (hA : NA w A l) (hn : l.length ≤ 1048576) (hwf : WF l) :
    Calls Tryd.prog 57 #[.slice A l.length c] w (Says (okB l) w) := by
  have HO := hide (okB_eq l)
  have hW0 : Below w.heap.size w (w.alloc (.cells #[.func (.func 79) #[] #[], .func (.func 80) #[] #[], .func (.func 81) #[] #[]] 55)) := (Below.refl _ _).alloc (Nat.le_refl _) _
  go_enter Tryd.func57, Tryd.ntmps57
  go_wp2_with fail
  go_loopw [9] (fun i wr => ∃ k : Nat, k ≤ 3 ∧ i = .int .i64 k ∧ (0 < k → decide (l.length ≤ 120) = true) ∧ (1 < k → rangeB l = true) ∧ (2 < k → ascB l = true) ∧
      wr.cell? ⟨w.heap.size, 0, none⟩ = some (.func (.func 79) #[] #[]) ∧ wr.cell? ⟨w.heap.size, 1, none⟩ = some (.func (.func 80) #[] #[]) ∧ wr.cell? ⟨w.heap.size, 2, none⟩ = some (.func (.func 81) #[] #[]) ∧ Below w.heap.size w wr)
    (fun i _ => 4 - (intOf i).toNat)
  case atStart =>
    exact ⟨0, by omega, rfl, fun h => absurd h (by omega), fun h => absurd h (by omega), fun h => absurd h (by omega), by simp [go_sem], by simp [go_sem], by simp [go_sem], hW0⟩
  case round =>
    obtain ⟨k, hk, rfl, e1, e2, e3, f1, f2, f3, hb⟩ := hrel
    have E1 := hide e1
    have E2 := hide e2
    have E3 := hide e3
    clear e1 e2 e3
    have hs := hb.size
    have l1 := World.block_lt_of_cell? wr _ f1
    match k, hk with
    | 0, _ =>
      go_wp2_with (go_at_call 79; refine (isShort_any A l.length c hn _).mono ?_; rintro e w2 ⟨rfl, rfl⟩)
      · go_ret
        exact ⟨ret_bool (by rw [HO.out, Bool.not_eq_true' _ |>.mp ‹(!decide (l.length ≤ 120)) = true›]; rfl), hb⟩
      · go_roundw
        case rel => exact ⟨1, by omega, by go_num, fun _ => Bool.not_eq_false' _ |>.mp ‹(!decide (l.length ≤ 120)) = false›, fun h => absurd h (by omega), fun h => absurd h (by omega), f1, f2, f3, hb⟩
        case measure => simp [intOf]
    | 1, _ =>
      go_wp2_with (go_at_call 80; refine (isInRange_any A c l _ (hA.below hb) hn hwf).mono ?_; rintro e w2 ⟨rfl, hb2⟩)
      · go_ret
        exact ⟨ret_bool (by rw [HO.out, show rangeB l = false by simpa using ‹(!rangeB l) = true›]; simp), hb.trans (hb2.mono hs)⟩
      · go_roundw
        case rel => exact ⟨2, by omega, by go_num, fun _ => E1.out (by omega), fun _ => by simpa using ‹(!rangeB l) = false›, fun h => absurd h (by omega), (hb2.cell (p := ⟨_, _, none⟩) l1).trans f1, (hb2.cell (p := ⟨_, _, none⟩) l1).trans f2, (hb2.cell (p := ⟨_, _, none⟩) l1).trans f3, hb.trans (hb2.mono hs)⟩
        case measure => simp [intOf]
    | 2, _ =>
      go_wp2_with (go_at_call 81; refine (ascends_any A c l _ (hA.below hb) hn).mono ?_; rintro e w2 ⟨rfl, hb2⟩)
      · go_ret
        exact ⟨ret_bool (by rw [HO.out, show ascB l = false by simpa using ‹(!ascB l) = true›]; simp), hb.trans (hb2.mono hs)⟩
      · go_roundw
        case rel => exact ⟨3, by omega, by go_num, fun _ => E1.out (by omega), fun _ => E2.out (by omega), fun _ => by simpa using ‹(!ascB l) = false›, (hb2.cell (p := ⟨_, _, none⟩) l1).trans f1, (hb2.cell (p := ⟨_, _, none⟩) l1).trans f2, (hb2.cell (p := ⟨_, _, none⟩) l1).trans f3, hb.trans (hb2.mono hs)⟩
        case measure => simp [intOf]
    | 3, _ =>
      go_wp2
      go_ret
      exact ⟨ret_bool (by rw [HO.out, E1.out (by omega), E2.out (by omega), E3.out (by omega)]; rfl), hb⟩

end Go.Proofs.YtmjpecneaenlpaaDoor
