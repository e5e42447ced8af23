import Derived.Test.YtmjpecneaenlpaaDoorFri
import Derived.Test.YtmjpecneaenlpaaDoorGah
import Derived.Test.YtmjpecneaenlpaaDoorPnm
import Derived.Test.YtmjpecneaenlpaaDoorBase
import Derived.Test.YtmjpecneaenlpaaDoorProg
namespace Go.Proofs.YtmjpecneaenlpaaDoor
open Go.RowKit

theorem eqHammer_any (a p b q : Int) (w : World) :
    Calls Tryd.prog 66 #[.agg #[.int .i8 a, .int .i8 p], .agg #[.int .i8 b, .int .i8 q]] w fun e w' => e = .returned (.bool (decide (a = b ∧ p = q))) ∧ Below w.heap.size w w' := by
  go_enter Tryd.func66, Tryd.ntmps66
  go_wp2
  all_goals go_ret
  all_goals exact ⟨ret_bool (by simp_all), by repeat (first | exact Below.refl _ _ | refine Below.alloc ?_ (by simp <;> omega) _)⟩
theorem hsame_of (l m : List (Int × Int)) (hl : l.length = m.length) (h : ∀ k, k < l.length → hPi l k = hPi m k ∧ hRe l k = hRe m k) : sameB l m = true := by
  refine decide_eq_true (List.ext_getElem hl fun k h1 h2 => ?_)
  have := h k h1
  simp only [hPi, hRe, List.getD, List.getElem?_eq_getElem h1, List.getElem?_eq_getElem h2, Option.getD_some] at this
  exact Prod.ext this.1 this.2
theorem hsame_not (l m : List (Int × Int)) (k : Nat) (h : ¬ (hPi l k = hPi m k ∧ hRe l k = hRe m k)) : sameB l m = false := by
  refine decide_eq_false fun e => h ?_
  rw [e]
  exact ⟨rfl, rfl⟩

set_option maxHeartbeats 400000 in
theorem eqHammerS_any (A B : Option Addr) (c d : Nat) (l m : List (Int × Int)) (w : World) (hA : HA w A l) (hB : HA w B m) (hn : l.length ≤ 1048576) (_hm : m.length ≤ 1048576) :
    Calls Tryd.prog 39 #[.slice A l.length c, .slice B m.length d] w (Says (sameB l m) w) := by
  by_cases hlm : l.length = m.length
  · have HL := hide hlm
    have H1 : ((l.length : Int) != (m.length : Int)) = false := by simp [hlm]
    have H2 : (l.length != m.length) = false := by simp [hlm]
    clear hlm
    go_enter Tryd.func39, Tryd.ntmps39
    go_wp2_with fail
    go_loopw [5] (fun i wr => ∃ k : Nat, k ≤ l.length ∧ i = .int .i64 k ∧ (∀ j, j < k → hPi l j = hPi m j ∧ hRe l j = hRe m j) ∧ Below w.heap.size w wr)
      (fun i _ => l.length - (intOf i).toNat)
    case atStart =>
      exact ⟨0, Nat.zero_le _, rfl, fun j hj => absurd hj (Nat.not_lt_zero _), Below.refl _ _⟩
    case round =>
      obtain ⟨k, hk, rfl, hG, hb⟩ := hrel
      have HG := hide hG
      clear hG
      by_cases hlt : k < l.length
      · have hlt2 : k < m.length := by rw [← HL.out]; exact hlt
        obtain ⟨b, o, rfl, hbb, c1, c2⟩ := hA k hlt
        obtain ⟨b', o', rfl, hbb', c3, c4⟩ := hB k hlt2
        have d1 := Later.cell ((hb.cell (p := ⟨b, o + k * 2, none⟩) hbb).trans c1)
        have d2 := Later.cell ((hb.cell (p := ⟨b, o + k * 2 + 1, none⟩) hbb).trans c2)
        have d3 := Later.cell ((hb.cell (p := ⟨b', o' + k * 2, none⟩) hbb').trans c3)
        have d4 := Later.cell ((hb.cell (p := ⟨b', o' + k * 2 + 1, none⟩) hbb').trans c4)
        have hs := hb.size
        clear c1 c2 c3 c4 hA hB
        by_cases he : hPi l k = hPi m k ∧ hRe l k = hRe m k
        · have HE := hide he
          have HD := hide (decide_eq_true he)
          clear he
          go_wp2_with fail
          refine wp_region_later (by kernel_rfl) (by kernel_rfl) ?_
          repeat (go_big_quiet_step ((go_at_call 66; exact Later.call (HD.out ▸ eqHammer_any _ _ _ _ _))))
          refine wpQuiet_nil ?_
          rintro _ ⟨⟨wq, hq⟩, rfl⟩
          go_wp2
          go_roundw
          case rel => exact ⟨k + 1, by omega, by go_num, fun j hj => by
            rcases Nat.lt_or_ge j k with h1 | h1
            · exact HG.out j h1
            · rw [show j = k by omega]; exact HE.out, hb.trans (hq.mono hs)⟩
          case measure => simp [intOf]; omega
        · have HE := hide he
          have HD := hide (decide_eq_false he)
          clear he
          go_wp2_with fail
          refine wp_region_later (by kernel_rfl) (by kernel_rfl) ?_
          repeat (go_big_quiet_step ((go_at_call 66; exact Later.call (HD.out ▸ eqHammer_any _ _ _ _ _))))
          refine wpQuiet_nil ?_
          rintro _ ⟨⟨wq, hq⟩, rfl⟩
          go_wp2
          go_ret
          exact ⟨ret_bool (hsame_not l m k HE.out).symm, hb.trans (hq.mono hs)⟩
      · obtain rfl : k = l.length := by omega
        go_wp2
        go_ret
        exact ⟨ret_bool (hsame_of l m HL.out HG.out).symm, hb⟩
  · have H1 : ((l.length : Int) != (m.length : Int)) = true := by simp; omega
    have H2 : (l.length != m.length) = true := by simpa using hlm
    have HL := hide hlm
    clear hlm
    go_enter Tryd.func39, Tryd.ntmps39
    go_wp2
    go_ret
    exact ⟨ret_bool (decide_eq_false fun e => HL.out (by rw [e])).symm, Below.refl _ _⟩
theorem eqFrame_any (s : Int) (A B : Option Addr) (c d : Nat) (l : List (Int × Int)) (w : World) (hA : HA w A l) (hB : HA w B l) (hn : l.length ≤ 1048576) :
    Calls Tryd.prog 14 #[.agg #[.int .i16 s, .slice A l.length c], .agg #[.int .i16 s, .slice B l.length d]] w (Says true w) := by
  have hb0 : Below w.heap.size w ((w.alloc (.cells #[.int .i16 s, .slice A l.length c] 32)).alloc (.cells #[.int .i16 s, .slice B l.length d] 32)) := ((Below.refl _ _).alloc (Nat.le_refl _) _).alloc (by simp) _
  have hS := sameB_refl l
  have hss : (s != s) = false := by simp
  go_enter Tryd.func14, Tryd.ntmps14
  go_wp2_with (go_at_call 39; refine (eqHammerS_any A B c d l l _ (hA.below hb0) (hB.below hb0) hn hn).mono ?_; rintro e w' ⟨rfl, hb⟩; rw [hS])
  go_ret
  exact ⟨rfl, hb0.trans (hb.mono hb0.size)⟩

end Go.Proofs.YtmjpecneaenlpaaDoor
namespace Go.Proofs.YtmjpecneaenlpaaDoor
open Go.RowKit
/-- the parts of a frame's text -/
def ftX (s : Int) (l : List (Int × Int)) (j : Nat) : ByteArray := if j = 0 then ⟨(Lib.decDigits s.toNat).toArray⟩ else pnV (hPi l (j - 1)) ++ ⟨#[47]⟩ ++ ⟨(Lib.decDigits (hRe l (j - 1)).toNat).toArray⟩
def ftV (s : Int) (l : List (Int × Int)) : ByteArray := if frB s l = true then ⟨(txJ (ftX s l) 32 (l.length + 1)).toArray⟩ else ⟨#[]⟩
theorem mnI_hi (s : Int) : mnI s ≤ 20 := by unfold mnI; split <;> omega
theorem frB_get {s : Int} {l : List (Int × Int)} (h : frB s l = true) : (2 ≤ s ∧ s ≤ 96) ∧ (1 ≤ l.length ∧ l.length ≤ 24) ∧ ∀ j, j < l.length → (0 ≤ hPi l j ∧ hPi l j ≤ 47) ∧ (1 ≤ hRe l j ∧ hRe l j ≤ 20) := by
  obtain ⟨h1, h2, h3⟩ := frB_all h
  refine ⟨h1, h2, fun j hj => ?_⟩
  have h4 := h3 j hj
  have h5 := mnI_hi s
  simp [hamB, inB] at h4
  omega
theorem ftX_succ (s : Int) (l : List (Int × Int)) (j : Nat) : ftX s l (j + 1) = pnV (hPi l j) ++ ⟨#[47]⟩ ++ ⟨(Lib.decDigits (hRe l j).toNat).toArray⟩ := by simp [ftX]
theorem ftX_zero (s : Int) (l : List (Int × Int)) : ftX s l 0 = ⟨(Lib.decDigits s.toNat).toArray⟩ := rfl
theorem ftX_len {s : Int} {l : List (Int × Int)} (h : frB s l = true) (j : Nat) (hj : j < l.length + 1) : (ftX s l j).data.toList.length ≤ 6 := by
  obtain ⟨h1, h2, h3⟩ := frB_get h
  cases j with
  | zero =>
    have := dec_len2 (show s.toNat < 100 by omega)
    rw [ftX_zero]
    simpa using (by omega : (Lib.decDigits s.toNat).length ≤ 6)
  | succ j =>
    have h4 := h3 j (by omega)
    have h5 := dec_len2 (show (hRe l j).toNat < 100 by omega)
    have h6 := pnV_len (hPi l j)
    rw [ftX_succ]
    simp only [ByteArray.data_append, Array.toList_append, List.length_append, List.length_cons, List.length_nil]
    omega
theorem ftJ_len {s : Int} {l : List (Int × Int)} (h : frB s l = true) (k : Nat) (hk : k ≤ l.length + 1) : (txJ (ftX s l) 32 k).length ≤ 175 := by
  have h1 := (frB_get h).2.1
  have := txJ_len (ftX s l) 32 6 k fun j hj => ftX_len h j (by omega)
  omega
end Go.Proofs.YtmjpecneaenlpaaDoor
namespace Go.Proofs.YtmjpecneaenlpaaDoor
open Go.RowKit

/-- the first k of l, then zeros -/
def upto (l : List (Int × Int)) (k : Nat) : List (Int × Int) := l.take k ++ List.replicate (l.length - k) (0, 0)
theorem upto_length (l : List (Int × Int)) (k : Nat) (h : k ≤ l.length) : (upto l k).length = l.length := by simp [upto]; omega
theorem upto_set (l : List (Int × Int)) (k : Nat) (h : k < l.length) : (upto l k).set k (nAt l k, nPi l k) = upto l (k + 1) := by
  have e1 : l.length - k = (l.length - (k + 1)) + 1 := by omega
  have e2 : (nAt l k, nPi l k) = l[k] := by simp [nAt, nPi, List.getD, h]
  rw [upto, upto, e1, List.replicate_succ, e2, List.take_succ_eq_append_getElem h, List.set_append_right _ _ (by simp; omega)]
  simp only [List.length_take, show k - min k l.length = 0 by omega, List.set_cons_zero, List.append_assoc, List.cons_append, List.nil_append]
theorem upto_zero (l : List (Int × Int)) : upto l 0 = List.replicate l.length (0, 0) := by simp [upto]
theorem upto_all (l : List (Int × Int)) : upto l l.length = l := by simp [upto]

/-- what toTune leaves -/
def Made (w : World) (l : List (Int × Int)) (e : Ending) (w' : World) : Prop :=
  e = .returned (.slice (some ⟨w.heap.size, 0, none⟩) l.length l.length) ∧ w'.ownsRow w.heap.size 54 2 (.slice (some ⟨w.heap.size, 0, none⟩) l.length l.length) l.length (cellsOf l) ∧ Below w.heap.size w w'

end Go.Proofs.YtmjpecneaenlpaaDoor
