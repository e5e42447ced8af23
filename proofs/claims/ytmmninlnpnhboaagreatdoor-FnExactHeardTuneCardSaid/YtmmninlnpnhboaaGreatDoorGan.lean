import Derived.Test.YtmmninlnpnhboaaGreatDoorGam
namespace Go.Proofs.YtmmninlnpnhboaaGreatDoor
open Go.RowKit

def noteB (a p : Int) : Bool := decide ((0 ≤ a ∧ a ≤ 199) ∧ (0 ≤ p ∧ p ≤ 47))
def befB (a p b q : Int) : Bool := decide (a < b ∨ (a = b ∧ p < q))

theorem l01Note_any (a p : Int) (ha : -32768 ≤ a ∧ a ≤ 32767) (hp : -128 ≤ p ∧ p ≤ 127) (w : World) :
    Calls Tryz.prog 87 #[.agg #[.int .i16 a, .int .i8 p]] w fun e w' => e = .returned (.bool (noteB a p)) ∧ Below w.heap.size w w' := by
  obtain ⟨ha1, ha2⟩ := ha
  obtain ⟨hp1, hp2⟩ := hp
  go_enter Tryz.func87, Tryz.ntmps87
  go_wp2_with (go_at_call 85; refine (l00In_any _ _ _ _).mono ?_; rintro e w' ⟨rfl, rfl⟩)
  all_goals go_ret
  all_goals exact ⟨ret_bool (by simp_all [inB, noteB] <;> omega), by repeat (first | exact Below.refl _ _ | refine Below.alloc ?_ (by simp <;> omega) _)⟩
theorem l01Before_any (a p b q : Int) (w : World) :
    Calls Tryz.prog 88 #[.agg #[.int .i16 a, .int .i8 p], .agg #[.int .i16 b, .int .i8 q]] w fun e w' => e = .returned (.bool (befB a p b q)) ∧ Below w.heap.size w w' := by
  go_enter Tryz.func88, Tryz.ntmps88
  go_wp2
  all_goals go_ret
  all_goals exact ⟨ret_bool (by simp_all [befB] <;> omega), by repeat (first | exact Below.refl _ _ | refine Below.alloc ?_ (by simp <;> omega) _)⟩

def WF (l : List (Int × Int)) : Prop := ∀ k, k < l.length → (-32768 ≤ nAt l k ∧ nAt l k ≤ 32767) ∧ (-128 ≤ nPi l k ∧ nPi l k ≤ 127)
/-- the note at j is in range, and behind the one before -/
def good (l : List (Int × Int)) (j : Nat) : Bool := noteB (nAt l j) (nPi l j) && (decide (j = 0) || befB (nAt l (j - 1)) (nPi l (j - 1)) (nAt l j) (nPi l j))
def Good (l : List (Int × Int)) (k : Nat) : Prop := ∀ j, j < k → good l j = true
def okB (l : List (Int × Int)) : Bool := (List.range l.length).all (good l) && decide (l.length ≤ 120)
theorem okB_yes (l : List (Int × Int)) (h : Good l l.length) : okB l = decide (l.length ≤ 120) := by
  have : (List.range l.length).all (good l) = true := by simp only [List.all_eq_true, List.mem_range]; exact h
  simp [okB, this]
theorem okB_no (l : List (Int × Int)) (k : Nat) (hk : k < l.length) (h : good l k = false) : okB l = false := by
  have : (List.range l.length).all (good l) = false := by
    rw [List.all_eq_false]
    exact ⟨k, List.mem_range.2 hk, by simp [h]⟩
  simp [okB, this]
theorem Good_succ (l : List (Int × Int)) (k : Nat) (h : Good l k) (h' : good l k = true) : Good l (k + 1) := fun j hj => by
  rcases Nat.lt_or_ge j k with h1 | h1
  · exact h j h1
  · rw [show j = k by omega]; exact h'

set_option maxHeartbeats 1000000 in
theorem l01Ok_any (A : Option Addr) (c : Nat) (l : List (Int × Int)) (w : World) (hA : NA w A l) (hn : l.length ≤ 1048576) (hwf : WF l) :
    Calls Tryz.prog 57 #[.slice A l.length c] w (Says (okB l) w) := by
  go_enter Tryz.func57, Tryz.ntmps57
  go_wp2_with fail
  go_loopw [3] (fun i wr => ∃ k : Nat, k ≤ l.length ∧ i = .int .i64 k ∧ Good l k ∧ Below w.heap.size w wr)
    (fun i _ => l.length - (intOf i).toNat)
  case atStart =>
    exact ⟨0, Nat.zero_le _, rfl, fun j hj => absurd hj (Nat.not_lt_zero _), Below.refl _ _⟩
  case round =>
    obtain ⟨k, hk, rfl, hG, hb⟩ := hrel
    have HG := hide hG
    clear hG
    by_cases hlt : k < l.length
    · obtain ⟨b, o, rfl, hbb, c1, c2⟩ := hA k hlt
      have d1 := Later.cell ((hb.cell (p := ⟨b, o + k * 2, none⟩) hbb).trans c1)
      have d2 := Later.cell ((hb.cell (p := ⟨b, o + k * 2 + 1, none⟩) hbb).trans c2)
      have hs := hb.size
      have hw1 := hwf k hlt
      by_cases hk0 : 0 < k
      · obtain ⟨b', o', e', hbb', c3, c4⟩ := hA (k - 1) (by omega)
        obtain ⟨rfl, rfl⟩ : b' = b ∧ o' = o := by simpa [eq_comm] using e'
        have d3 := Later.cell ((hb.cell (p := ⟨b', o' + (k - 1) * 2, none⟩) hbb').trans c3)
        have d4 := Later.cell ((hb.cell (p := ⟨b', o' + (k - 1) * 2 + 1, none⟩) hbb').trans c4)
        clear c1 c2 c3 c4 e' hA
        cases h0 : noteB (nAt l k) (nPi l k)
        · have Hg1 := hide (show good l k = false by simp [good, h0])
          have Hh0 := hide h0
          clear h0
          go_wp2_with fail
          refine wp_region_later (by kernel_rfl) (by kernel_rfl) ?_
          repeat (go_big_quiet_step ((go_at_call 87; exact Later.call (Hh0.out ▸ l01Note_any _ _ hw1.1 hw1.2 _))))
          refine wpQuiet_nil ?_
          rintro _ ⟨⟨wq, hq⟩, rfl⟩
          go_wp2
          go_ret
          exact ⟨ret_bool (okB_no l k hlt Hg1.out).symm, hb.trans (hq.mono hs)⟩
        · cases h1 : befB (nAt l (k - 1)) (nPi l (k - 1)) (nAt l k) (nPi l k)
          · have Hg1 := hide (show good l k = false by simp [good, h1, show ¬ k = 0 by omega])
            have Hh0 := hide h0
            have Hh1 := hide h1
            clear h0 h1
            go_wp2_with fail
            refine wp_region_later (by kernel_rfl) (by kernel_rfl) ?_
            repeat (go_big_quiet_step ((first | (go_at_call 87; exact Later.call (Hh0.out ▸ l01Note_any _ _ hw1.1 hw1.2 _)) | (go_at_call 88; exact Later.call (Hh1.out ▸ l01Before_any _ _ _ _ _)))))
            refine wpQuiet_nil ?_
            rintro _ ⟨⟨wq, hq⟩, rfl⟩
            go_wp2
            go_ret
            exact ⟨ret_bool (okB_no l k hlt Hg1.out).symm, hb.trans (hq.mono hs)⟩
          · have Hg1 := hide (show good l k = true by simp [good, h0, h1])
            have Hh0 := hide h0
            have Hh1 := hide h1
            clear h0 h1
            go_wp2_with fail
            refine wp_region_later (by kernel_rfl) (by kernel_rfl) ?_
            repeat (go_big_quiet_step ((first | (go_at_call 87; exact Later.call (Hh0.out ▸ l01Note_any _ _ hw1.1 hw1.2 _)) | (go_at_call 88; exact Later.call (Hh1.out ▸ l01Before_any _ _ _ _ _)))))
            refine wpQuiet_nil ?_
            rintro _ ⟨⟨wq, hq⟩, rfl⟩
            go_wp2
            go_roundw
            case rel => exact ⟨k + 1, hlt, by go_num, Good_succ l k HG.out Hg1.out, hb.trans (hq.mono hs)⟩
            case measure => simp [intOf]; omega
      · obtain rfl : k = 0 := by omega
        simp only [Nat.zero_mul, Nat.add_zero] at d1 d2
        clear c1 c2 hA hk0
        cases h0 : noteB (nAt l 0) (nPi l 0)
        · have Hg1 := hide (show good l 0 = false by simp [good, h0])
          have Hh0 := hide h0
          clear h0
          go_wp2_with fail
          refine wp_region_later (by kernel_rfl) (by kernel_rfl) ?_
          repeat (go_big_quiet_step ((go_at_call 87; exact Later.call (Hh0.out ▸ l01Note_any _ _ hw1.1 hw1.2 _))))
          refine wpQuiet_nil ?_
          rintro _ ⟨⟨wq, hq⟩, rfl⟩
          go_wp2
          go_ret
          exact ⟨ret_bool (okB_no l 0 hlt Hg1.out).symm, hb.trans (hq.mono hs)⟩
        · have Hg1 := hide (show good l 0 = true by simp [good, h0])
          have Hh0 := hide h0
          clear h0
          go_wp2_with fail
          refine wp_region_later (by kernel_rfl) (by kernel_rfl) ?_
          repeat (go_big_quiet_step ((go_at_call 87; exact Later.call (Hh0.out ▸ l01Note_any _ _ hw1.1 hw1.2 _))))
          refine wpQuiet_nil ?_
          rintro _ ⟨⟨wq, hq⟩, rfl⟩
          go_wp2
          go_roundw
          case rel => exact ⟨1, hlt, by go_num, Good_succ l 0 HG.out Hg1.out, hb.trans (hq.mono hs)⟩
          case measure => simp [intOf]; omega
    · obtain rfl : k = l.length := by omega
      go_wp2
      go_ret
      exact ⟨ret_bool (by rw [okB_yes l HG.out]; exact decide_eq_decide.2 (by omega)), hb⟩
end Go.Proofs.YtmmninlnpnhboaaGreatDoor
namespace Go.Proofs.YtmmninlnpnhboaaGreatDoor
open Go.RowKit

theorem isNaN16_any (a : Int) (w : World) :
    Calls Tryz.prog 127 #[.int .i16 a] w fun e w' => e = .returned (.bool false) ∧ w = w' := by
  go_enter Tryz.func127, Tryz.ntmps127
  go_wp2
  all_goals go_ret
  all_goals exact ⟨ret_bool (by simp), rfl⟩
theorem isNaN8_any (a : Int) (w : World) :
    Calls Tryz.prog 128 #[.int .i8 a] w fun e w' => e = .returned (.bool false) ∧ w = w' := by
  go_enter Tryz.func128, Tryz.ntmps128
  go_wp2
  all_goals go_ret
  all_goals exact ⟨ret_bool (by simp), rfl⟩
def cmpI (a b : Int) : Int := if a < b then -1 else if b < a then 1 else 0
theorem cmp16_any (a b : Int) (w : World) :
    Calls Tryz.prog 111 #[.int .i16 a, .int .i16 b] w fun e w' => e = .returned (.int .i64 (cmpI a b)) ∧ w = w' := by
  go_enter Tryz.func111, Tryz.ntmps111
  go_wp2_with (go_at_call 127; refine (isNaN16_any _ _).mono ?_; rintro e w' ⟨rfl, rfl⟩)
  all_goals go_ret
  all_goals exact ⟨ret_int (by unfold cmpI; (repeat' split) <;> omega), rfl⟩
theorem cmp8_any (a b : Int) (w : World) :
    Calls Tryz.prog 112 #[.int .i8 a, .int .i8 b] w fun e w' => e = .returned (.int .i64 (cmpI a b)) ∧ w = w' := by
  go_enter Tryz.func112, Tryz.ntmps112
  go_wp2_with (go_at_call 128; refine (isNaN8_any _ _).mono ?_; rintro e w' ⟨rfl, rfl⟩)
  all_goals go_ret
  all_goals exact ⟨ret_int (by unfold cmpI; (repeat' split) <;> omega), rfl⟩
def orI (x y : Int) : Int := if x = 0 then y else x
theorem cmpOr_any (g : Nat) (x y : Int) (w : World) (h1 : w.cell? ⟨g, 0, none⟩ = some (.int .i64 x)) (h2 : w.cell? ⟨g, 1, none⟩ = some (.int .i64 y)) :
    Calls Tryz.prog 110 #[.slice (some ⟨g, 0, none⟩) 2 2] w fun e w' => e = .returned (.int .i64 (orI x y)) ∧ w = w' := by
  go_enter Tryz.func110, Tryz.ntmps110
  go_wp2_with fail
  go_loop [8] (fun i => ∃ k : Nat, k ≤ 2 ∧ i = .int .i64 k ∧ (0 < k → x = 0) ∧ (1 < k → y = 0)) (fun i => 3 - (intOf i).toNat)
  case atStart => exact ⟨0, by omega, rfl, fun h => absurd h (by omega), fun h => absurd h (by omega)⟩
  case round =>
    obtain ⟨k, hk, rfl, e1, e2⟩ := hrel
    have E1 := hide e1
    have E2 := hide e2
    clear e1 e2
    match k, hk with
    | 0, _ =>
      go_wp2
      · go_ret
        exact ⟨ret_int (by rw [orI, if_neg (by simpa using ‹(x != 0) = true›)]), rfl⟩
      · go_round
        case rel => exact ⟨1, by omega, by go_num, fun _ => by simpa using ‹(x != 0) = false›, fun h => absurd h (by omega)⟩
        case measure => simp [intOf]
    | 1, _ =>
      go_wp2
      · go_ret
        exact ⟨ret_int (by rw [orI, if_pos (E1.out (by omega))]), rfl⟩
      · go_round
        case rel => exact ⟨2, by omega, by go_num, fun _ => E1.out (by omega), fun _ => by simpa using ‹(y != 0) = false›⟩
        case measure => simp [intOf]
    | 2, _ =>
      go_wp2
      go_ret
      exact ⟨ret_int (by rw [orI, if_pos (E1.out (by omega)), E2.out (by omega)]), rfl⟩
def ordI (a p b q : Int) : Int := orI (cmpI a b) (cmpI p q)
theorem ordI_neg (a p b q : Int) : ordI a p b q < 0 ↔ befB a p b q = true := by
  simp only [ordI, orI, cmpI, befB, decide_eq_true_eq]
  (repeat' split) <;> omega
set_option maxHeartbeats 1000000 in
theorem compareNotes_any (a p b q : Int) (w : World) :
    Calls Tryz.prog 95 #[.agg #[.int .i16 a, .int .i8 p], .agg #[.int .i16 b, .int .i8 q]] w fun e w' => e = .returned (.int .i64 (ordI a p b q)) ∧ Below w.heap.size w w' := by
  go_enter Tryz.func95, Tryz.ntmps95
  go_wp2_with fail
  have k1 : ((w.alloc (.cells #[.int .i16 a, .int .i8 p] 65)).alloc (.cells #[.int .i16 b, .int .i8 q] 65)).cell? ⟨w.heap.size, 0, none⟩ = some (.int .i16 a) := by simp [go_sem, World.cell?_alloc_past]
  have k2 : ((w.alloc (.cells #[.int .i16 a, .int .i8 p] 65)).alloc (.cells #[.int .i16 b, .int .i8 q] 65)).cell? ⟨w.heap.size, 1, none⟩ = some (.int .i8 p) := by simp [go_sem, World.cell?_alloc_past]
  have k3 : ((w.alloc (.cells #[.int .i16 a, .int .i8 p] 65)).alloc (.cells #[.int .i16 b, .int .i8 q] 65)).cell? ⟨w.heap.size + 1, 0, none⟩ = some (.int .i16 b) := by simp [go_sem]
  have k4 : ((w.alloc (.cells #[.int .i16 a, .int .i8 p] 65)).alloc (.cells #[.int .i16 b, .int .i8 q] 65)).cell? ⟨w.heap.size + 1, 1, none⟩ = some (.int .i8 q) := by simp [go_sem]
  have k5 : Below w.heap.size w ((w.alloc (.cells #[.int .i16 a, .int .i8 p] 65)).alloc (.cells #[.int .i16 b, .int .i8 q] 65)) := ((Below.refl _ _).alloc (Nat.le_refl _) _).alloc (by simp) _
  obtain ⟨W, hW⟩ : ∃ W, W = ((w.alloc (.cells #[.int .i16 a, .int .i8 p] 65)).alloc (.cells #[.int .i16 b, .int .i8 q] 65)) := ⟨_, rfl⟩
  rw [← hW] at k1 k2 k3 k4 k5 ⊢
  clear hW
  go_region_held3 (fun w' => w'.cell? ⟨w.heap.size, 0, none⟩ = some (.int .i16 a) ∧ w'.cell? ⟨w.heap.size, 1, none⟩ = some (.int .i8 p) ∧ w'.cell? ⟨w.heap.size + 1, 0, none⟩ = some (.int .i16 b) ∧ w'.cell? ⟨w.heap.size + 1, 1, none⟩ = some (.int .i8 q) ∧ Below w.heap.size w w')
    (first | exact ⟨k1, k2, k3, k4, k5.drew⟩ | (go_split_ands; refine ⟨?_, ?_, ?_, ?_, ?_⟩ <;> first | assumption | simp [*, World.cell?_alloc_some] | exact Below.alloc (by assumption) (Below.size (by assumption)) _))
    (first | (go_at_call 111; refine (cmp16_any _ _ _).mono ?_; rintro e w2 ⟨rfl, rfl⟩) | (go_at_call 112; refine (cmp8_any _ _ _).mono ?_; rintro e w2 ⟨rfl, rfl⟩) | (go_at_call 110; refine (cmpOr_any _ (cmpI a b) (cmpI p q) _ ?_ ?_).mono ?_; (simp [go_sem]); (simp [go_sem]); rintro e w2 ⟨rfl, rfl⟩))
  go_wp2
  go_ret
  exact ⟨rfl, (k5.alloc k5.size _).drew⟩
end Go.Proofs.YtmmninlnpnhboaaGreatDoor
