import Derived.Test.YtcepjiglhlmgdaaGreatDoorGap
namespace Go.Proofs.YtcepjiglhlmgdaaGreatDoor
open Go.RowKit

theorem isNaN16_any (a : Int) (w : World) :
    Calls Tryz.prog 89 #[.int .i16 a] w fun e w' => e = .returned (.bool false) ∧ w = w' := by
  go_enter Tryz.func89, Tryz.ntmps89
  go_wp2
  all_goals go_ret
  all_goals exact ⟨ret_bool (by simp), rfl⟩
theorem isNaN8_any (a : Int) (w : World) :
    Calls Tryz.prog 90 #[.int .i8 a] w fun e w' => e = .returned (.bool false) ∧ w = w' := by
  go_enter Tryz.func90, Tryz.ntmps90
  go_wp2
  all_goals go_ret
  all_goals exact ⟨ret_bool (by simp), rfl⟩
def cmpI (a b : Int) : Int := if a < b then -1 else if b < a then 1 else 0
theorem cmp16_any (a b : Int) (w : World) :
    Calls Tryz.prog 85 #[.int .i16 a, .int .i16 b] w fun e w' => e = .returned (.int .i64 (cmpI a b)) ∧ w = w' := by
  go_enter Tryz.func85, Tryz.ntmps85
  go_wp2_with (go_at_call 89; refine (isNaN16_any _ _).mono ?_; rintro e w' ⟨rfl, rfl⟩)
  all_goals go_ret
  all_goals exact ⟨ret_int (by unfold cmpI; (repeat' split) <;> omega), rfl⟩
theorem cmp8_any (a b : Int) (w : World) :
    Calls Tryz.prog 86 #[.int .i8 a, .int .i8 b] w fun e w' => e = .returned (.int .i64 (cmpI a b)) ∧ w = w' := by
  go_enter Tryz.func86, Tryz.ntmps86
  go_wp2_with (go_at_call 90; refine (isNaN8_any _ _).mono ?_; rintro e w' ⟨rfl, rfl⟩)
  all_goals go_ret
  all_goals exact ⟨ret_int (by unfold cmpI; (repeat' split) <;> omega), rfl⟩
def orI (x y : Int) : Int := if x = 0 then y else x
theorem cmpOr_any (g : Nat) (x y : Int) (w : World) (h1 : w.cell? ⟨g, 0, none⟩ = some (.int .i64 x)) (h2 : w.cell? ⟨g, 1, none⟩ = some (.int .i64 y)) :
    Calls Tryz.prog 84 #[.slice (some ⟨g, 0, none⟩) 2 2] w fun e w' => e = .returned (.int .i64 (orI x y)) ∧ w = w' := by
  go_enter Tryz.func84, Tryz.ntmps84
  go_wp2_with fail
  go_loop [8] (fun i => ∃ k : Nat, k ≤ 2 ∧ i = .int .i64 k ∧ (0 < k → x = 0) ∧ (1 < k → y = 0)) (fun i => 3 - (intOf i).toNat)
  case atStart => exact ⟨0, by omega, rfl, fun h => absurd h (by omega), fun h => absurd h (by omega)⟩
  case round =>
    obtain ⟨k, hk, rfl, e1, e2⟩ := hrel
    have E1 := hide e1
    have E2 := hide e2
    clear e1 e2
    match k, hk with
    | 0, _ =>
      go_wp2
      · go_ret
        exact ⟨ret_int (by rw [orI, if_neg (by simpa using ‹(x != 0) = true›)]), rfl⟩
      · go_round
        case rel => exact ⟨1, by omega, by go_num, fun _ => by simpa using ‹(x != 0) = false›, fun h => absurd h (by omega)⟩
        case measure => simp [intOf]
    | 1, _ =>
      go_wp2
      · go_ret
        exact ⟨ret_int (by rw [orI, if_pos (E1.out (by omega))]), rfl⟩
      · go_round
        case rel => exact ⟨2, by omega, by go_num, fun _ => E1.out (by omega), fun _ => by simpa using ‹(y != 0) = false›⟩
        case measure => simp [intOf]
    | 2, _ =>
      go_wp2
      go_ret
      exact ⟨ret_int (by rw [orI, if_pos (E1.out (by omega)), E2.out (by omega)]), rfl⟩
def ordI (a p b q : Int) : Int := orI (cmpI a b) (cmpI p q)
theorem ordI_neg (a p b q : Int) : ordI a p b q < 0 ↔ befB a p b q = true := by
  simp only [ordI, orI, cmpI, befB, decide_eq_true_eq]
  (repeat' split) <;> omega
set_option maxHeartbeats 1000000 in
theorem compareNotes_any (a p b q : Int) (w : World) :
    Calls Tryz.prog 75 #[.agg #[.int .i16 a, .int .i8 p], .agg #[.int .i16 b, .int .i8 q]] w fun e w' => e = .returned (.int .i64 (ordI a p b q)) ∧ Below w.heap.size w w' := by
  go_enter Tryz.func75, Tryz.ntmps75
  go_wp2_with fail
  have k1 : ((w.alloc (.cells #[.int .i16 a, .int .i8 p] 59)).alloc (.cells #[.int .i16 b, .int .i8 q] 59)).cell? ⟨w.heap.size, 0, none⟩ = some (.int .i16 a) := by simp [go_sem, World.cell?_alloc_past]
  have k2 : ((w.alloc (.cells #[.int .i16 a, .int .i8 p] 59)).alloc (.cells #[.int .i16 b, .int .i8 q] 59)).cell? ⟨w.heap.size, 1, none⟩ = some (.int .i8 p) := by simp [go_sem, World.cell?_alloc_past]
  have k3 : ((w.alloc (.cells #[.int .i16 a, .int .i8 p] 59)).alloc (.cells #[.int .i16 b, .int .i8 q] 59)).cell? ⟨w.heap.size + 1, 0, none⟩ = some (.int .i16 b) := by simp [go_sem]
  have k4 : ((w.alloc (.cells #[.int .i16 a, .int .i8 p] 59)).alloc (.cells #[.int .i16 b, .int .i8 q] 59)).cell? ⟨w.heap.size + 1, 1, none⟩ = some (.int .i8 q) := by simp [go_sem]
  have k5 : Below w.heap.size w ((w.alloc (.cells #[.int .i16 a, .int .i8 p] 59)).alloc (.cells #[.int .i16 b, .int .i8 q] 59)) := ((Below.refl _ _).alloc (Nat.le_refl _) _).alloc (by simp) _
  obtain ⟨W, hW⟩ : ∃ W, W = ((w.alloc (.cells #[.int .i16 a, .int .i8 p] 59)).alloc (.cells #[.int .i16 b, .int .i8 q] 59)) := ⟨_, rfl⟩
  rw [← hW] at k1 k2 k3 k4 k5 ⊢
  clear hW
  go_region_held3 (fun w' => w'.cell? ⟨w.heap.size, 0, none⟩ = some (.int .i16 a) ∧ w'.cell? ⟨w.heap.size, 1, none⟩ = some (.int .i8 p) ∧ w'.cell? ⟨w.heap.size + 1, 0, none⟩ = some (.int .i16 b) ∧ w'.cell? ⟨w.heap.size + 1, 1, none⟩ = some (.int .i8 q) ∧ Below w.heap.size w w')
    (first | exact ⟨k1, k2, k3, k4, k5.drew⟩ | (go_split_ands; refine ⟨?_, ?_, ?_, ?_, ?_⟩ <;> first | assumption | simp [*, World.cell?_alloc_some] | exact Below.alloc (by assumption) (Below.size (by assumption)) _))
    (first | (go_at_call 85; refine (cmp16_any _ _ _).mono ?_; rintro e w2 ⟨rfl, rfl⟩) | (go_at_call 86; refine (cmp8_any _ _ _).mono ?_; rintro e w2 ⟨rfl, rfl⟩) | (go_at_call 84; refine (cmpOr_any _ (cmpI a b) (cmpI p q) _ ?_ ?_).mono ?_; (simp [go_sem]); (simp [go_sem]); rintro e w2 ⟨rfl, rfl⟩))
  go_wp2
  go_ret
  exact ⟨rfl, (k5.alloc k5.size _).drew⟩
end Go.Proofs.YtcepjiglhlmgdaaGreatDoor
namespace Go.Proofs.YtcepjiglhlmgdaaGreatDoor
open Go.RowKit

theorem isPlace_any (a p : Int) (w : World) :
    Calls Tryz.prog 74 #[.int .i64 a, .int .i64 p] w fun e w' => e = .returned (.bool (noteB a p)) ∧ w = w' := by
  go_enter Tryz.func74, Tryz.ntmps74
  go_wp2_with (go_at_call 54; refine (within_any _ _ _ _).mono ?_; rintro e w' ⟨rfl, rfl⟩)
  all_goals go_ret
  all_goals exact ⟨ret_bool (by simp_all [inB, noteB] <;> omega), rfl⟩
theorem isShort_any (A : Option Addr) (n c : Nat) (hn : n ≤ 1048576) (w : World) :
    Calls Tryz.prog 58 #[.slice A n c] w fun e w' => e = .returned (.bool (decide (n ≤ 120))) ∧ w = w' := by
  go_enter Tryz.func58, Tryz.ntmps58
  go_wp2
  go_ret
  exact ⟨ret_bool (decide_eq_decide.2 (by omega)), rfl⟩

def rangeB (l : List (Int × Int)) : Bool := (List.range l.length).all fun j => noteB (nAt l j) (nPi l j)
def InRange (l : List (Int × Int)) (k : Nat) : Prop := ∀ j, j < k → noteB (nAt l j) (nPi l j) = true
theorem rangeB_yes (l : List (Int × Int)) (h : InRange l l.length) : rangeB l = true := by
  simp only [rangeB, List.all_eq_true, List.mem_range]; exact h
theorem rangeB_no (l : List (Int × Int)) (k : Nat) (hk : k < l.length) (h : noteB (nAt l k) (nPi l k) = false) : rangeB l = false := by
  unfold rangeB
  rw [List.all_eq_false]
  exact ⟨k, List.mem_range.2 hk, by simp [h]⟩
theorem InRange_succ (l : List (Int × Int)) (k : Nat) (h : InRange l k) (h' : noteB (nAt l k) (nPi l k) = true) : InRange l (k + 1) := fun j hj => by
  rcases Nat.lt_or_ge j k with h1 | h1
  · exact h j h1
  · rw [show j = k by omega]; exact h'

set_option maxHeartbeats 400000 in
theorem isInRange_any (A : Option Addr) (c : Nat) (l : List (Int × Int)) (w : World) (hA : NA w A l) (hn : l.length ≤ 1048576) (hwf : WF l) :
    Calls Tryz.prog 59 #[.slice A l.length c] w (Says (rangeB l) w) := by
  go_enter Tryz.func59, Tryz.ntmps59
  go_wp2_with fail
  go_loopw [7] (fun i wr => ∃ k : Nat, k ≤ l.length ∧ i = .int .i64 k ∧ InRange l k ∧ Below w.heap.size w wr)
    (fun i _ => l.length - (intOf i).toNat)
  case atStart =>
    exact ⟨0, Nat.zero_le _, rfl, fun j hj => absurd hj (Nat.not_lt_zero _), Below.refl _ _⟩
  case round =>
    obtain ⟨k, hk, rfl, hG, hb⟩ := hrel
    have HG := hide hG
    clear hG
    by_cases hlt : k < l.length
    · obtain ⟨b, o, rfl, hbb, c1, c2⟩ := hA k hlt
      have d1 := (hb.cell (p := ⟨b, o + k * 2, none⟩) hbb).trans c1
      have d2 := (hb.cell (p := ⟨b, o + k * 2 + 1, none⟩) hbb).trans c2
      have hs := hb.size
      obtain ⟨⟨e1, e2⟩, e3, e4⟩ := hwf k hlt
      clear c1 c2 hA hwf
      have hb2 := (hb.alloc hs (.cells #[.int .i16 (nAt l k), .int .i8 (nPi l k)] 59))
      go_wp2_with (go_at_call 74; refine (isPlace_any _ _ _).mono ?_; rintro e w' ⟨rfl, rfl⟩)
      · go_ret
        exact ⟨ret_bool (rangeB_no l k hlt (by simpa using ‹(!noteB (nAt l k) (nPi l k)) = true›)).symm, hb2⟩
      · go_roundw
        case rel => exact ⟨k + 1, hlt, by go_num, InRange_succ l k HG.out (by simpa using ‹(!noteB (nAt l k) (nPi l k)) = false›), hb2⟩
        case measure => simp [intOf]; omega
    · obtain rfl : k = l.length := by omega
      go_wp2
      go_ret
      exact ⟨ret_bool (by rw [rangeB_yes l HG.out]), hb⟩

def ascB (l : List (Int × Int)) : Bool := (List.range l.length).all fun j => decide (j = 0) || befB (nAt l (j - 1)) (nPi l (j - 1)) (nAt l j) (nPi l j)
def Asc (l : List (Int × Int)) (k : Nat) : Prop := ∀ j, j < k → 0 < j → befB (nAt l (j - 1)) (nPi l (j - 1)) (nAt l j) (nPi l j) = true
theorem ascB_yes (l : List (Int × Int)) (h : Asc l l.length) : ascB l = true := by
  simp only [ascB, List.all_eq_true, List.mem_range]
  intro j hj
  rcases Nat.eq_zero_or_pos j with h0 | h0
  · simp [h0]
  · simp [h j hj h0]
theorem ascB_no (l : List (Int × Int)) (k : Nat) (hk : k < l.length) (h0 : 0 < k) (h : befB (nAt l (k - 1)) (nPi l (k - 1)) (nAt l k) (nPi l k) = false) : ascB l = false := by
  unfold ascB
  rw [List.all_eq_false]
  exact ⟨k, List.mem_range.2 hk, by simp [h]; omega⟩
theorem Asc_succ (l : List (Int × Int)) (k : Nat) (h : Asc l k) (h' : befB (nAt l (k - 1)) (nPi l (k - 1)) (nAt l k) (nPi l k) = true) : Asc l (k + 1) := fun j hj h0 => by
  rcases Nat.lt_or_ge j k with h1 | h1
  · exact h j h1 h0
  · rw [show j = k by omega]; exact h'

set_option maxHeartbeats 400000 in
theorem ascends_any (A : Option Addr) (c : Nat) (l : List (Int × Int)) (w : World) (hA : NA w A l) (hn : l.length ≤ 1048576) :
    Calls Tryz.prog 60 #[.slice A l.length c] w (Says (ascB l) w) := by
  go_enter Tryz.func60, Tryz.ntmps60
  go_wp2_with fail
  go_loopw [3] (fun i wr => ∃ k : Nat, 0 < k ∧ k ≤ l.length + 1 ∧ i = .int .i64 k ∧ Asc l k ∧ Below w.heap.size w wr)
    (fun i _ => l.length + 1 - (intOf i).toNat)
  case atStart =>
    exact ⟨1, by omega, by omega, rfl, fun j hj h0 => absurd hj (by omega), Below.refl _ _⟩
  case round =>
    obtain ⟨k, hk0, hk, rfl, hG, hb⟩ := hrel
    have HG := hide hG
    clear hG
    by_cases hlt : k < l.length
    · obtain ⟨b, o, rfl, hbb, c1, c2⟩ := hA k hlt
      have d1 := Later.cell ((hb.cell (p := ⟨b, o + k * 2, none⟩) hbb).trans c1)
      have d2 := Later.cell ((hb.cell (p := ⟨b, o + k * 2 + 1, none⟩) hbb).trans c2)
      obtain ⟨b', o', e', hbb', c3, c4⟩ := hA (k - 1) (by omega)
      obtain ⟨rfl, rfl⟩ : b' = b ∧ o' = o := by simpa [eq_comm] using e'
      have d3 := Later.cell ((hb.cell (p := ⟨b', o' + (k - 1) * 2, none⟩) hbb').trans c3)
      have d4 := Later.cell ((hb.cell (p := ⟨b', o' + (k - 1) * 2 + 1, none⟩) hbb').trans c4)
      have hs := hb.size
      clear c1 c2 c3 c4 e' hA
      go_wp2_with fail
      refine wp_region_later (by kernel_rfl) (by kernel_rfl) ?_
      repeat (go_big_quiet_step ((go_at_call 75; exact Later.call (compareNotes_any _ _ _ _ _))))
      refine wpQuiet_nil ?_
      rintro _ ⟨⟨wq, hq⟩, rfl⟩
      have ho := ordI_neg (nAt l (k - 1)) (nPi l (k - 1)) (nAt l k) (nPi l k)
      have Ho := hide ho
      clear ho
      go_wp2
      · go_ret
        have h1 : 0 ≤ ordI (nAt l (k - 1)) (nPi l (k - 1)) (nAt l k) (nPi l k) := by assumption
        refine ⟨ret_bool (ascB_no l k hlt hk0 ?_).symm, hb.trans (hq.mono hs)⟩
        cases hh : befB (nAt l (k - 1)) (nPi l (k - 1)) (nAt l k) (nPi l k)
        · rfl
        · have := Ho.out.2 hh; omega
      · have h1 : ordI (nAt l (k - 1)) (nPi l (k - 1)) (nAt l k) (nPi l k) < 0 := by omega
        go_roundw
        case rel => exact ⟨k + 1, by omega, by omega, by go_num, Asc_succ l k HG.out (Ho.out.1 h1), hb.trans (hq.mono hs)⟩
        case measure => simp [intOf]; omega
    · go_wp2
      go_ret
      exact ⟨ret_bool (by rw [ascB_yes l (fun j hj => HG.out j (by omega))]), hb⟩
end Go.Proofs.YtcepjiglhlmgdaaGreatDoor
