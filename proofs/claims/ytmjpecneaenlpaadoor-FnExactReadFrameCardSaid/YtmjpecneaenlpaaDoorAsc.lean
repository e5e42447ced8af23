import Derived.Test.YtmjpecneaenlpaaDoorCmp
namespace Go.Proofs.YtmjpecneaenlpaaDoor
open Go.RowKit

theorem isPlace_any (a p : Int) (w : World) :
    Calls Tryd.prog 108 #[.int .i64 a, .int .i64 p] w fun e w' => e = .returned (.bool (noteB a p)) ∧ w = w' := by
  go_enter Tryd.func108, Tryd.ntmps108
  go_wp2_with (go_at_call 83; refine (within_any _ _ _ _).mono ?_; rintro e w' ⟨rfl, rfl⟩)
  all_goals go_ret
  all_goals exact ⟨ret_bool (by simp_all [inB, noteB] <;> omega), rfl⟩
theorem isShort_any (A : Option Addr) (n c : Nat) (hn : n ≤ 1048576) (w : World) :
    Calls Tryd.prog 79 #[.slice A n c] w fun e w' => e = .returned (.bool (decide (n ≤ 120))) ∧ w = w' := by
  go_enter Tryd.func79, Tryd.ntmps79
  go_wp2
  go_ret
  exact ⟨ret_bool (decide_eq_decide.2 (by omega)), rfl⟩

def rangeB (l : List (Int × Int)) : Bool := (List.range l.length).all fun j => noteB (nAt l j) (nPi l j)
def InRange (l : List (Int × Int)) (k : Nat) : Prop := ∀ j, j < k → noteB (nAt l j) (nPi l j) = true
theorem rangeB_yes (l : List (Int × Int)) (h : InRange l l.length) : rangeB l = true := by
  simp only [rangeB, List.all_eq_true, List.mem_range]; exact h
theorem rangeB_no (l : List (Int × Int)) (k : Nat) (hk : k < l.length) (h : noteB (nAt l k) (nPi l k) = false) : rangeB l = false := by
  unfold rangeB
  rw [List.all_eq_false]
  exact ⟨k, List.mem_range.2 hk, by simp [h]⟩
theorem InRange_succ (l : List (Int × Int)) (k : Nat) (h : InRange l k) (h' : noteB (nAt l k) (nPi l k) = true) : InRange l (k + 1) := fun j hj => by
  rcases Nat.lt_or_ge j k with h1 | h1
  · exact h j h1
  · rw [show j = k by omega]; exact h'

set_option maxHeartbeats 400000 in
theorem isInRange_any (A : Option Addr) (c : Nat) (l : List (Int × Int)) (w : World) (hA : NA w A l) (hn : l.length ≤ 1048576) (hwf : WF l) :
    Calls Tryd.prog 80 #[.slice A l.length c] w (Says (rangeB l) w) := by
  go_enter Tryd.func80, Tryd.ntmps80
  go_wp2_with fail
  go_loopw [7] (fun i wr => ∃ k : Nat, k ≤ l.length ∧ i = .int .i64 k ∧ InRange l k ∧ Below w.heap.size w wr)
    (fun i _ => l.length - (intOf i).toNat)
  case atStart =>
    exact ⟨0, Nat.zero_le _, rfl, fun j hj => absurd hj (Nat.not_lt_zero _), Below.refl _ _⟩
  case round =>
    obtain ⟨k, hk, rfl, hG, hb⟩ := hrel
    have HG := hide hG
    clear hG
    by_cases hlt : k < l.length
    · obtain ⟨b, o, rfl, hbb, c1, c2⟩ := hA k hlt
      have d1 := (hb.cell (p := ⟨b, o + k * 2, none⟩) hbb).trans c1
      have d2 := (hb.cell (p := ⟨b, o + k * 2 + 1, none⟩) hbb).trans c2
      have hs := hb.size
      obtain ⟨⟨e1, e2⟩, e3, e4⟩ := hwf k hlt
      clear c1 c2 hA hwf
      have hb2 := (hb.alloc hs (.cells #[.int .i16 (nAt l k), .int .i8 (nPi l k)] 54))
      go_wp2_with (go_at_call 108; refine (isPlace_any _ _ _).mono ?_; rintro e w' ⟨rfl, rfl⟩)
      · go_ret
        exact ⟨ret_bool (rangeB_no l k hlt (by simpa using ‹(!noteB (nAt l k) (nPi l k)) = true›)).symm, hb2⟩
      · go_roundw
        case rel => exact ⟨k + 1, hlt, by go_num, InRange_succ l k HG.out (by simpa using ‹(!noteB (nAt l k) (nPi l k)) = false›), hb2⟩
        case measure => simp [intOf]; omega
    · obtain rfl : k = l.length := by omega
      go_wp2
      go_ret
      exact ⟨ret_bool (by rw [rangeB_yes l HG.out]), hb⟩

def ascB (l : List (Int × Int)) : Bool := (List.range l.length).all fun j => decide (j = 0) || befB (nAt l (j - 1)) (nPi l (j - 1)) (nAt l j) (nPi l j)
def Asc (l : List (Int × Int)) (k : Nat) : Prop := ∀ j, j < k → 0 < j → befB (nAt l (j - 1)) (nPi l (j - 1)) (nAt l j) (nPi l j) = true
theorem ascB_yes (l : List (Int × Int)) (h : Asc l l.length) : ascB l = true := by
  simp only [ascB, List.all_eq_true, List.mem_range]
  intro j hj
  rcases Nat.eq_zero_or_pos j with h0 | h0
  · simp [h0]
  · simp [h j hj h0]
theorem ascB_no (l : List (Int × Int)) (k : Nat) (hk : k < l.length) (h0 : 0 < k) (h : befB (nAt l (k - 1)) (nPi l (k - 1)) (nAt l k) (nPi l k) = false) : ascB l = false := by
  unfold ascB
  rw [List.all_eq_false]
  exact ⟨k, List.mem_range.2 hk, by simp [h]; omega⟩
theorem Asc_succ (l : List (Int × Int)) (k : Nat) (h : Asc l k) (h' : befB (nAt l (k - 1)) (nPi l (k - 1)) (nAt l k) (nPi l k) = true) : Asc l (k + 1) := fun j hj h0 => by
  rcases Nat.lt_or_ge j k with h1 | h1
  · exact h j h1 h0
  · rw [show j = k by omega]; exact h'

set_option maxHeartbeats 400000 in
theorem ascends_any (A : Option Addr) (c : Nat) (l : List (Int × Int)) (w : World) (hA : NA w A l) (hn : l.length ≤ 1048576) :
    Calls Tryd.prog 81 #[.slice A l.length c] w (Says (ascB l) w) := by
  go_enter Tryd.func81, Tryd.ntmps81
  go_wp2_with fail
  go_loopw [3] (fun i wr => ∃ k : Nat, 0 < k ∧ k ≤ l.length + 1 ∧ i = .int .i64 k ∧ Asc l k ∧ Below w.heap.size w wr)
    (fun i _ => l.length + 1 - (intOf i).toNat)
  case atStart =>
    exact ⟨1, by omega, by omega, rfl, fun j hj h0 => absurd hj (by omega), Below.refl _ _⟩
  case round =>
    obtain ⟨k, hk0, hk, rfl, hG, hb⟩ := hrel
    have HG := hide hG
    clear hG
    by_cases hlt : k < l.length
    · obtain ⟨b, o, rfl, hbb, c1, c2⟩ := hA k hlt
      have d1 := Later.cell ((hb.cell (p := ⟨b, o + k * 2, none⟩) hbb).trans c1)
      have d2 := Later.cell ((hb.cell (p := ⟨b, o + k * 2 + 1, none⟩) hbb).trans c2)
      obtain ⟨b', o', e', hbb', c3, c4⟩ := hA (k - 1) (by omega)
      obtain ⟨rfl, rfl⟩ : b' = b ∧ o' = o := by simpa [eq_comm] using e'
      have d3 := Later.cell ((hb.cell (p := ⟨b', o' + (k - 1) * 2, none⟩) hbb').trans c3)
      have d4 := Later.cell ((hb.cell (p := ⟨b', o' + (k - 1) * 2 + 1, none⟩) hbb').trans c4)
      have hs := hb.size
      clear c1 c2 c3 c4 e' hA
      go_wp2_with fail
      refine wp_region_later (by kernel_rfl) (by kernel_rfl) ?_
      repeat (go_big_quiet_step ((go_at_call 109; exact Later.call (compareNotes_any _ _ _ _ _))))
      refine wpQuiet_nil ?_
      rintro _ ⟨⟨wq, hq⟩, rfl⟩
      have ho := ordI_neg (nAt l (k - 1)) (nPi l (k - 1)) (nAt l k) (nPi l k)
      have Ho := hide ho
      clear ho
      go_wp2
      · go_ret
        have h1 : 0 ≤ ordI (nAt l (k - 1)) (nPi l (k - 1)) (nAt l k) (nPi l k) := by assumption
        refine ⟨ret_bool (ascB_no l k hlt hk0 ?_).symm, hb.trans (hq.mono hs)⟩
        cases hh : befB (nAt l (k - 1)) (nPi l (k - 1)) (nAt l k) (nPi l k)
        · rfl
        · have := Ho.out.2 hh; omega
      · have h1 : ordI (nAt l (k - 1)) (nPi l (k - 1)) (nAt l k) (nPi l k) < 0 := by omega
        go_roundw
        case rel => exact ⟨k + 1, by omega, by omega, by go_num, Asc_succ l k HG.out (Ho.out.1 h1), hb.trans (hq.mono hs)⟩
        case measure => simp [intOf]; omega
    · go_wp2
      go_ret
      exact ⟨ret_bool (by rw [ascB_yes l (fun j hj => HG.out j (by omega))]), hb⟩
end Go.Proofs.YtmjpecneaenlpaaDoor
