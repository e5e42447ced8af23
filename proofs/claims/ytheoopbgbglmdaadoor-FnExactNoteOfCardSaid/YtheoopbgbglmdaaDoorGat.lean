import Derived.Test.YtheoopbgbglmdaaDoorBase
import Derived.Test.YtheoopbgbglmdaaDoorGaf
import Derived.Test.YtheoopbgbglmdaaDoorProg
namespace Go.Proofs.YtheoopbgbglmdaaDoor
open Go.RowKit

theorem toNote_any (a p : Int) (w : World) :
    Calls Tryd.prog 6 #[.agg #[.int .i16 a, .int .i8 p]] w fun e w' => e = .returned (.agg #[.int .i16 a, .int .i8 p]) ∧ Below w.heap.size w w' := by
  go_enter Tryd.func6, Tryd.ntmps6
  go_wp2
  refine bodyPost_ret (v := .agg #[.int .i16 a, .int .i8 p]) (by simp [results, Tryd.results6, go_sem]) rfl ⟨rfl, ?_⟩
  repeat (first | exact Below.refl _ _ | refine Below.alloc ?_ (by simp <;> omega) _ | refine Below.setCell ?_ (by simp) _)

/-- the first k of l, then zeros -/
def upto (l : List (Int × Int)) (k : Nat) : List (Int × Int) := l.take k ++ List.replicate (l.length - k) (0, 0)
theorem upto_length (l : List (Int × Int)) (k : Nat) (h : k ≤ l.length) : (upto l k).length = l.length := by simp [upto]; omega
theorem upto_set (l : List (Int × Int)) (k : Nat) (h : k < l.length) : (upto l k).set k (nAt l k, nPi l k) = upto l (k + 1) := by
  have e1 : l.length - k = (l.length - (k + 1)) + 1 := by omega
  have e2 : (nAt l k, nPi l k) = l[k] := by simp [nAt, nPi, List.getD, h]
  rw [upto, upto, e1, List.replicate_succ, e2, List.take_succ_eq_append_getElem h, List.set_append_right _ _ (by simp; omega)]
  simp only [List.length_take, show k - min k l.length = 0 by omega, List.set_cons_zero, List.append_assoc, List.cons_append, List.nil_append]
theorem upto_zero (l : List (Int × Int)) : upto l 0 = List.replicate l.length (0, 0) := by simp [upto]
theorem upto_all (l : List (Int × Int)) : upto l l.length = l := by simp [upto]

/-- what toTune leaves -/
def Made (w : World) (l : List (Int × Int)) (e : Ending) (w' : World) : Prop :=
  e = .returned (.slice (some ⟨w.heap.size, 0, none⟩) l.length l.length) ∧ w'.ownsRow w.heap.size 28 2 (.slice (some ⟨w.heap.size, 0, none⟩) l.length l.length) l.length (cellsOf l) ∧ Below w.heap.size w w'

end Go.Proofs.YtheoopbgbglmdaaDoor
namespace Go.Proofs.YtheoopbgbglmdaaDoor
open Go.RowKit

def noteB (a p : Int) : Bool := decide ((0 ≤ a ∧ a ≤ 199) ∧ (0 ≤ p ∧ p ≤ 47))
def befB (a p b q : Int) : Bool := decide (a < b ∨ (a = b ∧ p < q))

theorem l01Note_any (a p : Int) (ha : -32768 ≤ a ∧ a ≤ 32767) (hp : -128 ≤ p ∧ p ≤ 127) (w : World) :
    Calls Tryd.prog 19 #[.agg #[.int .i16 a, .int .i8 p]] w fun e w' => e = .returned (.bool (noteB a p)) ∧ Below w.heap.size w w' := by
  obtain ⟨ha1, ha2⟩ := ha
  obtain ⟨hp1, hp2⟩ := hp
  go_enter Tryd.func19, Tryd.ntmps19
  go_wp2_with (go_at_call 38; refine (l00In_any _ _ _ _).mono ?_; rintro e w' ⟨rfl, rfl⟩)
  all_goals go_ret
  all_goals exact ⟨ret_bool (by simp_all [inB, noteB] <;> omega), by repeat (first | exact Below.refl _ _ | refine Below.alloc ?_ (by simp <;> omega) _)⟩
def WF (l : List (Int × Int)) : Prop := ∀ k, k < l.length → (-32768 ≤ nAt l k ∧ nAt l k ≤ 32767) ∧ (-128 ≤ nPi l k ∧ nPi l k ≤ 127)
/-- the note at j is in range, and behind the one before -/
def good (l : List (Int × Int)) (j : Nat) : Bool := noteB (nAt l j) (nPi l j) && (decide (j = 0) || befB (nAt l (j - 1)) (nPi l (j - 1)) (nAt l j) (nPi l j))
def Good (l : List (Int × Int)) (k : Nat) : Prop := ∀ j, j < k → good l j = true
def okB (l : List (Int × Int)) : Bool := (List.range l.length).all (good l) && decide (l.length ≤ 120)
theorem okB_yes (l : List (Int × Int)) (h : Good l l.length) : okB l = decide (l.length ≤ 120) := by
  have : (List.range l.length).all (good l) = true := by simp only [List.all_eq_true, List.mem_range]; exact h
  simp [okB, this]
theorem okB_no (l : List (Int × Int)) (k : Nat) (hk : k < l.length) (h : good l k = false) : okB l = false := by
  have : (List.range l.length).all (good l) = false := by
    rw [List.all_eq_false]
    exact ⟨k, List.mem_range.2 hk, by simp [h]⟩
  simp [okB, this]
theorem Good_succ (l : List (Int × Int)) (k : Nat) (h : Good l k) (h' : good l k = true) : Good l (k + 1) := fun j hj => by
  rcases Nat.lt_or_ge j k with h1 | h1
  · exact h j h1
  · rw [show j = k by omega]; exact h'

end Go.Proofs.YtheoopbgbglmdaaDoor
namespace Go.Proofs.YtheoopbgbglmdaaDoor
open Go.RowKit

def cmpI (a b : Int) : Int := if a < b then -1 else if b < a then 1 else 0
def orI (x y : Int) : Int := if x = 0 then y else x
def ordI (a p b q : Int) : Int := orI (cmpI a b) (cmpI p q)
theorem ordI_neg (a p b q : Int) : ordI a p b q < 0 ↔ befB a p b q = true := by
  simp only [ordI, orI, cmpI, befB, decide_eq_true_eq]
  (repeat' split) <;> omega
end Go.Proofs.YtheoopbgbglmdaaDoor
namespace Go.Proofs.YtheoopbgbglmdaaDoor
open Go.RowKit

theorem isPlace_any (a p : Int) (w : World) :
    Calls Tryd.prog 41 #[.int .i64 a, .int .i64 p] w fun e w' => e = .returned (.bool (noteB a p)) ∧ w = w' := by
  go_enter Tryd.func41, Tryd.ntmps41
  go_wp2_with (go_at_call 42; refine (within_any _ _ _ _).mono ?_; rintro e w' ⟨rfl, rfl⟩)
  all_goals go_ret
  all_goals exact ⟨ret_bool (by simp_all [inB, noteB] <;> omega), rfl⟩
def rangeB (l : List (Int × Int)) : Bool := (List.range l.length).all fun j => noteB (nAt l j) (nPi l j)
def InRange (l : List (Int × Int)) (k : Nat) : Prop := ∀ j, j < k → noteB (nAt l j) (nPi l j) = true
theorem rangeB_yes (l : List (Int × Int)) (h : InRange l l.length) : rangeB l = true := by
  simp only [rangeB, List.all_eq_true, List.mem_range]; exact h
theorem rangeB_no (l : List (Int × Int)) (k : Nat) (hk : k < l.length) (h : noteB (nAt l k) (nPi l k) = false) : rangeB l = false := by
  unfold rangeB
  rw [List.all_eq_false]
  exact ⟨k, List.mem_range.2 hk, by simp [h]⟩
theorem InRange_succ (l : List (Int × Int)) (k : Nat) (h : InRange l k) (h' : noteB (nAt l k) (nPi l k) = true) : InRange l (k + 1) := fun j hj => by
  rcases Nat.lt_or_ge j k with h1 | h1
  · exact h j h1
  · rw [show j = k by omega]; exact h'

def ascB (l : List (Int × Int)) : Bool := (List.range l.length).all fun j => decide (j = 0) || befB (nAt l (j - 1)) (nPi l (j - 1)) (nAt l j) (nPi l j)
def Asc (l : List (Int × Int)) (k : Nat) : Prop := ∀ j, j < k → 0 < j → befB (nAt l (j - 1)) (nPi l (j - 1)) (nAt l j) (nPi l j) = true
theorem ascB_yes (l : List (Int × Int)) (h : Asc l l.length) : ascB l = true := by
  simp only [ascB, List.all_eq_true, List.mem_range]
  intro j hj
  rcases Nat.eq_zero_or_pos j with h0 | h0
  · simp [h0]
  · simp [h j hj h0]
theorem ascB_no (l : List (Int × Int)) (k : Nat) (hk : k < l.length) (h0 : 0 < k) (h : befB (nAt l (k - 1)) (nPi l (k - 1)) (nAt l k) (nPi l k) = false) : ascB l = false := by
  unfold ascB
  rw [List.all_eq_false]
  exact ⟨k, List.mem_range.2 hk, by simp [h]; omega⟩
theorem Asc_succ (l : List (Int × Int)) (k : Nat) (h : Asc l k) (h' : befB (nAt l (k - 1)) (nPi l (k - 1)) (nAt l k) (nPi l k) = true) : Asc l (k + 1) := fun j hj h0 => by
  rcases Nat.lt_or_ge j k with h1 | h1
  · exact h j h1 h0
  · rw [show j = k by omega]; exact h'

end Go.Proofs.YtheoopbgbglmdaaDoor
