import Derived.Test.YtklkomgpaamcpaaCommon
namespace Go.Proofs.Ytklkomgpaamcpaa
open Go.RowKit Go.Maps

/-- note i of l is note k of m moved by s -/
def hit (l m : List (Int × Int)) (s : Int) (i k : Nat) : Bool := decide (nPi l i = nPi m k) && decide (nAt l i = nAt m k + s)
def rowC (l m : List (Int × Int)) (s : Int) (i k : Nat) : Nat := ((List.range k).filter (hit l m s i)).length
def cpC (l m : List (Int × Int)) (s : Int) : Nat → Nat
  | 0 => 0
  | i + 1 => cpC l m s i + rowC l m s i m.length
theorem rowC_succ (l m : List (Int × Int)) (s : Int) (i k : Nat) : rowC l m s i (k + 1) = rowC l m s i k + if hit l m s i k = true then 1 else 0 := by
  unfold rowC
  rw [List.range_succ, List.filter_append, List.length_append]
  congr 1
  by_cases h : hit l m s i k = true <;> simp [h]
theorem rowC_le (l m : List (Int × Int)) (s : Int) (i k : Nat) : rowC l m s i k ≤ k := by
  have := List.length_filter_le (hit l m s i) (List.range k)
  simpa [rowC] using this
theorem cpC_le (l m : List (Int × Int)) (s : Int) (i : Nat) : cpC l m s i ≤ i * m.length := by
  induction i with
  | zero => simp [cpC]
  | succ i ih => have := rowC_le l m s i m.length; simp only [cpC, Nat.succ_mul]; omega

/-- note k of m is among the first i notes of l -/
def inC (l m : List (Int × Int)) (i k : Nat) : Bool := (List.range i).any fun j => hit l m 0 j k
def numC (l m : List (Int × Int)) (i k : Nat) : Nat := ((List.range k).filter (inC l m i)).length
theorem numC_succ (l m : List (Int × Int)) (i k : Nat) : numC l m i (k + 1) = numC l m i k + if inC l m i k = true then 1 else 0 := by
  unfold numC
  rw [List.range_succ, List.filter_append, List.length_append]
  congr 1
  by_cases h : inC l m i k = true <;> simp [h]
theorem numC_le (l m : List (Int × Int)) (i k : Nat) : numC l m i k ≤ k := by
  have := List.length_filter_le (inC l m i) (List.range k)
  simpa [numC] using this
theorem filter_or {α : Type} (p q : α → Bool) (xs : List α) (h : ∀ x ∈ xs, ¬ (p x = true ∧ q x = true)) : (xs.filter fun x => p x || q x).length = (xs.filter p).length + (xs.filter q).length := by
  induction xs with
  | nil => rfl
  | cons x xs ih =>
    have h1 := ih fun y hy => h y (List.mem_cons_of_mem _ hy)
    have h2 := h x List.mem_cons_self
    cases hp : p x <;> cases hq : q x <;> simp_all <;> omega
theorem asc_lt {l : List (Int × Int)} (h : Asc l l.length) {j i : Nat} (hji : j < i) (hi : i < l.length) : ¬ (nAt l j = nAt l i ∧ nPi l j = nPi l i) := by
  have h3 : ∀ i, j < i → i < l.length → nAt l j < nAt l i ∨ (nAt l j = nAt l i ∧ nPi l j < nPi l i) := by
    intro i hji
    induction i with
    | zero => omega
    | succ i ih =>
      intro hi
      have h2 := h (i + 1) hi (by omega)
      simp only [befB, Nat.add_sub_cancel, decide_eq_true_eq] at h2
      by_cases e : j = i
      · subst e; omega
      · have h1 := ih (by omega) (by omega)
        omega
  have := h3 i hji hi
  omega
theorem inC_succ (l m : List (Int × Int)) (i k : Nat) : inC l m (i + 1) k = (inC l m i k || hit l m 0 i k) := by simp [inC, List.range_succ]
theorem numC_eq {l m : List (Int × Int)} (h : Asc l l.length) : ∀ i, i ≤ l.length → numC l m i m.length = cpC l m 0 i := by
  intro i
  induction i with
  | zero => intro _; simp [numC, cpC, inC]
  | succ i ih =>
    intro hi
    rw [cpC, ← ih (by omega)]
    unfold numC rowC
    rw [show inC l m (i + 1) = fun k => inC l m i k || hit l m 0 i k from funext fun k => inC_succ l m i k]
    refine filter_or _ _ _ fun k _ => ?_
    rintro ⟨h1, h2⟩
    simp only [inC, List.any_eq_true, List.mem_range, hit, Bool.and_eq_true, decide_eq_true_eq] at h1 h2
    obtain ⟨j, hj, h3, h4⟩ := h1
    exact asc_lt h hj (by omega) ⟨by omega, by omega⟩
theorem inC_iff (l m : List (Int × Int)) (i k : Nat) : inC l m i k = true ↔ ∃ j, j < i ∧ nAt l j = nAt m k ∧ nPi l j = nPi m k := by
  simp only [inC, List.any_eq_true, List.mem_range, hit, Bool.and_eq_true, decide_eq_true_eq]
  constructor
  · rintro ⟨j, h1, h2, h3⟩; exact ⟨j, h1, by omega, h2⟩
  · rintro ⟨j, h1, h2, h3⟩; exact ⟨j, h1, h3, by omega⟩
end Go.Proofs.Ytklkomgpaamcpaa
