import Derived.Test.YtncdgjaadlpncaaDoorClp
namespace Go.Proofs.YtncdgjaadlpncaaDoor
open Go.RowKit

def ipB (s : Int) (l : List (Int × Int)) (d : Nat → Int) : Bool := askB s l d && decide ((clsF s.toNat d l (pinsL d)).length = 0)
theorem pins_zero : pinsL (fun _ => 0) = [] := by
  have : ∀ n, pinsT (fun _ => 0) n = [] := by
    intro n
    induction n with
    | zero => rfl
    | succ n ih => rw [pinsT_succ, ih]; simp [bitsL_zero]
  exact this 96
theorem same_empty (S : Nat) (d : Nat → Int) (l : List (Int × Int)) (hd : DWF d) : sameD (clD S d l) (fun _ => 0) = decide ((clsF S d l (pinsL d)).length = 0) := by
  rw [Bool.eq_iff_iff, decide_eq_true_eq]
  constructor
  · intro h
    have h1 := (sameD_iff _ _).1 h
    have h2 : pinsL (clD S d l) = pinsL (fun _ => 0) := by
      have : ∀ n, n ≤ 96 → pinsT (clD S d l) n = pinsT (fun _ => 0) n := by
        intro n
        induction n with
        | zero => intro _; rfl
        | succ n ih => intro hn; rw [pinsT_succ, pinsT_succ, ih (by omega), da_inj h1 n (by omega)]
      exact this 96 (Nat.le_refl _)
    rw [← clD_pins S d l hd, h2, pins_zero]; rfl
  · intro h
    have h1 : clsF S d l (pinsL d) = [] := List.eq_nil_of_length_eq_zero h
    rw [sameD_iff]
    unfold clD
    rw [h1]
    rfl

end Go.Proofs.YtncdgjaadlpncaaDoor
