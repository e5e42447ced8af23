import Derived.Test.YtnngbnhdcknfnaaBase
import Derived.Test.YtnngbnhdcknfnaaCom
import Derived.Test.YtnngbnhdcknfnaaProg
namespace Go.Proofs.Ytnngbnhdcknfnaa
open Go.RowKit

/-- the first k of l, then zeros -/
def upto (l : List (Int × Int)) (k : Nat) : List (Int × Int) := l.take k ++ List.replicate (l.length - k) (0, 0)
theorem upto_length (l : List (Int × Int)) (k : Nat) (h : k ≤ l.length) : (upto l k).length = l.length := by simp [upto]; omega
theorem upto_set (l : List (Int × Int)) (k : Nat) (h : k < l.length) : (upto l k).set k (nAt l k, nPi l k) = upto l (k + 1) := by
  have e1 : l.length - k = (l.length - (k + 1)) + 1 := by omega
  have e2 : (nAt l k, nPi l k) = l[k] := by simp [nAt, nPi, List.getD, h]
  rw [upto, upto, e1, List.replicate_succ, e2, List.take_succ_eq_append_getElem h, List.set_append_right _ _ (by simp; omega)]
  simp only [List.length_take, show k - min k l.length = 0 by omega, List.set_cons_zero, List.append_assoc, List.cons_append, List.nil_append]
theorem upto_zero (l : List (Int × Int)) : upto l 0 = List.replicate l.length (0, 0) := by simp [upto]
theorem upto_all (l : List (Int × Int)) : upto l l.length = l := by simp [upto]

/-- what toTune leaves -/
def Made (w : World) (l : List (Int × Int)) (e : Ending) (w' : World) : Prop :=
  e = .returned (.slice (some ⟨w.heap.size, 0, none⟩) l.length l.length) ∧ w'.ownsRow w.heap.size 94 2 (.slice (some ⟨w.heap.size, 0, none⟩) l.length l.length) l.length (cellsOf l) ∧ Below w.heap.size w w'

end Go.Proofs.Ytnngbnhdcknfnaa
