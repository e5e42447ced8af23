import Derived.Test.YtheoopbgbglmdaaDoorGat
namespace Go.Proofs.YtheoopbgbglmdaaDoor
open Go.RowKit
theorem eqNote_any (a p b q : Int) (w : World) :
    Calls Tryd.prog 9 #[.agg #[.int .i16 a, .int .i8 p], .agg #[.int .i16 b, .int .i8 q]] w fun e w' => e = .returned (.bool (decide (a = b ∧ p = q))) ∧ Below w.heap.size w w' := by
  go_enter Tryd.func9, Tryd.ntmps9
  go_wp2
  all_goals go_ret
  all_goals exact ⟨ret_bool (by simp_all), by repeat (first | exact Below.refl _ _ | refine Below.alloc ?_ (by simp <;> omega) _)⟩
theorem same_of (l m : List (Int × Int)) (hl : l.length = m.length) (h : ∀ k, k < l.length → nAt l k = nAt m k ∧ nPi l k = nPi m k) : sameB l m = true := by
  refine decide_eq_true (List.ext_getElem hl fun k h1 h2 => ?_)
  have := h k h1
  simp only [nAt, nPi, List.getD, List.getElem?_eq_getElem h1, List.getElem?_eq_getElem h2, Option.getD_some] at this
  exact Prod.ext this.1 this.2
theorem same_not (l m : List (Int × Int)) (k : Nat) (h : ¬ (nAt l k = nAt m k ∧ nPi l k = nPi m k)) : sameB l m = false := by
  refine decide_eq_false fun e => h ?_
  rw [e]
  exact ⟨rfl, rfl⟩

end Go.Proofs.YtheoopbgbglmdaaDoor
