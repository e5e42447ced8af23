/-
  DERIVED. GIVEN WITH THE SEED: THE PROGRAM's TIES (one call each: nine closed facts by the kernel) AND EACH ROW's TIE, after the 31st guide's Derived/Test/Toyas{Tie, Card}.lean. No idea stands in it: it is a product of the set-up. Laid BY PROGRAM, IN A SANDBOX (cutbox-door.mjs). By AI agents, Wed Nov 11 2026. No macro, syntax, notation, axiom, sorry.
-/
import Derived.Test.YtcepjiglhlmgdaaDoorRows
import Derived.LaidByTextLater
import Derived.SevenTiedAt
import Derived.LaidSub
import Derived.LaidOnce
namespace Go.Proofs.YtcepjiglhlmgdaaDoor
open Go
set_option maxRecDepth 100000
theorem seatTie1 : Tryd.prog.laidByTextLater [("math/bits.deBruijn32tab", Rows.laid_math_bits_deBruijn32tab), ("loop.example/g01311/impl.errInvalid", Rows.laid_loop_example_g01311_impl_errInvalid), ("loop.example/g01311/impl.errRange", Rows.laid_loop_example_g01311_impl_errRange), ("loop.example/g01311/impl.errLimit", Rows.laid_loop_example_g01311_impl_errLimit), ("loop.example/g01311/impl.errState", Rows.laid_loop_example_g01311_impl_errState), ("loop.example/g01311/impl.errNotFound", Rows.laid_loop_example_g01311_impl_errNotFound), ("loop.example/g01311/impl.errBudget", Rows.laid_loop_example_g01311_impl_errBudget), ("loop.example/g01311/impl.errProof", Rows.laid_loop_example_g01311_impl_errProof)] [.data, .sentinel, .sentinel, .sentinel, .sentinel, .sentinel, .sentinel, .sentinel] true :=
  Program.laidByTextLater_by_one 147 8 33 (by kernel_rfl) (by kernel_rfl) (by kernel_rfl) (by kernel_rfl) (by kernel_rfl) (by kernel_rfl) (fun _ _ => by kernel_rfl)
theorem noOwnUnsafe : Tryd.pinned.checked.prog.headLifts.contains "ownunsafe" = false := by kernel_rfl
theorem tie : Tryd.prog.laidByTextLater [("loop.example/g01311/impl.errInvalid", Rows.laid_loop_example_g01311_impl_errInvalid), ("loop.example/g01311/impl.errRange", Rows.laid_loop_example_g01311_impl_errRange), ("loop.example/g01311/impl.errLimit", Rows.laid_loop_example_g01311_impl_errLimit), ("loop.example/g01311/impl.errState", Rows.laid_loop_example_g01311_impl_errState), ("loop.example/g01311/impl.errNotFound", Rows.laid_loop_example_g01311_impl_errNotFound), ("loop.example/g01311/impl.errBudget", Rows.laid_loop_example_g01311_impl_errBudget), ("loop.example/g01311/impl.errProof", Rows.laid_loop_example_g01311_impl_errProof)] [.sentinel, .sentinel, .sentinel, .sentinel, .sentinel, .sentinel, .sentinel] true :=
  Program.laidByTextLater.sub seatTie1 ["loop.example/g01311/impl.errInvalid", "loop.example/g01311/impl.errRange", "loop.example/g01311/impl.errLimit", "loop.example/g01311/impl.errState", "loop.example/g01311/impl.errNotFound", "loop.example/g01311/impl.errBudget", "loop.example/g01311/impl.errProof"] (by kernel_rfl) (by kernel_rfl)
theorem fnExactChoicesFor_row_tie : Rows.fnExactChoicesForRow.laidByTextAt .later Tryd.pinned [.sentinel, .sentinel, .sentinel, .sentinel, .sentinel, .sentinel, .sentinel] true :=
  OpenClaim.laidByTextAt_later rfl rfl tie noOwnUnsafe
theorem tie2 : Tryd.prog.laidByTextLater [("math/bits.deBruijn32tab", Rows.laid_math_bits_deBruijn32tab)] [.data] true :=
  Program.laidByTextLater.sub seatTie1 ["math/bits.deBruijn32tab"] (by kernel_rfl) (by kernel_rfl)
theorem fnExactChangesBetween_row_tie : Rows.fnExactChangesBetweenRow.laidByTextAt .later Tryd.pinned [.data] true :=
  OpenClaim.laidByTextAt_later rfl rfl tie2 noOwnUnsafe
theorem fnExactChoicesForUpto_row_tie : Rows.fnExactChoicesForUptoRow.laidByTextAt .later Tryd.pinned [.sentinel, .sentinel, .sentinel, .sentinel, .sentinel, .sentinel, .sentinel] true :=
  OpenClaim.laidByTextAt_later rfl rfl tie noOwnUnsafe
theorem fnExactChangesBetweenUpto_row_tie : Rows.fnExactChangesBetweenUptoRow.laidByTextAt .later Tryd.pinned [.data] true :=
  OpenClaim.laidByTextAt_later rfl rfl tie2 noOwnUnsafe
end Go.Proofs.YtcepjiglhlmgdaaDoor
