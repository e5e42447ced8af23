/-
  DERIVED. GIVEN WITH THE SEED: THE PROGRAM's TIES (one call each: nine closed facts by the kernel) AND EACH ROW's TIE, after the 31st guide's Derived/Test/Toyas{Tie, Card}.lean. No idea stands in it: it is a product of the set-up. Laid BY PROGRAM, IN A SANDBOX (cutbox-door.mjs). By AI agents, Wed Nov 11 2026. No macro, syntax, notation, axiom, sorry.
-/
import Derived.Test.YtcepjiglhlmgdaaGreatDoorRows
import Derived.LaidByTextLater
import Derived.SevenTiedAt
import Derived.LaidSub
import Derived.LaidOnce
namespace Go.Proofs.YtcepjiglhlmgdaaGreatDoor
open Go
set_option maxRecDepth 100000
theorem seatTie1 : Tryz.prog.laidByTextLater [("errors.errorType", Rows.laid_errors_errorType), ("loop.example/g01311/impl.errInvalid", Rows.laid_loop_example_g01311_impl_errInvalid), ("loop.example/g01311/impl.errRange", Rows.laid_loop_example_g01311_impl_errRange), ("loop.example/g01311/impl.errLimit", Rows.laid_loop_example_g01311_impl_errLimit), ("loop.example/g01311/impl.errState", Rows.laid_loop_example_g01311_impl_errState), ("loop.example/g01311/impl.errNotFound", Rows.laid_loop_example_g01311_impl_errNotFound), ("loop.example/g01311/impl.errBudget", Rows.laid_loop_example_g01311_impl_errBudget), ("loop.example/g01311/impl.errProof", Rows.laid_loop_example_g01311_impl_errProof)] [.handle, .sentinel, .sentinel, .sentinel, .sentinel, .sentinel, .sentinel, .sentinel] true :=
  Program.laidByTextLater_by_one 149 8 2 (by kernel_rfl) (by kernel_rfl) (by kernel_rfl) (by kernel_rfl) (by kernel_rfl) (by kernel_rfl) (fun _ _ => by kernel_rfl)
theorem noOwnUnsafe : Tryz.pinned.checked.prog.headLifts.contains "ownunsafe" = false := by kernel_rfl
theorem tie : Tryz.prog.laidByTextLater [("errors.errorType", Rows.laid_errors_errorType), ("loop.example/g01311/impl.errInvalid", Rows.laid_loop_example_g01311_impl_errInvalid), ("loop.example/g01311/impl.errRange", Rows.laid_loop_example_g01311_impl_errRange), ("loop.example/g01311/impl.errLimit", Rows.laid_loop_example_g01311_impl_errLimit), ("loop.example/g01311/impl.errState", Rows.laid_loop_example_g01311_impl_errState), ("loop.example/g01311/impl.errNotFound", Rows.laid_loop_example_g01311_impl_errNotFound), ("loop.example/g01311/impl.errBudget", Rows.laid_loop_example_g01311_impl_errBudget), ("loop.example/g01311/impl.errProof", Rows.laid_loop_example_g01311_impl_errProof)] [.handle, .sentinel, .sentinel, .sentinel, .sentinel, .sentinel, .sentinel, .sentinel] true :=
  Program.laidByTextLater.sub seatTie1 ["errors.errorType", "loop.example/g01311/impl.errInvalid", "loop.example/g01311/impl.errRange", "loop.example/g01311/impl.errLimit", "loop.example/g01311/impl.errState", "loop.example/g01311/impl.errNotFound", "loop.example/g01311/impl.errBudget", "loop.example/g01311/impl.errProof"] (by kernel_rfl) (by kernel_rfl)
theorem fnExactFirstUnfit_row_tie : Rows.fnExactFirstUnfitRow.laidByTextAt .later Tryz.pinned [.handle, .sentinel, .sentinel, .sentinel, .sentinel, .sentinel, .sentinel, .sentinel] true :=
  OpenClaim.laidByTextAt_later rfl rfl tie noOwnUnsafe
theorem fnExactCheckChoices_row_tie : Rows.fnExactCheckChoicesRow.laidByTextAt .later Tryz.pinned [.handle, .sentinel, .sentinel, .sentinel, .sentinel, .sentinel, .sentinel, .sentinel] true :=
  OpenClaim.laidByTextAt_later rfl rfl tie noOwnUnsafe
theorem fnExactFirstUnfitUpto_row_tie : Rows.fnExactFirstUnfitUptoRow.laidByTextAt .later Tryz.pinned [.handle, .sentinel, .sentinel, .sentinel, .sentinel, .sentinel, .sentinel, .sentinel] true :=
  OpenClaim.laidByTextAt_later rfl rfl tie noOwnUnsafe
theorem fnExactCheckChoicesUpto_row_tie : Rows.fnExactCheckChoicesUptoRow.laidByTextAt .later Tryz.pinned [.handle, .sentinel, .sentinel, .sentinel, .sentinel, .sentinel, .sentinel, .sentinel] true :=
  OpenClaim.laidByTextAt_later rfl rfl tie noOwnUnsafe
end Go.Proofs.YtcepjiglhlmgdaaGreatDoor
