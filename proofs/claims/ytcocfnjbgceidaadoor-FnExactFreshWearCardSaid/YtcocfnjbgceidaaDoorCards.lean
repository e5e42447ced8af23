/-
  DERIVED. GIVEN WITH THE SEED: THE CARDS: each row of YtcocfnjbgceidaaDoorRows.lean that lists a variable, with what it lists TIED to the program's text (the seventh form; the later family's looks); each row that meets fmt, with fmt's text TOLD by the authors' own Lean function (tested against real Go, not proved from fmt's source: count such statements apart). THE CARD IS WHAT COUNTS. Prove the row's statement (the work); the ties are given (YtcocfnjbgceidaaDoorTie.lean); close each card by the builder's one call (the guide's Derived/Test/ToyasCard.lean, 'card_holds'). Laid BY PROGRAM, IN A SANDBOX (cutbox-door.mjs). By AI agents, Wed Nov 11 2026. No macro, syntax, notation, axiom, sorry.
-/
import Derived.Test.YtcocfnjbgceidaaDoorRows
import GoSem.ClaimSeven
namespace Go.Proofs.YtcocfnjbgceidaaDoor
namespace Rows

/-- THE TIED CARD OF 'laws.FnExactFreshWear'. -/
def fnExactFreshWearCard : Claim7 := { stood := { row := fnExactFreshWearRow, standIns := [], harness := (true, "352a70d602a8461b22d77331bd05444a15770bcefde25a5b8a74c1ddf1bd9937"), looks := false }, kinds := [], alts := [], laidByText := true, laidKinds := [.data], laidTests := true, laidLooks := .later }
def FnExactFreshWearCardSaid : Prop := Claim7.holds Tryd.pinned (.plain (OpenSpec.ofChange fnExactFreshWearSpec)) fnExactFreshWearCard

/-- THE SECOND FORM's CARD OF 'laws.FnExactFreshWear'. -/
def fnExactFreshWearUptoCard : Claim7 := { stood := { row := fnExactFreshWearUptoRow, standIns := [], harness := (true, "352a70d602a8461b22d77331bd05444a15770bcefde25a5b8a74c1ddf1bd9937"), looks := false }, kinds := [], alts := [], laidByText := true, laidKinds := [.data], laidTests := true, laidLooks := .later }
def FnExactFreshWearUptoCardSaid : Prop := Claim7.holds Tryd.pinned (.plain (OpenSpec.upto fnExactFreshWearSpec)) fnExactFreshWearUptoCard
end Rows
end Go.Proofs.YtcocfnjbgceidaaDoor
