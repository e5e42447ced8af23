/-
  DERIVED. GIVEN WITH THE SEED: THE CARDS: each row of YtfoofggaieniaaaDoorRows.lean that lists a variable, with what it lists TIED to the program's text (the seventh form; the later family's looks); each row that meets fmt, with fmt's text TOLD by the authors' own Lean function (tested against real Go, not proved from fmt's source: count such statements apart). THE CARD IS WHAT COUNTS. Prove the row's statement (the work); the ties are given (YtfoofggaieniaaaDoorTie.lean); close each card by the builder's one call (the guide's Derived/Test/ToyasCard.lean, 'card_holds'). Laid BY PROGRAM, IN A SANDBOX (cutbox-door.mjs). By AI agents, Wed Nov 11 2026. No macro, syntax, notation, axiom, sorry.
-/
import Derived.Test.YtfoofggaieniaaaDoorRows
import GoSem.ClaimSeven
namespace Go.Proofs.YtfoofggaieniaaaDoor
namespace Rows

/-- THE TIED CARD OF 'laws.FnExactChangesText'. -/
def fnExactChangesTextCard : Claim7 := { stood := { row := fnExactChangesTextRow, standIns := [], harness := (true, "d8515dc98a887a0e526d931ab5aeae480d60cc436986c5cfa15ba9aaeb84130d"), looks := false }, kinds := [], alts := [], laidByText := true, laidKinds := [.data, .data, .data], laidTests := true, laidLooks := .later }
def FnExactChangesTextCardSaid : Prop := Claim7.holds Tryd.pinned (.plain (OpenSpec.ofChange fnExactChangesTextSpec)) fnExactChangesTextCard

/-- THE SECOND FORM's CARD OF 'laws.FnExactChangesText'. -/
def fnExactChangesTextUptoCard : Claim7 := { stood := { row := fnExactChangesTextUptoRow, standIns := [], harness := (true, "d8515dc98a887a0e526d931ab5aeae480d60cc436986c5cfa15ba9aaeb84130d"), looks := false }, kinds := [], alts := [], laidByText := true, laidKinds := [.data, .data, .data], laidTests := true, laidLooks := .later }
def FnExactChangesTextUptoCardSaid : Prop := Claim7.holds Tryd.pinned (.plain (OpenSpec.upto fnExactChangesTextSpec)) fnExactChangesTextUptoCard
end Rows
end Go.Proofs.YtfoofggaieniaaaDoor
