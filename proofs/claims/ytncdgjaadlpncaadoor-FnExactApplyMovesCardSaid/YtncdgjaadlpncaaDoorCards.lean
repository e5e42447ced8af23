/-
  DERIVED. GIVEN WITH THE SEED: THE CARDS: each row of YtncdgjaadlpncaaDoorRows.lean that lists a variable, with what it lists TIED to the program's text (the seventh form; the later family's looks); each row that meets fmt, with fmt's text TOLD by the authors' own Lean function (tested against real Go, not proved from fmt's source: count such statements apart). THE CARD IS WHAT COUNTS. Prove the row's statement (the work); the ties are given (YtncdgjaadlpncaaDoorTie.lean); close each card by the builder's one call (the guide's Derived/Test/ToyasCard.lean, 'card_holds'). Laid BY PROGRAM, IN A SANDBOX (cutbox-door.mjs). By AI agents, Wed Nov 11 2026. No macro, syntax, notation, axiom, sorry.
-/
import Derived.Test.YtncdgjaadlpncaaDoorRows
import GoSem.ClaimSeven
namespace Go.Proofs.YtncdgjaadlpncaaDoor
namespace Rows

/-- THE TIED CARD OF 'laws.FnExactApplyMoves'. -/
def fnExactApplyMovesCard : Claim7 := { stood := { row := fnExactApplyMovesRow, standIns := [], harness := (true, "dc6dce28e1cb9720e4d8b6291590117a3e4c661b7c627b4547d1fa7e6bd3f827"), looks := true }, kinds := [], alts := [], laidByText := true, laidKinds := [.sentinel, .sentinel, .sentinel, .sentinel, .sentinel, .sentinel, .sentinel], laidTests := true, laidLooks := .later }
def FnExactApplyMovesCardSaid : Prop := Claim7.holds Tryd.pinned (.plain (OpenSpec.ofChange fnExactApplyMovesSpec)) fnExactApplyMovesCard

/-- THE TIED CARD OF 'laws.FnExactChangesBetween'. -/
def fnExactChangesBetweenCard : Claim7 := { stood := { row := fnExactChangesBetweenRow, standIns := [], harness := (true, "dc6dce28e1cb9720e4d8b6291590117a3e4c661b7c627b4547d1fa7e6bd3f827"), looks := true }, kinds := [], alts := [], laidByText := true, laidKinds := [.data], laidTests := true, laidLooks := .later }
def FnExactChangesBetweenCardSaid : Prop := Claim7.holds Tryd.pinned (.plain (OpenSpec.ofChange fnExactChangesBetweenSpec)) fnExactChangesBetweenCard

/-- THE TIED CARD OF 'laws.FnExactCanShare'. -/
def fnExactCanShareCard : Claim7 := { stood := { row := fnExactCanShareRow, standIns := [], harness := (true, "dc6dce28e1cb9720e4d8b6291590117a3e4c661b7c627b4547d1fa7e6bd3f827"), looks := true }, kinds := [], alts := [], laidByText := true, laidKinds := [.data], laidTests := true, laidLooks := .later }
def FnExactCanShareCardSaid : Prop := Claim7.holds Tryd.pinned (.plain (OpenSpec.ofChange fnExactCanShareSpec)) fnExactCanShareCard

/-- THE SECOND FORM's CARD OF 'laws.FnExactApplyMoves'. -/
def fnExactApplyMovesUptoCard : Claim7 := { stood := { row := fnExactApplyMovesUptoRow, standIns := [], harness := (true, "dc6dce28e1cb9720e4d8b6291590117a3e4c661b7c627b4547d1fa7e6bd3f827"), looks := true }, kinds := [], alts := [], laidByText := true, laidKinds := [.sentinel, .sentinel, .sentinel, .sentinel, .sentinel, .sentinel, .sentinel], laidTests := true, laidLooks := .later }
def FnExactApplyMovesUptoCardSaid : Prop := Claim7.holds Tryd.pinned (.plain (OpenSpec.upto fnExactApplyMovesSpec)) fnExactApplyMovesUptoCard

/-- THE SECOND FORM's CARD OF 'laws.FnExactChangesBetween'. -/
def fnExactChangesBetweenUptoCard : Claim7 := { stood := { row := fnExactChangesBetweenUptoRow, standIns := [], harness := (true, "dc6dce28e1cb9720e4d8b6291590117a3e4c661b7c627b4547d1fa7e6bd3f827"), looks := true }, kinds := [], alts := [], laidByText := true, laidKinds := [.data], laidTests := true, laidLooks := .later }
def FnExactChangesBetweenUptoCardSaid : Prop := Claim7.holds Tryd.pinned (.plain (OpenSpec.upto fnExactChangesBetweenSpec)) fnExactChangesBetweenUptoCard

/-- THE SECOND FORM's CARD OF 'laws.FnExactCanShare'. -/
def fnExactCanShareUptoCard : Claim7 := { stood := { row := fnExactCanShareUptoRow, standIns := [], harness := (true, "dc6dce28e1cb9720e4d8b6291590117a3e4c661b7c627b4547d1fa7e6bd3f827"), looks := true }, kinds := [], alts := [], laidByText := true, laidKinds := [.data], laidTests := true, laidLooks := .later }
def FnExactCanShareUptoCardSaid : Prop := Claim7.holds Tryd.pinned (.plain (OpenSpec.upto fnExactCanShareSpec)) fnExactCanShareUptoCard
end Rows
end Go.Proofs.YtncdgjaadlpncaaDoor
