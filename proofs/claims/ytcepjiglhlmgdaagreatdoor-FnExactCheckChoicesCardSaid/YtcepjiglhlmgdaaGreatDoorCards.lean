/-
  DERIVED. GIVEN WITH THE SEED: THE CARDS: each row of YtcepjiglhlmgdaaGreatDoorRows.lean that lists a variable, with what it lists TIED to the program's text (the seventh form; the later family's looks); each row that meets fmt, with fmt's text TOLD by the authors' own Lean function (tested against real Go, not proved from fmt's source: count such statements apart). THE CARD IS WHAT COUNTS. Prove the row's statement (the work); the ties are given (YtcepjiglhlmgdaaGreatDoorTie.lean); close each card by the builder's one call (the guide's Derived/Test/ToyasCard.lean, 'card_holds'). Laid BY PROGRAM, IN A SANDBOX (cutbox-door.mjs). By AI agents, Wed Nov 11 2026. No macro, syntax, notation, axiom, sorry.
-/
import Derived.Test.YtcepjiglhlmgdaaGreatDoorRows
import GoSem.ClaimSeven
namespace Go.Proofs.YtcepjiglhlmgdaaGreatDoor
namespace Rows

/-- THE TIED CARD OF 'laws.FnExactFirstUnfit'. -/
def fnExactFirstUnfitCard : Claim7 := { stood := { row := fnExactFirstUnfitRow, standIns := [], harness := (true, "6b5ae0384f06fb236a4f2ba982eaf6d8eca9bb07c1010a427224ddd4f0cc8a56"), looks := true }, kinds := [], alts := [], laidByText := true, laidKinds := [.handle, .sentinel, .sentinel, .sentinel, .sentinel, .sentinel, .sentinel, .sentinel], laidTests := true, laidLooks := .later }
def FnExactFirstUnfitCardSaid : Prop := Claim7.holds Tryz.pinned (.plain (OpenSpec.ofChange fnExactFirstUnfitSpec)) fnExactFirstUnfitCard

/-- THE TIED CARD OF 'laws.FnExactCheckChoices'. -/
def fnExactCheckChoicesCard : Claim7 := { stood := { row := fnExactCheckChoicesRow, standIns := [], harness := (true, "6b5ae0384f06fb236a4f2ba982eaf6d8eca9bb07c1010a427224ddd4f0cc8a56"), looks := true }, kinds := [], alts := [], laidByText := true, laidKinds := [.handle, .sentinel, .sentinel, .sentinel, .sentinel, .sentinel, .sentinel, .sentinel], laidTests := true, laidLooks := .later }
def FnExactCheckChoicesCardSaid : Prop := Claim7.holds Tryz.pinned (.plain (OpenSpec.ofChange fnExactCheckChoicesSpec)) fnExactCheckChoicesCard

/-- THE SECOND FORM's CARD OF 'laws.FnExactFirstUnfit'. -/
def fnExactFirstUnfitUptoCard : Claim7 := { stood := { row := fnExactFirstUnfitUptoRow, standIns := [], harness := (true, "6b5ae0384f06fb236a4f2ba982eaf6d8eca9bb07c1010a427224ddd4f0cc8a56"), looks := true }, kinds := [], alts := [], laidByText := true, laidKinds := [.handle, .sentinel, .sentinel, .sentinel, .sentinel, .sentinel, .sentinel, .sentinel], laidTests := true, laidLooks := .later }
def FnExactFirstUnfitUptoCardSaid : Prop := Claim7.holds Tryz.pinned (.plain (OpenSpec.upto fnExactFirstUnfitSpec)) fnExactFirstUnfitUptoCard

/-- THE SECOND FORM's CARD OF 'laws.FnExactCheckChoices'. -/
def fnExactCheckChoicesUptoCard : Claim7 := { stood := { row := fnExactCheckChoicesUptoRow, standIns := [], harness := (true, "6b5ae0384f06fb236a4f2ba982eaf6d8eca9bb07c1010a427224ddd4f0cc8a56"), looks := true }, kinds := [], alts := [], laidByText := true, laidKinds := [.handle, .sentinel, .sentinel, .sentinel, .sentinel, .sentinel, .sentinel, .sentinel], laidTests := true, laidLooks := .later }
def FnExactCheckChoicesUptoCardSaid : Prop := Claim7.holds Tryz.pinned (.plain (OpenSpec.upto fnExactCheckChoicesSpec)) fnExactCheckChoicesUptoCard
end Rows
end Go.Proofs.YtcepjiglhlmgdaaGreatDoor
