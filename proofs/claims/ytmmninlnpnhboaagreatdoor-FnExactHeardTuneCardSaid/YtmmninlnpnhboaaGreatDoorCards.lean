/-
  DERIVED. GIVEN WITH THE SEED: THE CARDS: each row of YtmmninlnpnhboaaGreatDoorRows.lean that lists a variable, with what it lists TIED to the program's text (the seventh form; the later family's looks); each row that meets fmt, with fmt's text TOLD by the authors' own Lean function (tested against real Go, not proved from fmt's source: count such statements apart). THE CARD IS WHAT COUNTS. Prove the row's statement (the work); the ties are given (YtmmninlnpnhboaaGreatDoorTie.lean); close each card by the builder's one call (the guide's Derived/Test/ToyasCard.lean, 'card_holds'). Laid BY PROGRAM, IN A SANDBOX (cutbox-door.mjs). By AI agents, Wed Nov 11 2026. No macro, syntax, notation, axiom, sorry.
-/
import Derived.Test.YtmmninlnpnhboaaGreatDoorRows
import GoSem.ClaimSeven
namespace Go.Proofs.YtmmninlnpnhboaaGreatDoor
namespace Rows

/-- THE TIED CARD OF 'laws.FnExactDrumFor'. -/
def fnExactDrumForCard : Claim7 := { stood := { row := fnExactDrumForRow, standIns := [], harness := (true, "18791a756f91113ce418a79d4f1291d7fbda7e6cdff2cbc0922aed121cb47841"), looks := true }, kinds := [], alts := [], laidByText := true, laidKinds := [.sentinel, .sentinel, .sentinel, .sentinel, .sentinel, .sentinel, .sentinel], laidTests := true, laidLooks := .later }
def FnExactDrumForCardSaid : Prop := Claim7.holds Tryz.pinned (.plain (OpenSpec.ofChange fnExactDrumForSpec)) fnExactDrumForCard

/-- THE TIED CARD OF 'laws.FnExactFirstUnfit'. -/
def fnExactFirstUnfitCard : Claim7 := { stood := { row := fnExactFirstUnfitRow, standIns := [], harness := (true, "18791a756f91113ce418a79d4f1291d7fbda7e6cdff2cbc0922aed121cb47841"), looks := true }, kinds := [], alts := [], laidByText := true, laidKinds := [.handle, .sentinel, .sentinel, .sentinel, .sentinel, .sentinel, .sentinel, .sentinel], laidTests := true, laidLooks := .later }
def FnExactFirstUnfitCardSaid : Prop := Claim7.holds Tryz.pinned (.plain (OpenSpec.ofChange fnExactFirstUnfitSpec)) fnExactFirstUnfitCard

/-- THE TIED CARD OF 'laws.FnExactCheckChoices'. -/
def fnExactCheckChoicesCard : Claim7 := { stood := { row := fnExactCheckChoicesRow, standIns := [], harness := (true, "18791a756f91113ce418a79d4f1291d7fbda7e6cdff2cbc0922aed121cb47841"), looks := true }, kinds := [], alts := [], laidByText := true, laidKinds := [.handle, .sentinel, .sentinel, .sentinel, .sentinel, .sentinel, .sentinel, .sentinel], laidTests := true, laidLooks := .later }
def FnExactCheckChoicesCardSaid : Prop := Claim7.holds Tryz.pinned (.plain (OpenSpec.ofChange fnExactCheckChoicesSpec)) fnExactCheckChoicesCard

/-- THE TIED CARD OF 'laws.FnExactKeptNotes'. -/
def fnExactKeptNotesCard : Claim7 := { stood := { row := fnExactKeptNotesRow, standIns := [], harness := (true, "18791a756f91113ce418a79d4f1291d7fbda7e6cdff2cbc0922aed121cb47841"), looks := true }, kinds := [], alts := [], laidByText := true, laidKinds := [.sentinel, .sentinel, .sentinel, .sentinel, .sentinel, .sentinel, .sentinel], laidTests := true, laidLooks := .later }
def FnExactKeptNotesCardSaid : Prop := Claim7.holds Tryz.pinned (.plain (OpenSpec.ofChange fnExactKeptNotesSpec)) fnExactKeptNotesCard

/-- THE TIED CARD OF 'laws.FnExactHeardTune'. -/
def fnExactHeardTuneCard : Claim7 := { stood := { row := fnExactHeardTuneRow, standIns := [], harness := (true, "18791a756f91113ce418a79d4f1291d7fbda7e6cdff2cbc0922aed121cb47841"), looks := true }, kinds := [], alts := [], laidByText := true, laidKinds := [.data, .sentinel, .sentinel, .sentinel, .sentinel, .sentinel, .sentinel, .sentinel], laidTests := true, laidLooks := .later }
def FnExactHeardTuneCardSaid : Prop := Claim7.holds Tryz.pinned (.plain (OpenSpec.ofChange fnExactHeardTuneSpec)) fnExactHeardTuneCard

/-- THE SECOND FORM's CARD OF 'laws.FnExactDrumFor'. -/
def fnExactDrumForUptoCard : Claim7 := { stood := { row := fnExactDrumForUptoRow, standIns := [], harness := (true, "18791a756f91113ce418a79d4f1291d7fbda7e6cdff2cbc0922aed121cb47841"), looks := true }, kinds := [], alts := [], laidByText := true, laidKinds := [.sentinel, .sentinel, .sentinel, .sentinel, .sentinel, .sentinel, .sentinel], laidTests := true, laidLooks := .later }
def FnExactDrumForUptoCardSaid : Prop := Claim7.holds Tryz.pinned (.plain (OpenSpec.upto fnExactDrumForSpec)) fnExactDrumForUptoCard

/-- THE SECOND FORM's CARD OF 'laws.FnExactFirstUnfit'. -/
def fnExactFirstUnfitUptoCard : Claim7 := { stood := { row := fnExactFirstUnfitUptoRow, standIns := [], harness := (true, "18791a756f91113ce418a79d4f1291d7fbda7e6cdff2cbc0922aed121cb47841"), looks := true }, kinds := [], alts := [], laidByText := true, laidKinds := [.handle, .sentinel, .sentinel, .sentinel, .sentinel, .sentinel, .sentinel, .sentinel], laidTests := true, laidLooks := .later }
def FnExactFirstUnfitUptoCardSaid : Prop := Claim7.holds Tryz.pinned (.plain (OpenSpec.upto fnExactFirstUnfitSpec)) fnExactFirstUnfitUptoCard

/-- THE SECOND FORM's CARD OF 'laws.FnExactCheckChoices'. -/
def fnExactCheckChoicesUptoCard : Claim7 := { stood := { row := fnExactCheckChoicesUptoRow, standIns := [], harness := (true, "18791a756f91113ce418a79d4f1291d7fbda7e6cdff2cbc0922aed121cb47841"), looks := true }, kinds := [], alts := [], laidByText := true, laidKinds := [.handle, .sentinel, .sentinel, .sentinel, .sentinel, .sentinel, .sentinel, .sentinel], laidTests := true, laidLooks := .later }
def FnExactCheckChoicesUptoCardSaid : Prop := Claim7.holds Tryz.pinned (.plain (OpenSpec.upto fnExactCheckChoicesSpec)) fnExactCheckChoicesUptoCard

/-- THE SECOND FORM's CARD OF 'laws.FnExactKeptNotes'. -/
def fnExactKeptNotesUptoCard : Claim7 := { stood := { row := fnExactKeptNotesUptoRow, standIns := [], harness := (true, "18791a756f91113ce418a79d4f1291d7fbda7e6cdff2cbc0922aed121cb47841"), looks := true }, kinds := [], alts := [], laidByText := true, laidKinds := [.sentinel, .sentinel, .sentinel, .sentinel, .sentinel, .sentinel, .sentinel], laidTests := true, laidLooks := .later }
def FnExactKeptNotesUptoCardSaid : Prop := Claim7.holds Tryz.pinned (.plain (OpenSpec.upto fnExactKeptNotesSpec)) fnExactKeptNotesUptoCard

/-- THE SECOND FORM's CARD OF 'laws.FnExactHeardTune'. -/
def fnExactHeardTuneUptoCard : Claim7 := { stood := { row := fnExactHeardTuneUptoRow, standIns := [], harness := (true, "18791a756f91113ce418a79d4f1291d7fbda7e6cdff2cbc0922aed121cb47841"), looks := true }, kinds := [], alts := [], laidByText := true, laidKinds := [.data, .sentinel, .sentinel, .sentinel, .sentinel, .sentinel, .sentinel, .sentinel], laidTests := true, laidLooks := .later }
def FnExactHeardTuneUptoCardSaid : Prop := Claim7.holds Tryz.pinned (.plain (OpenSpec.upto fnExactHeardTuneSpec)) fnExactHeardTuneUptoCard
end Rows
end Go.Proofs.YtmmninlnpnhboaaGreatDoor
