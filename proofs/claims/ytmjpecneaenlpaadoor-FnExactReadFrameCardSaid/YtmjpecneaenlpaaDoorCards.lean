/-
  DERIVED. GIVEN WITH THE SEED: THE CARDS: each row of YtmjpecneaenlpaaDoorRows.lean that lists a variable, with what it lists TIED to the program's text (the seventh form; the later family's looks); each row that meets fmt, with fmt's text TOLD by the authors' own Lean function (tested against real Go, not proved from fmt's source: count such statements apart). THE CARD IS WHAT COUNTS. Prove the row's statement (the work); the ties are given (YtmjpecneaenlpaaDoorTie.lean); close each card by the builder's one call (the guide's Derived/Test/ToyasCard.lean, 'card_holds'). Laid BY PROGRAM, IN A SANDBOX (cutbox-door.mjs). By AI agents, Wed Nov 11 2026. No macro, syntax, notation, axiom, sorry.
-/
import Derived.Test.YtmjpecneaenlpaaDoorRows
import GoSem.ClaimSeven
namespace Go.Proofs.YtmjpecneaenlpaaDoor
namespace Rows

/-- THE TIED CARD OF 'laws.FnExactReadTune'. -/
def fnExactReadTuneCard : Claim7 := { stood := { row := fnExactReadTuneRow, standIns := [], harness := (true, "9af91e6a04f8ca6c841bde81bc4ed84a49cb03cdb24691076772042e633923a2"), looks := true }, kinds := [], alts := [], laidByText := true, laidKinds := [.data, .data, .data, .data, .sentinel, .sentinel, .data, .pinned], laidTests := true, laidLooks := .later }
def FnExactReadTuneCardSaid : Prop := Claim7.holds Tryd.pinned (.plain (OpenSpec.ofChange fnExactReadTuneSpec)) fnExactReadTuneCard

/-- THE TIED CARD OF 'laws.FnExactReadFrame'. -/
def fnExactReadFrameCard : Claim7 := { stood := { row := fnExactReadFrameRow, standIns := [], harness := (true, "9af91e6a04f8ca6c841bde81bc4ed84a49cb03cdb24691076772042e633923a2"), looks := true }, kinds := [], alts := [], laidByText := true, laidKinds := [.data, .data, .data, .data, .sentinel, .sentinel, .data, .pinned], laidTests := true, laidLooks := .later }
def FnExactReadFrameCardSaid : Prop := Claim7.holds Tryd.pinned (.plain (OpenSpec.ofChange fnExactReadFrameSpec)) fnExactReadFrameCard

/-- THE TIED CARD OF 'laws.FnExactReadChoices'. -/
def fnExactReadChoicesCard : Claim7 := { stood := { row := fnExactReadChoicesRow, standIns := [], harness := (true, "9af91e6a04f8ca6c841bde81bc4ed84a49cb03cdb24691076772042e633923a2"), looks := true }, kinds := [], alts := [], laidByText := true, laidKinds := [.data, .data, .data, .data, .sentinel, .sentinel, .pinned], laidTests := true, laidLooks := .later }
def FnExactReadChoicesCardSaid : Prop := Claim7.holds Tryd.pinned (.plain (OpenSpec.ofChange fnExactReadChoicesSpec)) fnExactReadChoicesCard

/-- THE TIED CARD OF 'laws.FnExactReadChanges'. -/
def fnExactReadChangesCard : Claim7 := { stood := { row := fnExactReadChangesRow, standIns := [], harness := (true, "9af91e6a04f8ca6c841bde81bc4ed84a49cb03cdb24691076772042e633923a2"), looks := true }, kinds := [], alts := [], laidByText := true, laidKinds := [.data, .data, .data, .data, .sentinel, .sentinel, .pinned], laidTests := true, laidLooks := .later }
def FnExactReadChangesCardSaid : Prop := Claim7.holds Tryd.pinned (.plain (OpenSpec.ofChange fnExactReadChangesSpec)) fnExactReadChangesCard

/-- THE SECOND FORM's CARD OF 'laws.FnExactReadTune'. -/
def fnExactReadTuneUptoCard : Claim7 := { stood := { row := fnExactReadTuneUptoRow, standIns := [], harness := (true, "9af91e6a04f8ca6c841bde81bc4ed84a49cb03cdb24691076772042e633923a2"), looks := true }, kinds := [], alts := [], laidByText := true, laidKinds := [.data, .data, .data, .data, .sentinel, .sentinel, .data, .pinned], laidTests := true, laidLooks := .later }
def FnExactReadTuneUptoCardSaid : Prop := Claim7.holds Tryd.pinned (.plain (OpenSpec.upto fnExactReadTuneSpec)) fnExactReadTuneUptoCard

/-- THE SECOND FORM's CARD OF 'laws.FnExactReadFrame'. -/
def fnExactReadFrameUptoCard : Claim7 := { stood := { row := fnExactReadFrameUptoRow, standIns := [], harness := (true, "9af91e6a04f8ca6c841bde81bc4ed84a49cb03cdb24691076772042e633923a2"), looks := true }, kinds := [], alts := [], laidByText := true, laidKinds := [.data, .data, .data, .data, .sentinel, .sentinel, .data, .pinned], laidTests := true, laidLooks := .later }
def FnExactReadFrameUptoCardSaid : Prop := Claim7.holds Tryd.pinned (.plain (OpenSpec.upto fnExactReadFrameSpec)) fnExactReadFrameUptoCard

/-- THE SECOND FORM's CARD OF 'laws.FnExactReadChoices'. -/
def fnExactReadChoicesUptoCard : Claim7 := { stood := { row := fnExactReadChoicesUptoRow, standIns := [], harness := (true, "9af91e6a04f8ca6c841bde81bc4ed84a49cb03cdb24691076772042e633923a2"), looks := true }, kinds := [], alts := [], laidByText := true, laidKinds := [.data, .data, .data, .data, .sentinel, .sentinel, .pinned], laidTests := true, laidLooks := .later }
def FnExactReadChoicesUptoCardSaid : Prop := Claim7.holds Tryd.pinned (.plain (OpenSpec.upto fnExactReadChoicesSpec)) fnExactReadChoicesUptoCard

/-- THE SECOND FORM's CARD OF 'laws.FnExactReadChanges'. -/
def fnExactReadChangesUptoCard : Claim7 := { stood := { row := fnExactReadChangesUptoRow, standIns := [], harness := (true, "9af91e6a04f8ca6c841bde81bc4ed84a49cb03cdb24691076772042e633923a2"), looks := true }, kinds := [], alts := [], laidByText := true, laidKinds := [.data, .data, .data, .data, .sentinel, .sentinel, .pinned], laidTests := true, laidLooks := .later }
def FnExactReadChangesUptoCardSaid : Prop := Claim7.holds Tryd.pinned (.plain (OpenSpec.upto fnExactReadChangesSpec)) fnExactReadChangesUptoCard
end Rows
end Go.Proofs.YtmjpecneaenlpaaDoor
