/-
  DERIVED. GIVEN WITH THE SEED: THE CARDS: each row of YtehmkablandefaaDoorRows.lean that lists a variable, with what it lists TIED to the program's text (the seventh form; the later family's looks); each row that meets fmt, with fmt's text TOLD by the authors' own Lean function (tested against real Go, not proved from fmt's source: count such statements apart). THE CARD IS WHAT COUNTS. Prove the row's statement (the work); the ties are given (YtehmkablandefaaDoorTie.lean); close each card by the builder's one call (the guide's Derived/Test/ToyasCard.lean, 'card_holds'). Laid BY PROGRAM, IN A SANDBOX (cutbox-door.mjs). By AI agents, Wed Nov 11 2026. No macro, syntax, notation, axiom, sorry.
-/
import Derived.Test.YtehmkablandefaaDoorRows
import GoSem.ClaimSeven
namespace Go.Proofs.YtehmkablandefaaDoor
namespace Rows

/-- THE TIED CARD OF 'laws.FnExactTuneOf'. -/
def fnExactTuneOfCard : Claim7 := { stood := { row := fnExactTuneOfRow, standIns := [], harness := (true, "cc07c74d8efb0edd68b3035edecb0f3c44958495e43cc60dba31f170b637c0b6"), looks := true }, kinds := [], alts := [], laidByText := true, laidKinds := [.data], laidTests := true, laidLooks := .later }
def FnExactTuneOfCardSaid : Prop := Claim7.holds Tryd.pinned (.plain (OpenSpec.ofChange fnExactTuneOfSpec)) fnExactTuneOfCard

/-- THE TIED CARD OF 'laws.FnExactCheckPinning'. -/
def fnExactCheckPinningCard : Claim7 := { stood := { row := fnExactCheckPinningRow, standIns := [], harness := (true, "cc07c74d8efb0edd68b3035edecb0f3c44958495e43cc60dba31f170b637c0b6"), looks := true }, kinds := [], alts := [], laidByText := true, laidKinds := [.data, .sentinel, .sentinel, .sentinel, .sentinel, .sentinel, .sentinel, .sentinel], laidTests := true, laidLooks := .later }
def FnExactCheckPinningCardSaid : Prop := Claim7.holds Tryd.pinned (.plain (OpenSpec.ofChange fnExactCheckPinningSpec)) fnExactCheckPinningCard

/-- THE TIED CARD OF 'laws.FnExactTracksOf'. -/
def fnExactTracksOfCard : Claim7 := { stood := { row := fnExactTracksOfRow, standIns := [], harness := (true, "cc07c74d8efb0edd68b3035edecb0f3c44958495e43cc60dba31f170b637c0b6"), looks := true }, kinds := [], alts := [], laidByText := true, laidKinds := [.data, .sentinel, .sentinel, .sentinel, .sentinel, .sentinel, .sentinel, .sentinel], laidTests := true, laidLooks := .later }
def FnExactTracksOfCardSaid : Prop := Claim7.holds Tryd.pinned (.plain (OpenSpec.ofChange fnExactTracksOfSpec)) fnExactTracksOfCard

/-- THE SECOND FORM's CARD OF 'laws.FnExactTuneOf'. -/
def fnExactTuneOfUptoCard : Claim7 := { stood := { row := fnExactTuneOfUptoRow, standIns := [], harness := (true, "cc07c74d8efb0edd68b3035edecb0f3c44958495e43cc60dba31f170b637c0b6"), looks := true }, kinds := [], alts := [], laidByText := true, laidKinds := [.data], laidTests := true, laidLooks := .later }
def FnExactTuneOfUptoCardSaid : Prop := Claim7.holds Tryd.pinned (.plain (OpenSpec.upto fnExactTuneOfSpec)) fnExactTuneOfUptoCard

/-- THE SECOND FORM's CARD OF 'laws.FnExactCheckPinning'. -/
def fnExactCheckPinningUptoCard : Claim7 := { stood := { row := fnExactCheckPinningUptoRow, standIns := [], harness := (true, "cc07c74d8efb0edd68b3035edecb0f3c44958495e43cc60dba31f170b637c0b6"), looks := true }, kinds := [], alts := [], laidByText := true, laidKinds := [.data, .sentinel, .sentinel, .sentinel, .sentinel, .sentinel, .sentinel, .sentinel], laidTests := true, laidLooks := .later }
def FnExactCheckPinningUptoCardSaid : Prop := Claim7.holds Tryd.pinned (.plain (OpenSpec.upto fnExactCheckPinningSpec)) fnExactCheckPinningUptoCard

/-- THE SECOND FORM's CARD OF 'laws.FnExactTracksOf'. -/
def fnExactTracksOfUptoCard : Claim7 := { stood := { row := fnExactTracksOfUptoRow, standIns := [], harness := (true, "cc07c74d8efb0edd68b3035edecb0f3c44958495e43cc60dba31f170b637c0b6"), looks := true }, kinds := [], alts := [], laidByText := true, laidKinds := [.data, .sentinel, .sentinel, .sentinel, .sentinel, .sentinel, .sentinel, .sentinel], laidTests := true, laidLooks := .later }
def FnExactTracksOfUptoCardSaid : Prop := Claim7.holds Tryd.pinned (.plain (OpenSpec.upto fnExactTracksOfSpec)) fnExactTracksOfUptoCard
end Rows
end Go.Proofs.YtehmkablandefaaDoor
