/-
  DERIVED. GIVEN WITH THE SEED: THE CARDS: each row of YtcdjfflmgjpobaaDoorRows.lean that lists a variable, with what it lists TIED to the program's text (the seventh form; the later family's looks); each row that meets fmt, with fmt's text TOLD by the authors' own Lean function (tested against real Go, not proved from fmt's source: count such statements apart). THE CARD IS WHAT COUNTS. Prove the row's statement (the work); the ties are given (YtcdjfflmgjpobaaDoorTie.lean); close each card by the builder's one call (the guide's Derived/Test/ToyasCard.lean, 'card_holds'). Laid BY PROGRAM, IN A SANDBOX (cutbox-door.mjs). By AI agents, Wed Nov 11 2026. No macro, syntax, notation, axiom, sorry.
-/
import Derived.Test.YtcdjfflmgjpobaaDoorRows
import GoSem.ClaimSeven
namespace Go.Proofs.YtcdjfflmgjpobaaDoor
namespace Rows

/-- THE TIED CARD OF 'laws.FnExactPinsByTrack'. -/
def fnExactPinsByTrackCard : Claim7 := { stood := { row := fnExactPinsByTrackRow, standIns := [], harness := (true, "761a38373cfe0873bfcc5bc68de3563d5048f83b3cbf8e29bf1c82360b963da2"), looks := true }, kinds := [], alts := [], laidByText := true, laidKinds := [.data], laidTests := true, laidLooks := .later }
def FnExactPinsByTrackCardSaid : Prop := Claim7.holds Tryd.pinned (.plain (OpenSpec.ofChange fnExactPinsByTrackSpec)) fnExactPinsByTrackCard

/-- THE TIED CARD OF 'laws.FnExactIsPlayable'. -/
def fnExactIsPlayableCard : Claim7 := { stood := { row := fnExactIsPlayableRow, standIns := [], harness := (true, "761a38373cfe0873bfcc5bc68de3563d5048f83b3cbf8e29bf1c82360b963da2"), looks := true }, kinds := [], alts := [], laidByText := true, laidKinds := [.data], laidTests := true, laidLooks := .later }
def FnExactIsPlayableCardSaid : Prop := Claim7.holds Tryd.pinned (.plain (OpenSpec.ofChange fnExactIsPlayableSpec)) fnExactIsPlayableCard

/-- THE TIED CARD OF 'laws.FnExactFirstClash'. -/
def fnExactFirstClashCard : Claim7 := { stood := { row := fnExactFirstClashRow, standIns := [], harness := (true, "761a38373cfe0873bfcc5bc68de3563d5048f83b3cbf8e29bf1c82360b963da2"), looks := true }, kinds := [], alts := [], laidByText := true, laidKinds := [.data], laidTests := true, laidLooks := .later }
def FnExactFirstClashCardSaid : Prop := Claim7.holds Tryd.pinned (.plain (OpenSpec.ofChange fnExactFirstClashSpec)) fnExactFirstClashCard

/-- THE TIED CARD OF 'laws.FnExactClashesOf'. -/
def fnExactClashesOfCard : Claim7 := { stood := { row := fnExactClashesOfRow, standIns := [], harness := (true, "761a38373cfe0873bfcc5bc68de3563d5048f83b3cbf8e29bf1c82360b963da2"), looks := true }, kinds := [], alts := [], laidByText := true, laidKinds := [.data], laidTests := true, laidLooks := .later }
def FnExactClashesOfCardSaid : Prop := Claim7.holds Tryd.pinned (.plain (OpenSpec.ofChange fnExactClashesOfSpec)) fnExactClashesOfCard

/-- THE TIED CARD OF 'laws.FnExactMovesBetween'. -/
def fnExactMovesBetweenCard : Claim7 := { stood := { row := fnExactMovesBetweenRow, standIns := [], harness := (true, "761a38373cfe0873bfcc5bc68de3563d5048f83b3cbf8e29bf1c82360b963da2"), looks := true }, kinds := [], alts := [], laidByText := true, laidKinds := [.data], laidTests := true, laidLooks := .later }
def FnExactMovesBetweenCardSaid : Prop := Claim7.holds Tryd.pinned (.plain (OpenSpec.ofChange fnExactMovesBetweenSpec)) fnExactMovesBetweenCard

/-- THE TIED CARD OF 'laws.FnExactApplyMoves'. -/
def fnExactApplyMovesCard : Claim7 := { stood := { row := fnExactApplyMovesRow, standIns := [], harness := (true, "761a38373cfe0873bfcc5bc68de3563d5048f83b3cbf8e29bf1c82360b963da2"), looks := true }, kinds := [], alts := [], laidByText := true, laidKinds := [.sentinel, .sentinel, .sentinel, .sentinel, .sentinel, .sentinel, .sentinel], laidTests := true, laidLooks := .later }
def FnExactApplyMovesCardSaid : Prop := Claim7.holds Tryd.pinned (.plain (OpenSpec.ofChange fnExactApplyMovesSpec)) fnExactApplyMovesCard

/-- THE TIED CARD OF 'laws.FnExactCheckPinning'. -/
def fnExactCheckPinningCard : Claim7 := { stood := { row := fnExactCheckPinningRow, standIns := [], harness := (true, "761a38373cfe0873bfcc5bc68de3563d5048f83b3cbf8e29bf1c82360b963da2"), looks := true }, kinds := [], alts := [], laidByText := true, laidKinds := [.data, .sentinel, .sentinel, .sentinel, .sentinel, .sentinel, .sentinel, .sentinel], laidTests := true, laidLooks := .later }
def FnExactCheckPinningCardSaid : Prop := Claim7.holds Tryd.pinned (.plain (OpenSpec.ofChange fnExactCheckPinningSpec)) fnExactCheckPinningCard

/-- THE TIED CARD OF 'laws.FnExactTracksOf'. -/
def fnExactTracksOfCard : Claim7 := { stood := { row := fnExactTracksOfRow, standIns := [], harness := (true, "761a38373cfe0873bfcc5bc68de3563d5048f83b3cbf8e29bf1c82360b963da2"), looks := true }, kinds := [], alts := [], laidByText := true, laidKinds := [.data, .sentinel, .sentinel, .sentinel, .sentinel, .sentinel, .sentinel, .sentinel], laidTests := true, laidLooks := .later }
def FnExactTracksOfCardSaid : Prop := Claim7.holds Tryd.pinned (.plain (OpenSpec.ofChange fnExactTracksOfSpec)) fnExactTracksOfCard

/-- THE SECOND FORM's CARD OF 'laws.FnExactPinsByTrack'. -/
def fnExactPinsByTrackUptoCard : Claim7 := { stood := { row := fnExactPinsByTrackUptoRow, standIns := [], harness := (true, "761a38373cfe0873bfcc5bc68de3563d5048f83b3cbf8e29bf1c82360b963da2"), looks := true }, kinds := [], alts := [], laidByText := true, laidKinds := [.data], laidTests := true, laidLooks := .later }
def FnExactPinsByTrackUptoCardSaid : Prop := Claim7.holds Tryd.pinned (.plain (OpenSpec.upto fnExactPinsByTrackSpec)) fnExactPinsByTrackUptoCard

/-- THE SECOND FORM's CARD OF 'laws.FnExactIsPlayable'. -/
def fnExactIsPlayableUptoCard : Claim7 := { stood := { row := fnExactIsPlayableUptoRow, standIns := [], harness := (true, "761a38373cfe0873bfcc5bc68de3563d5048f83b3cbf8e29bf1c82360b963da2"), looks := true }, kinds := [], alts := [], laidByText := true, laidKinds := [.data], laidTests := true, laidLooks := .later }
def FnExactIsPlayableUptoCardSaid : Prop := Claim7.holds Tryd.pinned (.plain (OpenSpec.upto fnExactIsPlayableSpec)) fnExactIsPlayableUptoCard

/-- THE SECOND FORM's CARD OF 'laws.FnExactFirstClash'. -/
def fnExactFirstClashUptoCard : Claim7 := { stood := { row := fnExactFirstClashUptoRow, standIns := [], harness := (true, "761a38373cfe0873bfcc5bc68de3563d5048f83b3cbf8e29bf1c82360b963da2"), looks := true }, kinds := [], alts := [], laidByText := true, laidKinds := [.data], laidTests := true, laidLooks := .later }
def FnExactFirstClashUptoCardSaid : Prop := Claim7.holds Tryd.pinned (.plain (OpenSpec.upto fnExactFirstClashSpec)) fnExactFirstClashUptoCard

/-- THE SECOND FORM's CARD OF 'laws.FnExactClashesOf'. -/
def fnExactClashesOfUptoCard : Claim7 := { stood := { row := fnExactClashesOfUptoRow, standIns := [], harness := (true, "761a38373cfe0873bfcc5bc68de3563d5048f83b3cbf8e29bf1c82360b963da2"), looks := true }, kinds := [], alts := [], laidByText := true, laidKinds := [.data], laidTests := true, laidLooks := .later }
def FnExactClashesOfUptoCardSaid : Prop := Claim7.holds Tryd.pinned (.plain (OpenSpec.upto fnExactClashesOfSpec)) fnExactClashesOfUptoCard

/-- THE SECOND FORM's CARD OF 'laws.FnExactMovesBetween'. -/
def fnExactMovesBetweenUptoCard : Claim7 := { stood := { row := fnExactMovesBetweenUptoRow, standIns := [], harness := (true, "761a38373cfe0873bfcc5bc68de3563d5048f83b3cbf8e29bf1c82360b963da2"), looks := true }, kinds := [], alts := [], laidByText := true, laidKinds := [.data], laidTests := true, laidLooks := .later }
def FnExactMovesBetweenUptoCardSaid : Prop := Claim7.holds Tryd.pinned (.plain (OpenSpec.upto fnExactMovesBetweenSpec)) fnExactMovesBetweenUptoCard

/-- THE SECOND FORM's CARD OF 'laws.FnExactApplyMoves'. -/
def fnExactApplyMovesUptoCard : Claim7 := { stood := { row := fnExactApplyMovesUptoRow, standIns := [], harness := (true, "761a38373cfe0873bfcc5bc68de3563d5048f83b3cbf8e29bf1c82360b963da2"), looks := true }, kinds := [], alts := [], laidByText := true, laidKinds := [.sentinel, .sentinel, .sentinel, .sentinel, .sentinel, .sentinel, .sentinel], laidTests := true, laidLooks := .later }
def FnExactApplyMovesUptoCardSaid : Prop := Claim7.holds Tryd.pinned (.plain (OpenSpec.upto fnExactApplyMovesSpec)) fnExactApplyMovesUptoCard

/-- THE SECOND FORM's CARD OF 'laws.FnExactCheckPinning'. -/
def fnExactCheckPinningUptoCard : Claim7 := { stood := { row := fnExactCheckPinningUptoRow, standIns := [], harness := (true, "761a38373cfe0873bfcc5bc68de3563d5048f83b3cbf8e29bf1c82360b963da2"), looks := true }, kinds := [], alts := [], laidByText := true, laidKinds := [.data, .sentinel, .sentinel, .sentinel, .sentinel, .sentinel, .sentinel, .sentinel], laidTests := true, laidLooks := .later }
def FnExactCheckPinningUptoCardSaid : Prop := Claim7.holds Tryd.pinned (.plain (OpenSpec.upto fnExactCheckPinningSpec)) fnExactCheckPinningUptoCard

/-- THE SECOND FORM's CARD OF 'laws.FnExactTracksOf'. -/
def fnExactTracksOfUptoCard : Claim7 := { stood := { row := fnExactTracksOfUptoRow, standIns := [], harness := (true, "761a38373cfe0873bfcc5bc68de3563d5048f83b3cbf8e29bf1c82360b963da2"), looks := true }, kinds := [], alts := [], laidByText := true, laidKinds := [.data, .sentinel, .sentinel, .sentinel, .sentinel, .sentinel, .sentinel, .sentinel], laidTests := true, laidLooks := .later }
def FnExactTracksOfUptoCardSaid : Prop := Claim7.holds Tryd.pinned (.plain (OpenSpec.upto fnExactTracksOfSpec)) fnExactTracksOfUptoCard
end Rows
end Go.Proofs.YtcdjfflmgjpobaaDoor
