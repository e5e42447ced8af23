/-
  DERIVED. GIVEN WITH THE SEED: THE CARDS: each row of YtdglhgfhlcdflaaDoorRows.lean that lists a variable, with what it lists TIED to the program's text (the seventh form; the later family's looks); each row that meets fmt, with fmt's text TOLD by the authors' own Lean function (tested against real Go, not proved from fmt's source: count such statements apart). THE CARD IS WHAT COUNTS. Prove the row's statement (the work); the ties are given (YtdglhgfhlcdflaaDoorTie.lean); close each card by the builder's one call (the guide's Derived/Test/ToyasCard.lean, 'card_holds'). Laid BY PROGRAM, IN A SANDBOX (cutbox-door.mjs). By AI agents, Wed Nov 11 2026. No macro, syntax, notation, axiom, sorry.
-/
import Derived.Test.YtdglhgfhlcdflaaDoorRows
import GoSem.ClaimSeven
namespace Go.Proofs.YtdglhgfhlcdflaaDoor
namespace Rows

/-- THE TIED CARD OF 'laws.FnExactFirstUnpinned'. -/
def fnExactFirstUnpinnedCard : Claim7 := { stood := { row := fnExactFirstUnpinnedRow, standIns := [], harness := (true, "804ec81f4e874f41478e94685eee9b1fc68c35f90996ae5c1e62cf1122baffff"), looks := true }, kinds := [], alts := [], laidByText := true, laidKinds := [.data, .sentinel, .sentinel, .sentinel, .sentinel, .sentinel, .sentinel, .sentinel], laidTests := true, laidLooks := .later }
def FnExactFirstUnpinnedCardSaid : Prop := Claim7.holds Tryd.pinned (.plain (OpenSpec.ofChange fnExactFirstUnpinnedSpec)) fnExactFirstUnpinnedCard

/-- THE TIED CARD OF 'laws.FnExactPinGreedily'. -/
def fnExactPinGreedilyCard : Claim7 := { stood := { row := fnExactPinGreedilyRow, standIns := [], harness := (true, "804ec81f4e874f41478e94685eee9b1fc68c35f90996ae5c1e62cf1122baffff"), looks := true }, kinds := [], alts := [], laidByText := true, laidKinds := [.data, .sentinel, .sentinel, .sentinel, .sentinel, .sentinel, .sentinel, .sentinel], laidTests := true, laidLooks := .later }
def FnExactPinGreedilyCardSaid : Prop := Claim7.holds Tryd.pinned (.plain (OpenSpec.ofChange fnExactPinGreedilySpec)) fnExactPinGreedilyCard

/-- THE TIED CARD OF 'laws.FnExactCheckPinning'. -/
def fnExactCheckPinningCard : Claim7 := { stood := { row := fnExactCheckPinningRow, standIns := [], harness := (true, "804ec81f4e874f41478e94685eee9b1fc68c35f90996ae5c1e62cf1122baffff"), looks := true }, kinds := [], alts := [], laidByText := true, laidKinds := [.data, .sentinel, .sentinel, .sentinel, .sentinel, .sentinel, .sentinel, .sentinel], laidTests := true, laidLooks := .later }
def FnExactCheckPinningCardSaid : Prop := Claim7.holds Tryd.pinned (.plain (OpenSpec.ofChange fnExactCheckPinningSpec)) fnExactCheckPinningCard

/-- THE TIED CARD OF 'laws.FnExactTracksOf'. -/
def fnExactTracksOfCard : Claim7 := { stood := { row := fnExactTracksOfRow, standIns := [], harness := (true, "804ec81f4e874f41478e94685eee9b1fc68c35f90996ae5c1e62cf1122baffff"), looks := true }, kinds := [], alts := [], laidByText := true, laidKinds := [.data, .sentinel, .sentinel, .sentinel, .sentinel, .sentinel, .sentinel, .sentinel], laidTests := true, laidLooks := .later }
def FnExactTracksOfCardSaid : Prop := Claim7.holds Tryd.pinned (.plain (OpenSpec.ofChange fnExactTracksOfSpec)) fnExactTracksOfCard

/-- THE SECOND FORM's CARD OF 'laws.FnExactFirstUnpinned'. -/
def fnExactFirstUnpinnedUptoCard : Claim7 := { stood := { row := fnExactFirstUnpinnedUptoRow, standIns := [], harness := (true, "804ec81f4e874f41478e94685eee9b1fc68c35f90996ae5c1e62cf1122baffff"), looks := true }, kinds := [], alts := [], laidByText := true, laidKinds := [.data, .sentinel, .sentinel, .sentinel, .sentinel, .sentinel, .sentinel, .sentinel], laidTests := true, laidLooks := .later }
def FnExactFirstUnpinnedUptoCardSaid : Prop := Claim7.holds Tryd.pinned (.plain (OpenSpec.upto fnExactFirstUnpinnedSpec)) fnExactFirstUnpinnedUptoCard

/-- THE SECOND FORM's CARD OF 'laws.FnExactPinGreedily'. -/
def fnExactPinGreedilyUptoCard : Claim7 := { stood := { row := fnExactPinGreedilyUptoRow, standIns := [], harness := (true, "804ec81f4e874f41478e94685eee9b1fc68c35f90996ae5c1e62cf1122baffff"), looks := true }, kinds := [], alts := [], laidByText := true, laidKinds := [.data, .sentinel, .sentinel, .sentinel, .sentinel, .sentinel, .sentinel, .sentinel], laidTests := true, laidLooks := .later }
def FnExactPinGreedilyUptoCardSaid : Prop := Claim7.holds Tryd.pinned (.plain (OpenSpec.upto fnExactPinGreedilySpec)) fnExactPinGreedilyUptoCard

/-- THE SECOND FORM's CARD OF 'laws.FnExactCheckPinning'. -/
def fnExactCheckPinningUptoCard : Claim7 := { stood := { row := fnExactCheckPinningUptoRow, standIns := [], harness := (true, "804ec81f4e874f41478e94685eee9b1fc68c35f90996ae5c1e62cf1122baffff"), looks := true }, kinds := [], alts := [], laidByText := true, laidKinds := [.data, .sentinel, .sentinel, .sentinel, .sentinel, .sentinel, .sentinel, .sentinel], laidTests := true, laidLooks := .later }
def FnExactCheckPinningUptoCardSaid : Prop := Claim7.holds Tryd.pinned (.plain (OpenSpec.upto fnExactCheckPinningSpec)) fnExactCheckPinningUptoCard

/-- THE SECOND FORM's CARD OF 'laws.FnExactTracksOf'. -/
def fnExactTracksOfUptoCard : Claim7 := { stood := { row := fnExactTracksOfUptoRow, standIns := [], harness := (true, "804ec81f4e874f41478e94685eee9b1fc68c35f90996ae5c1e62cf1122baffff"), looks := true }, kinds := [], alts := [], laidByText := true, laidKinds := [.data, .sentinel, .sentinel, .sentinel, .sentinel, .sentinel, .sentinel, .sentinel], laidTests := true, laidLooks := .later }
def FnExactTracksOfUptoCardSaid : Prop := Claim7.holds Tryd.pinned (.plain (OpenSpec.upto fnExactTracksOfSpec)) fnExactTracksOfUptoCard
end Rows
end Go.Proofs.YtdglhgfhlcdflaaDoor
