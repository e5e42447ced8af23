/-
  DERIVED. GIVEN WITH THE SEED: THE CARDS: each row of YtcepjiglhlmgdaaDoorRows.lean that lists a variable, with what it lists TIED to the program's text (the seventh form; the later family's looks); each row that meets fmt, with fmt's text TOLD by the authors' own Lean function (tested against real Go, not proved from fmt's source: count such statements apart). THE CARD IS WHAT COUNTS. Prove the row's statement (the work); the ties are given (YtcepjiglhlmgdaaDoorTie.lean); close each card by the builder's one call (the guide's Derived/Test/ToyasCard.lean, 'card_holds'). Laid BY PROGRAM, IN A SANDBOX (cutbox-door.mjs). By AI agents, Wed Nov 11 2026. No macro, syntax, notation, axiom, sorry.
-/
import Derived.Test.YtcepjiglhlmgdaaDoorRows
import GoSem.ClaimSeven
namespace Go.Proofs.YtcepjiglhlmgdaaDoor
namespace Rows

/-- THE TIED CARD OF 'laws.FnExactChoicesFor'. -/
def fnExactChoicesForCard : Claim7 := { stood := { row := fnExactChoicesForRow, standIns := [], harness := (true, "4b846fb81f7b55434f5abf68b9c3ab6942e26948408b7b56562d7f8964feae1c"), looks := true }, kinds := [], alts := [], laidByText := true, laidKinds := [.sentinel, .sentinel, .sentinel, .sentinel, .sentinel, .sentinel, .sentinel], laidTests := true, laidLooks := .later }
def FnExactChoicesForCardSaid : Prop := Claim7.holds Tryd.pinned (.plain (OpenSpec.ofChange fnExactChoicesForSpec)) fnExactChoicesForCard

/-- THE TIED CARD OF 'laws.FnExactChangesBetween'. -/
def fnExactChangesBetweenCard : Claim7 := { stood := { row := fnExactChangesBetweenRow, standIns := [], harness := (true, "4b846fb81f7b55434f5abf68b9c3ab6942e26948408b7b56562d7f8964feae1c"), looks := true }, kinds := [], alts := [], laidByText := true, laidKinds := [.data], laidTests := true, laidLooks := .later }
def FnExactChangesBetweenCardSaid : Prop := Claim7.holds Tryd.pinned (.plain (OpenSpec.ofChange fnExactChangesBetweenSpec)) fnExactChangesBetweenCard

/-- THE SECOND FORM's CARD OF 'laws.FnExactChoicesFor'. -/
def fnExactChoicesForUptoCard : Claim7 := { stood := { row := fnExactChoicesForUptoRow, standIns := [], harness := (true, "4b846fb81f7b55434f5abf68b9c3ab6942e26948408b7b56562d7f8964feae1c"), looks := true }, kinds := [], alts := [], laidByText := true, laidKinds := [.sentinel, .sentinel, .sentinel, .sentinel, .sentinel, .sentinel, .sentinel], laidTests := true, laidLooks := .later }
def FnExactChoicesForUptoCardSaid : Prop := Claim7.holds Tryd.pinned (.plain (OpenSpec.upto fnExactChoicesForSpec)) fnExactChoicesForUptoCard

/-- THE SECOND FORM's CARD OF 'laws.FnExactChangesBetween'. -/
def fnExactChangesBetweenUptoCard : Claim7 := { stood := { row := fnExactChangesBetweenUptoRow, standIns := [], harness := (true, "4b846fb81f7b55434f5abf68b9c3ab6942e26948408b7b56562d7f8964feae1c"), looks := true }, kinds := [], alts := [], laidByText := true, laidKinds := [.data], laidTests := true, laidLooks := .later }
def FnExactChangesBetweenUptoCardSaid : Prop := Claim7.holds Tryd.pinned (.plain (OpenSpec.upto fnExactChangesBetweenSpec)) fnExactChangesBetweenUptoCard
end Rows
end Go.Proofs.YtcepjiglhlmgdaaDoor
