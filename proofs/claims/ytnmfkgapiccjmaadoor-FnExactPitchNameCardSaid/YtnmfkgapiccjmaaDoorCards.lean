/-
  DERIVED. GIVEN WITH THE SEED: THE CARDS: each row of YtnmfkgapiccjmaaDoorRows.lean that lists a variable, with what it lists TIED to the program's text (the seventh form; the later family's looks); each row that meets fmt, with fmt's text TOLD by the authors' own Lean function (tested against real Go, not proved from fmt's source: count such statements apart). THE CARD IS WHAT COUNTS. Prove the row's statement (the work); the ties are given (YtnmfkgapiccjmaaDoorTie.lean); close each card by the builder's one call (the guide's Derived/Test/ToyasCard.lean, 'card_holds'). Laid BY PROGRAM, IN A SANDBOX (cutbox-door.mjs). By AI agents, Wed Nov 11 2026. No macro, syntax, notation, axiom, sorry.
-/
import Derived.Test.YtnmfkgapiccjmaaDoorRows
import GoSem.ClaimSeven
namespace Go.Proofs.YtnmfkgapiccjmaaDoor
namespace Rows

/-- THE TIED CARD OF 'laws.FnExactCodeName'. -/
def fnExactCodeNameCard : Claim7 := { stood := { row := fnExactCodeNameRow, standIns := [], harness := (true, "fbbe0316b0a507bff6546355e8083c06d84867a9517e88a55a2065cb14d50890"), looks := false }, kinds := [], alts := [], laidByText := true, laidKinds := [.data], laidTests := true, laidLooks := .later }
def FnExactCodeNameCardSaid : Prop := Claim7.holds Tryd.pinned (.plain (OpenSpec.ofChange fnExactCodeNameSpec)) fnExactCodeNameCard

/-- THE TIED CARD OF 'laws.FnExactPitchName'. -/
def fnExactPitchNameCard : Claim7 := { stood := { row := fnExactPitchNameRow, standIns := [], harness := (true, "fbbe0316b0a507bff6546355e8083c06d84867a9517e88a55a2065cb14d50890"), looks := false }, kinds := [], alts := [], laidByText := true, laidKinds := [.data, .data, .data, .data], laidTests := true, laidLooks := .later }
def FnExactPitchNameCardSaid : Prop := Claim7.holds Tryd.pinned (.plain (OpenSpec.ofChange fnExactPitchNameSpec)) fnExactPitchNameCard

/-- THE SECOND FORM's CARD OF 'laws.FnExactCodeName'. -/
def fnExactCodeNameUptoCard : Claim7 := { stood := { row := fnExactCodeNameUptoRow, standIns := [], harness := (true, "fbbe0316b0a507bff6546355e8083c06d84867a9517e88a55a2065cb14d50890"), looks := false }, kinds := [], alts := [], laidByText := true, laidKinds := [.data], laidTests := true, laidLooks := .later }
def FnExactCodeNameUptoCardSaid : Prop := Claim7.holds Tryd.pinned (.plain (OpenSpec.upto fnExactCodeNameSpec)) fnExactCodeNameUptoCard

/-- THE SECOND FORM's CARD OF 'laws.FnExactPitchName'. -/
def fnExactPitchNameUptoCard : Claim7 := { stood := { row := fnExactPitchNameUptoRow, standIns := [], harness := (true, "fbbe0316b0a507bff6546355e8083c06d84867a9517e88a55a2065cb14d50890"), looks := false }, kinds := [], alts := [], laidByText := true, laidKinds := [.data, .data, .data, .data], laidTests := true, laidLooks := .later }
def FnExactPitchNameUptoCardSaid : Prop := Claim7.holds Tryd.pinned (.plain (OpenSpec.upto fnExactPitchNameSpec)) fnExactPitchNameUptoCard
end Rows
end Go.Proofs.YtnmfkgapiccjmaaDoor
