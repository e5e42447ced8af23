/-
  DERIVED. GIVEN WITH THE SEED: THE CARDS: each row of YtehmkablandefaaGreatDoorRows.lean that lists a variable, with what it lists TIED to the program's text (the seventh form; the later family's looks); each row that meets fmt, with fmt's text TOLD by the authors' own Lean function (tested against real Go, not proved from fmt's source: count such statements apart). THE CARD IS WHAT COUNTS. Prove the row's statement (the work); the ties are given (YtehmkablandefaaGreatDoorTie.lean); close each card by the builder's one call (the guide's Derived/Test/ToyasCard.lean, 'card_holds'). Laid BY PROGRAM, IN A SANDBOX (cutbox-door.mjs). By AI agents, Wed Nov 11 2026. No macro, syntax, notation, axiom, sorry.
-/
import Derived.Test.YtehmkablandefaaGreatDoorRows
import GoSem.ClaimSeven
namespace Go.Proofs.YtehmkablandefaaGreatDoor
namespace Rows

/-- THE TIED CARD OF 'laws.FnExactSectionTune'. -/
def fnExactSectionTuneCard : Claim7 := { stood := { row := fnExactSectionTuneRow, standIns := [], harness := (true, "8f59bd562ceb6d9ad27ea69b4f1fccd9bbcfc21fc80e0018a36fb59395dd38f0"), looks := true }, kinds := [], alts := [], laidByText := true, laidKinds := [.data], laidTests := true, laidLooks := .later }
def FnExactSectionTuneCardSaid : Prop := Claim7.holds Tryz.pinned (.plain (OpenSpec.ofChange fnExactSectionTuneSpec)) fnExactSectionTuneCard

/-- THE TIED CARD OF 'laws.FnExactChimeAt'. -/
def fnExactChimeAtCard : Claim7 := { stood := { row := fnExactChimeAtRow, standIns := [], harness := (true, "8f59bd562ceb6d9ad27ea69b4f1fccd9bbcfc21fc80e0018a36fb59395dd38f0"), looks := true }, kinds := [], alts := [], laidByText := true, laidKinds := [.data], laidTests := true, laidLooks := .later }
def FnExactChimeAtCardSaid : Prop := Claim7.holds Tryz.pinned (.plain (OpenSpec.ofChange fnExactChimeAtSpec)) fnExactChimeAtCard

/-- THE TIED CARD OF 'laws.FnExactWholeChime'. -/
def fnExactWholeChimeCard : Claim7 := { stood := { row := fnExactWholeChimeRow, standIns := [], harness := (true, "8f59bd562ceb6d9ad27ea69b4f1fccd9bbcfc21fc80e0018a36fb59395dd38f0"), looks := true }, kinds := [], alts := [], laidByText := true, laidKinds := [.data], laidTests := true, laidLooks := .later }
def FnExactWholeChimeCardSaid : Prop := Claim7.holds Tryz.pinned (.plain (OpenSpec.ofChange fnExactWholeChimeSpec)) fnExactWholeChimeCard

/-- THE SECOND FORM's CARD OF 'laws.FnExactSectionTune'. -/
def fnExactSectionTuneUptoCard : Claim7 := { stood := { row := fnExactSectionTuneUptoRow, standIns := [], harness := (true, "8f59bd562ceb6d9ad27ea69b4f1fccd9bbcfc21fc80e0018a36fb59395dd38f0"), looks := true }, kinds := [], alts := [], laidByText := true, laidKinds := [.data], laidTests := true, laidLooks := .later }
def FnExactSectionTuneUptoCardSaid : Prop := Claim7.holds Tryz.pinned (.plain (OpenSpec.upto fnExactSectionTuneSpec)) fnExactSectionTuneUptoCard

/-- THE SECOND FORM's CARD OF 'laws.FnExactChimeAt'. -/
def fnExactChimeAtUptoCard : Claim7 := { stood := { row := fnExactChimeAtUptoRow, standIns := [], harness := (true, "8f59bd562ceb6d9ad27ea69b4f1fccd9bbcfc21fc80e0018a36fb59395dd38f0"), looks := true }, kinds := [], alts := [], laidByText := true, laidKinds := [.data], laidTests := true, laidLooks := .later }
def FnExactChimeAtUptoCardSaid : Prop := Claim7.holds Tryz.pinned (.plain (OpenSpec.upto fnExactChimeAtSpec)) fnExactChimeAtUptoCard

/-- THE SECOND FORM's CARD OF 'laws.FnExactWholeChime'. -/
def fnExactWholeChimeUptoCard : Claim7 := { stood := { row := fnExactWholeChimeUptoRow, standIns := [], harness := (true, "8f59bd562ceb6d9ad27ea69b4f1fccd9bbcfc21fc80e0018a36fb59395dd38f0"), looks := true }, kinds := [], alts := [], laidByText := true, laidKinds := [.data], laidTests := true, laidLooks := .later }
def FnExactWholeChimeUptoCardSaid : Prop := Claim7.holds Tryz.pinned (.plain (OpenSpec.upto fnExactWholeChimeSpec)) fnExactWholeChimeUptoCard
end Rows
end Go.Proofs.YtehmkablandefaaGreatDoor
