/-
  DERIVED. GIVEN WITH THE SEED: THE CARDS: each row of YtheoopbgbglmdaaDoorRows.lean that lists a variable, with what it lists TIED to the program's text (the seventh form; the later family's looks); each row that meets fmt, with fmt's text TOLD by the authors' own Lean function (tested against real Go, not proved from fmt's source: count such statements apart). THE CARD IS WHAT COUNTS. Prove the row's statement (the work); the ties are given (YtheoopbgbglmdaaDoorTie.lean); close each card by the builder's one call (the guide's Derived/Test/ToyasCard.lean, 'card_holds'). Laid BY PROGRAM, IN A SANDBOX (cutbox-door.mjs). By AI agents, Wed Nov 11 2026. No macro, syntax, notation, axiom, sorry.
-/
import Derived.Test.YtheoopbgbglmdaaDoorRows
import GoSem.ClaimSeven
namespace Go.Proofs.YtheoopbgbglmdaaDoor
namespace Rows

/-- THE TIED CARD OF 'laws.FnExactNoteOf'. -/
def fnExactNoteOfCard : Claim7 := { stood := { row := fnExactNoteOfRow, standIns := [], harness := (true, "bbea294cb1e7f0a580b64a0f1a18c00e13a1323f73a74096b25f46545dd30987"), looks := true }, kinds := [], alts := [], laidByText := true, laidKinds := [.sentinel, .sentinel, .sentinel, .sentinel, .sentinel, .sentinel, .sentinel], laidTests := true, laidLooks := .later }
def FnExactNoteOfCardSaid : Prop := Claim7.holds Tryd.pinned (.plain (OpenSpec.ofChange fnExactNoteOfSpec)) fnExactNoteOfCard

/-- THE TIED CARD OF 'laws.FnExactChoicesFor'. -/
def fnExactChoicesForCard : Claim7 := { stood := { row := fnExactChoicesForRow, standIns := [], harness := (true, "bbea294cb1e7f0a580b64a0f1a18c00e13a1323f73a74096b25f46545dd30987"), looks := true }, kinds := [], alts := [], laidByText := true, laidKinds := [.sentinel, .sentinel, .sentinel, .sentinel, .sentinel, .sentinel, .sentinel], laidTests := true, laidLooks := .later }
def FnExactChoicesForCardSaid : Prop := Claim7.holds Tryd.pinned (.plain (OpenSpec.ofChange fnExactChoicesForSpec)) fnExactChoicesForCard

/-- THE SECOND FORM's CARD OF 'laws.FnExactNoteOf'. -/
def fnExactNoteOfUptoCard : Claim7 := { stood := { row := fnExactNoteOfUptoRow, standIns := [], harness := (true, "bbea294cb1e7f0a580b64a0f1a18c00e13a1323f73a74096b25f46545dd30987"), looks := true }, kinds := [], alts := [], laidByText := true, laidKinds := [.sentinel, .sentinel, .sentinel, .sentinel, .sentinel, .sentinel, .sentinel], laidTests := true, laidLooks := .later }
def FnExactNoteOfUptoCardSaid : Prop := Claim7.holds Tryd.pinned (.plain (OpenSpec.upto fnExactNoteOfSpec)) fnExactNoteOfUptoCard

/-- THE SECOND FORM's CARD OF 'laws.FnExactChoicesFor'. -/
def fnExactChoicesForUptoCard : Claim7 := { stood := { row := fnExactChoicesForUptoRow, standIns := [], harness := (true, "bbea294cb1e7f0a580b64a0f1a18c00e13a1323f73a74096b25f46545dd30987"), looks := true }, kinds := [], alts := [], laidByText := true, laidKinds := [.sentinel, .sentinel, .sentinel, .sentinel, .sentinel, .sentinel, .sentinel], laidTests := true, laidLooks := .later }
def FnExactChoicesForUptoCardSaid : Prop := Claim7.holds Tryd.pinned (.plain (OpenSpec.upto fnExactChoicesForSpec)) fnExactChoicesForUptoCard
end Rows
end Go.Proofs.YtheoopbgbglmdaaDoor
