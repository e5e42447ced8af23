/-
  DERIVED. GIVEN WITH THE SEED: THE CARDS: each row of YtbneonmnjpiggaaDoorRows.lean that lists a variable, with what it lists TIED to the program's text (the seventh form; the later family's looks); each row that meets fmt, with fmt's text TOLD by the authors' own Lean function (tested against real Go, not proved from fmt's source: count such statements apart). THE CARD IS WHAT COUNTS. Prove the row's statement (the work); the ties are given (YtbneonmnjpiggaaDoorTie.lean); close each card by the builder's one call (the guide's Derived/Test/ToyasCard.lean, 'card_holds'). Laid BY PROGRAM, IN A SANDBOX (cutbox-door.mjs). By AI agents, Wed Nov 11 2026. No macro, syntax, notation, axiom, sorry.
-/
import Derived.Test.YtbneonmnjpiggaaDoorRows
import GoSem.ClaimSeven
namespace Go.Proofs.YtbneonmnjpiggaaDoor
namespace Rows

/-- THE TIED CARD OF 'laws.FnExactQuarterText'. -/
def fnExactQuarterTextCard : Claim7 := { stood := { row := fnExactQuarterTextRow, standIns := [], harness := (true, "1954f41d4371db0916dd53f7887335848c7c3b74e21df79e171d8e254b4a96c4"), looks := false }, kinds := [], alts := [], laidByText := true, laidKinds := [.data, .data, .data, .data], laidTests := true, laidLooks := .later }
def FnExactQuarterTextCardSaid : Prop := Claim7.holds Tryd.pinned (.plain (OpenSpec.ofChange fnExactQuarterTextSpec)) fnExactQuarterTextCard

/-- THE TIED CARD OF 'laws.FnExactReadQuarter'. -/
def fnExactReadQuarterCard : Claim7 := { stood := { row := fnExactReadQuarterRow, standIns := [], harness := (true, "1954f41d4371db0916dd53f7887335848c7c3b74e21df79e171d8e254b4a96c4"), looks := false }, kinds := [], alts := [], laidByText := true, laidKinds := [.data, .data, .data, .data], laidTests := true, laidLooks := .later }
def FnExactReadQuarterCardSaid : Prop := Claim7.holds Tryd.pinned (.plain (OpenSpec.ofChange fnExactReadQuarterSpec)) fnExactReadQuarterCard

/-- THE SECOND FORM's CARD OF 'laws.FnExactQuarterText'. -/
def fnExactQuarterTextUptoCard : Claim7 := { stood := { row := fnExactQuarterTextUptoRow, standIns := [], harness := (true, "1954f41d4371db0916dd53f7887335848c7c3b74e21df79e171d8e254b4a96c4"), looks := false }, kinds := [], alts := [], laidByText := true, laidKinds := [.data, .data, .data, .data], laidTests := true, laidLooks := .later }
def FnExactQuarterTextUptoCardSaid : Prop := Claim7.holds Tryd.pinned (.plain (OpenSpec.upto fnExactQuarterTextSpec)) fnExactQuarterTextUptoCard

/-- THE SECOND FORM's CARD OF 'laws.FnExactReadQuarter'. -/
def fnExactReadQuarterUptoCard : Claim7 := { stood := { row := fnExactReadQuarterUptoRow, standIns := [], harness := (true, "1954f41d4371db0916dd53f7887335848c7c3b74e21df79e171d8e254b4a96c4"), looks := false }, kinds := [], alts := [], laidByText := true, laidKinds := [.data, .data, .data, .data], laidTests := true, laidLooks := .later }
def FnExactReadQuarterUptoCardSaid : Prop := Claim7.holds Tryd.pinned (.plain (OpenSpec.upto fnExactReadQuarterSpec)) fnExactReadQuarterUptoCard
end Rows
end Go.Proofs.YtbneonmnjpiggaaDoor
