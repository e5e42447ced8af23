/-
  DERIVED. GIVEN WITH THE SEED: THE CARDS: each row of YtfkmippodmglnaaDoorRows.lean that lists a variable, with what it lists TIED to the program's text (the seventh form; the later family's looks); each row that meets fmt, with fmt's text TOLD by the authors' own Lean function (tested against real Go, not proved from fmt's source: count such statements apart). THE CARD IS WHAT COUNTS. Prove the row's statement (the work); the ties are given (YtfkmippodmglnaaDoorTie.lean); close each card by the builder's one call (the guide's Derived/Test/ToyasCard.lean, 'card_holds'). Laid BY PROGRAM, IN A SANDBOX (cutbox-door.mjs). By AI agents, Wed Nov 11 2026. No macro, syntax, notation, axiom, sorry.
-/
import Derived.Test.YtfkmippodmglnaaDoorRows
import GoSem.ClaimSeven
namespace Go.Proofs.YtfkmippodmglnaaDoor
namespace Rows

/-- THE TIED CARD OF 'laws.FnExactChoicesText'. -/
def fnExactChoicesTextCard : Claim7 := { stood := { row := fnExactChoicesTextRow, standIns := [], harness := (true, "ba18d04c250097db5652ff4a7702300e55e1f0c8cdddc0e0563149d761e5d279"), looks := true }, kinds := [], alts := [], laidByText := true, laidKinds := [.data, .data, .data], laidTests := true, laidLooks := .later }
def FnExactChoicesTextCardSaid : Prop := Claim7.holds Tryd.pinned (.plain (OpenSpec.ofChange fnExactChoicesTextSpec)) fnExactChoicesTextCard

/-- THE TIED CARD OF 'laws.FnExactActsText'. -/
def fnExactActsTextCard : Claim7 := { stood := { row := fnExactActsTextRow, standIns := [], harness := (true, "ba18d04c250097db5652ff4a7702300e55e1f0c8cdddc0e0563149d761e5d279"), looks := true }, kinds := [], alts := [], laidByText := true, laidKinds := [.data, .data, .data, .data], laidTests := true, laidLooks := .later }
def FnExactActsTextCardSaid : Prop := Claim7.holds Tryd.pinned (.plain (OpenSpec.ofChange fnExactActsTextSpec)) fnExactActsTextCard

/-- THE TIED CARD OF 'laws.FnExactTuneText'. -/
def fnExactTuneTextCard : Claim7 := { stood := { row := fnExactTuneTextRow, standIns := [], harness := (true, "ba18d04c250097db5652ff4a7702300e55e1f0c8cdddc0e0563149d761e5d279"), looks := true }, kinds := [], alts := [], laidByText := true, laidKinds := [.data, .data, .data, .data], laidTests := true, laidLooks := .later }
def FnExactTuneTextCardSaid : Prop := Claim7.holds Tryd.pinned (.plain (OpenSpec.ofChange fnExactTuneTextSpec)) fnExactTuneTextCard

/-- THE TIED CARD OF 'laws.FnExactFrameText'. -/
def fnExactFrameTextCard : Claim7 := { stood := { row := fnExactFrameTextRow, standIns := [], harness := (true, "ba18d04c250097db5652ff4a7702300e55e1f0c8cdddc0e0563149d761e5d279"), looks := true }, kinds := [], alts := [], laidByText := true, laidKinds := [.data, .data, .data, .data], laidTests := true, laidLooks := .later }
def FnExactFrameTextCardSaid : Prop := Claim7.holds Tryd.pinned (.plain (OpenSpec.ofChange fnExactFrameTextSpec)) fnExactFrameTextCard

/-- THE SECOND FORM's CARD OF 'laws.FnExactChoicesText'. -/
def fnExactChoicesTextUptoCard : Claim7 := { stood := { row := fnExactChoicesTextUptoRow, standIns := [], harness := (true, "ba18d04c250097db5652ff4a7702300e55e1f0c8cdddc0e0563149d761e5d279"), looks := true }, kinds := [], alts := [], laidByText := true, laidKinds := [.data, .data, .data], laidTests := true, laidLooks := .later }
def FnExactChoicesTextUptoCardSaid : Prop := Claim7.holds Tryd.pinned (.plain (OpenSpec.upto fnExactChoicesTextSpec)) fnExactChoicesTextUptoCard

/-- THE SECOND FORM's CARD OF 'laws.FnExactActsText'. -/
def fnExactActsTextUptoCard : Claim7 := { stood := { row := fnExactActsTextUptoRow, standIns := [], harness := (true, "ba18d04c250097db5652ff4a7702300e55e1f0c8cdddc0e0563149d761e5d279"), looks := true }, kinds := [], alts := [], laidByText := true, laidKinds := [.data, .data, .data, .data], laidTests := true, laidLooks := .later }
def FnExactActsTextUptoCardSaid : Prop := Claim7.holds Tryd.pinned (.plain (OpenSpec.upto fnExactActsTextSpec)) fnExactActsTextUptoCard

/-- THE SECOND FORM's CARD OF 'laws.FnExactTuneText'. -/
def fnExactTuneTextUptoCard : Claim7 := { stood := { row := fnExactTuneTextUptoRow, standIns := [], harness := (true, "ba18d04c250097db5652ff4a7702300e55e1f0c8cdddc0e0563149d761e5d279"), looks := true }, kinds := [], alts := [], laidByText := true, laidKinds := [.data, .data, .data, .data], laidTests := true, laidLooks := .later }
def FnExactTuneTextUptoCardSaid : Prop := Claim7.holds Tryd.pinned (.plain (OpenSpec.upto fnExactTuneTextSpec)) fnExactTuneTextUptoCard

/-- THE SECOND FORM's CARD OF 'laws.FnExactFrameText'. -/
def fnExactFrameTextUptoCard : Claim7 := { stood := { row := fnExactFrameTextUptoRow, standIns := [], harness := (true, "ba18d04c250097db5652ff4a7702300e55e1f0c8cdddc0e0563149d761e5d279"), looks := true }, kinds := [], alts := [], laidByText := true, laidKinds := [.data, .data, .data, .data], laidTests := true, laidLooks := .later }
def FnExactFrameTextUptoCardSaid : Prop := Claim7.holds Tryd.pinned (.plain (OpenSpec.upto fnExactFrameTextSpec)) fnExactFrameTextUptoCard
end Rows
end Go.Proofs.YtfkmippodmglnaaDoor
