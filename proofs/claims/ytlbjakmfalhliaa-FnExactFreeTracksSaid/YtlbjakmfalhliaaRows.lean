/-
  No cell of these rows narrows 'for every input' (looked for: loops, veiled, ifaces, maps, wideKeys, modest, calm, conditions, laid).
  DERIVED. THE GIVEN ROWS OF THIS SEAT. 12 by the template 'for every input the law returns true; each argument reads behind the call as it read before'; 0 by the template 'total and deterministic' (their statements: YtlbjakmfalhliaaTotals.lean).
  GIVEN WITH THE SEED: the statements are not yours to turn. If you find one false, say at which input.
  Laid BY PROGRAM, IN A SANDBOX (cutbox-rows.mjs): the forced cells as the released guide's own fill.sh prints them over the translation bed2833f252e33a7… (all of the seat's roots in one cut). By AI agents, Wed Nov 11 2026. No macro, syntax, notation, axiom, sorry.
-/
import Derived.Test.YtlbjakmfalhliaaChecked
import GoSem.Claim
import GoSem.ClaimJoined
import GoSem.ClaimMapViews
import Derived.JoinedTies
import Derived.KernelRfl
namespace Go.Proofs.Ytlbjakmfalhliaa
/- THE CELL 'sum', in the pinned program and in every row, IS THE sha256 OF THE DUMP (.gsa) THAT YtlbjakmfalhliaaProg.lean LOADS. Nothing in Lean hashes anything: it is a label: what it is worth is what the hold of that sum in a sandbox is worth. -/
noncomputable def Try.pinned : Pinned := { name := "ytlbjakmfalhliaa", sum := "bed2833f252e33a70b33e7728f384ac2df7e588688fc65e5cea63cd766f755a6", checked := Try.checked }
namespace Rows
def none {H : Type} : Left H := { results := [], args := [] }

/-- 'laws.FnExactValidFrame': WHATEVER THE INPUT: true; the input reads as it did. -/
def fnExactValidFrameSpec : ChangeSpec := { name := "fnExactValidFrame", fn := fun _ => fun
  | [d] => { results := [.lit (.bool true)], args := [d] }
  | _ => none }
def fnExactValidFrameRow : OpenClaim := { program := "ytlbjakmfalhliaa", sum := "bed2833f252e33a70b33e7728f384ac2df7e588688fc65e5cea63cd766f755a6", func := "loop.example/g01311/laws.FnExactValidFrame", spec := "fnExactValidFrame", plainKeys := false, apart := false }
def FnExactValidFrameSaid : Prop := fnExactValidFrameRow.holds Try.pinned (OpenSpec.ofChange fnExactValidFrameSpec)

/-- ITS FALSE NEIGHBOUR: 'it returns false'. Refute it at one input. -/
def fnExactValidFrameWrong : ChangeSpec := { name := "fnExactValidFrame", fn := fun _ => fun
  | [d] => { results := [.lit (.bool false)], args := [d] }
  | _ => none }
def FnExactValidFrameWrongFalsely : Prop := fnExactValidFrameRow.holds Try.pinned (OpenSpec.ofChange fnExactValidFrameWrong)

/-- 'laws.FnExactValidDrum': WHATEVER THE INPUT: true; the input reads as it did. -/
def fnExactValidDrumSpec : ChangeSpec := { name := "fnExactValidDrum", fn := fun _ => fun
  | [d1, d2] => { results := [.lit (.bool true)], args := [d1, d2] }
  | _ => none }
def fnExactValidDrumRow : OpenClaim := { program := "ytlbjakmfalhliaa", sum := "bed2833f252e33a70b33e7728f384ac2df7e588688fc65e5cea63cd766f755a6", func := "loop.example/g01311/laws.FnExactValidDrum", spec := "fnExactValidDrum", plainKeys := false, apart := false }
def FnExactValidDrumSaid : Prop := fnExactValidDrumRow.holds Try.pinned (OpenSpec.ofChange fnExactValidDrumSpec)

/-- ITS FALSE NEIGHBOUR: 'it returns false'. Refute it at one input. -/
def fnExactValidDrumWrong : ChangeSpec := { name := "fnExactValidDrum", fn := fun _ => fun
  | [d1, d2] => { results := [.lit (.bool false)], args := [d1, d2] }
  | _ => none }
def FnExactValidDrumWrongFalsely : Prop := fnExactValidDrumRow.holds Try.pinned (OpenSpec.ofChange fnExactValidDrumWrong)

/-- 'laws.FnExactBellsOf': WHATEVER THE INPUT: true; the input reads as it did. -/
def fnExactBellsOfSpec : ChangeSpec := { name := "fnExactBellsOf", fn := fun _ => fun
  | [d] => { results := [.lit (.bool true)], args := [d] }
  | _ => none }
def fnExactBellsOfRow : OpenClaim := { program := "ytlbjakmfalhliaa", sum := "bed2833f252e33a70b33e7728f384ac2df7e588688fc65e5cea63cd766f755a6", func := "loop.example/g01311/laws.FnExactBellsOf", spec := "fnExactBellsOf", plainKeys := false, apart := false }
def FnExactBellsOfSaid : Prop := fnExactBellsOfRow.holds Try.pinned (OpenSpec.ofChange fnExactBellsOfSpec)

/-- ITS FALSE NEIGHBOUR: 'it returns false'. Refute it at one input. -/
def fnExactBellsOfWrong : ChangeSpec := { name := "fnExactBellsOf", fn := fun _ => fun
  | [d] => { results := [.lit (.bool false)], args := [d] }
  | _ => none }
def FnExactBellsOfWrongFalsely : Prop := fnExactBellsOfRow.holds Try.pinned (OpenSpec.ofChange fnExactBellsOfWrong)

/-- 'laws.FnExactHammersFor': WHATEVER THE INPUT: true; the input reads as it did. -/
def fnExactHammersForSpec : ChangeSpec := { name := "fnExactHammersFor", fn := fun _ => fun
  | [d1, d2] => { results := [.lit (.bool true)], args := [d1, d2] }
  | _ => none }
def fnExactHammersForRow : OpenClaim := { program := "ytlbjakmfalhliaa", sum := "bed2833f252e33a70b33e7728f384ac2df7e588688fc65e5cea63cd766f755a6", func := "loop.example/g01311/laws.FnExactHammersFor", spec := "fnExactHammersFor", plainKeys := false, apart := false }
def FnExactHammersForSaid : Prop := fnExactHammersForRow.holds Try.pinned (OpenSpec.ofChange fnExactHammersForSpec)

/-- ITS FALSE NEIGHBOUR: 'it returns false'. Refute it at one input. -/
def fnExactHammersForWrong : ChangeSpec := { name := "fnExactHammersFor", fn := fun _ => fun
  | [d1, d2] => { results := [.lit (.bool false)], args := [d1, d2] }
  | _ => none }
def FnExactHammersForWrongFalsely : Prop := fnExactHammersForRow.holds Try.pinned (OpenSpec.ofChange fnExactHammersForWrong)

/-- 'laws.FnExactHasPin': WHATEVER THE INPUT: true; the input reads as it did. -/
def fnExactHasPinSpec : ChangeSpec := { name := "fnExactHasPin", fn := fun _ => fun
  | [d1, d2, d3, d4] => { results := [.lit (.bool true)], args := [d1, d2, d3, d4] }
  | _ => none }
def fnExactHasPinRow : OpenClaim := { program := "ytlbjakmfalhliaa", sum := "bed2833f252e33a70b33e7728f384ac2df7e588688fc65e5cea63cd766f755a6", func := "loop.example/g01311/laws.FnExactHasPin", spec := "fnExactHasPin", plainKeys := false, apart := false }
def FnExactHasPinSaid : Prop := fnExactHasPinRow.holds Try.pinned (OpenSpec.ofChange fnExactHasPinSpec)

/-- ITS FALSE NEIGHBOUR: 'it returns false'. Refute it at one input. -/
def fnExactHasPinWrong : ChangeSpec := { name := "fnExactHasPin", fn := fun _ => fun
  | [d1, d2, d3, d4] => { results := [.lit (.bool false)], args := [d1, d2, d3, d4] }
  | _ => none }
def FnExactHasPinWrongFalsely : Prop := fnExactHasPinRow.holds Try.pinned (OpenSpec.ofChange fnExactHasPinWrong)

/-- 'laws.FnExactCountPins': WHATEVER THE INPUT: true; the input reads as it did. -/
def fnExactCountPinsSpec : ChangeSpec := { name := "fnExactCountPins", fn := fun _ => fun
  | [d1, d2] => { results := [.lit (.bool true)], args := [d1, d2] }
  | _ => none }
def fnExactCountPinsRow : OpenClaim := { program := "ytlbjakmfalhliaa", sum := "bed2833f252e33a70b33e7728f384ac2df7e588688fc65e5cea63cd766f755a6", func := "loop.example/g01311/laws.FnExactCountPins", spec := "fnExactCountPins", plainKeys := false, apart := false }
def FnExactCountPinsSaid : Prop := fnExactCountPinsRow.holds Try.pinned (OpenSpec.ofChange fnExactCountPinsSpec)

/-- ITS FALSE NEIGHBOUR: 'it returns false'. Refute it at one input. -/
def fnExactCountPinsWrong : ChangeSpec := { name := "fnExactCountPins", fn := fun _ => fun
  | [d1, d2] => { results := [.lit (.bool false)], args := [d1, d2] }
  | _ => none }
def FnExactCountPinsWrongFalsely : Prop := fnExactCountPinsRow.holds Try.pinned (OpenSpec.ofChange fnExactCountPinsWrong)

/-- 'laws.FnExactWithPin': WHATEVER THE INPUT: true; the input reads as it did. -/
def fnExactWithPinSpec : ChangeSpec := { name := "fnExactWithPin", fn := fun _ => fun
  | [d1, d2, d3, d4] => { results := [.lit (.bool true)], args := [d1, d2, d3, d4] }
  | _ => none }
def fnExactWithPinRow : OpenClaim := { program := "ytlbjakmfalhliaa", sum := "bed2833f252e33a70b33e7728f384ac2df7e588688fc65e5cea63cd766f755a6", func := "loop.example/g01311/laws.FnExactWithPin", spec := "fnExactWithPin", plainKeys := false, apart := false }
def FnExactWithPinSaid : Prop := fnExactWithPinRow.holds Try.pinned (OpenSpec.ofChange fnExactWithPinSpec)

/-- ITS FALSE NEIGHBOUR: 'it returns false'. Refute it at one input. -/
def fnExactWithPinWrong : ChangeSpec := { name := "fnExactWithPin", fn := fun _ => fun
  | [d1, d2, d3, d4] => { results := [.lit (.bool false)], args := [d1, d2, d3, d4] }
  | _ => none }
def FnExactWithPinWrongFalsely : Prop := fnExactWithPinRow.holds Try.pinned (OpenSpec.ofChange fnExactWithPinWrong)

/-- 'laws.FnExactWithoutPin': WHATEVER THE INPUT: true; the input reads as it did. -/
def fnExactWithoutPinSpec : ChangeSpec := { name := "fnExactWithoutPin", fn := fun _ => fun
  | [d1, d2, d3, d4] => { results := [.lit (.bool true)], args := [d1, d2, d3, d4] }
  | _ => none }
def fnExactWithoutPinRow : OpenClaim := { program := "ytlbjakmfalhliaa", sum := "bed2833f252e33a70b33e7728f384ac2df7e588688fc65e5cea63cd766f755a6", func := "loop.example/g01311/laws.FnExactWithoutPin", spec := "fnExactWithoutPin", plainKeys := false, apart := false }
def FnExactWithoutPinSaid : Prop := fnExactWithoutPinRow.holds Try.pinned (OpenSpec.ofChange fnExactWithoutPinSpec)

/-- ITS FALSE NEIGHBOUR: 'it returns false'. Refute it at one input. -/
def fnExactWithoutPinWrong : ChangeSpec := { name := "fnExactWithoutPin", fn := fun _ => fun
  | [d1, d2, d3, d4] => { results := [.lit (.bool false)], args := [d1, d2, d3, d4] }
  | _ => none }
def FnExactWithoutPinWrongFalsely : Prop := fnExactWithoutPinRow.holds Try.pinned (OpenSpec.ofChange fnExactWithoutPinWrong)

/-- 'laws.FnExactPinsToMove': WHATEVER THE INPUT: true; the input reads as it did. -/
def fnExactPinsToMoveSpec : ChangeSpec := { name := "fnExactPinsToMove", fn := fun _ => fun
  | [d1, d2, d3] => { results := [.lit (.bool true)], args := [d1, d2, d3] }
  | _ => none }
def fnExactPinsToMoveRow : OpenClaim := { program := "ytlbjakmfalhliaa", sum := "bed2833f252e33a70b33e7728f384ac2df7e588688fc65e5cea63cd766f755a6", func := "loop.example/g01311/laws.FnExactPinsToMove", spec := "fnExactPinsToMove", plainKeys := false, apart := false }
def FnExactPinsToMoveSaid : Prop := fnExactPinsToMoveRow.holds Try.pinned (OpenSpec.ofChange fnExactPinsToMoveSpec)

/-- ITS FALSE NEIGHBOUR: 'it returns false'. Refute it at one input. -/
def fnExactPinsToMoveWrong : ChangeSpec := { name := "fnExactPinsToMove", fn := fun _ => fun
  | [d1, d2, d3] => { results := [.lit (.bool false)], args := [d1, d2, d3] }
  | _ => none }
def FnExactPinsToMoveWrongFalsely : Prop := fnExactPinsToMoveRow.holds Try.pinned (OpenSpec.ofChange fnExactPinsToMoveWrong)

/-- 'laws.FnExactTurnDrum': WHATEVER THE INPUT: true; the input reads as it did. -/
def fnExactTurnDrumSpec : ChangeSpec := { name := "fnExactTurnDrum", fn := fun _ => fun
  | [d1, d2, d3] => { results := [.lit (.bool true)], args := [d1, d2, d3] }
  | _ => none }
def fnExactTurnDrumRow : OpenClaim := { program := "ytlbjakmfalhliaa", sum := "bed2833f252e33a70b33e7728f384ac2df7e588688fc65e5cea63cd766f755a6", func := "loop.example/g01311/laws.FnExactTurnDrum", spec := "fnExactTurnDrum", plainKeys := false, apart := false }
def FnExactTurnDrumSaid : Prop := fnExactTurnDrumRow.holds Try.pinned (OpenSpec.ofChange fnExactTurnDrumSpec)

/-- ITS FALSE NEIGHBOUR: 'it returns false'. Refute it at one input. -/
def fnExactTurnDrumWrong : ChangeSpec := { name := "fnExactTurnDrum", fn := fun _ => fun
  | [d1, d2, d3] => { results := [.lit (.bool false)], args := [d1, d2, d3] }
  | _ => none }
def FnExactTurnDrumWrongFalsely : Prop := fnExactTurnDrumRow.holds Try.pinned (OpenSpec.ofChange fnExactTurnDrumWrong)

/-- 'laws.FnExactFreePlaces': WHATEVER THE INPUT: true; the input reads as it did. -/
def fnExactFreePlacesSpec : ChangeSpec := { name := "fnExactFreePlaces", fn := fun _ => fun
  | [d1, d2, d3] => { results := [.lit (.bool true)], args := [d1, d2, d3] }
  | _ => none }
def fnExactFreePlacesRow : OpenClaim := { program := "ytlbjakmfalhliaa", sum := "bed2833f252e33a70b33e7728f384ac2df7e588688fc65e5cea63cd766f755a6", func := "loop.example/g01311/laws.FnExactFreePlaces", spec := "fnExactFreePlaces", plainKeys := false, apart := false }
def FnExactFreePlacesSaid : Prop := fnExactFreePlacesRow.holds Try.pinned (OpenSpec.ofChange fnExactFreePlacesSpec)

/-- ITS FALSE NEIGHBOUR: 'it returns false'. Refute it at one input. -/
def fnExactFreePlacesWrong : ChangeSpec := { name := "fnExactFreePlaces", fn := fun _ => fun
  | [d1, d2, d3] => { results := [.lit (.bool false)], args := [d1, d2, d3] }
  | _ => none }
def FnExactFreePlacesWrongFalsely : Prop := fnExactFreePlacesRow.holds Try.pinned (OpenSpec.ofChange fnExactFreePlacesWrong)

/-- 'laws.FnExactFreeTracks': WHATEVER THE INPUT: true; the input reads as it did. -/
def fnExactFreeTracksSpec : ChangeSpec := { name := "fnExactFreeTracks", fn := fun _ => fun
  | [d1, d2, d3, d4] => { results := [.lit (.bool true)], args := [d1, d2, d3, d4] }
  | _ => none }
def fnExactFreeTracksRow : OpenClaim := { program := "ytlbjakmfalhliaa", sum := "bed2833f252e33a70b33e7728f384ac2df7e588688fc65e5cea63cd766f755a6", func := "loop.example/g01311/laws.FnExactFreeTracks", spec := "fnExactFreeTracks", plainKeys := false, apart := false }
def FnExactFreeTracksSaid : Prop := fnExactFreeTracksRow.holds Try.pinned (OpenSpec.ofChange fnExactFreeTracksSpec)

/-- ITS FALSE NEIGHBOUR: 'it returns false'. Refute it at one input. -/
def fnExactFreeTracksWrong : ChangeSpec := { name := "fnExactFreeTracks", fn := fun _ => fun
  | [d1, d2, d3, d4] => { results := [.lit (.bool false)], args := [d1, d2, d3, d4] }
  | _ => none }
def FnExactFreeTracksWrongFalsely : Prop := fnExactFreeTracksRow.holds Try.pinned (OpenSpec.ofChange fnExactFreeTracksWrong)

/- THE SECOND FORM. 'bulk': how many values and letters a reading holds, each counted each time it is reached (what is shared counts as often as it is met; a slice's spare places count too). A statement '..UptoSaid' is the law's where the arguments, and the package variables that the reading takes, are together of bulk at most 1048576: NARROWER than '..Said'. Prove '..Said' where nothing that the law and all that it calls make is longer than what came in: it says more and counts as full. Else prove '..UptoSaid'. A law counts once. -/
mutual
def uptoBulk {H : Type} : DataW H → Nat
  | .lit (.string bytes) => bytes.length + 1
  | .lit _ => 1
  | .nil => 1
  | .ptr d => uptoBulk d + 1
  | .slice elems spare => uptoBulkAll elems + uptoBulkAll spare + 1
  | .agg parts => uptoBulkAll parts + 1
  | .iface _ d => uptoBulk d + 1
  | .map entries => uptoBulkEntries entries + 1
  | .held _ => 1
def uptoBulkAll {H : Type} : List (DataW H) → Nat
  | [] => 0
  | d :: r => uptoBulk d + uptoBulkAll r
def uptoBulkEntries {H : Type} : List (Lit × DataW H) → Nat
  | [] => 0
  | x :: r => uptoBulkEntry x + uptoBulkEntries r
def uptoBulkEntry {H : Type} : Lit × DataW H → Nat
  | (.string bytes, d) => bytes.length + uptoBulk d + 1
  | (_, d) => uptoBulk d + 1
 end
def uptoSmall : (H : Type) → List (DataW H) → Bool := fun _ ds => decide (uptoBulkAll ds ≤ 1048576)
def OpenSpec.upto (s : _root_.Go.ChangeSpec) : _root_.Go.OpenSpec := { _root_.Go.OpenSpec.ofChange s with cond := some uptoSmall }

/-- 'laws.FnExactValidFrame', WHERE WHAT IT READS IS OF BULK AT MOST 1048576: true; the input reads as it did. -/
def fnExactValidFrameUptoRow : OpenClaim := { program := "ytlbjakmfalhliaa", sum := "bed2833f252e33a70b33e7728f384ac2df7e588688fc65e5cea63cd766f755a6", func := "loop.example/g01311/laws.FnExactValidFrame", spec := "fnExactValidFrame", plainKeys := false, apart := false, narrowed := true }
def FnExactValidFrameUptoSaid : Prop := fnExactValidFrameUptoRow.holds Try.pinned (OpenSpec.upto fnExactValidFrameSpec)

/-- 'laws.FnExactValidDrum', WHERE WHAT IT READS IS OF BULK AT MOST 1048576: true; the input reads as it did. -/
def fnExactValidDrumUptoRow : OpenClaim := { program := "ytlbjakmfalhliaa", sum := "bed2833f252e33a70b33e7728f384ac2df7e588688fc65e5cea63cd766f755a6", func := "loop.example/g01311/laws.FnExactValidDrum", spec := "fnExactValidDrum", plainKeys := false, apart := false, narrowed := true }
def FnExactValidDrumUptoSaid : Prop := fnExactValidDrumUptoRow.holds Try.pinned (OpenSpec.upto fnExactValidDrumSpec)

/-- 'laws.FnExactBellsOf', WHERE WHAT IT READS IS OF BULK AT MOST 1048576: true; the input reads as it did. -/
def fnExactBellsOfUptoRow : OpenClaim := { program := "ytlbjakmfalhliaa", sum := "bed2833f252e33a70b33e7728f384ac2df7e588688fc65e5cea63cd766f755a6", func := "loop.example/g01311/laws.FnExactBellsOf", spec := "fnExactBellsOf", plainKeys := false, apart := false, narrowed := true }
def FnExactBellsOfUptoSaid : Prop := fnExactBellsOfUptoRow.holds Try.pinned (OpenSpec.upto fnExactBellsOfSpec)

/-- 'laws.FnExactHammersFor', WHERE WHAT IT READS IS OF BULK AT MOST 1048576: true; the input reads as it did. -/
def fnExactHammersForUptoRow : OpenClaim := { program := "ytlbjakmfalhliaa", sum := "bed2833f252e33a70b33e7728f384ac2df7e588688fc65e5cea63cd766f755a6", func := "loop.example/g01311/laws.FnExactHammersFor", spec := "fnExactHammersFor", plainKeys := false, apart := false, narrowed := true }
def FnExactHammersForUptoSaid : Prop := fnExactHammersForUptoRow.holds Try.pinned (OpenSpec.upto fnExactHammersForSpec)

/-- 'laws.FnExactHasPin', WHERE WHAT IT READS IS OF BULK AT MOST 1048576: true; the input reads as it did. -/
def fnExactHasPinUptoRow : OpenClaim := { program := "ytlbjakmfalhliaa", sum := "bed2833f252e33a70b33e7728f384ac2df7e588688fc65e5cea63cd766f755a6", func := "loop.example/g01311/laws.FnExactHasPin", spec := "fnExactHasPin", plainKeys := false, apart := false, narrowed := true }
def FnExactHasPinUptoSaid : Prop := fnExactHasPinUptoRow.holds Try.pinned (OpenSpec.upto fnExactHasPinSpec)

/-- 'laws.FnExactCountPins', WHERE WHAT IT READS IS OF BULK AT MOST 1048576: true; the input reads as it did. -/
def fnExactCountPinsUptoRow : OpenClaim := { program := "ytlbjakmfalhliaa", sum := "bed2833f252e33a70b33e7728f384ac2df7e588688fc65e5cea63cd766f755a6", func := "loop.example/g01311/laws.FnExactCountPins", spec := "fnExactCountPins", plainKeys := false, apart := false, narrowed := true }
def FnExactCountPinsUptoSaid : Prop := fnExactCountPinsUptoRow.holds Try.pinned (OpenSpec.upto fnExactCountPinsSpec)

/-- 'laws.FnExactWithPin', WHERE WHAT IT READS IS OF BULK AT MOST 1048576: true; the input reads as it did. -/
def fnExactWithPinUptoRow : OpenClaim := { program := "ytlbjakmfalhliaa", sum := "bed2833f252e33a70b33e7728f384ac2df7e588688fc65e5cea63cd766f755a6", func := "loop.example/g01311/laws.FnExactWithPin", spec := "fnExactWithPin", plainKeys := false, apart := false, narrowed := true }
def FnExactWithPinUptoSaid : Prop := fnExactWithPinUptoRow.holds Try.pinned (OpenSpec.upto fnExactWithPinSpec)

/-- 'laws.FnExactWithoutPin', WHERE WHAT IT READS IS OF BULK AT MOST 1048576: true; the input reads as it did. -/
def fnExactWithoutPinUptoRow : OpenClaim := { program := "ytlbjakmfalhliaa", sum := "bed2833f252e33a70b33e7728f384ac2df7e588688fc65e5cea63cd766f755a6", func := "loop.example/g01311/laws.FnExactWithoutPin", spec := "fnExactWithoutPin", plainKeys := false, apart := false, narrowed := true }
def FnExactWithoutPinUptoSaid : Prop := fnExactWithoutPinUptoRow.holds Try.pinned (OpenSpec.upto fnExactWithoutPinSpec)

/-- 'laws.FnExactPinsToMove', WHERE WHAT IT READS IS OF BULK AT MOST 1048576: true; the input reads as it did. -/
def fnExactPinsToMoveUptoRow : OpenClaim := { program := "ytlbjakmfalhliaa", sum := "bed2833f252e33a70b33e7728f384ac2df7e588688fc65e5cea63cd766f755a6", func := "loop.example/g01311/laws.FnExactPinsToMove", spec := "fnExactPinsToMove", plainKeys := false, apart := false, narrowed := true }
def FnExactPinsToMoveUptoSaid : Prop := fnExactPinsToMoveUptoRow.holds Try.pinned (OpenSpec.upto fnExactPinsToMoveSpec)

/-- 'laws.FnExactTurnDrum', WHERE WHAT IT READS IS OF BULK AT MOST 1048576: true; the input reads as it did. -/
def fnExactTurnDrumUptoRow : OpenClaim := { program := "ytlbjakmfalhliaa", sum := "bed2833f252e33a70b33e7728f384ac2df7e588688fc65e5cea63cd766f755a6", func := "loop.example/g01311/laws.FnExactTurnDrum", spec := "fnExactTurnDrum", plainKeys := false, apart := false, narrowed := true }
def FnExactTurnDrumUptoSaid : Prop := fnExactTurnDrumUptoRow.holds Try.pinned (OpenSpec.upto fnExactTurnDrumSpec)

/-- 'laws.FnExactFreePlaces', WHERE WHAT IT READS IS OF BULK AT MOST 1048576: true; the input reads as it did. -/
def fnExactFreePlacesUptoRow : OpenClaim := { program := "ytlbjakmfalhliaa", sum := "bed2833f252e33a70b33e7728f384ac2df7e588688fc65e5cea63cd766f755a6", func := "loop.example/g01311/laws.FnExactFreePlaces", spec := "fnExactFreePlaces", plainKeys := false, apart := false, narrowed := true }
def FnExactFreePlacesUptoSaid : Prop := fnExactFreePlacesUptoRow.holds Try.pinned (OpenSpec.upto fnExactFreePlacesSpec)

/-- 'laws.FnExactFreeTracks', WHERE WHAT IT READS IS OF BULK AT MOST 1048576: true; the input reads as it did. -/
def fnExactFreeTracksUptoRow : OpenClaim := { program := "ytlbjakmfalhliaa", sum := "bed2833f252e33a70b33e7728f384ac2df7e588688fc65e5cea63cd766f755a6", func := "loop.example/g01311/laws.FnExactFreeTracks", spec := "fnExactFreeTracks", plainKeys := false, apart := false, narrowed := true }
def FnExactFreeTracksUptoSaid : Prop := fnExactFreeTracksUptoRow.holds Try.pinned (OpenSpec.upto fnExactFreeTracksSpec)

end Rows
end Go.Proofs.Ytlbjakmfalhliaa
