/-
  No cell of these rows narrows 'for every input' (looked for: loops, veiled, ifaces, maps, wideKeys, modest, calm, conditions, laid).
  DERIVED. THE GIVEN ROWS OF THIS SEAT. 11 by the template 'for every input the law returns true; each argument reads behind the call as it read before'; 0 by the template 'total and deterministic' (their statements: YtncdgjaadlpncaaTotals.lean).
  GIVEN WITH THE SEED: the statements are not yours to turn. If you find one false, say at which input.
  Laid BY PROGRAM, IN A SANDBOX (cutbox-rows.mjs): the forced cells as the released guide's own fill.sh prints them over the translation 1b2e04fafa6a2313… (all of the seat's roots in one cut). By AI agents, Wed Nov 11 2026. No macro, syntax, notation, axiom, sorry.
-/
import Derived.Test.YtncdgjaadlpncaaChecked
import GoSem.Claim
import GoSem.ClaimJoined
import GoSem.ClaimMapViews
import Derived.JoinedTies
import Derived.KernelRfl
namespace Go.Proofs.Ytncdgjaadlpncaa
/- THE CELL 'sum', in the pinned program and in every row, IS THE sha256 OF THE DUMP (.gsa) THAT YtncdgjaadlpncaaProg.lean LOADS. Nothing in Lean hashes anything: it is a label: what it is worth is what the hold of that sum in a sandbox is worth. -/
noncomputable def Try.pinned : Pinned := { name := "ytncdgjaadlpncaa", sum := "1b2e04fafa6a231337e5c9208f3b9f61b3671427eda2b6f84a0610a17da2eccd", checked := Try.checked }
namespace Rows
def none {H : Type} : Left H := { results := [], args := [] }

/-- 'laws.FnExactTurnDrum': WHATEVER THE INPUT: true; the input reads as it did. -/
def fnExactTurnDrumSpec : ChangeSpec := { name := "fnExactTurnDrum", fn := fun _ => fun
  | [d1, d2, d3] => { results := [.lit (.bool true)], args := [d1, d2, d3] }
  | _ => none }
def fnExactTurnDrumRow : OpenClaim := { program := "ytncdgjaadlpncaa", sum := "1b2e04fafa6a231337e5c9208f3b9f61b3671427eda2b6f84a0610a17da2eccd", func := "loop.example/g01311/laws.FnExactTurnDrum", spec := "fnExactTurnDrum", plainKeys := false, apart := false }
def FnExactTurnDrumSaid : Prop := fnExactTurnDrumRow.holds Try.pinned (OpenSpec.ofChange fnExactTurnDrumSpec)

/-- ITS FALSE NEIGHBOUR: 'it returns false'. Refute it at one input. -/
def fnExactTurnDrumWrong : ChangeSpec := { name := "fnExactTurnDrum", fn := fun _ => fun
  | [d1, d2, d3] => { results := [.lit (.bool false)], args := [d1, d2, d3] }
  | _ => none }
def FnExactTurnDrumWrongFalsely : Prop := fnExactTurnDrumRow.holds Try.pinned (OpenSpec.ofChange fnExactTurnDrumWrong)

/-- 'laws.FnExactSwapTracks': WHATEVER THE INPUT: true; the input reads as it did. -/
def fnExactSwapTracksSpec : ChangeSpec := { name := "fnExactSwapTracks", fn := fun _ => fun
  | [d1, d2, d3, d4] => { results := [.lit (.bool true)], args := [d1, d2, d3, d4] }
  | _ => none }
def fnExactSwapTracksRow : OpenClaim := { program := "ytncdgjaadlpncaa", sum := "1b2e04fafa6a231337e5c9208f3b9f61b3671427eda2b6f84a0610a17da2eccd", func := "loop.example/g01311/laws.FnExactSwapTracks", spec := "fnExactSwapTracks", plainKeys := false, apart := false }
def FnExactSwapTracksSaid : Prop := fnExactSwapTracksRow.holds Try.pinned (OpenSpec.ofChange fnExactSwapTracksSpec)

/-- ITS FALSE NEIGHBOUR: 'it returns false'. Refute it at one input. -/
def fnExactSwapTracksWrong : ChangeSpec := { name := "fnExactSwapTracks", fn := fun _ => fun
  | [d1, d2, d3, d4] => { results := [.lit (.bool false)], args := [d1, d2, d3, d4] }
  | _ => none }
def FnExactSwapTracksWrongFalsely : Prop := fnExactSwapTracksRow.holds Try.pinned (OpenSpec.ofChange fnExactSwapTracksWrong)

/-- 'laws.FnExactWithoutTrack': WHATEVER THE INPUT: true; the input reads as it did. -/
def fnExactWithoutTrackSpec : ChangeSpec := { name := "fnExactWithoutTrack", fn := fun _ => fun
  | [d1, d2, d3] => { results := [.lit (.bool true)], args := [d1, d2, d3] }
  | _ => none }
def fnExactWithoutTrackRow : OpenClaim := { program := "ytncdgjaadlpncaa", sum := "1b2e04fafa6a231337e5c9208f3b9f61b3671427eda2b6f84a0610a17da2eccd", func := "loop.example/g01311/laws.FnExactWithoutTrack", spec := "fnExactWithoutTrack", plainKeys := false, apart := false }
def FnExactWithoutTrackSaid : Prop := fnExactWithoutTrackRow.holds Try.pinned (OpenSpec.ofChange fnExactWithoutTrackSpec)

/-- ITS FALSE NEIGHBOUR: 'it returns false'. Refute it at one input. -/
def fnExactWithoutTrackWrong : ChangeSpec := { name := "fnExactWithoutTrack", fn := fun _ => fun
  | [d1, d2, d3] => { results := [.lit (.bool false)], args := [d1, d2, d3] }
  | _ => none }
def FnExactWithoutTrackWrongFalsely : Prop := fnExactWithoutTrackRow.holds Try.pinned (OpenSpec.ofChange fnExactWithoutTrackWrong)

/-- 'laws.FnExactUndoChanges': WHATEVER THE INPUT: true; the input reads as it did. -/
def fnExactUndoChangesSpec : ChangeSpec := { name := "fnExactUndoChanges", fn := fun _ => fun
  | [d] => { results := [.lit (.bool true)], args := [d] }
  | _ => none }
def fnExactUndoChangesRow : OpenClaim := { program := "ytncdgjaadlpncaa", sum := "1b2e04fafa6a231337e5c9208f3b9f61b3671427eda2b6f84a0610a17da2eccd", func := "loop.example/g01311/laws.FnExactUndoChanges", spec := "fnExactUndoChanges", plainKeys := false, apart := false }
def FnExactUndoChangesSaid : Prop := fnExactUndoChangesRow.holds Try.pinned (OpenSpec.ofChange fnExactUndoChangesSpec)

/-- ITS FALSE NEIGHBOUR: 'it returns false'. Refute it at one input. -/
def fnExactUndoChangesWrong : ChangeSpec := { name := "fnExactUndoChanges", fn := fun _ => fun
  | [d] => { results := [.lit (.bool false)], args := [d] }
  | _ => none }
def FnExactUndoChangesWrongFalsely : Prop := fnExactUndoChangesRow.holds Try.pinned (OpenSpec.ofChange fnExactUndoChangesWrong)

/-- 'laws.FnExactChangeCost': WHATEVER THE INPUT: true; the input reads as it did. -/
def fnExactChangeCostSpec : ChangeSpec := { name := "fnExactChangeCost", fn := fun _ => fun
  | [d1, d2, d3] => { results := [.lit (.bool true)], args := [d1, d2, d3] }
  | _ => none }
def fnExactChangeCostRow : OpenClaim := { program := "ytncdgjaadlpncaa", sum := "1b2e04fafa6a231337e5c9208f3b9f61b3671427eda2b6f84a0610a17da2eccd", func := "loop.example/g01311/laws.FnExactChangeCost", spec := "fnExactChangeCost", plainKeys := false, apart := false }
def FnExactChangeCostSaid : Prop := fnExactChangeCostRow.holds Try.pinned (OpenSpec.ofChange fnExactChangeCostSpec)

/-- ITS FALSE NEIGHBOUR: 'it returns false'. Refute it at one input. -/
def fnExactChangeCostWrong : ChangeSpec := { name := "fnExactChangeCost", fn := fun _ => fun
  | [d1, d2, d3] => { results := [.lit (.bool false)], args := [d1, d2, d3] }
  | _ => none }
def FnExactChangeCostWrongFalsely : Prop := fnExactChangeCostRow.holds Try.pinned (OpenSpec.ofChange fnExactChangeCostWrong)

/-- 'laws.FnExactSharedPins': WHATEVER THE INPUT: true; the input reads as it did. -/
def fnExactSharedPinsSpec : ChangeSpec := { name := "fnExactSharedPins", fn := fun _ => fun
  | [d1, d2] => { results := [.lit (.bool true)], args := [d1, d2] }
  | _ => none }
def fnExactSharedPinsRow : OpenClaim := { program := "ytncdgjaadlpncaa", sum := "1b2e04fafa6a231337e5c9208f3b9f61b3671427eda2b6f84a0610a17da2eccd", func := "loop.example/g01311/laws.FnExactSharedPins", spec := "fnExactSharedPins", plainKeys := false, apart := false }
def FnExactSharedPinsSaid : Prop := fnExactSharedPinsRow.holds Try.pinned (OpenSpec.ofChange fnExactSharedPinsSpec)

/-- ITS FALSE NEIGHBOUR: 'it returns false'. Refute it at one input. -/
def fnExactSharedPinsWrong : ChangeSpec := { name := "fnExactSharedPins", fn := fun _ => fun
  | [d1, d2] => { results := [.lit (.bool false)], args := [d1, d2] }
  | _ => none }
def FnExactSharedPinsWrongFalsely : Prop := fnExactSharedPinsRow.holds Try.pinned (OpenSpec.ofChange fnExactSharedPinsWrong)

/-- 'laws.FnExactUnionOf': WHATEVER THE INPUT: true; the input reads as it did. -/
def fnExactUnionOfSpec : ChangeSpec := { name := "fnExactUnionOf", fn := fun _ => fun
  | [d1, d2] => { results := [.lit (.bool true)], args := [d1, d2] }
  | _ => none }
def fnExactUnionOfRow : OpenClaim := { program := "ytncdgjaadlpncaa", sum := "1b2e04fafa6a231337e5c9208f3b9f61b3671427eda2b6f84a0610a17da2eccd", func := "loop.example/g01311/laws.FnExactUnionOf", spec := "fnExactUnionOf", plainKeys := false, apart := false }
def FnExactUnionOfSaid : Prop := fnExactUnionOfRow.holds Try.pinned (OpenSpec.ofChange fnExactUnionOfSpec)

/-- ITS FALSE NEIGHBOUR: 'it returns false'. Refute it at one input. -/
def fnExactUnionOfWrong : ChangeSpec := { name := "fnExactUnionOf", fn := fun _ => fun
  | [d1, d2] => { results := [.lit (.bool false)], args := [d1, d2] }
  | _ => none }
def FnExactUnionOfWrongFalsely : Prop := fnExactUnionOfRow.holds Try.pinned (OpenSpec.ofChange fnExactUnionOfWrong)

/-- 'laws.FnExactPinsNeeded': WHATEVER THE INPUT: true; the input reads as it did. -/
def fnExactPinsNeededSpec : ChangeSpec := { name := "fnExactPinsNeeded", fn := fun _ => fun
  | [d1, d2] => { results := [.lit (.bool true)], args := [d1, d2] }
  | _ => none }
def fnExactPinsNeededRow : OpenClaim := { program := "ytncdgjaadlpncaa", sum := "1b2e04fafa6a231337e5c9208f3b9f61b3671427eda2b6f84a0610a17da2eccd", func := "loop.example/g01311/laws.FnExactPinsNeeded", spec := "fnExactPinsNeeded", plainKeys := false, apart := false }
def FnExactPinsNeededSaid : Prop := fnExactPinsNeededRow.holds Try.pinned (OpenSpec.ofChange fnExactPinsNeededSpec)

/-- ITS FALSE NEIGHBOUR: 'it returns false'. Refute it at one input. -/
def fnExactPinsNeededWrong : ChangeSpec := { name := "fnExactPinsNeeded", fn := fun _ => fun
  | [d1, d2] => { results := [.lit (.bool false)], args := [d1, d2] }
  | _ => none }
def FnExactPinsNeededWrongFalsely : Prop := fnExactPinsNeededRow.holds Try.pinned (OpenSpec.ofChange fnExactPinsNeededWrong)

/-- 'laws.FnExactMakeChanges': WHATEVER THE INPUT: true; the input reads as it did. -/
def fnExactMakeChangesSpec : ChangeSpec := { name := "fnExactMakeChanges", fn := fun _ => fun
  | [d1, d2, d3] => { results := [.lit (.bool true)], args := [d1, d2, d3] }
  | _ => none }
def fnExactMakeChangesRow : OpenClaim := { program := "ytncdgjaadlpncaa", sum := "1b2e04fafa6a231337e5c9208f3b9f61b3671427eda2b6f84a0610a17da2eccd", func := "loop.example/g01311/laws.FnExactMakeChanges", spec := "fnExactMakeChanges", plainKeys := false, apart := false }
def FnExactMakeChangesSaid : Prop := fnExactMakeChangesRow.holds Try.pinned (OpenSpec.ofChange fnExactMakeChangesSpec)

/-- ITS FALSE NEIGHBOUR: 'it returns false'. Refute it at one input. -/
def fnExactMakeChangesWrong : ChangeSpec := { name := "fnExactMakeChanges", fn := fun _ => fun
  | [d1, d2, d3] => { results := [.lit (.bool false)], args := [d1, d2, d3] }
  | _ => none }
def FnExactMakeChangesWrongFalsely : Prop := fnExactMakeChangesRow.holds Try.pinned (OpenSpec.ofChange fnExactMakeChangesWrong)

/-- 'laws.FnExactFirstBadChange': WHATEVER THE INPUT: true; the input reads as it did. -/
def fnExactFirstBadChangeSpec : ChangeSpec := { name := "fnExactFirstBadChange", fn := fun _ => fun
  | [d1, d2, d3] => { results := [.lit (.bool true)], args := [d1, d2, d3] }
  | _ => none }
def fnExactFirstBadChangeRow : OpenClaim := { program := "ytncdgjaadlpncaa", sum := "1b2e04fafa6a231337e5c9208f3b9f61b3671427eda2b6f84a0610a17da2eccd", func := "loop.example/g01311/laws.FnExactFirstBadChange", spec := "fnExactFirstBadChange", plainKeys := false, apart := false }
def FnExactFirstBadChangeSaid : Prop := fnExactFirstBadChangeRow.holds Try.pinned (OpenSpec.ofChange fnExactFirstBadChangeSpec)

/-- ITS FALSE NEIGHBOUR: 'it returns false'. Refute it at one input. -/
def fnExactFirstBadChangeWrong : ChangeSpec := { name := "fnExactFirstBadChange", fn := fun _ => fun
  | [d1, d2, d3] => { results := [.lit (.bool false)], args := [d1, d2, d3] }
  | _ => none }
def FnExactFirstBadChangeWrongFalsely : Prop := fnExactFirstBadChangeRow.holds Try.pinned (OpenSpec.ofChange fnExactFirstBadChangeWrong)

/-- 'laws.FnExactTurnedCost': WHATEVER THE INPUT: true; the input reads as it did. -/
def fnExactTurnedCostSpec : ChangeSpec := { name := "fnExactTurnedCost", fn := fun _ => fun
  | [d1, d2, d3] => { results := [.lit (.bool true)], args := [d1, d2, d3] }
  | _ => none }
def fnExactTurnedCostRow : OpenClaim := { program := "ytncdgjaadlpncaa", sum := "1b2e04fafa6a231337e5c9208f3b9f61b3671427eda2b6f84a0610a17da2eccd", func := "loop.example/g01311/laws.FnExactTurnedCost", spec := "fnExactTurnedCost", unfollowed := true, recurses := true, plainKeys := false, leaving := true, apart := false }
def FnExactTurnedCostSaid : Prop := fnExactTurnedCostRow.holds Try.pinned (OpenSpec.ofChange fnExactTurnedCostSpec)

/-- ITS FALSE NEIGHBOUR: 'it returns false'. Refute it at one input. -/
def fnExactTurnedCostWrong : ChangeSpec := { name := "fnExactTurnedCost", fn := fun _ => fun
  | [d1, d2, d3] => { results := [.lit (.bool false)], args := [d1, d2, d3] }
  | _ => none }
def FnExactTurnedCostWrongFalsely : Prop := fnExactTurnedCostRow.holds Try.pinned (OpenSpec.ofChange fnExactTurnedCostWrong)

/- THE SECOND FORM. 'bulk': how many values and letters a reading holds, each counted each time it is reached (what is shared counts as often as it is met; a slice's spare places count too). A statement '..UptoSaid' is the law's where the arguments, and the package variables that the reading takes, are together of bulk at most 1048576: NARROWER than '..Said'. Prove '..Said' where nothing that the law and all that it calls make is longer than what came in: it says more and counts as full. Else prove '..UptoSaid'. A law counts once. -/
mutual
def uptoBulk {H : Type} : DataW H → Nat
  | .lit (.string bytes) => bytes.length + 1
  | .lit _ => 1
  | .nil => 1
  | .ptr d => uptoBulk d + 1
  | .slice elems spare => uptoBulkAll elems + uptoBulkAll spare + 1
  | .agg parts => uptoBulkAll parts + 1
  | .iface _ d => uptoBulk d + 1
  | .map entries => uptoBulkEntries entries + 1
  | .held _ => 1
def uptoBulkAll {H : Type} : List (DataW H) → Nat
  | [] => 0
  | d :: r => uptoBulk d + uptoBulkAll r
def uptoBulkEntries {H : Type} : List (Lit × DataW H) → Nat
  | [] => 0
  | x :: r => uptoBulkEntry x + uptoBulkEntries r
def uptoBulkEntry {H : Type} : Lit × DataW H → Nat
  | (.string bytes, d) => bytes.length + uptoBulk d + 1
  | (_, d) => uptoBulk d + 1
 end
def uptoSmall : (H : Type) → List (DataW H) → Bool := fun _ ds => decide (uptoBulkAll ds ≤ 1048576)
def OpenSpec.upto (s : _root_.Go.ChangeSpec) : _root_.Go.OpenSpec := { _root_.Go.OpenSpec.ofChange s with cond := some uptoSmall }

/-- 'laws.FnExactTurnDrum', WHERE WHAT IT READS IS OF BULK AT MOST 1048576: true; the input reads as it did. -/
def fnExactTurnDrumUptoRow : OpenClaim := { program := "ytncdgjaadlpncaa", sum := "1b2e04fafa6a231337e5c9208f3b9f61b3671427eda2b6f84a0610a17da2eccd", func := "loop.example/g01311/laws.FnExactTurnDrum", spec := "fnExactTurnDrum", plainKeys := false, apart := false, narrowed := true }
def FnExactTurnDrumUptoSaid : Prop := fnExactTurnDrumUptoRow.holds Try.pinned (OpenSpec.upto fnExactTurnDrumSpec)

/-- 'laws.FnExactSwapTracks', WHERE WHAT IT READS IS OF BULK AT MOST 1048576: true; the input reads as it did. -/
def fnExactSwapTracksUptoRow : OpenClaim := { program := "ytncdgjaadlpncaa", sum := "1b2e04fafa6a231337e5c9208f3b9f61b3671427eda2b6f84a0610a17da2eccd", func := "loop.example/g01311/laws.FnExactSwapTracks", spec := "fnExactSwapTracks", plainKeys := false, apart := false, narrowed := true }
def FnExactSwapTracksUptoSaid : Prop := fnExactSwapTracksUptoRow.holds Try.pinned (OpenSpec.upto fnExactSwapTracksSpec)

/-- 'laws.FnExactWithoutTrack', WHERE WHAT IT READS IS OF BULK AT MOST 1048576: true; the input reads as it did. -/
def fnExactWithoutTrackUptoRow : OpenClaim := { program := "ytncdgjaadlpncaa", sum := "1b2e04fafa6a231337e5c9208f3b9f61b3671427eda2b6f84a0610a17da2eccd", func := "loop.example/g01311/laws.FnExactWithoutTrack", spec := "fnExactWithoutTrack", plainKeys := false, apart := false, narrowed := true }
def FnExactWithoutTrackUptoSaid : Prop := fnExactWithoutTrackUptoRow.holds Try.pinned (OpenSpec.upto fnExactWithoutTrackSpec)

/-- 'laws.FnExactUndoChanges', WHERE WHAT IT READS IS OF BULK AT MOST 1048576: true; the input reads as it did. -/
def fnExactUndoChangesUptoRow : OpenClaim := { program := "ytncdgjaadlpncaa", sum := "1b2e04fafa6a231337e5c9208f3b9f61b3671427eda2b6f84a0610a17da2eccd", func := "loop.example/g01311/laws.FnExactUndoChanges", spec := "fnExactUndoChanges", plainKeys := false, apart := false, narrowed := true }
def FnExactUndoChangesUptoSaid : Prop := fnExactUndoChangesUptoRow.holds Try.pinned (OpenSpec.upto fnExactUndoChangesSpec)

/-- 'laws.FnExactChangeCost', WHERE WHAT IT READS IS OF BULK AT MOST 1048576: true; the input reads as it did. -/
def fnExactChangeCostUptoRow : OpenClaim := { program := "ytncdgjaadlpncaa", sum := "1b2e04fafa6a231337e5c9208f3b9f61b3671427eda2b6f84a0610a17da2eccd", func := "loop.example/g01311/laws.FnExactChangeCost", spec := "fnExactChangeCost", plainKeys := false, apart := false, narrowed := true }
def FnExactChangeCostUptoSaid : Prop := fnExactChangeCostUptoRow.holds Try.pinned (OpenSpec.upto fnExactChangeCostSpec)

/-- 'laws.FnExactSharedPins', WHERE WHAT IT READS IS OF BULK AT MOST 1048576: true; the input reads as it did. -/
def fnExactSharedPinsUptoRow : OpenClaim := { program := "ytncdgjaadlpncaa", sum := "1b2e04fafa6a231337e5c9208f3b9f61b3671427eda2b6f84a0610a17da2eccd", func := "loop.example/g01311/laws.FnExactSharedPins", spec := "fnExactSharedPins", plainKeys := false, apart := false, narrowed := true }
def FnExactSharedPinsUptoSaid : Prop := fnExactSharedPinsUptoRow.holds Try.pinned (OpenSpec.upto fnExactSharedPinsSpec)

/-- 'laws.FnExactUnionOf', WHERE WHAT IT READS IS OF BULK AT MOST 1048576: true; the input reads as it did. -/
def fnExactUnionOfUptoRow : OpenClaim := { program := "ytncdgjaadlpncaa", sum := "1b2e04fafa6a231337e5c9208f3b9f61b3671427eda2b6f84a0610a17da2eccd", func := "loop.example/g01311/laws.FnExactUnionOf", spec := "fnExactUnionOf", plainKeys := false, apart := false, narrowed := true }
def FnExactUnionOfUptoSaid : Prop := fnExactUnionOfUptoRow.holds Try.pinned (OpenSpec.upto fnExactUnionOfSpec)

/-- 'laws.FnExactPinsNeeded', WHERE WHAT IT READS IS OF BULK AT MOST 1048576: true; the input reads as it did. -/
def fnExactPinsNeededUptoRow : OpenClaim := { program := "ytncdgjaadlpncaa", sum := "1b2e04fafa6a231337e5c9208f3b9f61b3671427eda2b6f84a0610a17da2eccd", func := "loop.example/g01311/laws.FnExactPinsNeeded", spec := "fnExactPinsNeeded", plainKeys := false, apart := false, narrowed := true }
def FnExactPinsNeededUptoSaid : Prop := fnExactPinsNeededUptoRow.holds Try.pinned (OpenSpec.upto fnExactPinsNeededSpec)

/-- 'laws.FnExactMakeChanges', WHERE WHAT IT READS IS OF BULK AT MOST 1048576: true; the input reads as it did. -/
def fnExactMakeChangesUptoRow : OpenClaim := { program := "ytncdgjaadlpncaa", sum := "1b2e04fafa6a231337e5c9208f3b9f61b3671427eda2b6f84a0610a17da2eccd", func := "loop.example/g01311/laws.FnExactMakeChanges", spec := "fnExactMakeChanges", plainKeys := false, apart := false, narrowed := true }
def FnExactMakeChangesUptoSaid : Prop := fnExactMakeChangesUptoRow.holds Try.pinned (OpenSpec.upto fnExactMakeChangesSpec)

/-- 'laws.FnExactFirstBadChange', WHERE WHAT IT READS IS OF BULK AT MOST 1048576: true; the input reads as it did. -/
def fnExactFirstBadChangeUptoRow : OpenClaim := { program := "ytncdgjaadlpncaa", sum := "1b2e04fafa6a231337e5c9208f3b9f61b3671427eda2b6f84a0610a17da2eccd", func := "loop.example/g01311/laws.FnExactFirstBadChange", spec := "fnExactFirstBadChange", plainKeys := false, apart := false, narrowed := true }
def FnExactFirstBadChangeUptoSaid : Prop := fnExactFirstBadChangeUptoRow.holds Try.pinned (OpenSpec.upto fnExactFirstBadChangeSpec)

/-- 'laws.FnExactTurnedCost', WHERE WHAT IT READS IS OF BULK AT MOST 1048576: true; the input reads as it did. -/
def fnExactTurnedCostUptoRow : OpenClaim := { program := "ytncdgjaadlpncaa", sum := "1b2e04fafa6a231337e5c9208f3b9f61b3671427eda2b6f84a0610a17da2eccd", func := "loop.example/g01311/laws.FnExactTurnedCost", spec := "fnExactTurnedCost", unfollowed := true, recurses := true, plainKeys := false, leaving := true, apart := false, narrowed := true }
def FnExactTurnedCostUptoSaid : Prop := fnExactTurnedCostUptoRow.holds Try.pinned (OpenSpec.upto fnExactTurnedCostSpec)

end Rows
end Go.Proofs.Ytncdgjaadlpncaa
