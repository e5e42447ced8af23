/-
  No cell of these rows narrows 'for every input' (looked for: loops, veiled, ifaces, maps, wideKeys, modest, calm, conditions, laid).
  DERIVED. THE GIVEN ROWS OF THIS SEAT. 8 by the template 'for every input the law returns true; each argument reads behind the call as it read before'; 0 by the template 'total and deterministic' (their statements: YtfjcomemgbmohaaTotals.lean).
  GIVEN WITH THE SEED: the statements are not yours to turn. If you find one false, say at which input.
  Laid BY PROGRAM, IN A SANDBOX (cutbox-rows.mjs): the forced cells as the released guide's own fill.sh prints them over the translation c941addc38dce01e… (all of the seat's roots in one cut). By AI agents, Wed Nov 11 2026. No macro, syntax, notation, axiom, sorry.
-/
import Derived.Test.YtfjcomemgbmohaaChecked
import GoSem.Claim
import GoSem.ClaimJoined
import GoSem.ClaimMapViews
import Derived.JoinedTies
import Derived.KernelRfl
namespace Go.Proofs.Ytfjcomemgbmohaa
/- THE CELL 'sum', in the pinned program and in every row, IS THE sha256 OF THE DUMP (.gsa) THAT YtfjcomemgbmohaaProg.lean LOADS. Nothing in Lean hashes anything: it is a label: what it is worth is what the hold of that sum in a sandbox is worth. -/
noncomputable def Try.pinned : Pinned := { name := "ytfjcomemgbmohaa", sum := "c941addc38dce01e0d1046eb85f67f30c9e5527d6c7fbda8d29cc4543913c9bd", checked := Try.checked }
namespace Rows
def none {H : Type} : Left H := { results := [], args := [] }

/-- 'laws.FnExactMakeTune': WHATEVER THE INPUT: true; the input reads as it did. -/
def fnExactMakeTuneSpec : ChangeSpec := { name := "fnExactMakeTune", fn := fun _ => fun
  | [d] => { results := [.lit (.bool true)], args := [d] }
  | _ => none }
def fnExactMakeTuneRow : OpenClaim := { program := "ytfjcomemgbmohaa", sum := "c941addc38dce01e0d1046eb85f67f30c9e5527d6c7fbda8d29cc4543913c9bd", func := "loop.example/g01311/laws.FnExactMakeTune", spec := "fnExactMakeTune", unfollowed := true, recurses := true, plainKeys := false, apart := false }
def FnExactMakeTuneSaid : Prop := fnExactMakeTuneRow.holds Try.pinned (OpenSpec.ofChange fnExactMakeTuneSpec)

/-- ITS FALSE NEIGHBOUR: 'it returns false'. Refute it at one input. -/
def fnExactMakeTuneWrong : ChangeSpec := { name := "fnExactMakeTune", fn := fun _ => fun
  | [d] => { results := [.lit (.bool false)], args := [d] }
  | _ => none }
def FnExactMakeTuneWrongFalsely : Prop := fnExactMakeTuneRow.holds Try.pinned (OpenSpec.ofChange fnExactMakeTuneWrong)

/-- 'laws.FnExactMoveTune': WHATEVER THE INPUT: true; the input reads as it did. -/
def fnExactMoveTuneSpec : ChangeSpec := { name := "fnExactMoveTune", fn := fun _ => fun
  | [d1, d2] => { results := [.lit (.bool true)], args := [d1, d2] }
  | _ => none }
def fnExactMoveTuneRow : OpenClaim := { program := "ytfjcomemgbmohaa", sum := "c941addc38dce01e0d1046eb85f67f30c9e5527d6c7fbda8d29cc4543913c9bd", func := "loop.example/g01311/laws.FnExactMoveTune", spec := "fnExactMoveTune", unfollowed := true, recurses := true, plainKeys := false, apart := false }
def FnExactMoveTuneSaid : Prop := fnExactMoveTuneRow.holds Try.pinned (OpenSpec.ofChange fnExactMoveTuneSpec)

/-- ITS FALSE NEIGHBOUR: 'it returns false'. Refute it at one input. -/
def fnExactMoveTuneWrong : ChangeSpec := { name := "fnExactMoveTune", fn := fun _ => fun
  | [d1, d2] => { results := [.lit (.bool false)], args := [d1, d2] }
  | _ => none }
def FnExactMoveTuneWrongFalsely : Prop := fnExactMoveTuneRow.holds Try.pinned (OpenSpec.ofChange fnExactMoveTuneWrong)

/-- 'laws.FnExactTranspose': WHATEVER THE INPUT: true; the input reads as it did. -/
def fnExactTransposeSpec : ChangeSpec := { name := "fnExactTranspose", fn := fun _ => fun
  | [d1, d2] => { results := [.lit (.bool true)], args := [d1, d2] }
  | _ => none }
def fnExactTransposeRow : OpenClaim := { program := "ytfjcomemgbmohaa", sum := "c941addc38dce01e0d1046eb85f67f30c9e5527d6c7fbda8d29cc4543913c9bd", func := "loop.example/g01311/laws.FnExactTranspose", spec := "fnExactTranspose", unfollowed := true, recurses := true, plainKeys := false, apart := false }
def FnExactTransposeSaid : Prop := fnExactTransposeRow.holds Try.pinned (OpenSpec.ofChange fnExactTransposeSpec)

/-- ITS FALSE NEIGHBOUR: 'it returns false'. Refute it at one input. -/
def fnExactTransposeWrong : ChangeSpec := { name := "fnExactTranspose", fn := fun _ => fun
  | [d1, d2] => { results := [.lit (.bool false)], args := [d1, d2] }
  | _ => none }
def FnExactTransposeWrongFalsely : Prop := fnExactTransposeRow.holds Try.pinned (OpenSpec.ofChange fnExactTransposeWrong)

/-- 'laws.FnExactBackward': WHATEVER THE INPUT: true; the input reads as it did. -/
def fnExactBackwardSpec : ChangeSpec := { name := "fnExactBackward", fn := fun _ => fun
  | [d] => { results := [.lit (.bool true)], args := [d] }
  | _ => none }
def fnExactBackwardRow : OpenClaim := { program := "ytfjcomemgbmohaa", sum := "c941addc38dce01e0d1046eb85f67f30c9e5527d6c7fbda8d29cc4543913c9bd", func := "loop.example/g01311/laws.FnExactBackward", spec := "fnExactBackward", unfollowed := true, recurses := true, plainKeys := false, apart := false }
def FnExactBackwardSaid : Prop := fnExactBackwardRow.holds Try.pinned (OpenSpec.ofChange fnExactBackwardSpec)

/-- ITS FALSE NEIGHBOUR: 'it returns false'. Refute it at one input. -/
def fnExactBackwardWrong : ChangeSpec := { name := "fnExactBackward", fn := fun _ => fun
  | [d] => { results := [.lit (.bool false)], args := [d] }
  | _ => none }
def FnExactBackwardWrongFalsely : Prop := fnExactBackwardRow.holds Try.pinned (OpenSpec.ofChange fnExactBackwardWrong)

/-- 'laws.FnExactInverted': WHATEVER THE INPUT: true; the input reads as it did. -/
def fnExactInvertedSpec : ChangeSpec := { name := "fnExactInverted", fn := fun _ => fun
  | [d1, d2] => { results := [.lit (.bool true)], args := [d1, d2] }
  | _ => none }
def fnExactInvertedRow : OpenClaim := { program := "ytfjcomemgbmohaa", sum := "c941addc38dce01e0d1046eb85f67f30c9e5527d6c7fbda8d29cc4543913c9bd", func := "loop.example/g01311/laws.FnExactInverted", spec := "fnExactInverted", unfollowed := true, recurses := true, plainKeys := false, apart := false }
def FnExactInvertedSaid : Prop := fnExactInvertedRow.holds Try.pinned (OpenSpec.ofChange fnExactInvertedSpec)

/-- ITS FALSE NEIGHBOUR: 'it returns false'. Refute it at one input. -/
def fnExactInvertedWrong : ChangeSpec := { name := "fnExactInverted", fn := fun _ => fun
  | [d1, d2] => { results := [.lit (.bool false)], args := [d1, d2] }
  | _ => none }
def FnExactInvertedWrongFalsely : Prop := fnExactInvertedRow.holds Try.pinned (OpenSpec.ofChange fnExactInvertedWrong)

/-- 'laws.FnExactStretched': WHATEVER THE INPUT: true; the input reads as it did. -/
def fnExactStretchedSpec : ChangeSpec := { name := "fnExactStretched", fn := fun _ => fun
  | [d1, d2, d3] => { results := [.lit (.bool true)], args := [d1, d2, d3] }
  | _ => none }
def fnExactStretchedRow : OpenClaim := { program := "ytfjcomemgbmohaa", sum := "c941addc38dce01e0d1046eb85f67f30c9e5527d6c7fbda8d29cc4543913c9bd", func := "loop.example/g01311/laws.FnExactStretched", spec := "fnExactStretched", unfollowed := true, recurses := true, plainKeys := false, apart := false }
def FnExactStretchedSaid : Prop := fnExactStretchedRow.holds Try.pinned (OpenSpec.ofChange fnExactStretchedSpec)

/-- ITS FALSE NEIGHBOUR: 'it returns false'. Refute it at one input. -/
def fnExactStretchedWrong : ChangeSpec := { name := "fnExactStretched", fn := fun _ => fun
  | [d1, d2, d3] => { results := [.lit (.bool false)], args := [d1, d2, d3] }
  | _ => none }
def FnExactStretchedWrongFalsely : Prop := fnExactStretchedRow.holds Try.pinned (OpenSpec.ofChange fnExactStretchedWrong)

/-- 'laws.FnExactJoinTunes': WHATEVER THE INPUT: true; the input reads as it did. -/
def fnExactJoinTunesSpec : ChangeSpec := { name := "fnExactJoinTunes", fn := fun _ => fun
  | [d1, d2] => { results := [.lit (.bool true)], args := [d1, d2] }
  | _ => none }
def fnExactJoinTunesRow : OpenClaim := { program := "ytfjcomemgbmohaa", sum := "c941addc38dce01e0d1046eb85f67f30c9e5527d6c7fbda8d29cc4543913c9bd", func := "loop.example/g01311/laws.FnExactJoinTunes", spec := "fnExactJoinTunes", unfollowed := true, recurses := true, plainKeys := false, apart := false }
def FnExactJoinTunesSaid : Prop := fnExactJoinTunesRow.holds Try.pinned (OpenSpec.ofChange fnExactJoinTunesSpec)

/-- ITS FALSE NEIGHBOUR: 'it returns false'. Refute it at one input. -/
def fnExactJoinTunesWrong : ChangeSpec := { name := "fnExactJoinTunes", fn := fun _ => fun
  | [d1, d2] => { results := [.lit (.bool false)], args := [d1, d2] }
  | _ => none }
def FnExactJoinTunesWrongFalsely : Prop := fnExactJoinTunesRow.holds Try.pinned (OpenSpec.ofChange fnExactJoinTunesWrong)

/-- 'laws.FnExactTogether': WHATEVER THE INPUT: true; the input reads as it did. -/
def fnExactTogetherSpec : ChangeSpec := { name := "fnExactTogether", fn := fun _ => fun
  | [d1, d2] => { results := [.lit (.bool true)], args := [d1, d2] }
  | _ => none }
def fnExactTogetherRow : OpenClaim := { program := "ytfjcomemgbmohaa", sum := "c941addc38dce01e0d1046eb85f67f30c9e5527d6c7fbda8d29cc4543913c9bd", func := "loop.example/g01311/laws.FnExactTogether", spec := "fnExactTogether", unfollowed := true, recurses := true, plainKeys := false, apart := false }
def FnExactTogetherSaid : Prop := fnExactTogetherRow.holds Try.pinned (OpenSpec.ofChange fnExactTogetherSpec)

/-- ITS FALSE NEIGHBOUR: 'it returns false'. Refute it at one input. -/
def fnExactTogetherWrong : ChangeSpec := { name := "fnExactTogether", fn := fun _ => fun
  | [d1, d2] => { results := [.lit (.bool false)], args := [d1, d2] }
  | _ => none }
def FnExactTogetherWrongFalsely : Prop := fnExactTogetherRow.holds Try.pinned (OpenSpec.ofChange fnExactTogetherWrong)

/- THE SECOND FORM. 'bulk': how many values and letters a reading holds, each counted each time it is reached (what is shared counts as often as it is met; a slice's spare places count too). A statement '..UptoSaid' is the law's where the arguments, and the package variables that the reading takes, are together of bulk at most 1048576: NARROWER than '..Said'. Prove '..Said' where nothing that the law and all that it calls make is longer than what came in: it says more and counts as full. Else prove '..UptoSaid'. A law counts once. -/
mutual
def uptoBulk {H : Type} : DataW H → Nat
  | .lit (.string bytes) => bytes.length + 1
  | .lit _ => 1
  | .nil => 1
  | .ptr d => uptoBulk d + 1
  | .slice elems spare => uptoBulkAll elems + uptoBulkAll spare + 1
  | .agg parts => uptoBulkAll parts + 1
  | .iface _ d => uptoBulk d + 1
  | .map entries => uptoBulkEntries entries + 1
  | .held _ => 1
def uptoBulkAll {H : Type} : List (DataW H) → Nat
  | [] => 0
  | d :: r => uptoBulk d + uptoBulkAll r
def uptoBulkEntries {H : Type} : List (Lit × DataW H) → Nat
  | [] => 0
  | x :: r => uptoBulkEntry x + uptoBulkEntries r
def uptoBulkEntry {H : Type} : Lit × DataW H → Nat
  | (.string bytes, d) => bytes.length + uptoBulk d + 1
  | (_, d) => uptoBulk d + 1
 end
def uptoSmall : (H : Type) → List (DataW H) → Bool := fun _ ds => decide (uptoBulkAll ds ≤ 1048576)
def OpenSpec.upto (s : _root_.Go.ChangeSpec) : _root_.Go.OpenSpec := { _root_.Go.OpenSpec.ofChange s with cond := some uptoSmall }

/-- 'laws.FnExactMakeTune', WHERE WHAT IT READS IS OF BULK AT MOST 1048576: true; the input reads as it did. -/
def fnExactMakeTuneUptoRow : OpenClaim := { program := "ytfjcomemgbmohaa", sum := "c941addc38dce01e0d1046eb85f67f30c9e5527d6c7fbda8d29cc4543913c9bd", func := "loop.example/g01311/laws.FnExactMakeTune", spec := "fnExactMakeTune", unfollowed := true, recurses := true, plainKeys := false, apart := false, narrowed := true }
def FnExactMakeTuneUptoSaid : Prop := fnExactMakeTuneUptoRow.holds Try.pinned (OpenSpec.upto fnExactMakeTuneSpec)

/-- 'laws.FnExactMoveTune', WHERE WHAT IT READS IS OF BULK AT MOST 1048576: true; the input reads as it did. -/
def fnExactMoveTuneUptoRow : OpenClaim := { program := "ytfjcomemgbmohaa", sum := "c941addc38dce01e0d1046eb85f67f30c9e5527d6c7fbda8d29cc4543913c9bd", func := "loop.example/g01311/laws.FnExactMoveTune", spec := "fnExactMoveTune", unfollowed := true, recurses := true, plainKeys := false, apart := false, narrowed := true }
def FnExactMoveTuneUptoSaid : Prop := fnExactMoveTuneUptoRow.holds Try.pinned (OpenSpec.upto fnExactMoveTuneSpec)

/-- 'laws.FnExactTranspose', WHERE WHAT IT READS IS OF BULK AT MOST 1048576: true; the input reads as it did. -/
def fnExactTransposeUptoRow : OpenClaim := { program := "ytfjcomemgbmohaa", sum := "c941addc38dce01e0d1046eb85f67f30c9e5527d6c7fbda8d29cc4543913c9bd", func := "loop.example/g01311/laws.FnExactTranspose", spec := "fnExactTranspose", unfollowed := true, recurses := true, plainKeys := false, apart := false, narrowed := true }
def FnExactTransposeUptoSaid : Prop := fnExactTransposeUptoRow.holds Try.pinned (OpenSpec.upto fnExactTransposeSpec)

/-- 'laws.FnExactBackward', WHERE WHAT IT READS IS OF BULK AT MOST 1048576: true; the input reads as it did. -/
def fnExactBackwardUptoRow : OpenClaim := { program := "ytfjcomemgbmohaa", sum := "c941addc38dce01e0d1046eb85f67f30c9e5527d6c7fbda8d29cc4543913c9bd", func := "loop.example/g01311/laws.FnExactBackward", spec := "fnExactBackward", unfollowed := true, recurses := true, plainKeys := false, apart := false, narrowed := true }
def FnExactBackwardUptoSaid : Prop := fnExactBackwardUptoRow.holds Try.pinned (OpenSpec.upto fnExactBackwardSpec)

/-- 'laws.FnExactInverted', WHERE WHAT IT READS IS OF BULK AT MOST 1048576: true; the input reads as it did. -/
def fnExactInvertedUptoRow : OpenClaim := { program := "ytfjcomemgbmohaa", sum := "c941addc38dce01e0d1046eb85f67f30c9e5527d6c7fbda8d29cc4543913c9bd", func := "loop.example/g01311/laws.FnExactInverted", spec := "fnExactInverted", unfollowed := true, recurses := true, plainKeys := false, apart := false, narrowed := true }
def FnExactInvertedUptoSaid : Prop := fnExactInvertedUptoRow.holds Try.pinned (OpenSpec.upto fnExactInvertedSpec)

/-- 'laws.FnExactStretched', WHERE WHAT IT READS IS OF BULK AT MOST 1048576: true; the input reads as it did. -/
def fnExactStretchedUptoRow : OpenClaim := { program := "ytfjcomemgbmohaa", sum := "c941addc38dce01e0d1046eb85f67f30c9e5527d6c7fbda8d29cc4543913c9bd", func := "loop.example/g01311/laws.FnExactStretched", spec := "fnExactStretched", unfollowed := true, recurses := true, plainKeys := false, apart := false, narrowed := true }
def FnExactStretchedUptoSaid : Prop := fnExactStretchedUptoRow.holds Try.pinned (OpenSpec.upto fnExactStretchedSpec)

/-- 'laws.FnExactJoinTunes', WHERE WHAT IT READS IS OF BULK AT MOST 1048576: true; the input reads as it did. -/
def fnExactJoinTunesUptoRow : OpenClaim := { program := "ytfjcomemgbmohaa", sum := "c941addc38dce01e0d1046eb85f67f30c9e5527d6c7fbda8d29cc4543913c9bd", func := "loop.example/g01311/laws.FnExactJoinTunes", spec := "fnExactJoinTunes", unfollowed := true, recurses := true, plainKeys := false, apart := false, narrowed := true }
def FnExactJoinTunesUptoSaid : Prop := fnExactJoinTunesUptoRow.holds Try.pinned (OpenSpec.upto fnExactJoinTunesSpec)

/-- 'laws.FnExactTogether', WHERE WHAT IT READS IS OF BULK AT MOST 1048576: true; the input reads as it did. -/
def fnExactTogetherUptoRow : OpenClaim := { program := "ytfjcomemgbmohaa", sum := "c941addc38dce01e0d1046eb85f67f30c9e5527d6c7fbda8d29cc4543913c9bd", func := "loop.example/g01311/laws.FnExactTogether", spec := "fnExactTogether", unfollowed := true, recurses := true, plainKeys := false, apart := false, narrowed := true }
def FnExactTogetherUptoSaid : Prop := fnExactTogetherUptoRow.holds Try.pinned (OpenSpec.upto fnExactTogetherSpec)

end Rows
end Go.Proofs.Ytfjcomemgbmohaa
