/-
  No cell of these rows narrows 'for every input' (looked for: loops, veiled, ifaces, maps, wideKeys, modest, calm, conditions, laid).
  DERIVED. THE GIVEN ROWS OF THIS SEAT. 10 by the template 'for every input the law returns true; each argument reads behind the call as it read before'; 0 by the template 'total and deterministic' (their statements: YtnngbnhdcknfnaaTotals.lean).
  GIVEN WITH THE SEED: the statements are not yours to turn. If you find one false, say at which input.
  Laid BY PROGRAM, IN A SANDBOX (cutbox-rows.mjs): the forced cells as the released guide's own fill.sh prints them over the translation 25bb22632df38ede… (all of the seat's roots in one cut). By AI agents, Wed Nov 11 2026. No macro, syntax, notation, axiom, sorry.
-/
import Derived.Test.YtnngbnhdcknfnaaChecked
import GoSem.Claim
import GoSem.ClaimJoined
import GoSem.ClaimMapViews
import Derived.JoinedTies
import Derived.KernelRfl
namespace Go.Proofs.Ytnngbnhdcknfnaa
/- THE CELL 'sum', in the pinned program and in every row, IS THE sha256 OF THE DUMP (.gsa) THAT YtnngbnhdcknfnaaProg.lean LOADS. Nothing in Lean hashes anything: it is a label: what it is worth is what the hold of that sum in a sandbox is worth. -/
noncomputable def Try.pinned : Pinned := { name := "ytnngbnhdcknfnaa", sum := "25bb22632df38edece4e0e65404aefaa6d7cc46c99e663acfddf373883882b33", checked := Try.checked }
namespace Rows
def none {H : Type} : Left H := { results := [], args := [] }

/-- 'laws.FnExactValidProgramme': WHATEVER THE INPUT: true; the input reads as it did. -/
def fnExactValidProgrammeSpec : ChangeSpec := { name := "fnExactValidProgramme", fn := fun _ => fun
  | [d1, d2] => { results := [.lit (.bool true)], args := [d1, d2] }
  | _ => none }
def fnExactValidProgrammeRow : OpenClaim := { program := "ytnngbnhdcknfnaa", sum := "25bb22632df38edece4e0e65404aefaa6d7cc46c99e663acfddf373883882b33", func := "loop.example/g01311/laws.FnExactValidProgramme", spec := "fnExactValidProgramme", unfollowed := true, recurses := true, plainKeys := false, apart := false }
def FnExactValidProgrammeSaid : Prop := fnExactValidProgrammeRow.holds Try.pinned (OpenSpec.ofChange fnExactValidProgrammeSpec)

/-- ITS FALSE NEIGHBOUR: 'it returns false'. Refute it at one input. -/
def fnExactValidProgrammeWrong : ChangeSpec := { name := "fnExactValidProgramme", fn := fun _ => fun
  | [d1, d2] => { results := [.lit (.bool false)], args := [d1, d2] }
  | _ => none }
def FnExactValidProgrammeWrongFalsely : Prop := fnExactValidProgrammeRow.holds Try.pinned (OpenSpec.ofChange fnExactValidProgrammeWrong)

/-- 'laws.FnExactSameProgramme': WHATEVER THE INPUT: true; the input reads as it did. -/
def fnExactSameProgrammeSpec : ChangeSpec := { name := "fnExactSameProgramme", fn := fun _ => fun
  | [d1, d2] => { results := [.lit (.bool true)], args := [d1, d2] }
  | _ => none }
def fnExactSameProgrammeRow : OpenClaim := { program := "ytnngbnhdcknfnaa", sum := "25bb22632df38edece4e0e65404aefaa6d7cc46c99e663acfddf373883882b33", func := "loop.example/g01311/laws.FnExactSameProgramme", spec := "fnExactSameProgramme", plainKeys := false, apart := false }
def FnExactSameProgrammeSaid : Prop := fnExactSameProgrammeRow.holds Try.pinned (OpenSpec.ofChange fnExactSameProgrammeSpec)

/-- ITS FALSE NEIGHBOUR: 'it returns false'. Refute it at one input. -/
def fnExactSameProgrammeWrong : ChangeSpec := { name := "fnExactSameProgramme", fn := fun _ => fun
  | [d1, d2] => { results := [.lit (.bool false)], args := [d1, d2] }
  | _ => none }
def FnExactSameProgrammeWrongFalsely : Prop := fnExactSameProgrammeRow.holds Try.pinned (OpenSpec.ofChange fnExactSameProgrammeWrong)

/-- 'laws.FnExactStrikeTune': WHATEVER THE INPUT: true; the input reads as it did. -/
def fnExactStrikeTuneSpec : ChangeSpec := { name := "fnExactStrikeTune", fn := fun _ => fun
  | [d1, d2, d3] => { results := [.lit (.bool true)], args := [d1, d2, d3] }
  | _ => none }
def fnExactStrikeTuneRow : OpenClaim := { program := "ytnngbnhdcknfnaa", sum := "25bb22632df38edece4e0e65404aefaa6d7cc46c99e663acfddf373883882b33", func := "loop.example/g01311/laws.FnExactStrikeTune", spec := "fnExactStrikeTune", plainKeys := false, apart := false }
def FnExactStrikeTuneSaid : Prop := fnExactStrikeTuneRow.holds Try.pinned (OpenSpec.ofChange fnExactStrikeTuneSpec)

/-- ITS FALSE NEIGHBOUR: 'it returns false'. Refute it at one input. -/
def fnExactStrikeTuneWrong : ChangeSpec := { name := "fnExactStrikeTune", fn := fun _ => fun
  | [d1, d2, d3] => { results := [.lit (.bool false)], args := [d1, d2, d3] }
  | _ => none }
def FnExactStrikeTuneWrongFalsely : Prop := fnExactStrikeTuneRow.holds Try.pinned (OpenSpec.ofChange fnExactStrikeTuneWrong)

/-- 'laws.FnExactNextChime': WHATEVER THE INPUT: true; the input reads as it did. -/
def fnExactNextChimeSpec : ChangeSpec := { name := "fnExactNextChime", fn := fun _ => fun
  | [d1, d2, d3, d4] => { results := [.lit (.bool true)], args := [d1, d2, d3, d4] }
  | _ => none }
def fnExactNextChimeRow : OpenClaim := { program := "ytnngbnhdcknfnaa", sum := "25bb22632df38edece4e0e65404aefaa6d7cc46c99e663acfddf373883882b33", func := "loop.example/g01311/laws.FnExactNextChime", spec := "fnExactNextChime", unfollowed := true, recurses := true, plainKeys := false, apart := false }
def FnExactNextChimeSaid : Prop := fnExactNextChimeRow.holds Try.pinned (OpenSpec.ofChange fnExactNextChimeSpec)

/-- ITS FALSE NEIGHBOUR: 'it returns false'. Refute it at one input. -/
def fnExactNextChimeWrong : ChangeSpec := { name := "fnExactNextChime", fn := fun _ => fun
  | [d1, d2, d3, d4] => { results := [.lit (.bool false)], args := [d1, d2, d3, d4] }
  | _ => none }
def FnExactNextChimeWrongFalsely : Prop := fnExactNextChimeRow.holds Try.pinned (OpenSpec.ofChange fnExactNextChimeWrong)

/-- 'laws.FnExactSilentQuarters': WHATEVER THE INPUT: true; the input reads as it did. -/
def fnExactSilentQuartersSpec : ChangeSpec := { name := "fnExactSilentQuarters", fn := fun _ => fun
  | [d1, d2] => { results := [.lit (.bool true)], args := [d1, d2] }
  | _ => none }
def fnExactSilentQuartersRow : OpenClaim := { program := "ytnngbnhdcknfnaa", sum := "25bb22632df38edece4e0e65404aefaa6d7cc46c99e663acfddf373883882b33", func := "loop.example/g01311/laws.FnExactSilentQuarters", spec := "fnExactSilentQuarters", unfollowed := true, recurses := true, plainKeys := false, apart := false }
def FnExactSilentQuartersSaid : Prop := fnExactSilentQuartersRow.holds Try.pinned (OpenSpec.ofChange fnExactSilentQuartersSpec)

/-- ITS FALSE NEIGHBOUR: 'it returns false'. Refute it at one input. -/
def fnExactSilentQuartersWrong : ChangeSpec := { name := "fnExactSilentQuarters", fn := fun _ => fun
  | [d1, d2] => { results := [.lit (.bool false)], args := [d1, d2] }
  | _ => none }
def FnExactSilentQuartersWrongFalsely : Prop := fnExactSilentQuartersRow.holds Try.pinned (OpenSpec.ofChange fnExactSilentQuartersWrong)

/-- 'laws.FnExactCountPlays': WHATEVER THE INPUT: true; the input reads as it did. -/
def fnExactCountPlaysSpec : ChangeSpec := { name := "fnExactCountPlays", fn := fun _ => fun
  | [d1, d2] => { results := [.lit (.bool true)], args := [d1, d2] }
  | _ => none }
def fnExactCountPlaysRow : OpenClaim := { program := "ytnngbnhdcknfnaa", sum := "25bb22632df38edece4e0e65404aefaa6d7cc46c99e663acfddf373883882b33", func := "loop.example/g01311/laws.FnExactCountPlays", spec := "fnExactCountPlays", unfollowed := true, recurses := true, plainKeys := false, apart := false }
def FnExactCountPlaysSaid : Prop := fnExactCountPlaysRow.holds Try.pinned (OpenSpec.ofChange fnExactCountPlaysSpec)

/-- ITS FALSE NEIGHBOUR: 'it returns false'. Refute it at one input. -/
def fnExactCountPlaysWrong : ChangeSpec := { name := "fnExactCountPlays", fn := fun _ => fun
  | [d1, d2] => { results := [.lit (.bool false)], args := [d1, d2] }
  | _ => none }
def FnExactCountPlaysWrongFalsely : Prop := fnExactCountPlaysRow.holds Try.pinned (OpenSpec.ofChange fnExactCountPlaysWrong)

/-- 'laws.FnExactStepsTo': WHATEVER THE INPUT: true; the input reads as it did. -/
def fnExactStepsToSpec : ChangeSpec := { name := "fnExactStepsTo", fn := fun _ => fun
  | [d1, d2, d3, d4] => { results := [.lit (.bool true)], args := [d1, d2, d3, d4] }
  | _ => none }
def fnExactStepsToRow : OpenClaim := { program := "ytnngbnhdcknfnaa", sum := "25bb22632df38edece4e0e65404aefaa6d7cc46c99e663acfddf373883882b33", func := "loop.example/g01311/laws.FnExactStepsTo", spec := "fnExactStepsTo", unfollowed := true, recurses := true, plainKeys := false, apart := false }
def FnExactStepsToSaid : Prop := fnExactStepsToRow.holds Try.pinned (OpenSpec.ofChange fnExactStepsToSpec)

/-- ITS FALSE NEIGHBOUR: 'it returns false'. Refute it at one input. -/
def fnExactStepsToWrong : ChangeSpec := { name := "fnExactStepsTo", fn := fun _ => fun
  | [d1, d2, d3, d4] => { results := [.lit (.bool false)], args := [d1, d2, d3, d4] }
  | _ => none }
def FnExactStepsToWrongFalsely : Prop := fnExactStepsToRow.holds Try.pinned (OpenSpec.ofChange fnExactStepsToWrong)

/-- 'laws.FnExactStepsInDay': WHATEVER THE INPUT: true; the input reads as it did. -/
def fnExactStepsInDaySpec : ChangeSpec := { name := "fnExactStepsInDay", fn := fun _ => fun
  | [d1, d2] => { results := [.lit (.bool true)], args := [d1, d2] }
  | _ => none }
def fnExactStepsInDayRow : OpenClaim := { program := "ytnngbnhdcknfnaa", sum := "25bb22632df38edece4e0e65404aefaa6d7cc46c99e663acfddf373883882b33", func := "loop.example/g01311/laws.FnExactStepsInDay", spec := "fnExactStepsInDay", unfollowed := true, recurses := true, plainKeys := false, apart := false }
def FnExactStepsInDaySaid : Prop := fnExactStepsInDayRow.holds Try.pinned (OpenSpec.ofChange fnExactStepsInDaySpec)

/-- ITS FALSE NEIGHBOUR: 'it returns false'. Refute it at one input. -/
def fnExactStepsInDayWrong : ChangeSpec := { name := "fnExactStepsInDay", fn := fun _ => fun
  | [d1, d2] => { results := [.lit (.bool false)], args := [d1, d2] }
  | _ => none }
def FnExactStepsInDayWrongFalsely : Prop := fnExactStepsInDayRow.holds Try.pinned (OpenSpec.ofChange fnExactStepsInDayWrong)

/-- 'laws.FnExactSectionAt': WHATEVER THE INPUT: true; the input reads as it did. -/
def fnExactSectionAtSpec : ChangeSpec := { name := "fnExactSectionAt", fn := fun _ => fun
  | [d1, d2, d3] => { results := [.lit (.bool true)], args := [d1, d2, d3] }
  | _ => none }
def fnExactSectionAtRow : OpenClaim := { program := "ytnngbnhdcknfnaa", sum := "25bb22632df38edece4e0e65404aefaa6d7cc46c99e663acfddf373883882b33", func := "loop.example/g01311/laws.FnExactSectionAt", spec := "fnExactSectionAt", unfollowed := true, recurses := true, plainKeys := false, apart := false }
def FnExactSectionAtSaid : Prop := fnExactSectionAtRow.holds Try.pinned (OpenSpec.ofChange fnExactSectionAtSpec)

/-- ITS FALSE NEIGHBOUR: 'it returns false'. Refute it at one input. -/
def fnExactSectionAtWrong : ChangeSpec := { name := "fnExactSectionAt", fn := fun _ => fun
  | [d1, d2, d3] => { results := [.lit (.bool false)], args := [d1, d2, d3] }
  | _ => none }
def FnExactSectionAtWrongFalsely : Prop := fnExactSectionAtRow.holds Try.pinned (OpenSpec.ofChange fnExactSectionAtWrong)

/-- 'laws.FnExactPackSections': WHATEVER THE INPUT: true; the input reads as it did. -/
def fnExactPackSectionsSpec : ChangeSpec := { name := "fnExactPackSections", fn := fun _ => fun
  | [d1, d2, d3] => { results := [.lit (.bool true)], args := [d1, d2, d3] }
  | _ => none }
def fnExactPackSectionsRow : OpenClaim := { program := "ytnngbnhdcknfnaa", sum := "25bb22632df38edece4e0e65404aefaa6d7cc46c99e663acfddf373883882b33", func := "loop.example/g01311/laws.FnExactPackSections", spec := "fnExactPackSections", plainKeys := false, apart := false }
def FnExactPackSectionsSaid : Prop := fnExactPackSectionsRow.holds Try.pinned (OpenSpec.ofChange fnExactPackSectionsSpec)

/-- ITS FALSE NEIGHBOUR: 'it returns false'. Refute it at one input. -/
def fnExactPackSectionsWrong : ChangeSpec := { name := "fnExactPackSections", fn := fun _ => fun
  | [d1, d2, d3] => { results := [.lit (.bool false)], args := [d1, d2, d3] }
  | _ => none }
def FnExactPackSectionsWrongFalsely : Prop := fnExactPackSectionsRow.holds Try.pinned (OpenSpec.ofChange fnExactPackSectionsWrong)

/- THE SECOND FORM. 'bulk': how many values and letters a reading holds, each counted each time it is reached (what is shared counts as often as it is met; a slice's spare places count too). A statement '..UptoSaid' is the law's where the arguments, and the package variables that the reading takes, are together of bulk at most 1048576: NARROWER than '..Said'. Prove '..Said' where nothing that the law and all that it calls make is longer than what came in: it says more and counts as full. Else prove '..UptoSaid'. A law counts once. -/
mutual
def uptoBulk {H : Type} : DataW H → Nat
  | .lit (.string bytes) => bytes.length + 1
  | .lit _ => 1
  | .nil => 1
  | .ptr d => uptoBulk d + 1
  | .slice elems spare => uptoBulkAll elems + uptoBulkAll spare + 1
  | .agg parts => uptoBulkAll parts + 1
  | .iface _ d => uptoBulk d + 1
  | .map entries => uptoBulkEntries entries + 1
  | .held _ => 1
def uptoBulkAll {H : Type} : List (DataW H) → Nat
  | [] => 0
  | d :: r => uptoBulk d + uptoBulkAll r
def uptoBulkEntries {H : Type} : List (Lit × DataW H) → Nat
  | [] => 0
  | x :: r => uptoBulkEntry x + uptoBulkEntries r
def uptoBulkEntry {H : Type} : Lit × DataW H → Nat
  | (.string bytes, d) => bytes.length + uptoBulk d + 1
  | (_, d) => uptoBulk d + 1
 end
def uptoSmall : (H : Type) → List (DataW H) → Bool := fun _ ds => decide (uptoBulkAll ds ≤ 1048576)
def OpenSpec.upto (s : _root_.Go.ChangeSpec) : _root_.Go.OpenSpec := { _root_.Go.OpenSpec.ofChange s with cond := some uptoSmall }

/-- 'laws.FnExactValidProgramme', WHERE WHAT IT READS IS OF BULK AT MOST 1048576: true; the input reads as it did. -/
def fnExactValidProgrammeUptoRow : OpenClaim := { program := "ytnngbnhdcknfnaa", sum := "25bb22632df38edece4e0e65404aefaa6d7cc46c99e663acfddf373883882b33", func := "loop.example/g01311/laws.FnExactValidProgramme", spec := "fnExactValidProgramme", unfollowed := true, recurses := true, plainKeys := false, apart := false, narrowed := true }
def FnExactValidProgrammeUptoSaid : Prop := fnExactValidProgrammeUptoRow.holds Try.pinned (OpenSpec.upto fnExactValidProgrammeSpec)

/-- 'laws.FnExactSameProgramme', WHERE WHAT IT READS IS OF BULK AT MOST 1048576: true; the input reads as it did. -/
def fnExactSameProgrammeUptoRow : OpenClaim := { program := "ytnngbnhdcknfnaa", sum := "25bb22632df38edece4e0e65404aefaa6d7cc46c99e663acfddf373883882b33", func := "loop.example/g01311/laws.FnExactSameProgramme", spec := "fnExactSameProgramme", plainKeys := false, apart := false, narrowed := true }
def FnExactSameProgrammeUptoSaid : Prop := fnExactSameProgrammeUptoRow.holds Try.pinned (OpenSpec.upto fnExactSameProgrammeSpec)

/-- 'laws.FnExactStrikeTune', WHERE WHAT IT READS IS OF BULK AT MOST 1048576: true; the input reads as it did. -/
def fnExactStrikeTuneUptoRow : OpenClaim := { program := "ytnngbnhdcknfnaa", sum := "25bb22632df38edece4e0e65404aefaa6d7cc46c99e663acfddf373883882b33", func := "loop.example/g01311/laws.FnExactStrikeTune", spec := "fnExactStrikeTune", plainKeys := false, apart := false, narrowed := true }
def FnExactStrikeTuneUptoSaid : Prop := fnExactStrikeTuneUptoRow.holds Try.pinned (OpenSpec.upto fnExactStrikeTuneSpec)

/-- 'laws.FnExactNextChime', WHERE WHAT IT READS IS OF BULK AT MOST 1048576: true; the input reads as it did. -/
def fnExactNextChimeUptoRow : OpenClaim := { program := "ytnngbnhdcknfnaa", sum := "25bb22632df38edece4e0e65404aefaa6d7cc46c99e663acfddf373883882b33", func := "loop.example/g01311/laws.FnExactNextChime", spec := "fnExactNextChime", unfollowed := true, recurses := true, plainKeys := false, apart := false, narrowed := true }
def FnExactNextChimeUptoSaid : Prop := fnExactNextChimeUptoRow.holds Try.pinned (OpenSpec.upto fnExactNextChimeSpec)

/-- 'laws.FnExactSilentQuarters', WHERE WHAT IT READS IS OF BULK AT MOST 1048576: true; the input reads as it did. -/
def fnExactSilentQuartersUptoRow : OpenClaim := { program := "ytnngbnhdcknfnaa", sum := "25bb22632df38edece4e0e65404aefaa6d7cc46c99e663acfddf373883882b33", func := "loop.example/g01311/laws.FnExactSilentQuarters", spec := "fnExactSilentQuarters", unfollowed := true, recurses := true, plainKeys := false, apart := false, narrowed := true }
def FnExactSilentQuartersUptoSaid : Prop := fnExactSilentQuartersUptoRow.holds Try.pinned (OpenSpec.upto fnExactSilentQuartersSpec)

/-- 'laws.FnExactCountPlays', WHERE WHAT IT READS IS OF BULK AT MOST 1048576: true; the input reads as it did. -/
def fnExactCountPlaysUptoRow : OpenClaim := { program := "ytnngbnhdcknfnaa", sum := "25bb22632df38edece4e0e65404aefaa6d7cc46c99e663acfddf373883882b33", func := "loop.example/g01311/laws.FnExactCountPlays", spec := "fnExactCountPlays", unfollowed := true, recurses := true, plainKeys := false, apart := false, narrowed := true }
def FnExactCountPlaysUptoSaid : Prop := fnExactCountPlaysUptoRow.holds Try.pinned (OpenSpec.upto fnExactCountPlaysSpec)

/-- 'laws.FnExactStepsTo', WHERE WHAT IT READS IS OF BULK AT MOST 1048576: true; the input reads as it did. -/
def fnExactStepsToUptoRow : OpenClaim := { program := "ytnngbnhdcknfnaa", sum := "25bb22632df38edece4e0e65404aefaa6d7cc46c99e663acfddf373883882b33", func := "loop.example/g01311/laws.FnExactStepsTo", spec := "fnExactStepsTo", unfollowed := true, recurses := true, plainKeys := false, apart := false, narrowed := true }
def FnExactStepsToUptoSaid : Prop := fnExactStepsToUptoRow.holds Try.pinned (OpenSpec.upto fnExactStepsToSpec)

/-- 'laws.FnExactStepsInDay', WHERE WHAT IT READS IS OF BULK AT MOST 1048576: true; the input reads as it did. -/
def fnExactStepsInDayUptoRow : OpenClaim := { program := "ytnngbnhdcknfnaa", sum := "25bb22632df38edece4e0e65404aefaa6d7cc46c99e663acfddf373883882b33", func := "loop.example/g01311/laws.FnExactStepsInDay", spec := "fnExactStepsInDay", unfollowed := true, recurses := true, plainKeys := false, apart := false, narrowed := true }
def FnExactStepsInDayUptoSaid : Prop := fnExactStepsInDayUptoRow.holds Try.pinned (OpenSpec.upto fnExactStepsInDaySpec)

/-- 'laws.FnExactSectionAt', WHERE WHAT IT READS IS OF BULK AT MOST 1048576: true; the input reads as it did. -/
def fnExactSectionAtUptoRow : OpenClaim := { program := "ytnngbnhdcknfnaa", sum := "25bb22632df38edece4e0e65404aefaa6d7cc46c99e663acfddf373883882b33", func := "loop.example/g01311/laws.FnExactSectionAt", spec := "fnExactSectionAt", unfollowed := true, recurses := true, plainKeys := false, apart := false, narrowed := true }
def FnExactSectionAtUptoSaid : Prop := fnExactSectionAtUptoRow.holds Try.pinned (OpenSpec.upto fnExactSectionAtSpec)

/-- 'laws.FnExactPackSections', WHERE WHAT IT READS IS OF BULK AT MOST 1048576: true; the input reads as it did. -/
def fnExactPackSectionsUptoRow : OpenClaim := { program := "ytnngbnhdcknfnaa", sum := "25bb22632df38edece4e0e65404aefaa6d7cc46c99e663acfddf373883882b33", func := "loop.example/g01311/laws.FnExactPackSections", spec := "fnExactPackSections", plainKeys := false, apart := false, narrowed := true }
def FnExactPackSectionsUptoSaid : Prop := fnExactPackSectionsUptoRow.holds Try.pinned (OpenSpec.upto fnExactPackSectionsSpec)

end Rows
end Go.Proofs.Ytnngbnhdcknfnaa
