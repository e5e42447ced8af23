/-
  No cell of these rows narrows 'for every input' (looked for: loops, veiled, ifaces, maps, wideKeys, modest, calm, conditions, laid).
  DERIVED. THE GIVEN ROWS OF THIS SEAT. 8 by the template 'for every input the law returns true; each argument reads behind the call as it read before'; 0 by the template 'total and deterministic' (their statements: YtakdnmakgblamaaTotals.lean).
  GIVEN WITH THE SEED: the statements are not yours to turn. If you find one false, say at which input.
  Laid BY PROGRAM, IN A SANDBOX (cutbox-rows.mjs): the forced cells as the released guide's own fill.sh prints them over the translation 7105bfe34da5a7c3… (all of the seat's roots in one cut). By AI agents, Wed Nov 11 2026. No macro, syntax, notation, axiom, sorry.
-/
import Derived.Test.YtakdnmakgblamaaChecked
import GoSem.Claim
import GoSem.ClaimJoined
import GoSem.ClaimMapViews
import Derived.JoinedTies
import Derived.KernelRfl
namespace Go.Proofs.Ytakdnmakgblamaa
/- THE CELL 'sum', in the pinned program and in every row, IS THE sha256 OF THE DUMP (.gsa) THAT YtakdnmakgblamaaProg.lean LOADS. Nothing in Lean hashes anything: it is a label: what it is worth is what the hold of that sum in a sandbox is worth. -/
noncomputable def Try.pinned : Pinned := { name := "ytakdnmakgblamaa", sum := "7105bfe34da5a7c3c5dc2e9c2a443e04d3d0854dd98ca1e8a135f2f18f126e09", checked := Try.checked }
namespace Rows
def none {H : Type} : Left H := { results := [], args := [] }

/-- 'laws.FnExactValidLives': WHATEVER THE INPUT: true; the input reads as it did. -/
def fnExactValidLivesSpec : ChangeSpec := { name := "fnExactValidLives", fn := fun _ => fun
  | [d] => { results := [.lit (.bool true)], args := [d] }
  | _ => none }
def fnExactValidLivesRow : OpenClaim := { program := "ytakdnmakgblamaa", sum := "7105bfe34da5a7c3c5dc2e9c2a443e04d3d0854dd98ca1e8a135f2f18f126e09", func := "loop.example/g01311/laws.FnExactValidLives", spec := "fnExactValidLives", plainKeys := false, apart := false }
def FnExactValidLivesSaid : Prop := fnExactValidLivesRow.holds Try.pinned (OpenSpec.ofChange fnExactValidLivesSpec)

/-- ITS FALSE NEIGHBOUR: 'it returns false'. Refute it at one input. -/
def fnExactValidLivesWrong : ChangeSpec := { name := "fnExactValidLives", fn := fun _ => fun
  | [d] => { results := [.lit (.bool false)], args := [d] }
  | _ => none }
def FnExactValidLivesWrongFalsely : Prop := fnExactValidLivesRow.holds Try.pinned (OpenSpec.ofChange fnExactValidLivesWrong)

/-- 'laws.FnExactValidWear': WHATEVER THE INPUT: true; the input reads as it did. -/
def fnExactValidWearSpec : ChangeSpec := { name := "fnExactValidWear", fn := fun _ => fun
  | [d1, d2] => { results := [.lit (.bool true)], args := [d1, d2] }
  | _ => none }
def fnExactValidWearRow : OpenClaim := { program := "ytakdnmakgblamaa", sum := "7105bfe34da5a7c3c5dc2e9c2a443e04d3d0854dd98ca1e8a135f2f18f126e09", func := "loop.example/g01311/laws.FnExactValidWear", spec := "fnExactValidWear", unfollowed := true, recurses := true, plainKeys := false, apart := false }
def FnExactValidWearSaid : Prop := fnExactValidWearRow.holds Try.pinned (OpenSpec.ofChange fnExactValidWearSpec)

/-- ITS FALSE NEIGHBOUR: 'it returns false'. Refute it at one input. -/
def fnExactValidWearWrong : ChangeSpec := { name := "fnExactValidWear", fn := fun _ => fun
  | [d1, d2] => { results := [.lit (.bool false)], args := [d1, d2] }
  | _ => none }
def FnExactValidWearWrongFalsely : Prop := fnExactValidWearRow.holds Try.pinned (OpenSpec.ofChange fnExactValidWearWrong)

/-- 'laws.FnExactSameWear': WHATEVER THE INPUT: true; the input reads as it did. -/
def fnExactSameWearSpec : ChangeSpec := { name := "fnExactSameWear", fn := fun _ => fun
  | [d1, d2] => { results := [.lit (.bool true)], args := [d1, d2] }
  | _ => none }
def fnExactSameWearRow : OpenClaim := { program := "ytakdnmakgblamaa", sum := "7105bfe34da5a7c3c5dc2e9c2a443e04d3d0854dd98ca1e8a135f2f18f126e09", func := "loop.example/g01311/laws.FnExactSameWear", spec := "fnExactSameWear", plainKeys := false, apart := false }
def FnExactSameWearSaid : Prop := fnExactSameWearRow.holds Try.pinned (OpenSpec.ofChange fnExactSameWearSpec)

/-- ITS FALSE NEIGHBOUR: 'it returns false'. Refute it at one input. -/
def fnExactSameWearWrong : ChangeSpec := { name := "fnExactSameWear", fn := fun _ => fun
  | [d1, d2] => { results := [.lit (.bool false)], args := [d1, d2] }
  | _ => none }
def FnExactSameWearWrongFalsely : Prop := fnExactSameWearRow.holds Try.pinned (OpenSpec.ofChange fnExactSameWearWrong)

/-- 'laws.FnExactDrumOfWear': WHATEVER THE INPUT: true; the input reads as it did. -/
def fnExactDrumOfWearSpec : ChangeSpec := { name := "fnExactDrumOfWear", fn := fun _ => fun
  | [d1, d2] => { results := [.lit (.bool true)], args := [d1, d2] }
  | _ => none }
def fnExactDrumOfWearRow : OpenClaim := { program := "ytakdnmakgblamaa", sum := "7105bfe34da5a7c3c5dc2e9c2a443e04d3d0854dd98ca1e8a135f2f18f126e09", func := "loop.example/g01311/laws.FnExactDrumOfWear", spec := "fnExactDrumOfWear", unfollowed := true, recurses := true, plainKeys := false, apart := false }
def FnExactDrumOfWearSaid : Prop := fnExactDrumOfWearRow.holds Try.pinned (OpenSpec.ofChange fnExactDrumOfWearSpec)

/-- ITS FALSE NEIGHBOUR: 'it returns false'. Refute it at one input. -/
def fnExactDrumOfWearWrong : ChangeSpec := { name := "fnExactDrumOfWear", fn := fun _ => fun
  | [d1, d2] => { results := [.lit (.bool false)], args := [d1, d2] }
  | _ => none }
def FnExactDrumOfWearWrongFalsely : Prop := fnExactDrumOfWearRow.holds Try.pinned (OpenSpec.ofChange fnExactDrumOfWearWrong)

/-- 'laws.FnExactWornOut': WHATEVER THE INPUT: true; the input reads as it did. -/
def fnExactWornOutSpec : ChangeSpec := { name := "fnExactWornOut", fn := fun _ => fun
  | [d1, d2, d3] => { results := [.lit (.bool true)], args := [d1, d2, d3] }
  | _ => none }
def fnExactWornOutRow : OpenClaim := { program := "ytakdnmakgblamaa", sum := "7105bfe34da5a7c3c5dc2e9c2a443e04d3d0854dd98ca1e8a135f2f18f126e09", func := "loop.example/g01311/laws.FnExactWornOut", spec := "fnExactWornOut", unfollowed := true, recurses := true, plainKeys := false, apart := false }
def FnExactWornOutSaid : Prop := fnExactWornOutRow.holds Try.pinned (OpenSpec.ofChange fnExactWornOutSpec)

/-- ITS FALSE NEIGHBOUR: 'it returns false'. Refute it at one input. -/
def fnExactWornOutWrong : ChangeSpec := { name := "fnExactWornOut", fn := fun _ => fun
  | [d1, d2, d3] => { results := [.lit (.bool false)], args := [d1, d2, d3] }
  | _ => none }
def FnExactWornOutWrongFalsely : Prop := fnExactWornOutRow.holds Try.pinned (OpenSpec.ofChange fnExactWornOutWrong)

/-- 'laws.FnExactNewHammer': WHATEVER THE INPUT: true; the input reads as it did. -/
def fnExactNewHammerSpec : ChangeSpec := { name := "fnExactNewHammer", fn := fun _ => fun
  | [d1, d2, d3] => { results := [.lit (.bool true)], args := [d1, d2, d3] }
  | _ => none }
def fnExactNewHammerRow : OpenClaim := { program := "ytakdnmakgblamaa", sum := "7105bfe34da5a7c3c5dc2e9c2a443e04d3d0854dd98ca1e8a135f2f18f126e09", func := "loop.example/g01311/laws.FnExactNewHammer", spec := "fnExactNewHammer", unfollowed := true, recurses := true, plainKeys := false, apart := false }
def FnExactNewHammerSaid : Prop := fnExactNewHammerRow.holds Try.pinned (OpenSpec.ofChange fnExactNewHammerSpec)

/-- ITS FALSE NEIGHBOUR: 'it returns false'. Refute it at one input. -/
def fnExactNewHammerWrong : ChangeSpec := { name := "fnExactNewHammer", fn := fun _ => fun
  | [d1, d2, d3] => { results := [.lit (.bool false)], args := [d1, d2, d3] }
  | _ => none }
def FnExactNewHammerWrongFalsely : Prop := fnExactNewHammerRow.holds Try.pinned (OpenSpec.ofChange fnExactNewHammerWrong)

/-- 'laws.FnExactFirstBreak': WHATEVER THE INPUT: true; the input reads as it did. -/
def fnExactFirstBreakSpec : ChangeSpec := { name := "fnExactFirstBreak", fn := fun _ => fun
  | [d1, d2, d3, d4] => { results := [.lit (.bool true)], args := [d1, d2, d3, d4] }
  | _ => none }
def fnExactFirstBreakRow : OpenClaim := { program := "ytakdnmakgblamaa", sum := "7105bfe34da5a7c3c5dc2e9c2a443e04d3d0854dd98ca1e8a135f2f18f126e09", func := "loop.example/g01311/laws.FnExactFirstBreak", spec := "fnExactFirstBreak", unfollowed := true, recurses := true, plainKeys := false, apart := false }
def FnExactFirstBreakSaid : Prop := fnExactFirstBreakRow.holds Try.pinned (OpenSpec.ofChange fnExactFirstBreakSpec)

/-- ITS FALSE NEIGHBOUR: 'it returns false'. Refute it at one input. -/
def fnExactFirstBreakWrong : ChangeSpec := { name := "fnExactFirstBreak", fn := fun _ => fun
  | [d1, d2, d3, d4] => { results := [.lit (.bool false)], args := [d1, d2, d3, d4] }
  | _ => none }
def FnExactFirstBreakWrongFalsely : Prop := fnExactFirstBreakRow.holds Try.pinned (OpenSpec.ofChange fnExactFirstBreakWrong)

/-- 'laws.FnExactPartsFor': WHATEVER THE INPUT: true; the input reads as it did. -/
def fnExactPartsForSpec : ChangeSpec := { name := "fnExactPartsFor", fn := fun _ => fun
  | [d1, d2, d3, d4] => { results := [.lit (.bool true)], args := [d1, d2, d3, d4] }
  | _ => none }
def fnExactPartsForRow : OpenClaim := { program := "ytakdnmakgblamaa", sum := "7105bfe34da5a7c3c5dc2e9c2a443e04d3d0854dd98ca1e8a135f2f18f126e09", func := "loop.example/g01311/laws.FnExactPartsFor", spec := "fnExactPartsFor", unfollowed := true, recurses := true, plainKeys := false, apart := false }
def FnExactPartsForSaid : Prop := fnExactPartsForRow.holds Try.pinned (OpenSpec.ofChange fnExactPartsForSpec)

/-- ITS FALSE NEIGHBOUR: 'it returns false'. Refute it at one input. -/
def fnExactPartsForWrong : ChangeSpec := { name := "fnExactPartsFor", fn := fun _ => fun
  | [d1, d2, d3, d4] => { results := [.lit (.bool false)], args := [d1, d2, d3, d4] }
  | _ => none }
def FnExactPartsForWrongFalsely : Prop := fnExactPartsForRow.holds Try.pinned (OpenSpec.ofChange fnExactPartsForWrong)

/- THE SECOND FORM. 'bulk': how many values and letters a reading holds, each counted each time it is reached (what is shared counts as often as it is met; a slice's spare places count too). A statement '..UptoSaid' is the law's where the arguments, and the package variables that the reading takes, are together of bulk at most 1048576: NARROWER than '..Said'. Prove '..Said' where nothing that the law and all that it calls make is longer than what came in: it says more and counts as full. Else prove '..UptoSaid'. A law counts once. -/
mutual
def uptoBulk {H : Type} : DataW H → Nat
  | .lit (.string bytes) => bytes.length + 1
  | .lit _ => 1
  | .nil => 1
  | .ptr d => uptoBulk d + 1
  | .slice elems spare => uptoBulkAll elems + uptoBulkAll spare + 1
  | .agg parts => uptoBulkAll parts + 1
  | .iface _ d => uptoBulk d + 1
  | .map entries => uptoBulkEntries entries + 1
  | .held _ => 1
def uptoBulkAll {H : Type} : List (DataW H) → Nat
  | [] => 0
  | d :: r => uptoBulk d + uptoBulkAll r
def uptoBulkEntries {H : Type} : List (Lit × DataW H) → Nat
  | [] => 0
  | x :: r => uptoBulkEntry x + uptoBulkEntries r
def uptoBulkEntry {H : Type} : Lit × DataW H → Nat
  | (.string bytes, d) => bytes.length + uptoBulk d + 1
  | (_, d) => uptoBulk d + 1
 end
def uptoSmall : (H : Type) → List (DataW H) → Bool := fun _ ds => decide (uptoBulkAll ds ≤ 1048576)
def OpenSpec.upto (s : _root_.Go.ChangeSpec) : _root_.Go.OpenSpec := { _root_.Go.OpenSpec.ofChange s with cond := some uptoSmall }

/-- 'laws.FnExactValidLives', WHERE WHAT IT READS IS OF BULK AT MOST 1048576: true; the input reads as it did. -/
def fnExactValidLivesUptoRow : OpenClaim := { program := "ytakdnmakgblamaa", sum := "7105bfe34da5a7c3c5dc2e9c2a443e04d3d0854dd98ca1e8a135f2f18f126e09", func := "loop.example/g01311/laws.FnExactValidLives", spec := "fnExactValidLives", plainKeys := false, apart := false, narrowed := true }
def FnExactValidLivesUptoSaid : Prop := fnExactValidLivesUptoRow.holds Try.pinned (OpenSpec.upto fnExactValidLivesSpec)

/-- 'laws.FnExactValidWear', WHERE WHAT IT READS IS OF BULK AT MOST 1048576: true; the input reads as it did. -/
def fnExactValidWearUptoRow : OpenClaim := { program := "ytakdnmakgblamaa", sum := "7105bfe34da5a7c3c5dc2e9c2a443e04d3d0854dd98ca1e8a135f2f18f126e09", func := "loop.example/g01311/laws.FnExactValidWear", spec := "fnExactValidWear", unfollowed := true, recurses := true, plainKeys := false, apart := false, narrowed := true }
def FnExactValidWearUptoSaid : Prop := fnExactValidWearUptoRow.holds Try.pinned (OpenSpec.upto fnExactValidWearSpec)

/-- 'laws.FnExactSameWear', WHERE WHAT IT READS IS OF BULK AT MOST 1048576: true; the input reads as it did. -/
def fnExactSameWearUptoRow : OpenClaim := { program := "ytakdnmakgblamaa", sum := "7105bfe34da5a7c3c5dc2e9c2a443e04d3d0854dd98ca1e8a135f2f18f126e09", func := "loop.example/g01311/laws.FnExactSameWear", spec := "fnExactSameWear", plainKeys := false, apart := false, narrowed := true }
def FnExactSameWearUptoSaid : Prop := fnExactSameWearUptoRow.holds Try.pinned (OpenSpec.upto fnExactSameWearSpec)

/-- 'laws.FnExactDrumOfWear', WHERE WHAT IT READS IS OF BULK AT MOST 1048576: true; the input reads as it did. -/
def fnExactDrumOfWearUptoRow : OpenClaim := { program := "ytakdnmakgblamaa", sum := "7105bfe34da5a7c3c5dc2e9c2a443e04d3d0854dd98ca1e8a135f2f18f126e09", func := "loop.example/g01311/laws.FnExactDrumOfWear", spec := "fnExactDrumOfWear", unfollowed := true, recurses := true, plainKeys := false, apart := false, narrowed := true }
def FnExactDrumOfWearUptoSaid : Prop := fnExactDrumOfWearUptoRow.holds Try.pinned (OpenSpec.upto fnExactDrumOfWearSpec)

/-- 'laws.FnExactWornOut', WHERE WHAT IT READS IS OF BULK AT MOST 1048576: true; the input reads as it did. -/
def fnExactWornOutUptoRow : OpenClaim := { program := "ytakdnmakgblamaa", sum := "7105bfe34da5a7c3c5dc2e9c2a443e04d3d0854dd98ca1e8a135f2f18f126e09", func := "loop.example/g01311/laws.FnExactWornOut", spec := "fnExactWornOut", unfollowed := true, recurses := true, plainKeys := false, apart := false, narrowed := true }
def FnExactWornOutUptoSaid : Prop := fnExactWornOutUptoRow.holds Try.pinned (OpenSpec.upto fnExactWornOutSpec)

/-- 'laws.FnExactNewHammer', WHERE WHAT IT READS IS OF BULK AT MOST 1048576: true; the input reads as it did. -/
def fnExactNewHammerUptoRow : OpenClaim := { program := "ytakdnmakgblamaa", sum := "7105bfe34da5a7c3c5dc2e9c2a443e04d3d0854dd98ca1e8a135f2f18f126e09", func := "loop.example/g01311/laws.FnExactNewHammer", spec := "fnExactNewHammer", unfollowed := true, recurses := true, plainKeys := false, apart := false, narrowed := true }
def FnExactNewHammerUptoSaid : Prop := fnExactNewHammerUptoRow.holds Try.pinned (OpenSpec.upto fnExactNewHammerSpec)

/-- 'laws.FnExactFirstBreak', WHERE WHAT IT READS IS OF BULK AT MOST 1048576: true; the input reads as it did. -/
def fnExactFirstBreakUptoRow : OpenClaim := { program := "ytakdnmakgblamaa", sum := "7105bfe34da5a7c3c5dc2e9c2a443e04d3d0854dd98ca1e8a135f2f18f126e09", func := "loop.example/g01311/laws.FnExactFirstBreak", spec := "fnExactFirstBreak", unfollowed := true, recurses := true, plainKeys := false, apart := false, narrowed := true }
def FnExactFirstBreakUptoSaid : Prop := fnExactFirstBreakUptoRow.holds Try.pinned (OpenSpec.upto fnExactFirstBreakSpec)

/-- 'laws.FnExactPartsFor', WHERE WHAT IT READS IS OF BULK AT MOST 1048576: true; the input reads as it did. -/
def fnExactPartsForUptoRow : OpenClaim := { program := "ytakdnmakgblamaa", sum := "7105bfe34da5a7c3c5dc2e9c2a443e04d3d0854dd98ca1e8a135f2f18f126e09", func := "loop.example/g01311/laws.FnExactPartsFor", spec := "fnExactPartsFor", unfollowed := true, recurses := true, plainKeys := false, apart := false, narrowed := true }
def FnExactPartsForUptoSaid : Prop := fnExactPartsForUptoRow.holds Try.pinned (OpenSpec.upto fnExactPartsForSpec)

end Rows
end Go.Proofs.Ytakdnmakgblamaa
