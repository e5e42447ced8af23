/-
  No cell of these rows narrows 'for every input' (looked for: loops, veiled, ifaces, maps, wideKeys, modest, calm, conditions, laid).
  DERIVED. THE GIVEN ROWS OF THIS SEAT. 8 by the template 'for every input the law returns true; each argument reads behind the call as it read before'; 0 by the template 'total and deterministic' (their statements: YtcocfnjbgceidaaTotals.lean).
  GIVEN WITH THE SEED: the statements are not yours to turn. If you find one false, say at which input.
  Laid BY PROGRAM, IN A SANDBOX (cutbox-rows.mjs): the forced cells as the released guide's own fill.sh prints them over the translation 595d7629c72f24c3… (all of the seat's roots in one cut). By AI agents, Wed Nov 11 2026. No macro, syntax, notation, axiom, sorry.
-/
import Derived.Test.YtcocfnjbgceidaaChecked
import GoSem.Claim
import GoSem.ClaimJoined
import GoSem.ClaimMapViews
import Derived.JoinedTies
import Derived.KernelRfl
namespace Go.Proofs.Ytcocfnjbgceidaa
/- THE CELL 'sum', in the pinned program and in every row, IS THE sha256 OF THE DUMP (.gsa) THAT YtcocfnjbgceidaaProg.lean LOADS. Nothing in Lean hashes anything: it is a label: what it is worth is what the hold of that sum in a sandbox is worth. -/
noncomputable def Try.pinned : Pinned := { name := "ytcocfnjbgceidaa", sum := "595d7629c72f24c3111abf8808e136dc5d523b0bc454375b73838c47b1c657b8", checked := Try.checked }
namespace Rows
def none {H : Type} : Left H := { results := [], args := [] }

/-- 'laws.FnExactValidCosts': WHATEVER THE INPUT: true; the input reads as it did. -/
def fnExactValidCostsSpec : ChangeSpec := { name := "fnExactValidCosts", fn := fun _ => fun
  | [d] => { results := [.lit (.bool true)], args := [d] }
  | _ => none }
def fnExactValidCostsRow : OpenClaim := { program := "ytcocfnjbgceidaa", sum := "595d7629c72f24c3111abf8808e136dc5d523b0bc454375b73838c47b1c657b8", func := "loop.example/g01311/laws.FnExactValidCosts", spec := "fnExactValidCosts", plainKeys := false, apart := false }
def FnExactValidCostsSaid : Prop := fnExactValidCostsRow.holds Try.pinned (OpenSpec.ofChange fnExactValidCostsSpec)

/-- ITS FALSE NEIGHBOUR: 'it returns false'. Refute it at one input. -/
def fnExactValidCostsWrong : ChangeSpec := { name := "fnExactValidCosts", fn := fun _ => fun
  | [d] => { results := [.lit (.bool false)], args := [d] }
  | _ => none }
def FnExactValidCostsWrongFalsely : Prop := fnExactValidCostsRow.holds Try.pinned (OpenSpec.ofChange fnExactValidCostsWrong)

/-- 'laws.FnExactValidChoice': WHATEVER THE INPUT: true; the input reads as it did. -/
def fnExactValidChoiceSpec : ChangeSpec := { name := "fnExactValidChoice", fn := fun _ => fun
  | [d] => { results := [.lit (.bool true)], args := [d] }
  | _ => none }
def fnExactValidChoiceRow : OpenClaim := { program := "ytcocfnjbgceidaa", sum := "595d7629c72f24c3111abf8808e136dc5d523b0bc454375b73838c47b1c657b8", func := "loop.example/g01311/laws.FnExactValidChoice", spec := "fnExactValidChoice", plainKeys := false, apart := false }
def FnExactValidChoiceSaid : Prop := fnExactValidChoiceRow.holds Try.pinned (OpenSpec.ofChange fnExactValidChoiceSpec)

/-- ITS FALSE NEIGHBOUR: 'it returns false'. Refute it at one input. -/
def fnExactValidChoiceWrong : ChangeSpec := { name := "fnExactValidChoice", fn := fun _ => fun
  | [d] => { results := [.lit (.bool false)], args := [d] }
  | _ => none }
def FnExactValidChoiceWrongFalsely : Prop := fnExactValidChoiceRow.holds Try.pinned (OpenSpec.ofChange fnExactValidChoiceWrong)

/-- 'laws.FnExactCostOf': WHATEVER THE INPUT: true; the input reads as it did. -/
def fnExactCostOfSpec : ChangeSpec := { name := "fnExactCostOf", fn := fun _ => fun
  | [d1, d2] => { results := [.lit (.bool true)], args := [d1, d2] }
  | _ => none }
def fnExactCostOfRow : OpenClaim := { program := "ytcocfnjbgceidaa", sum := "595d7629c72f24c3111abf8808e136dc5d523b0bc454375b73838c47b1c657b8", func := "loop.example/g01311/laws.FnExactCostOf", spec := "fnExactCostOf", unfollowed := true, recurses := true, plainKeys := false, apart := false }
def FnExactCostOfSaid : Prop := fnExactCostOfRow.holds Try.pinned (OpenSpec.ofChange fnExactCostOfSpec)

/-- ITS FALSE NEIGHBOUR: 'it returns false'. Refute it at one input. -/
def fnExactCostOfWrong : ChangeSpec := { name := "fnExactCostOf", fn := fun _ => fun
  | [d1, d2] => { results := [.lit (.bool false)], args := [d1, d2] }
  | _ => none }
def FnExactCostOfWrongFalsely : Prop := fnExactCostOfRow.holds Try.pinned (OpenSpec.ofChange fnExactCostOfWrong)

/-- 'laws.FnExactFirstBreak': WHATEVER THE INPUT: true; the input reads as it did. -/
def fnExactFirstBreakSpec : ChangeSpec := { name := "fnExactFirstBreak", fn := fun _ => fun
  | [d1, d2, d3, d4] => { results := [.lit (.bool true)], args := [d1, d2, d3, d4] }
  | _ => none }
def fnExactFirstBreakRow : OpenClaim := { program := "ytcocfnjbgceidaa", sum := "595d7629c72f24c3111abf8808e136dc5d523b0bc454375b73838c47b1c657b8", func := "loop.example/g01311/laws.FnExactFirstBreak", spec := "fnExactFirstBreak", unfollowed := true, recurses := true, plainKeys := false, apart := false }
def FnExactFirstBreakSaid : Prop := fnExactFirstBreakRow.holds Try.pinned (OpenSpec.ofChange fnExactFirstBreakSpec)

/-- ITS FALSE NEIGHBOUR: 'it returns false'. Refute it at one input. -/
def fnExactFirstBreakWrong : ChangeSpec := { name := "fnExactFirstBreak", fn := fun _ => fun
  | [d1, d2, d3, d4] => { results := [.lit (.bool false)], args := [d1, d2, d3, d4] }
  | _ => none }
def FnExactFirstBreakWrongFalsely : Prop := fnExactFirstBreakRow.holds Try.pinned (OpenSpec.ofChange fnExactFirstBreakWrong)

/-- 'laws.FnExactWornOut': WHATEVER THE INPUT: true; the input reads as it did. -/
def fnExactWornOutSpec : ChangeSpec := { name := "fnExactWornOut", fn := fun _ => fun
  | [d1, d2, d3] => { results := [.lit (.bool true)], args := [d1, d2, d3] }
  | _ => none }
def fnExactWornOutRow : OpenClaim := { program := "ytcocfnjbgceidaa", sum := "595d7629c72f24c3111abf8808e136dc5d523b0bc454375b73838c47b1c657b8", func := "loop.example/g01311/laws.FnExactWornOut", spec := "fnExactWornOut", unfollowed := true, recurses := true, plainKeys := false, apart := false }
def FnExactWornOutSaid : Prop := fnExactWornOutRow.holds Try.pinned (OpenSpec.ofChange fnExactWornOutSpec)

/-- ITS FALSE NEIGHBOUR: 'it returns false'. Refute it at one input. -/
def fnExactWornOutWrong : ChangeSpec := { name := "fnExactWornOut", fn := fun _ => fun
  | [d1, d2, d3] => { results := [.lit (.bool false)], args := [d1, d2, d3] }
  | _ => none }
def FnExactWornOutWrongFalsely : Prop := fnExactWornOutRow.holds Try.pinned (OpenSpec.ofChange fnExactWornOutWrong)

/-- 'laws.FnExactPartsFor': WHATEVER THE INPUT: true; the input reads as it did. -/
def fnExactPartsForSpec : ChangeSpec := { name := "fnExactPartsFor", fn := fun _ => fun
  | [d1, d2, d3, d4] => { results := [.lit (.bool true)], args := [d1, d2, d3, d4] }
  | _ => none }
def fnExactPartsForRow : OpenClaim := { program := "ytcocfnjbgceidaa", sum := "595d7629c72f24c3111abf8808e136dc5d523b0bc454375b73838c47b1c657b8", func := "loop.example/g01311/laws.FnExactPartsFor", spec := "fnExactPartsFor", unfollowed := true, recurses := true, plainKeys := false, apart := false }
def FnExactPartsForSaid : Prop := fnExactPartsForRow.holds Try.pinned (OpenSpec.ofChange fnExactPartsForSpec)

/-- ITS FALSE NEIGHBOUR: 'it returns false'. Refute it at one input. -/
def fnExactPartsForWrong : ChangeSpec := { name := "fnExactPartsFor", fn := fun _ => fun
  | [d1, d2, d3, d4] => { results := [.lit (.bool false)], args := [d1, d2, d3, d4] }
  | _ => none }
def FnExactPartsForWrongFalsely : Prop := fnExactPartsForRow.holds Try.pinned (OpenSpec.ofChange fnExactPartsForWrong)

/-- 'laws.FnExactBoundFrom': WHATEVER THE INPUT: true; the input reads as it did. -/
def fnExactBoundFromSpec : ChangeSpec := { name := "fnExactBoundFrom", fn := fun _ => fun
  | [d1, d2, d3, d4] => { results := [.lit (.bool true)], args := [d1, d2, d3, d4] }
  | _ => none }
def fnExactBoundFromRow : OpenClaim := { program := "ytcocfnjbgceidaa", sum := "595d7629c72f24c3111abf8808e136dc5d523b0bc454375b73838c47b1c657b8", func := "loop.example/g01311/laws.FnExactBoundFrom", spec := "fnExactBoundFrom", unfollowed := true, recurses := true, plainKeys := false, apart := false }
def FnExactBoundFromSaid : Prop := fnExactBoundFromRow.holds Try.pinned (OpenSpec.ofChange fnExactBoundFromSpec)

/-- ITS FALSE NEIGHBOUR: 'it returns false'. Refute it at one input. -/
def fnExactBoundFromWrong : ChangeSpec := { name := "fnExactBoundFrom", fn := fun _ => fun
  | [d1, d2, d3, d4] => { results := [.lit (.bool false)], args := [d1, d2, d3, d4] }
  | _ => none }
def FnExactBoundFromWrongFalsely : Prop := fnExactBoundFromRow.holds Try.pinned (OpenSpec.ofChange fnExactBoundFromWrong)

/-- 'laws.FnExactLeastEach': WHATEVER THE INPUT: true; the input reads as it did. -/
def fnExactLeastEachSpec : ChangeSpec := { name := "fnExactLeastEach", fn := fun _ => fun
  | [d1, d2, d3] => { results := [.lit (.bool true)], args := [d1, d2, d3] }
  | _ => none }
def fnExactLeastEachRow : OpenClaim := { program := "ytcocfnjbgceidaa", sum := "595d7629c72f24c3111abf8808e136dc5d523b0bc454375b73838c47b1c657b8", func := "loop.example/g01311/laws.FnExactLeastEach", spec := "fnExactLeastEach", unfollowed := true, recurses := true, plainKeys := false, apart := false }
def FnExactLeastEachSaid : Prop := fnExactLeastEachRow.holds Try.pinned (OpenSpec.ofChange fnExactLeastEachSpec)

/-- ITS FALSE NEIGHBOUR: 'it returns false'. Refute it at one input. -/
def fnExactLeastEachWrong : ChangeSpec := { name := "fnExactLeastEach", fn := fun _ => fun
  | [d1, d2, d3] => { results := [.lit (.bool false)], args := [d1, d2, d3] }
  | _ => none }
def FnExactLeastEachWrongFalsely : Prop := fnExactLeastEachRow.holds Try.pinned (OpenSpec.ofChange fnExactLeastEachWrong)

/- THE SECOND FORM. 'bulk': how many values and letters a reading holds, each counted each time it is reached (what is shared counts as often as it is met; a slice's spare places count too). A statement '..UptoSaid' is the law's where the arguments, and the package variables that the reading takes, are together of bulk at most 1048576: NARROWER than '..Said'. Prove '..Said' where nothing that the law and all that it calls make is longer than what came in: it says more and counts as full. Else prove '..UptoSaid'. A law counts once. -/
mutual
def uptoBulk {H : Type} : DataW H → Nat
  | .lit (.string bytes) => bytes.length + 1
  | .lit _ => 1
  | .nil => 1
  | .ptr d => uptoBulk d + 1
  | .slice elems spare => uptoBulkAll elems + uptoBulkAll spare + 1
  | .agg parts => uptoBulkAll parts + 1
  | .iface _ d => uptoBulk d + 1
  | .map entries => uptoBulkEntries entries + 1
  | .held _ => 1
def uptoBulkAll {H : Type} : List (DataW H) → Nat
  | [] => 0
  | d :: r => uptoBulk d + uptoBulkAll r
def uptoBulkEntries {H : Type} : List (Lit × DataW H) → Nat
  | [] => 0
  | x :: r => uptoBulkEntry x + uptoBulkEntries r
def uptoBulkEntry {H : Type} : Lit × DataW H → Nat
  | (.string bytes, d) => bytes.length + uptoBulk d + 1
  | (_, d) => uptoBulk d + 1
 end
def uptoSmall : (H : Type) → List (DataW H) → Bool := fun _ ds => decide (uptoBulkAll ds ≤ 1048576)
def OpenSpec.upto (s : _root_.Go.ChangeSpec) : _root_.Go.OpenSpec := { _root_.Go.OpenSpec.ofChange s with cond := some uptoSmall }

/-- 'laws.FnExactValidCosts', WHERE WHAT IT READS IS OF BULK AT MOST 1048576: true; the input reads as it did. -/
def fnExactValidCostsUptoRow : OpenClaim := { program := "ytcocfnjbgceidaa", sum := "595d7629c72f24c3111abf8808e136dc5d523b0bc454375b73838c47b1c657b8", func := "loop.example/g01311/laws.FnExactValidCosts", spec := "fnExactValidCosts", plainKeys := false, apart := false, narrowed := true }
def FnExactValidCostsUptoSaid : Prop := fnExactValidCostsUptoRow.holds Try.pinned (OpenSpec.upto fnExactValidCostsSpec)

/-- 'laws.FnExactValidChoice', WHERE WHAT IT READS IS OF BULK AT MOST 1048576: true; the input reads as it did. -/
def fnExactValidChoiceUptoRow : OpenClaim := { program := "ytcocfnjbgceidaa", sum := "595d7629c72f24c3111abf8808e136dc5d523b0bc454375b73838c47b1c657b8", func := "loop.example/g01311/laws.FnExactValidChoice", spec := "fnExactValidChoice", plainKeys := false, apart := false, narrowed := true }
def FnExactValidChoiceUptoSaid : Prop := fnExactValidChoiceUptoRow.holds Try.pinned (OpenSpec.upto fnExactValidChoiceSpec)

/-- 'laws.FnExactCostOf', WHERE WHAT IT READS IS OF BULK AT MOST 1048576: true; the input reads as it did. -/
def fnExactCostOfUptoRow : OpenClaim := { program := "ytcocfnjbgceidaa", sum := "595d7629c72f24c3111abf8808e136dc5d523b0bc454375b73838c47b1c657b8", func := "loop.example/g01311/laws.FnExactCostOf", spec := "fnExactCostOf", unfollowed := true, recurses := true, plainKeys := false, apart := false, narrowed := true }
def FnExactCostOfUptoSaid : Prop := fnExactCostOfUptoRow.holds Try.pinned (OpenSpec.upto fnExactCostOfSpec)

/-- 'laws.FnExactFirstBreak', WHERE WHAT IT READS IS OF BULK AT MOST 1048576: true; the input reads as it did. -/
def fnExactFirstBreakUptoRow : OpenClaim := { program := "ytcocfnjbgceidaa", sum := "595d7629c72f24c3111abf8808e136dc5d523b0bc454375b73838c47b1c657b8", func := "loop.example/g01311/laws.FnExactFirstBreak", spec := "fnExactFirstBreak", unfollowed := true, recurses := true, plainKeys := false, apart := false, narrowed := true }
def FnExactFirstBreakUptoSaid : Prop := fnExactFirstBreakUptoRow.holds Try.pinned (OpenSpec.upto fnExactFirstBreakSpec)

/-- 'laws.FnExactWornOut', WHERE WHAT IT READS IS OF BULK AT MOST 1048576: true; the input reads as it did. -/
def fnExactWornOutUptoRow : OpenClaim := { program := "ytcocfnjbgceidaa", sum := "595d7629c72f24c3111abf8808e136dc5d523b0bc454375b73838c47b1c657b8", func := "loop.example/g01311/laws.FnExactWornOut", spec := "fnExactWornOut", unfollowed := true, recurses := true, plainKeys := false, apart := false, narrowed := true }
def FnExactWornOutUptoSaid : Prop := fnExactWornOutUptoRow.holds Try.pinned (OpenSpec.upto fnExactWornOutSpec)

/-- 'laws.FnExactPartsFor', WHERE WHAT IT READS IS OF BULK AT MOST 1048576: true; the input reads as it did. -/
def fnExactPartsForUptoRow : OpenClaim := { program := "ytcocfnjbgceidaa", sum := "595d7629c72f24c3111abf8808e136dc5d523b0bc454375b73838c47b1c657b8", func := "loop.example/g01311/laws.FnExactPartsFor", spec := "fnExactPartsFor", unfollowed := true, recurses := true, plainKeys := false, apart := false, narrowed := true }
def FnExactPartsForUptoSaid : Prop := fnExactPartsForUptoRow.holds Try.pinned (OpenSpec.upto fnExactPartsForSpec)

/-- 'laws.FnExactBoundFrom', WHERE WHAT IT READS IS OF BULK AT MOST 1048576: true; the input reads as it did. -/
def fnExactBoundFromUptoRow : OpenClaim := { program := "ytcocfnjbgceidaa", sum := "595d7629c72f24c3111abf8808e136dc5d523b0bc454375b73838c47b1c657b8", func := "loop.example/g01311/laws.FnExactBoundFrom", spec := "fnExactBoundFrom", unfollowed := true, recurses := true, plainKeys := false, apart := false, narrowed := true }
def FnExactBoundFromUptoSaid : Prop := fnExactBoundFromUptoRow.holds Try.pinned (OpenSpec.upto fnExactBoundFromSpec)

/-- 'laws.FnExactLeastEach', WHERE WHAT IT READS IS OF BULK AT MOST 1048576: true; the input reads as it did. -/
def fnExactLeastEachUptoRow : OpenClaim := { program := "ytcocfnjbgceidaa", sum := "595d7629c72f24c3111abf8808e136dc5d523b0bc454375b73838c47b1c657b8", func := "loop.example/g01311/laws.FnExactLeastEach", spec := "fnExactLeastEach", unfollowed := true, recurses := true, plainKeys := false, apart := false, narrowed := true }
def FnExactLeastEachUptoSaid : Prop := fnExactLeastEachUptoRow.holds Try.pinned (OpenSpec.upto fnExactLeastEachSpec)

end Rows
end Go.Proofs.Ytcocfnjbgceidaa
