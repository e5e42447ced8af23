/-
  No cell of these rows narrows 'for every input' (looked for: loops, veiled, ifaces, maps, wideKeys, modest, calm, conditions, laid).
  DERIVED. THE GIVEN ROWS OF THIS SEAT. 7 by the template 'for every input the law returns true; each argument reads behind the call as it read before'; 0 by the template 'total and deterministic' (their statements: YtcocfnjbgceidaaGreatTotals.lean).
  GIVEN WITH THE SEED: the statements are not yours to turn. If you find one false, say at which input.
  Laid BY PROGRAM, IN A SANDBOX (cutbox-rows.mjs): the forced cells as the released guide's own fill.sh prints them over the translation 80bbd17d1805d34f… (all of the seat's roots in one cut). By AI agents, Wed Nov 11 2026. No macro, syntax, notation, axiom, sorry.
-/
import Derived.Test.YtcocfnjbgceidaaGreatChecked
import GoSem.Claim
import GoSem.ClaimJoined
import GoSem.ClaimMapViews
import Derived.JoinedTies
import Derived.KernelRfl
namespace Go.Proofs.YtcocfnjbgceidaaGreat
/- THE CELL 'sum', in the pinned program and in every row, IS THE sha256 OF THE DUMP (.gsa) THAT YtcocfnjbgceidaaGreatProg.lean LOADS. Nothing in Lean hashes anything: it is a label: what it is worth is what the hold of that sum in a sandbox is worth. -/
noncomputable def Tryz.pinned : Pinned := { name := "ytcocfnjbgceidaagreat", sum := "80bbd17d1805d34f7d780c273985b3625ce1a3c3b1d6239fdb9cce09d66a78e3", checked := Tryz.checked }
namespace Rows
def none {H : Type} : Left H := { results := [], args := [] }

/-- 'laws.FnExactNewHammer': WHATEVER THE INPUT: true; the input reads as it did. -/
def fnExactNewHammerSpec : ChangeSpec := { name := "fnExactNewHammer", fn := fun _ => fun
  | [d1, d2, d3] => { results := [.lit (.bool true)], args := [d1, d2, d3] }
  | _ => none }
def fnExactNewHammerRow : OpenClaim := { program := "ytcocfnjbgceidaagreat", sum := "80bbd17d1805d34f7d780c273985b3625ce1a3c3b1d6239fdb9cce09d66a78e3", func := "loop.example/g01311/laws.FnExactNewHammer", spec := "fnExactNewHammer", unfollowed := true, recurses := true, plainKeys := false, apart := false }
def FnExactNewHammerSaid : Prop := fnExactNewHammerRow.holds Tryz.pinned (OpenSpec.ofChange fnExactNewHammerSpec)

/-- ITS FALSE NEIGHBOUR: 'it returns false'. Refute it at one input. -/
def fnExactNewHammerWrong : ChangeSpec := { name := "fnExactNewHammer", fn := fun _ => fun
  | [d1, d2, d3] => { results := [.lit (.bool false)], args := [d1, d2, d3] }
  | _ => none }
def FnExactNewHammerWrongFalsely : Prop := fnExactNewHammerRow.holds Tryz.pinned (OpenSpec.ofChange fnExactNewHammerWrong)

/-- 'laws.FnExactNewPin': WHATEVER THE INPUT: true; the input reads as it did. -/
def fnExactNewPinSpec : ChangeSpec := { name := "fnExactNewPin", fn := fun _ => fun
  | [d1, d2, d3, d4] => { results := [.lit (.bool true)], args := [d1, d2, d3, d4] }
  | _ => none }
def fnExactNewPinRow : OpenClaim := { program := "ytcocfnjbgceidaagreat", sum := "80bbd17d1805d34f7d780c273985b3625ce1a3c3b1d6239fdb9cce09d66a78e3", func := "loop.example/g01311/laws.FnExactNewPin", spec := "fnExactNewPin", unfollowed := true, recurses := true, plainKeys := false, apart := false }
def FnExactNewPinSaid : Prop := fnExactNewPinRow.holds Tryz.pinned (OpenSpec.ofChange fnExactNewPinSpec)

/-- ITS FALSE NEIGHBOUR: 'it returns false'. Refute it at one input. -/
def fnExactNewPinWrong : ChangeSpec := { name := "fnExactNewPin", fn := fun _ => fun
  | [d1, d2, d3, d4] => { results := [.lit (.bool false)], args := [d1, d2, d3, d4] }
  | _ => none }
def FnExactNewPinWrongFalsely : Prop := fnExactNewPinRow.holds Tryz.pinned (OpenSpec.ofChange fnExactNewPinWrong)

/-- 'laws.FnExactMovePin': WHATEVER THE INPUT: true; the input reads as it did. -/
def fnExactMovePinSpec : ChangeSpec := { name := "fnExactMovePin", fn := fun _ => fun
  | [d1, d2, d3, d4, d5, d6] => { results := [.lit (.bool true)], args := [d1, d2, d3, d4, d5, d6] }
  | _ => none }
def fnExactMovePinRow : OpenClaim := { program := "ytcocfnjbgceidaagreat", sum := "80bbd17d1805d34f7d780c273985b3625ce1a3c3b1d6239fdb9cce09d66a78e3", func := "loop.example/g01311/laws.FnExactMovePin", spec := "fnExactMovePin", unfollowed := true, recurses := true, plainKeys := false, apart := false }
def FnExactMovePinSaid : Prop := fnExactMovePinRow.holds Tryz.pinned (OpenSpec.ofChange fnExactMovePinSpec)

/-- ITS FALSE NEIGHBOUR: 'it returns false'. Refute it at one input. -/
def fnExactMovePinWrong : ChangeSpec := { name := "fnExactMovePin", fn := fun _ => fun
  | [d1, d2, d3, d4, d5, d6] => { results := [.lit (.bool false)], args := [d1, d2, d3, d4, d5, d6] }
  | _ => none }
def FnExactMovePinWrongFalsely : Prop := fnExactMovePinRow.holds Tryz.pinned (OpenSpec.ofChange fnExactMovePinWrong)

/-- 'laws.FnExactDoWearAct': WHATEVER THE INPUT: true; the input reads as it did. -/
def fnExactDoWearActSpec : ChangeSpec := { name := "fnExactDoWearAct", fn := fun _ => fun
  | [d1, d2, d3] => { results := [.lit (.bool true)], args := [d1, d2, d3] }
  | _ => none }
def fnExactDoWearActRow : OpenClaim := { program := "ytcocfnjbgceidaagreat", sum := "80bbd17d1805d34f7d780c273985b3625ce1a3c3b1d6239fdb9cce09d66a78e3", func := "loop.example/g01311/laws.FnExactDoWearAct", spec := "fnExactDoWearAct", unfollowed := true, recurses := true, plainKeys := false, apart := false }
def FnExactDoWearActSaid : Prop := fnExactDoWearActRow.holds Tryz.pinned (OpenSpec.ofChange fnExactDoWearActSpec)

/-- ITS FALSE NEIGHBOUR: 'it returns false'. Refute it at one input. -/
def fnExactDoWearActWrong : ChangeSpec := { name := "fnExactDoWearAct", fn := fun _ => fun
  | [d1, d2, d3] => { results := [.lit (.bool false)], args := [d1, d2, d3] }
  | _ => none }
def FnExactDoWearActWrongFalsely : Prop := fnExactDoWearActRow.holds Tryz.pinned (OpenSpec.ofChange fnExactDoWearActWrong)

/-- 'laws.FnExactDoWearActs': WHATEVER THE INPUT: true; the input reads as it did. -/
def fnExactDoWearActsSpec : ChangeSpec := { name := "fnExactDoWearActs", fn := fun _ => fun
  | [d1, d2, d3, d4] => { results := [.lit (.bool true)], args := [d1, d2, d3, d4] }
  | _ => none }
def fnExactDoWearActsRow : OpenClaim := { program := "ytcocfnjbgceidaagreat", sum := "80bbd17d1805d34f7d780c273985b3625ce1a3c3b1d6239fdb9cce09d66a78e3", func := "loop.example/g01311/laws.FnExactDoWearActs", spec := "fnExactDoWearActs", unfollowed := true, recurses := true, plainKeys := false, apart := false }
def FnExactDoWearActsSaid : Prop := fnExactDoWearActsRow.holds Tryz.pinned (OpenSpec.ofChange fnExactDoWearActsSpec)

/-- ITS FALSE NEIGHBOUR: 'it returns false'. Refute it at one input. -/
def fnExactDoWearActsWrong : ChangeSpec := { name := "fnExactDoWearActs", fn := fun _ => fun
  | [d1, d2, d3, d4] => { results := [.lit (.bool false)], args := [d1, d2, d3, d4] }
  | _ => none }
def FnExactDoWearActsWrongFalsely : Prop := fnExactDoWearActsRow.holds Tryz.pinned (OpenSpec.ofChange fnExactDoWearActsWrong)

/-- 'laws.FnExactTurnWear': WHATEVER THE INPUT: true; the input reads as it did. -/
def fnExactTurnWearSpec : ChangeSpec := { name := "fnExactTurnWear", fn := fun _ => fun
  | [d1, d2, d3] => { results := [.lit (.bool true)], args := [d1, d2, d3] }
  | _ => none }
def fnExactTurnWearRow : OpenClaim := { program := "ytcocfnjbgceidaagreat", sum := "80bbd17d1805d34f7d780c273985b3625ce1a3c3b1d6239fdb9cce09d66a78e3", func := "loop.example/g01311/laws.FnExactTurnWear", spec := "fnExactTurnWear", unfollowed := true, recurses := true, plainKeys := false, apart := false }
def FnExactTurnWearSaid : Prop := fnExactTurnWearRow.holds Tryz.pinned (OpenSpec.ofChange fnExactTurnWearSpec)

/-- ITS FALSE NEIGHBOUR: 'it returns false'. Refute it at one input. -/
def fnExactTurnWearWrong : ChangeSpec := { name := "fnExactTurnWear", fn := fun _ => fun
  | [d1, d2, d3] => { results := [.lit (.bool false)], args := [d1, d2, d3] }
  | _ => none }
def FnExactTurnWearWrongFalsely : Prop := fnExactTurnWearRow.holds Tryz.pinned (OpenSpec.ofChange fnExactTurnWearWrong)

/-- 'laws.FnExactCheapestLives': WHATEVER THE INPUT: true; the input reads as it did. -/
def fnExactCheapestLivesSpec : ChangeSpec := { name := "fnExactCheapestLives", fn := fun _ => fun
  | [d1, d2, d3, d4, d5, d6] => { results := [.lit (.bool true)], args := [d1, d2, d3, d4, d5, d6] }
  | _ => none }
def fnExactCheapestLivesRow : OpenClaim := { program := "ytcocfnjbgceidaagreat", sum := "80bbd17d1805d34f7d780c273985b3625ce1a3c3b1d6239fdb9cce09d66a78e3", func := "loop.example/g01311/laws.FnExactCheapestLives", spec := "fnExactCheapestLives", unfollowed := true, recurses := true, plainKeys := false, apart := false }
def FnExactCheapestLivesSaid : Prop := fnExactCheapestLivesRow.holds Tryz.pinned (OpenSpec.ofChange fnExactCheapestLivesSpec)

/-- ITS FALSE NEIGHBOUR: 'it returns false'. Refute it at one input. -/
def fnExactCheapestLivesWrong : ChangeSpec := { name := "fnExactCheapestLives", fn := fun _ => fun
  | [d1, d2, d3, d4, d5, d6] => { results := [.lit (.bool false)], args := [d1, d2, d3, d4, d5, d6] }
  | _ => none }
def FnExactCheapestLivesWrongFalsely : Prop := fnExactCheapestLivesRow.holds Tryz.pinned (OpenSpec.ofChange fnExactCheapestLivesWrong)

/- THE SECOND FORM. 'bulk': how many values and letters a reading holds, each counted each time it is reached (what is shared counts as often as it is met; a slice's spare places count too). A statement '..UptoSaid' is the law's where the arguments, and the package variables that the reading takes, are together of bulk at most 1048576: NARROWER than '..Said'. Prove '..Said' where nothing that the law and all that it calls make is longer than what came in: it says more and counts as full. Else prove '..UptoSaid'. A law counts once. -/
mutual
def uptoBulk {H : Type} : DataW H → Nat
  | .lit (.string bytes) => bytes.length + 1
  | .lit _ => 1
  | .nil => 1
  | .ptr d => uptoBulk d + 1
  | .slice elems spare => uptoBulkAll elems + uptoBulkAll spare + 1
  | .agg parts => uptoBulkAll parts + 1
  | .iface _ d => uptoBulk d + 1
  | .map entries => uptoBulkEntries entries + 1
  | .held _ => 1
def uptoBulkAll {H : Type} : List (DataW H) → Nat
  | [] => 0
  | d :: r => uptoBulk d + uptoBulkAll r
def uptoBulkEntries {H : Type} : List (Lit × DataW H) → Nat
  | [] => 0
  | x :: r => uptoBulkEntry x + uptoBulkEntries r
def uptoBulkEntry {H : Type} : Lit × DataW H → Nat
  | (.string bytes, d) => bytes.length + uptoBulk d + 1
  | (_, d) => uptoBulk d + 1
 end
def uptoSmall : (H : Type) → List (DataW H) → Bool := fun _ ds => decide (uptoBulkAll ds ≤ 1048576)
def OpenSpec.upto (s : _root_.Go.ChangeSpec) : _root_.Go.OpenSpec := { _root_.Go.OpenSpec.ofChange s with cond := some uptoSmall }

/-- 'laws.FnExactNewHammer', WHERE WHAT IT READS IS OF BULK AT MOST 1048576: true; the input reads as it did. -/
def fnExactNewHammerUptoRow : OpenClaim := { program := "ytcocfnjbgceidaagreat", sum := "80bbd17d1805d34f7d780c273985b3625ce1a3c3b1d6239fdb9cce09d66a78e3", func := "loop.example/g01311/laws.FnExactNewHammer", spec := "fnExactNewHammer", unfollowed := true, recurses := true, plainKeys := false, apart := false, narrowed := true }
def FnExactNewHammerUptoSaid : Prop := fnExactNewHammerUptoRow.holds Tryz.pinned (OpenSpec.upto fnExactNewHammerSpec)

/-- 'laws.FnExactNewPin', WHERE WHAT IT READS IS OF BULK AT MOST 1048576: true; the input reads as it did. -/
def fnExactNewPinUptoRow : OpenClaim := { program := "ytcocfnjbgceidaagreat", sum := "80bbd17d1805d34f7d780c273985b3625ce1a3c3b1d6239fdb9cce09d66a78e3", func := "loop.example/g01311/laws.FnExactNewPin", spec := "fnExactNewPin", unfollowed := true, recurses := true, plainKeys := false, apart := false, narrowed := true }
def FnExactNewPinUptoSaid : Prop := fnExactNewPinUptoRow.holds Tryz.pinned (OpenSpec.upto fnExactNewPinSpec)

/-- 'laws.FnExactMovePin', WHERE WHAT IT READS IS OF BULK AT MOST 1048576: true; the input reads as it did. -/
def fnExactMovePinUptoRow : OpenClaim := { program := "ytcocfnjbgceidaagreat", sum := "80bbd17d1805d34f7d780c273985b3625ce1a3c3b1d6239fdb9cce09d66a78e3", func := "loop.example/g01311/laws.FnExactMovePin", spec := "fnExactMovePin", unfollowed := true, recurses := true, plainKeys := false, apart := false, narrowed := true }
def FnExactMovePinUptoSaid : Prop := fnExactMovePinUptoRow.holds Tryz.pinned (OpenSpec.upto fnExactMovePinSpec)

/-- 'laws.FnExactDoWearAct', WHERE WHAT IT READS IS OF BULK AT MOST 1048576: true; the input reads as it did. -/
def fnExactDoWearActUptoRow : OpenClaim := { program := "ytcocfnjbgceidaagreat", sum := "80bbd17d1805d34f7d780c273985b3625ce1a3c3b1d6239fdb9cce09d66a78e3", func := "loop.example/g01311/laws.FnExactDoWearAct", spec := "fnExactDoWearAct", unfollowed := true, recurses := true, plainKeys := false, apart := false, narrowed := true }
def FnExactDoWearActUptoSaid : Prop := fnExactDoWearActUptoRow.holds Tryz.pinned (OpenSpec.upto fnExactDoWearActSpec)

/-- 'laws.FnExactDoWearActs', WHERE WHAT IT READS IS OF BULK AT MOST 1048576: true; the input reads as it did. -/
def fnExactDoWearActsUptoRow : OpenClaim := { program := "ytcocfnjbgceidaagreat", sum := "80bbd17d1805d34f7d780c273985b3625ce1a3c3b1d6239fdb9cce09d66a78e3", func := "loop.example/g01311/laws.FnExactDoWearActs", spec := "fnExactDoWearActs", unfollowed := true, recurses := true, plainKeys := false, apart := false, narrowed := true }
def FnExactDoWearActsUptoSaid : Prop := fnExactDoWearActsUptoRow.holds Tryz.pinned (OpenSpec.upto fnExactDoWearActsSpec)

/-- 'laws.FnExactTurnWear', WHERE WHAT IT READS IS OF BULK AT MOST 1048576: true; the input reads as it did. -/
def fnExactTurnWearUptoRow : OpenClaim := { program := "ytcocfnjbgceidaagreat", sum := "80bbd17d1805d34f7d780c273985b3625ce1a3c3b1d6239fdb9cce09d66a78e3", func := "loop.example/g01311/laws.FnExactTurnWear", spec := "fnExactTurnWear", unfollowed := true, recurses := true, plainKeys := false, apart := false, narrowed := true }
def FnExactTurnWearUptoSaid : Prop := fnExactTurnWearUptoRow.holds Tryz.pinned (OpenSpec.upto fnExactTurnWearSpec)

/-- 'laws.FnExactCheapestLives', WHERE WHAT IT READS IS OF BULK AT MOST 1048576: true; the input reads as it did. -/
def fnExactCheapestLivesUptoRow : OpenClaim := { program := "ytcocfnjbgceidaagreat", sum := "80bbd17d1805d34f7d780c273985b3625ce1a3c3b1d6239fdb9cce09d66a78e3", func := "loop.example/g01311/laws.FnExactCheapestLives", spec := "fnExactCheapestLives", unfollowed := true, recurses := true, plainKeys := false, apart := false, narrowed := true }
def FnExactCheapestLivesUptoSaid : Prop := fnExactCheapestLivesUptoRow.holds Tryz.pinned (OpenSpec.upto fnExactCheapestLivesSpec)

end Rows
end Go.Proofs.YtcocfnjbgceidaaGreat
