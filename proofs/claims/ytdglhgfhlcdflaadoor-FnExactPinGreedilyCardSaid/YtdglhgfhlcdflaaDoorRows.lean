/-
  NARROWER THAN 'FOR EVERY INPUT', by the rows' own cells (each row's printed sentence says how): FnExactFirstUnpinned: ifaces, laid · FnExactPinGreedily: ifaces, laid · FnExactCheckPinning: ifaces, laid · FnExactTracksOf: ifaces, laid.
  DERIVED. THE GIVEN ROWS OF THIS SEAT. 4 by the template 'for every input the law returns true; each argument reads behind the call as it read before'; 0 by the template 'total and deterministic' (their statements: YtdglhgfhlcdflaaDoorTotals.lean).
  GIVEN WITH THE SEED: the statements are not yours to turn. If you find one false, say at which input.
  Laid BY PROGRAM, IN A SANDBOX (cutbox-rows.mjs): the forced cells as the released guide's own fill.sh prints them over the translation c7ad7ff88f2a1b8b… (all of the seat's roots in one cut). By AI agents, Wed Nov 11 2026. No macro, syntax, notation, axiom, sorry.
-/
import Derived.Test.YtdglhgfhlcdflaaDoorChecked
import GoSem.Claim
import GoSem.ClaimJoined
import GoSem.ClaimMapViews
import Derived.JoinedTies
import Derived.KernelRfl
namespace Go.Proofs.YtdglhgfhlcdflaaDoor
/- THE CELL 'sum', in the pinned program and in every row, IS THE sha256 OF THE DUMP (.gsa) THAT YtdglhgfhlcdflaaDoorProg.lean LOADS. Nothing in Lean hashes anything: it is a label: what it is worth is what the hold of that sum in a sandbox is worth. -/
noncomputable def Tryd.pinned : Pinned := { name := "ytdglhgfhlcdflaadoor", sum := "c7ad7ff88f2a1b8b23eb0e4a9707af8277ac4e83183c2b7a47b52a60e98f1fcf", checked := Tryd.checked }
namespace Rows
def none {H : Type} : Left H := { results := [], args := [] }

/- WHAT THE LISTED PACKAGE-LEVEL VARIABLES READ AS WHEN THE CALL BEGINS. Each datum BY PROGRAM (the guide's laid-datum.mjs) off the statement by which the dump's own 'gosem.cut.vars' lays the variable. In a bare row this is a premise. The card (YtdglhgfhlcdflaaDoorCards.lean) ties it to the program's text. -/
def laid_math_bits_deBruijn32tab {H : Type} : DataW H := .agg [.lit (.int .u8 0), .lit (.int .u8 1), .lit (.int .u8 28), .lit (.int .u8 2), .lit (.int .u8 29), .lit (.int .u8 14), .lit (.int .u8 24), .lit (.int .u8 3), .lit (.int .u8 30), .lit (.int .u8 22), .lit (.int .u8 20), .lit (.int .u8 15), .lit (.int .u8 25), .lit (.int .u8 17), .lit (.int .u8 4), .lit (.int .u8 8), .lit (.int .u8 31), .lit (.int .u8 27), .lit (.int .u8 13), .lit (.int .u8 23), .lit (.int .u8 21), .lit (.int .u8 19), .lit (.int .u8 16), .lit (.int .u8 7), .lit (.int .u8 26), .lit (.int .u8 12), .lit (.int .u8 18), .lit (.int .u8 6), .lit (.int .u8 11), .lit (.int .u8 5), .lit (.int .u8 10), .lit (.int .u8 9)]
def laid_loop_example_g01311_impl_errInvalid {H : Type} : DataW H := .iface "*errors.errorString" (.ptr (.agg [.lit (.string [105, 110, 118, 97, 108, 105, 100])]))
def laid_loop_example_g01311_impl_errRange {H : Type} : DataW H := .iface "*errors.errorString" (.ptr (.agg [.lit (.string [114, 97, 110, 103, 101])]))
def laid_loop_example_g01311_impl_errLimit {H : Type} : DataW H := .iface "*errors.errorString" (.ptr (.agg [.lit (.string [108, 105, 109, 105, 116])]))
def laid_loop_example_g01311_impl_errState {H : Type} : DataW H := .iface "*errors.errorString" (.ptr (.agg [.lit (.string [115, 116, 97, 116, 101])]))
def laid_loop_example_g01311_impl_errNotFound {H : Type} : DataW H := .iface "*errors.errorString" (.ptr (.agg [.lit (.string [110, 111, 116, 102, 111, 117, 110, 100])]))
def laid_loop_example_g01311_impl_errBudget {H : Type} : DataW H := .iface "*errors.errorString" (.ptr (.agg [.lit (.string [98, 117, 100, 103, 101, 116])]))
def laid_loop_example_g01311_impl_errProof {H : Type} : DataW H := .iface "*errors.errorString" (.ptr (.agg [.lit (.string [112, 114, 111, 111, 102])]))

/-- 'laws.FnExactFirstUnpinned': WHATEVER THE INPUT: true; the input reads as it did. -/
def fnExactFirstUnpinnedSpec : ChangeSpec := { name := "fnExactFirstUnpinned", vars := ["loop.example/g01311/impl.errInvalid", "loop.example/g01311/impl.errRange", "loop.example/g01311/impl.errLimit", "loop.example/g01311/impl.errState", "loop.example/g01311/impl.errNotFound", "loop.example/g01311/impl.errBudget", "loop.example/g01311/impl.errProof"], fn := fun _ => fun
  | [d1, d2, g1, g2, g3, g4, g5, g6, g7] => { results := [.lit (.bool true)], args := [d1, d2], vars := [g1, g2, g3, g4, g5, g6, g7] }
  | _ => none }
def fnExactFirstUnpinnedRow : OpenClaim := { program := "ytdglhgfhlcdflaadoor", sum := "c7ad7ff88f2a1b8b23eb0e4a9707af8277ac4e83183c2b7a47b52a60e98f1fcf", func := "loop.example/g01311/laws.FnExactFirstUnpinned", spec := "fnExactFirstUnpinned", inPlace := ["internal/reflectlite.TypeOf"], unfollowed := true, recurses := true, named := ["loop.example/g01311/impl.errInvalid", "loop.example/g01311/impl.errRange", "loop.example/g01311/impl.errLimit", "loop.example/g01311/impl.errState", "loop.example/g01311/impl.errNotFound", "loop.example/g01311/impl.errBudget", "loop.example/g01311/impl.errProof", "math/bits.deBruijn32tab"], ifaces := true, plainKeys := false, apart := false, laid := [("math/bits.deBruijn32tab", laid_math_bits_deBruijn32tab), ("loop.example/g01311/impl.errInvalid", laid_loop_example_g01311_impl_errInvalid), ("loop.example/g01311/impl.errRange", laid_loop_example_g01311_impl_errRange), ("loop.example/g01311/impl.errLimit", laid_loop_example_g01311_impl_errLimit), ("loop.example/g01311/impl.errState", laid_loop_example_g01311_impl_errState), ("loop.example/g01311/impl.errNotFound", laid_loop_example_g01311_impl_errNotFound), ("loop.example/g01311/impl.errBudget", laid_loop_example_g01311_impl_errBudget), ("loop.example/g01311/impl.errProof", laid_loop_example_g01311_impl_errProof)] }
def FnExactFirstUnpinnedSaid : Prop := fnExactFirstUnpinnedRow.holds Tryd.pinned (OpenSpec.ofChange fnExactFirstUnpinnedSpec)

/-- ITS FALSE NEIGHBOUR: 'it returns false'. Refute it at one input. -/
def fnExactFirstUnpinnedWrong : ChangeSpec := { name := "fnExactFirstUnpinned", vars := ["loop.example/g01311/impl.errInvalid", "loop.example/g01311/impl.errRange", "loop.example/g01311/impl.errLimit", "loop.example/g01311/impl.errState", "loop.example/g01311/impl.errNotFound", "loop.example/g01311/impl.errBudget", "loop.example/g01311/impl.errProof"], fn := fun _ => fun
  | [d1, d2, g1, g2, g3, g4, g5, g6, g7] => { results := [.lit (.bool false)], args := [d1, d2], vars := [g1, g2, g3, g4, g5, g6, g7] }
  | _ => none }
def FnExactFirstUnpinnedWrongFalsely : Prop := fnExactFirstUnpinnedRow.holds Tryd.pinned (OpenSpec.ofChange fnExactFirstUnpinnedWrong)

/-- 'laws.FnExactPinGreedily': WHATEVER THE INPUT: true; the input reads as it did. -/
def fnExactPinGreedilySpec : ChangeSpec := { name := "fnExactPinGreedily", vars := ["loop.example/g01311/impl.errInvalid", "loop.example/g01311/impl.errRange", "loop.example/g01311/impl.errLimit", "loop.example/g01311/impl.errState", "loop.example/g01311/impl.errNotFound", "loop.example/g01311/impl.errBudget", "loop.example/g01311/impl.errProof"], fn := fun _ => fun
  | [d1, d2, g1, g2, g3, g4, g5, g6, g7] => { results := [.lit (.bool true)], args := [d1, d2], vars := [g1, g2, g3, g4, g5, g6, g7] }
  | _ => none }
def fnExactPinGreedilyRow : OpenClaim := { program := "ytdglhgfhlcdflaadoor", sum := "c7ad7ff88f2a1b8b23eb0e4a9707af8277ac4e83183c2b7a47b52a60e98f1fcf", func := "loop.example/g01311/laws.FnExactPinGreedily", spec := "fnExactPinGreedily", inPlace := ["internal/reflectlite.TypeOf"], unfollowed := true, recurses := true, named := ["loop.example/g01311/impl.errInvalid", "loop.example/g01311/impl.errRange", "loop.example/g01311/impl.errLimit", "loop.example/g01311/impl.errState", "loop.example/g01311/impl.errNotFound", "loop.example/g01311/impl.errBudget", "loop.example/g01311/impl.errProof", "math/bits.deBruijn32tab"], ifaces := true, plainKeys := false, apart := false, laid := [("math/bits.deBruijn32tab", laid_math_bits_deBruijn32tab), ("loop.example/g01311/impl.errInvalid", laid_loop_example_g01311_impl_errInvalid), ("loop.example/g01311/impl.errRange", laid_loop_example_g01311_impl_errRange), ("loop.example/g01311/impl.errLimit", laid_loop_example_g01311_impl_errLimit), ("loop.example/g01311/impl.errState", laid_loop_example_g01311_impl_errState), ("loop.example/g01311/impl.errNotFound", laid_loop_example_g01311_impl_errNotFound), ("loop.example/g01311/impl.errBudget", laid_loop_example_g01311_impl_errBudget), ("loop.example/g01311/impl.errProof", laid_loop_example_g01311_impl_errProof)] }
def FnExactPinGreedilySaid : Prop := fnExactPinGreedilyRow.holds Tryd.pinned (OpenSpec.ofChange fnExactPinGreedilySpec)

/-- ITS FALSE NEIGHBOUR: 'it returns false'. Refute it at one input. -/
def fnExactPinGreedilyWrong : ChangeSpec := { name := "fnExactPinGreedily", vars := ["loop.example/g01311/impl.errInvalid", "loop.example/g01311/impl.errRange", "loop.example/g01311/impl.errLimit", "loop.example/g01311/impl.errState", "loop.example/g01311/impl.errNotFound", "loop.example/g01311/impl.errBudget", "loop.example/g01311/impl.errProof"], fn := fun _ => fun
  | [d1, d2, g1, g2, g3, g4, g5, g6, g7] => { results := [.lit (.bool false)], args := [d1, d2], vars := [g1, g2, g3, g4, g5, g6, g7] }
  | _ => none }
def FnExactPinGreedilyWrongFalsely : Prop := fnExactPinGreedilyRow.holds Tryd.pinned (OpenSpec.ofChange fnExactPinGreedilyWrong)

/-- 'laws.FnExactCheckPinning': WHATEVER THE INPUT: true; the input reads as it did. -/
def fnExactCheckPinningSpec : ChangeSpec := { name := "fnExactCheckPinning", vars := ["loop.example/g01311/impl.errProof", "loop.example/g01311/impl.errInvalid", "loop.example/g01311/impl.errRange", "loop.example/g01311/impl.errLimit", "loop.example/g01311/impl.errState", "loop.example/g01311/impl.errNotFound", "loop.example/g01311/impl.errBudget"], fn := fun _ => fun
  | [d1, d2, d3, g1, g2, g3, g4, g5, g6, g7] => { results := [.lit (.bool true)], args := [d1, d2, d3], vars := [g1, g2, g3, g4, g5, g6, g7] }
  | _ => none }
def fnExactCheckPinningRow : OpenClaim := { program := "ytdglhgfhlcdflaadoor", sum := "c7ad7ff88f2a1b8b23eb0e4a9707af8277ac4e83183c2b7a47b52a60e98f1fcf", func := "loop.example/g01311/laws.FnExactCheckPinning", spec := "fnExactCheckPinning", inPlace := ["internal/reflectlite.TypeOf"], unfollowed := true, recurses := true, named := ["loop.example/g01311/impl.errProof", "loop.example/g01311/impl.errInvalid", "loop.example/g01311/impl.errRange", "math/bits.deBruijn32tab", "loop.example/g01311/impl.errLimit", "loop.example/g01311/impl.errState", "loop.example/g01311/impl.errNotFound", "loop.example/g01311/impl.errBudget"], ifaces := true, plainKeys := false, apart := false, laid := [("math/bits.deBruijn32tab", laid_math_bits_deBruijn32tab), ("loop.example/g01311/impl.errInvalid", laid_loop_example_g01311_impl_errInvalid), ("loop.example/g01311/impl.errRange", laid_loop_example_g01311_impl_errRange), ("loop.example/g01311/impl.errLimit", laid_loop_example_g01311_impl_errLimit), ("loop.example/g01311/impl.errState", laid_loop_example_g01311_impl_errState), ("loop.example/g01311/impl.errNotFound", laid_loop_example_g01311_impl_errNotFound), ("loop.example/g01311/impl.errBudget", laid_loop_example_g01311_impl_errBudget), ("loop.example/g01311/impl.errProof", laid_loop_example_g01311_impl_errProof)] }
def FnExactCheckPinningSaid : Prop := fnExactCheckPinningRow.holds Tryd.pinned (OpenSpec.ofChange fnExactCheckPinningSpec)

/-- ITS FALSE NEIGHBOUR: 'it returns false'. Refute it at one input. -/
def fnExactCheckPinningWrong : ChangeSpec := { name := "fnExactCheckPinning", vars := ["loop.example/g01311/impl.errProof", "loop.example/g01311/impl.errInvalid", "loop.example/g01311/impl.errRange", "loop.example/g01311/impl.errLimit", "loop.example/g01311/impl.errState", "loop.example/g01311/impl.errNotFound", "loop.example/g01311/impl.errBudget"], fn := fun _ => fun
  | [d1, d2, d3, g1, g2, g3, g4, g5, g6, g7] => { results := [.lit (.bool false)], args := [d1, d2, d3], vars := [g1, g2, g3, g4, g5, g6, g7] }
  | _ => none }
def FnExactCheckPinningWrongFalsely : Prop := fnExactCheckPinningRow.holds Tryd.pinned (OpenSpec.ofChange fnExactCheckPinningWrong)

/-- 'laws.FnExactTracksOf': WHATEVER THE INPUT: true; the input reads as it did. -/
def fnExactTracksOfSpec : ChangeSpec := { name := "fnExactTracksOf", vars := ["loop.example/g01311/impl.errProof", "loop.example/g01311/impl.errInvalid", "loop.example/g01311/impl.errRange", "loop.example/g01311/impl.errLimit", "loop.example/g01311/impl.errState", "loop.example/g01311/impl.errNotFound", "loop.example/g01311/impl.errBudget"], fn := fun _ => fun
  | [d1, d2, d3, g1, g2, g3, g4, g5, g6, g7] => { results := [.lit (.bool true)], args := [d1, d2, d3], vars := [g1, g2, g3, g4, g5, g6, g7] }
  | _ => none }
def fnExactTracksOfRow : OpenClaim := { program := "ytdglhgfhlcdflaadoor", sum := "c7ad7ff88f2a1b8b23eb0e4a9707af8277ac4e83183c2b7a47b52a60e98f1fcf", func := "loop.example/g01311/laws.FnExactTracksOf", spec := "fnExactTracksOf", inPlace := ["internal/reflectlite.TypeOf"], unfollowed := true, recurses := true, named := ["loop.example/g01311/impl.errProof", "loop.example/g01311/impl.errInvalid", "loop.example/g01311/impl.errRange", "math/bits.deBruijn32tab", "loop.example/g01311/impl.errLimit", "loop.example/g01311/impl.errState", "loop.example/g01311/impl.errNotFound", "loop.example/g01311/impl.errBudget"], ifaces := true, plainKeys := false, apart := false, laid := [("math/bits.deBruijn32tab", laid_math_bits_deBruijn32tab), ("loop.example/g01311/impl.errInvalid", laid_loop_example_g01311_impl_errInvalid), ("loop.example/g01311/impl.errRange", laid_loop_example_g01311_impl_errRange), ("loop.example/g01311/impl.errLimit", laid_loop_example_g01311_impl_errLimit), ("loop.example/g01311/impl.errState", laid_loop_example_g01311_impl_errState), ("loop.example/g01311/impl.errNotFound", laid_loop_example_g01311_impl_errNotFound), ("loop.example/g01311/impl.errBudget", laid_loop_example_g01311_impl_errBudget), ("loop.example/g01311/impl.errProof", laid_loop_example_g01311_impl_errProof)] }
def FnExactTracksOfSaid : Prop := fnExactTracksOfRow.holds Tryd.pinned (OpenSpec.ofChange fnExactTracksOfSpec)

/-- ITS FALSE NEIGHBOUR: 'it returns false'. Refute it at one input. -/
def fnExactTracksOfWrong : ChangeSpec := { name := "fnExactTracksOf", vars := ["loop.example/g01311/impl.errProof", "loop.example/g01311/impl.errInvalid", "loop.example/g01311/impl.errRange", "loop.example/g01311/impl.errLimit", "loop.example/g01311/impl.errState", "loop.example/g01311/impl.errNotFound", "loop.example/g01311/impl.errBudget"], fn := fun _ => fun
  | [d1, d2, d3, g1, g2, g3, g4, g5, g6, g7] => { results := [.lit (.bool false)], args := [d1, d2, d3], vars := [g1, g2, g3, g4, g5, g6, g7] }
  | _ => none }
def FnExactTracksOfWrongFalsely : Prop := fnExactTracksOfRow.holds Tryd.pinned (OpenSpec.ofChange fnExactTracksOfWrong)

/- THE SECOND FORM. 'bulk': how many values and letters a reading holds, each counted each time it is reached (what is shared counts as often as it is met; a slice's spare places count too). A statement '..UptoSaid' is the law's where the arguments, and the package variables that the reading takes, are together of bulk at most 1048576: NARROWER than '..Said'. Prove '..Said' where nothing that the law and all that it calls make is longer than what came in: it says more and counts as full. Else prove '..UptoSaid'. A law counts once. -/
mutual
def uptoBulk {H : Type} : DataW H → Nat
  | .lit (.string bytes) => bytes.length + 1
  | .lit _ => 1
  | .nil => 1
  | .ptr d => uptoBulk d + 1
  | .slice elems spare => uptoBulkAll elems + uptoBulkAll spare + 1
  | .agg parts => uptoBulkAll parts + 1
  | .iface _ d => uptoBulk d + 1
  | .map entries => uptoBulkEntries entries + 1
  | .held _ => 1
def uptoBulkAll {H : Type} : List (DataW H) → Nat
  | [] => 0
  | d :: r => uptoBulk d + uptoBulkAll r
def uptoBulkEntries {H : Type} : List (Lit × DataW H) → Nat
  | [] => 0
  | x :: r => uptoBulkEntry x + uptoBulkEntries r
def uptoBulkEntry {H : Type} : Lit × DataW H → Nat
  | (.string bytes, d) => bytes.length + uptoBulk d + 1
  | (_, d) => uptoBulk d + 1
 end
def uptoSmall : (H : Type) → List (DataW H) → Bool := fun _ ds => decide (uptoBulkAll ds ≤ 1048576)
def OpenSpec.upto (s : _root_.Go.ChangeSpec) : _root_.Go.OpenSpec := { _root_.Go.OpenSpec.ofChange s with cond := some uptoSmall }

/-- 'laws.FnExactFirstUnpinned', WHERE WHAT IT READS IS OF BULK AT MOST 1048576: true; the input reads as it did. -/
def fnExactFirstUnpinnedUptoRow : OpenClaim := { program := "ytdglhgfhlcdflaadoor", sum := "c7ad7ff88f2a1b8b23eb0e4a9707af8277ac4e83183c2b7a47b52a60e98f1fcf", func := "loop.example/g01311/laws.FnExactFirstUnpinned", spec := "fnExactFirstUnpinned", inPlace := ["internal/reflectlite.TypeOf"], unfollowed := true, recurses := true, named := ["loop.example/g01311/impl.errInvalid", "loop.example/g01311/impl.errRange", "loop.example/g01311/impl.errLimit", "loop.example/g01311/impl.errState", "loop.example/g01311/impl.errNotFound", "loop.example/g01311/impl.errBudget", "loop.example/g01311/impl.errProof", "math/bits.deBruijn32tab"], ifaces := true, plainKeys := false, apart := false, laid := [("math/bits.deBruijn32tab", laid_math_bits_deBruijn32tab), ("loop.example/g01311/impl.errInvalid", laid_loop_example_g01311_impl_errInvalid), ("loop.example/g01311/impl.errRange", laid_loop_example_g01311_impl_errRange), ("loop.example/g01311/impl.errLimit", laid_loop_example_g01311_impl_errLimit), ("loop.example/g01311/impl.errState", laid_loop_example_g01311_impl_errState), ("loop.example/g01311/impl.errNotFound", laid_loop_example_g01311_impl_errNotFound), ("loop.example/g01311/impl.errBudget", laid_loop_example_g01311_impl_errBudget), ("loop.example/g01311/impl.errProof", laid_loop_example_g01311_impl_errProof)], narrowed := true }
def FnExactFirstUnpinnedUptoSaid : Prop := fnExactFirstUnpinnedUptoRow.holds Tryd.pinned (OpenSpec.upto fnExactFirstUnpinnedSpec)

/-- 'laws.FnExactPinGreedily', WHERE WHAT IT READS IS OF BULK AT MOST 1048576: true; the input reads as it did. -/
def fnExactPinGreedilyUptoRow : OpenClaim := { program := "ytdglhgfhlcdflaadoor", sum := "c7ad7ff88f2a1b8b23eb0e4a9707af8277ac4e83183c2b7a47b52a60e98f1fcf", func := "loop.example/g01311/laws.FnExactPinGreedily", spec := "fnExactPinGreedily", inPlace := ["internal/reflectlite.TypeOf"], unfollowed := true, recurses := true, named := ["loop.example/g01311/impl.errInvalid", "loop.example/g01311/impl.errRange", "loop.example/g01311/impl.errLimit", "loop.example/g01311/impl.errState", "loop.example/g01311/impl.errNotFound", "loop.example/g01311/impl.errBudget", "loop.example/g01311/impl.errProof", "math/bits.deBruijn32tab"], ifaces := true, plainKeys := false, apart := false, laid := [("math/bits.deBruijn32tab", laid_math_bits_deBruijn32tab), ("loop.example/g01311/impl.errInvalid", laid_loop_example_g01311_impl_errInvalid), ("loop.example/g01311/impl.errRange", laid_loop_example_g01311_impl_errRange), ("loop.example/g01311/impl.errLimit", laid_loop_example_g01311_impl_errLimit), ("loop.example/g01311/impl.errState", laid_loop_example_g01311_impl_errState), ("loop.example/g01311/impl.errNotFound", laid_loop_example_g01311_impl_errNotFound), ("loop.example/g01311/impl.errBudget", laid_loop_example_g01311_impl_errBudget), ("loop.example/g01311/impl.errProof", laid_loop_example_g01311_impl_errProof)], narrowed := true }
def FnExactPinGreedilyUptoSaid : Prop := fnExactPinGreedilyUptoRow.holds Tryd.pinned (OpenSpec.upto fnExactPinGreedilySpec)

/-- 'laws.FnExactCheckPinning', WHERE WHAT IT READS IS OF BULK AT MOST 1048576: true; the input reads as it did. -/
def fnExactCheckPinningUptoRow : OpenClaim := { program := "ytdglhgfhlcdflaadoor", sum := "c7ad7ff88f2a1b8b23eb0e4a9707af8277ac4e83183c2b7a47b52a60e98f1fcf", func := "loop.example/g01311/laws.FnExactCheckPinning", spec := "fnExactCheckPinning", inPlace := ["internal/reflectlite.TypeOf"], unfollowed := true, recurses := true, named := ["loop.example/g01311/impl.errProof", "loop.example/g01311/impl.errInvalid", "loop.example/g01311/impl.errRange", "math/bits.deBruijn32tab", "loop.example/g01311/impl.errLimit", "loop.example/g01311/impl.errState", "loop.example/g01311/impl.errNotFound", "loop.example/g01311/impl.errBudget"], ifaces := true, plainKeys := false, apart := false, laid := [("math/bits.deBruijn32tab", laid_math_bits_deBruijn32tab), ("loop.example/g01311/impl.errInvalid", laid_loop_example_g01311_impl_errInvalid), ("loop.example/g01311/impl.errRange", laid_loop_example_g01311_impl_errRange), ("loop.example/g01311/impl.errLimit", laid_loop_example_g01311_impl_errLimit), ("loop.example/g01311/impl.errState", laid_loop_example_g01311_impl_errState), ("loop.example/g01311/impl.errNotFound", laid_loop_example_g01311_impl_errNotFound), ("loop.example/g01311/impl.errBudget", laid_loop_example_g01311_impl_errBudget), ("loop.example/g01311/impl.errProof", laid_loop_example_g01311_impl_errProof)], narrowed := true }
def FnExactCheckPinningUptoSaid : Prop := fnExactCheckPinningUptoRow.holds Tryd.pinned (OpenSpec.upto fnExactCheckPinningSpec)

/-- 'laws.FnExactTracksOf', WHERE WHAT IT READS IS OF BULK AT MOST 1048576: true; the input reads as it did. -/
def fnExactTracksOfUptoRow : OpenClaim := { program := "ytdglhgfhlcdflaadoor", sum := "c7ad7ff88f2a1b8b23eb0e4a9707af8277ac4e83183c2b7a47b52a60e98f1fcf", func := "loop.example/g01311/laws.FnExactTracksOf", spec := "fnExactTracksOf", inPlace := ["internal/reflectlite.TypeOf"], unfollowed := true, recurses := true, named := ["loop.example/g01311/impl.errProof", "loop.example/g01311/impl.errInvalid", "loop.example/g01311/impl.errRange", "math/bits.deBruijn32tab", "loop.example/g01311/impl.errLimit", "loop.example/g01311/impl.errState", "loop.example/g01311/impl.errNotFound", "loop.example/g01311/impl.errBudget"], ifaces := true, plainKeys := false, apart := false, laid := [("math/bits.deBruijn32tab", laid_math_bits_deBruijn32tab), ("loop.example/g01311/impl.errInvalid", laid_loop_example_g01311_impl_errInvalid), ("loop.example/g01311/impl.errRange", laid_loop_example_g01311_impl_errRange), ("loop.example/g01311/impl.errLimit", laid_loop_example_g01311_impl_errLimit), ("loop.example/g01311/impl.errState", laid_loop_example_g01311_impl_errState), ("loop.example/g01311/impl.errNotFound", laid_loop_example_g01311_impl_errNotFound), ("loop.example/g01311/impl.errBudget", laid_loop_example_g01311_impl_errBudget), ("loop.example/g01311/impl.errProof", laid_loop_example_g01311_impl_errProof)], narrowed := true }
def FnExactTracksOfUptoSaid : Prop := fnExactTracksOfUptoRow.holds Tryd.pinned (OpenSpec.upto fnExactTracksOfSpec)

end Rows
end Go.Proofs.YtdglhgfhlcdflaaDoor
