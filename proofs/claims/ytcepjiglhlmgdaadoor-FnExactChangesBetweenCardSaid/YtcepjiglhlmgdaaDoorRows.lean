/-
  NARROWER THAN 'FOR EVERY INPUT', by the rows' own cells (each row's printed sentence says how): FnExactChoicesFor: ifaces, laid · FnExactChangesBetween: laid.
  DERIVED. THE GIVEN ROWS OF THIS SEAT. 2 by the template 'for every input the law returns true; each argument reads behind the call as it read before'; 0 by the template 'total and deterministic' (their statements: YtcepjiglhlmgdaaDoorTotals.lean).
  GIVEN WITH THE SEED: the statements are not yours to turn. If you find one false, say at which input.
  Laid BY PROGRAM, IN A SANDBOX (cutbox-rows.mjs): the forced cells as the released guide's own fill.sh prints them over the translation 20f71bf9a36249c3… (all of the seat's roots in one cut). By AI agents, Wed Nov 11 2026. No macro, syntax, notation, axiom, sorry.
-/
import Derived.Test.YtcepjiglhlmgdaaDoorChecked
import GoSem.Claim
import GoSem.ClaimJoined
import GoSem.ClaimMapViews
import Derived.JoinedTies
import Derived.KernelRfl
namespace Go.Proofs.YtcepjiglhlmgdaaDoor
/- THE CELL 'sum', in the pinned program and in every row, IS THE sha256 OF THE DUMP (.gsa) THAT YtcepjiglhlmgdaaDoorProg.lean LOADS. Nothing in Lean hashes anything: it is a label: what it is worth is what the hold of that sum in a sandbox is worth. -/
noncomputable def Tryd.pinned : Pinned := { name := "ytcepjiglhlmgdaadoor", sum := "20f71bf9a36249c360126c168a5595261114d8188f1633cac4361f360e49461f", checked := Tryd.checked }
namespace Rows
def none {H : Type} : Left H := { results := [], args := [] }

/- WHAT THE LISTED PACKAGE-LEVEL VARIABLES READ AS WHEN THE CALL BEGINS. Each datum BY PROGRAM (the guide's laid-datum.mjs) off the statement by which the dump's own 'gosem.cut.vars' lays the variable. In a bare row this is a premise. The card (YtcepjiglhlmgdaaDoorCards.lean) ties it to the program's text. -/
def laid_loop_example_g01311_impl_errInvalid {H : Type} : DataW H := .iface "*errors.errorString" (.ptr (.agg [.lit (.string [105, 110, 118, 97, 108, 105, 100])]))
def laid_loop_example_g01311_impl_errRange {H : Type} : DataW H := .iface "*errors.errorString" (.ptr (.agg [.lit (.string [114, 97, 110, 103, 101])]))
def laid_loop_example_g01311_impl_errLimit {H : Type} : DataW H := .iface "*errors.errorString" (.ptr (.agg [.lit (.string [108, 105, 109, 105, 116])]))
def laid_loop_example_g01311_impl_errState {H : Type} : DataW H := .iface "*errors.errorString" (.ptr (.agg [.lit (.string [115, 116, 97, 116, 101])]))
def laid_loop_example_g01311_impl_errNotFound {H : Type} : DataW H := .iface "*errors.errorString" (.ptr (.agg [.lit (.string [110, 111, 116, 102, 111, 117, 110, 100])]))
def laid_loop_example_g01311_impl_errBudget {H : Type} : DataW H := .iface "*errors.errorString" (.ptr (.agg [.lit (.string [98, 117, 100, 103, 101, 116])]))
def laid_loop_example_g01311_impl_errProof {H : Type} : DataW H := .iface "*errors.errorString" (.ptr (.agg [.lit (.string [112, 114, 111, 111, 102])]))
def laid_math_bits_deBruijn32tab {H : Type} : DataW H := .agg [.lit (.int .u8 0), .lit (.int .u8 1), .lit (.int .u8 28), .lit (.int .u8 2), .lit (.int .u8 29), .lit (.int .u8 14), .lit (.int .u8 24), .lit (.int .u8 3), .lit (.int .u8 30), .lit (.int .u8 22), .lit (.int .u8 20), .lit (.int .u8 15), .lit (.int .u8 25), .lit (.int .u8 17), .lit (.int .u8 4), .lit (.int .u8 8), .lit (.int .u8 31), .lit (.int .u8 27), .lit (.int .u8 13), .lit (.int .u8 23), .lit (.int .u8 21), .lit (.int .u8 19), .lit (.int .u8 16), .lit (.int .u8 7), .lit (.int .u8 26), .lit (.int .u8 12), .lit (.int .u8 18), .lit (.int .u8 6), .lit (.int .u8 11), .lit (.int .u8 5), .lit (.int .u8 10), .lit (.int .u8 9)]

/-- 'laws.FnExactChoicesFor': WHATEVER THE INPUT: true; the input reads as it did. -/
def fnExactChoicesForSpec : ChangeSpec := { name := "fnExactChoicesFor", vars := ["loop.example/g01311/impl.errInvalid", "loop.example/g01311/impl.errRange", "loop.example/g01311/impl.errLimit", "loop.example/g01311/impl.errState", "loop.example/g01311/impl.errNotFound", "loop.example/g01311/impl.errBudget", "loop.example/g01311/impl.errProof"], fn := fun _ => fun
  | [d1, d2, g1, g2, g3, g4, g5, g6, g7] => { results := [.lit (.bool true)], args := [d1, d2], vars := [g1, g2, g3, g4, g5, g6, g7] }
  | _ => none }
def fnExactChoicesForRow : OpenClaim := { program := "ytcepjiglhlmgdaadoor", sum := "20f71bf9a36249c360126c168a5595261114d8188f1633cac4361f360e49461f", func := "loop.example/g01311/laws.FnExactChoicesFor", spec := "fnExactChoicesFor", inPlace := ["internal/reflectlite.TypeOf"], unfollowed := true, recurses := true, named := ["loop.example/g01311/impl.errInvalid", "loop.example/g01311/impl.errRange", "loop.example/g01311/impl.errLimit", "loop.example/g01311/impl.errState", "loop.example/g01311/impl.errNotFound", "loop.example/g01311/impl.errBudget", "loop.example/g01311/impl.errProof"], ifaces := true, plainKeys := false, apart := false, laid := [("loop.example/g01311/impl.errInvalid", laid_loop_example_g01311_impl_errInvalid), ("loop.example/g01311/impl.errRange", laid_loop_example_g01311_impl_errRange), ("loop.example/g01311/impl.errLimit", laid_loop_example_g01311_impl_errLimit), ("loop.example/g01311/impl.errState", laid_loop_example_g01311_impl_errState), ("loop.example/g01311/impl.errNotFound", laid_loop_example_g01311_impl_errNotFound), ("loop.example/g01311/impl.errBudget", laid_loop_example_g01311_impl_errBudget), ("loop.example/g01311/impl.errProof", laid_loop_example_g01311_impl_errProof)] }
def FnExactChoicesForSaid : Prop := fnExactChoicesForRow.holds Tryd.pinned (OpenSpec.ofChange fnExactChoicesForSpec)

/-- ITS FALSE NEIGHBOUR: 'it returns false'. Refute it at one input. -/
def fnExactChoicesForWrong : ChangeSpec := { name := "fnExactChoicesFor", vars := ["loop.example/g01311/impl.errInvalid", "loop.example/g01311/impl.errRange", "loop.example/g01311/impl.errLimit", "loop.example/g01311/impl.errState", "loop.example/g01311/impl.errNotFound", "loop.example/g01311/impl.errBudget", "loop.example/g01311/impl.errProof"], fn := fun _ => fun
  | [d1, d2, g1, g2, g3, g4, g5, g6, g7] => { results := [.lit (.bool false)], args := [d1, d2], vars := [g1, g2, g3, g4, g5, g6, g7] }
  | _ => none }
def FnExactChoicesForWrongFalsely : Prop := fnExactChoicesForRow.holds Tryd.pinned (OpenSpec.ofChange fnExactChoicesForWrong)

/-- 'laws.FnExactChangesBetween': WHATEVER THE INPUT: true; the input reads as it did. -/
def fnExactChangesBetweenSpec : ChangeSpec := { name := "fnExactChangesBetween", fn := fun _ => fun
  | [d1, d2, d3] => { results := [.lit (.bool true)], args := [d1, d2, d3] }
  | _ => none }
def fnExactChangesBetweenRow : OpenClaim := { program := "ytcepjiglhlmgdaadoor", sum := "20f71bf9a36249c360126c168a5595261114d8188f1633cac4361f360e49461f", func := "loop.example/g01311/laws.FnExactChangesBetween", spec := "fnExactChangesBetween", unfollowed := true, recurses := true, named := ["math/bits.deBruijn32tab"], plainKeys := false, apart := false, laid := [("math/bits.deBruijn32tab", laid_math_bits_deBruijn32tab)] }
def FnExactChangesBetweenSaid : Prop := fnExactChangesBetweenRow.holds Tryd.pinned (OpenSpec.ofChange fnExactChangesBetweenSpec)

/-- ITS FALSE NEIGHBOUR: 'it returns false'. Refute it at one input. -/
def fnExactChangesBetweenWrong : ChangeSpec := { name := "fnExactChangesBetween", fn := fun _ => fun
  | [d1, d2, d3] => { results := [.lit (.bool false)], args := [d1, d2, d3] }
  | _ => none }
def FnExactChangesBetweenWrongFalsely : Prop := fnExactChangesBetweenRow.holds Tryd.pinned (OpenSpec.ofChange fnExactChangesBetweenWrong)

/- THE SECOND FORM. 'bulk': how many values and letters a reading holds, each counted each time it is reached (what is shared counts as often as it is met; a slice's spare places count too). A statement '..UptoSaid' is the law's where the arguments, and the package variables that the reading takes, are together of bulk at most 1048576: NARROWER than '..Said'. Prove '..Said' where nothing that the law and all that it calls make is longer than what came in: it says more and counts as full. Else prove '..UptoSaid'. A law counts once. -/
mutual
def uptoBulk {H : Type} : DataW H → Nat
  | .lit (.string bytes) => bytes.length + 1
  | .lit _ => 1
  | .nil => 1
  | .ptr d => uptoBulk d + 1
  | .slice elems spare => uptoBulkAll elems + uptoBulkAll spare + 1
  | .agg parts => uptoBulkAll parts + 1
  | .iface _ d => uptoBulk d + 1
  | .map entries => uptoBulkEntries entries + 1
  | .held _ => 1
def uptoBulkAll {H : Type} : List (DataW H) → Nat
  | [] => 0
  | d :: r => uptoBulk d + uptoBulkAll r
def uptoBulkEntries {H : Type} : List (Lit × DataW H) → Nat
  | [] => 0
  | x :: r => uptoBulkEntry x + uptoBulkEntries r
def uptoBulkEntry {H : Type} : Lit × DataW H → Nat
  | (.string bytes, d) => bytes.length + uptoBulk d + 1
  | (_, d) => uptoBulk d + 1
 end
def uptoSmall : (H : Type) → List (DataW H) → Bool := fun _ ds => decide (uptoBulkAll ds ≤ 1048576)
def OpenSpec.upto (s : _root_.Go.ChangeSpec) : _root_.Go.OpenSpec := { _root_.Go.OpenSpec.ofChange s with cond := some uptoSmall }

/-- 'laws.FnExactChoicesFor', WHERE WHAT IT READS IS OF BULK AT MOST 1048576: true; the input reads as it did. -/
def fnExactChoicesForUptoRow : OpenClaim := { program := "ytcepjiglhlmgdaadoor", sum := "20f71bf9a36249c360126c168a5595261114d8188f1633cac4361f360e49461f", func := "loop.example/g01311/laws.FnExactChoicesFor", spec := "fnExactChoicesFor", inPlace := ["internal/reflectlite.TypeOf"], unfollowed := true, recurses := true, named := ["loop.example/g01311/impl.errInvalid", "loop.example/g01311/impl.errRange", "loop.example/g01311/impl.errLimit", "loop.example/g01311/impl.errState", "loop.example/g01311/impl.errNotFound", "loop.example/g01311/impl.errBudget", "loop.example/g01311/impl.errProof"], ifaces := true, plainKeys := false, apart := false, laid := [("loop.example/g01311/impl.errInvalid", laid_loop_example_g01311_impl_errInvalid), ("loop.example/g01311/impl.errRange", laid_loop_example_g01311_impl_errRange), ("loop.example/g01311/impl.errLimit", laid_loop_example_g01311_impl_errLimit), ("loop.example/g01311/impl.errState", laid_loop_example_g01311_impl_errState), ("loop.example/g01311/impl.errNotFound", laid_loop_example_g01311_impl_errNotFound), ("loop.example/g01311/impl.errBudget", laid_loop_example_g01311_impl_errBudget), ("loop.example/g01311/impl.errProof", laid_loop_example_g01311_impl_errProof)], narrowed := true }
def FnExactChoicesForUptoSaid : Prop := fnExactChoicesForUptoRow.holds Tryd.pinned (OpenSpec.upto fnExactChoicesForSpec)

/-- 'laws.FnExactChangesBetween', WHERE WHAT IT READS IS OF BULK AT MOST 1048576: true; the input reads as it did. -/
def fnExactChangesBetweenUptoRow : OpenClaim := { program := "ytcepjiglhlmgdaadoor", sum := "20f71bf9a36249c360126c168a5595261114d8188f1633cac4361f360e49461f", func := "loop.example/g01311/laws.FnExactChangesBetween", spec := "fnExactChangesBetween", unfollowed := true, recurses := true, named := ["math/bits.deBruijn32tab"], plainKeys := false, apart := false, laid := [("math/bits.deBruijn32tab", laid_math_bits_deBruijn32tab)], narrowed := true }
def FnExactChangesBetweenUptoSaid : Prop := fnExactChangesBetweenUptoRow.holds Tryd.pinned (OpenSpec.upto fnExactChangesBetweenSpec)

end Rows
end Go.Proofs.YtcepjiglhlmgdaaDoor
