import Derived.Test.YtheoopbgbglmdaaDoorBase
import Derived.Test.YtheoopbgbglmdaaDoorChecked
import Derived.WalkKit
import Derived.LaidEql
import Derived.Stop.Asserts
import Derived.RowKitTokens
namespace Go.Proofs.YtheoopbgbglmdaaDoor
open Go.RowKit Go.Extern.Stop Go.Stop Go.Extern

/-- an error of errors.New's make -/
abbrev erV (a : Addr) : Value := .iface 129 (.pointer (some a))
theorem erTypeOf (v : Value) (w : World) : (callFunc 60 #[.iface 129 v]).run Tryd.prog w = .ok (.value (.iface 119 (.agg #[typeHandle Tryd.prog 129]))) w := by kernel_rfl
theorem erComparable (w : World) : (callFunc 88 #[.agg #[typeHandle Tryd.prog 129]]).run Tryd.prog w = .ok (.value (.bool true)) w := by kernel_rfl
theorem erMethod (n : Nat) (v : Value) (w : World) : (Go.method (n + 1) 119 v "Comparable").run Tryd.prog w = .ok (88, v) w := by kernel_rfl
theorem erComp : (Tryd.prog.info? 129).map (·.comparable) = some true := by kernel_rfl
theorem erSize : (Tryd.prog.info? 157).map (·.size) = some 1 := by kernel_rfl
theorem erNoIs (v : Value) (x : TypeId) (w : World) : (Instr.typeAssert (.iface 129 v) x 121 true).run Tryd.prog w = .ok (.tuple #[.nilIface, .bool false]) w := run_typeAssert_lacksB Tryd.underlying121 (by kernel_rfl) (by kernel_rfl) v x w
theorem erNoUn (v : Value) (x : TypeId) (w : World) : (Instr.typeAssert (.iface 129 v) x 124 true).run Tryd.prog w = .ok (.tuple #[.nilIface, .bool false]) w := run_typeAssert_lacksB Tryd.underlying124 (by kernel_rfl) (by kernel_rfl) v x w
theorem erNoUs (v : Value) (x : TypeId) (w : World) : (Instr.typeAssert (.iface 129 v) x 126 true).run Tryd.prog w = .ok (.tuple #[.nilIface, .bool false]) w := run_typeAssert_lacksB Tryd.underlying126 (by kernel_rfl) (by kernel_rfl) v x w

set_option maxRecDepth 20000 in
set_option maxHeartbeats 2000000 in
theorem is_same (a : Addr) (w : World) :
    Calls Tryd.prog 56 #[erV a, erV a] w fun e w' => e = .returned (.bool true) ∧ w = w' := by
  obtain ⟨i, hi, hcmp⟩ := Option.map_eq_some_iff.1 erComp
  obtain ⟨j, hj, hjs⟩ := Option.map_eq_some_iff.1 erSize
  have tT := erTypeOf
  have cT := erComparable
  have mR := erMethod 269
  have heq := run_eql_iface_ptr_same (P := Tryd.prog) w a Tryd.underlying56 Tryd.underlying129 hi hcmp hj
  have KI : Calls Tryd.prog 61 #[erV a, erV a, .bool true] w fun e w' => e = .returned (.bool true) ∧ w = w' := by
    go_enter Tryd.func61, Tryd.ntmps61
    go_wp2
    refine wp_loop_rounds 1 ?_
    rw [rounds_succ]
    go_wp2
    go_ret
    exact ⟨rfl, rfl⟩
  go_enter Tryd.func56, Tryd.ntmps56
  go_wp2_with (go_at_call 61; refine KI.mono ?_; rintro e w' ⟨rfl, rfl⟩)
  go_ret
  exact ⟨rfl, rfl⟩

set_option maxRecDepth 20000 in
set_option maxHeartbeats 2000000 in
theorem is_nil (b : Addr) (w : World) :
    Calls Tryd.prog 56 #[.nilIface, erV b] w fun e w' => e = .returned (.bool false) ∧ w = w' := by
  have hn := run_eql_iface_nil_left (P := Tryd.prog) w 129 (.pointer (some b)) Tryd.underlying56
  go_enter Tryd.func56, Tryd.ntmps56
  go_wp2
  go_ret
  exact ⟨rfl, rfl⟩

set_option maxRecDepth 20000 in
set_option maxHeartbeats 2000000 in
theorem is_other (a b : Addr) (ca cb : Array Value) (ta tb : TypeId) (w : World) (hne : a ≠ b) (ha : w.heap[a.block]? = some (.cells ca ta (0, 0))) (hb : w.heap[b.block]? = some (.cells cb tb (0, 0))) :
    Calls Tryd.prog 56 #[erV a, erV b] w fun e w' => e = .returned (.bool false) ∧ w = w' := by
  obtain ⟨i, hi, hcmp⟩ := Option.map_eq_some_iff.1 erComp
  obtain ⟨j, hj, hjs⟩ := Option.map_eq_some_iff.1 erSize
  have tT := erTypeOf
  have cT := erComparable
  have mR := erMethod 269
  have nE := erNoIs
  have uE := erNoUn
  have vE := erNoUs
  have heq := run_eql_iface_ptr_other (P := Tryd.prog) w Tryd.underlying56 Tryd.underlying129 hi hcmp hj (by rw [hjs]; decide) hne ha hb
  have KI : Calls Tryd.prog 61 #[erV a, erV b, .bool true] w fun e w' => e = .returned (.bool false) ∧ w = w' := by
    go_enter Tryd.func61, Tryd.ntmps61
    go_wp2
    refine wp_loop_rounds 1 ?_
    rw [rounds_succ]
    go_wp2
    go_ret
    exact ⟨rfl, rfl⟩
  go_enter Tryd.func56, Tryd.ntmps56
  go_wp2_with (go_at_call 61; refine KI.mono ?_; rintro e w' ⟨rfl, rfl⟩)
  go_ret
  exact ⟨rfl, rfl⟩
end Go.Proofs.YtheoopbgbglmdaaDoor
