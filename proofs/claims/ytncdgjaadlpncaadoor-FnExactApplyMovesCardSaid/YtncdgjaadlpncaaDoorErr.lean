import Derived.Test.YtncdgjaadlpncaaDoorGa
import Derived.Test.YtncdgjaadlpncaaDoorChecked
import Derived.WalkKit
import Derived.LaidEql
import Derived.Stop.Asserts
import Derived.RowKitTokens
namespace Go.Proofs.YtncdgjaadlpncaaDoor
open Go.RowKit Go.Extern.Stop Go.Stop Go.Extern

/-- an error of errors.New's make -/
abbrev erV (a : Addr) : Value := .iface 139 (.pointer (some a))
theorem erTypeOf (v : Value) (w : World) : (callFunc 67 #[.iface 139 v]).run Tryd.prog w = .ok (.value (.iface 127 (.agg #[typeHandle Tryd.prog 139]))) w := by kernel_rfl
theorem erComparable (w : World) : (callFunc 97 #[.agg #[typeHandle Tryd.prog 139]]).run Tryd.prog w = .ok (.value (.bool true)) w := by kernel_rfl
theorem erMethod (n : Nat) (v : Value) (w : World) : (Go.method (n + 1) 127 v "Comparable").run Tryd.prog w = .ok (97, v) w := by kernel_rfl
theorem erComp : (Tryd.prog.info? 139).map (·.comparable) = some true := by kernel_rfl
theorem erSize : (Tryd.prog.info? 167).map (·.size) = some 1 := by kernel_rfl
theorem erNoIs (v : Value) (x : TypeId) (w : World) : (Instr.typeAssert (.iface 139 v) x 129 true).run Tryd.prog w = .ok (.tuple #[.nilIface, .bool false]) w := run_typeAssert_lacksB Tryd.underlying129 (by kernel_rfl) (by kernel_rfl) v x w
theorem erNoUn (v : Value) (x : TypeId) (w : World) : (Instr.typeAssert (.iface 139 v) x 132 true).run Tryd.prog w = .ok (.tuple #[.nilIface, .bool false]) w := run_typeAssert_lacksB Tryd.underlying132 (by kernel_rfl) (by kernel_rfl) v x w
theorem erNoUs (v : Value) (x : TypeId) (w : World) : (Instr.typeAssert (.iface 139 v) x 134 true).run Tryd.prog w = .ok (.tuple #[.nilIface, .bool false]) w := run_typeAssert_lacksB Tryd.underlying134 (by kernel_rfl) (by kernel_rfl) v x w

set_option maxRecDepth 20000 in
set_option maxHeartbeats 2000000 in
theorem is_same (a : Addr) (w : World) :
    Calls Tryd.prog 57 #[erV a, erV a] w fun e w' => e = .returned (.bool true) ∧ w = w' := by
  obtain ⟨i, hi, hcmp⟩ := Option.map_eq_some_iff.1 erComp
  obtain ⟨j, hj, hjs⟩ := Option.map_eq_some_iff.1 erSize
  have tT := erTypeOf
  have cT := erComparable
  have mR := erMethod 281
  have heq := run_eql_iface_ptr_same (P := Tryd.prog) w a Tryd.underlying69 Tryd.underlying139 hi hcmp hj
  have KI : Calls Tryd.prog 68 #[erV a, erV a, .bool true] w fun e w' => e = .returned (.bool true) ∧ w = w' := by
    go_enter Tryd.func68, Tryd.ntmps68
    go_wp2
    refine wp_loop_rounds 1 ?_
    rw [rounds_succ]
    go_wp2
    go_ret
    exact ⟨rfl, rfl⟩
  go_enter Tryd.func57, Tryd.ntmps57
  go_wp2_with (go_at_call 68; refine KI.mono ?_; rintro e w' ⟨rfl, rfl⟩)
  go_ret
  exact ⟨rfl, rfl⟩

set_option maxRecDepth 20000 in
set_option maxHeartbeats 2000000 in
theorem is_nil (b : Addr) (w : World) :
    Calls Tryd.prog 57 #[.nilIface, erV b] w fun e w' => e = .returned (.bool false) ∧ w = w' := by
  have hn := run_eql_iface_nil_left (P := Tryd.prog) w 139 (.pointer (some b)) Tryd.underlying69
  go_enter Tryd.func57, Tryd.ntmps57
  go_wp2
  go_ret
  exact ⟨rfl, rfl⟩

set_option maxRecDepth 20000 in
set_option maxHeartbeats 2000000 in
theorem is_other (a b : Addr) (ca cb : Array Value) (ta tb : TypeId) (w : World) (hne : a ≠ b) (ha : w.heap[a.block]? = some (.cells ca ta (0, 0))) (hb : w.heap[b.block]? = some (.cells cb tb (0, 0))) :
    Calls Tryd.prog 57 #[erV a, erV b] w fun e w' => e = .returned (.bool false) ∧ w = w' := by
  obtain ⟨i, hi, hcmp⟩ := Option.map_eq_some_iff.1 erComp
  obtain ⟨j, hj, hjs⟩ := Option.map_eq_some_iff.1 erSize
  have tT := erTypeOf
  have cT := erComparable
  have mR := erMethod 281
  have nE := erNoIs
  have uE := erNoUn
  have vE := erNoUs
  have heq := run_eql_iface_ptr_other (P := Tryd.prog) w Tryd.underlying69 Tryd.underlying139 hi hcmp hj (by rw [hjs]; decide) hne ha hb
  have KI : Calls Tryd.prog 68 #[erV a, erV b, .bool true] w fun e w' => e = .returned (.bool false) ∧ w = w' := by
    go_enter Tryd.func68, Tryd.ntmps68
    go_wp2
    refine wp_loop_rounds 1 ?_
    rw [rounds_succ]
    go_wp2
    go_ret
    exact ⟨rfl, rfl⟩
  go_enter Tryd.func57, Tryd.ntmps57
  go_wp2_with (go_at_call 68; refine KI.mono ?_; rintro e w' ⟨rfl, rfl⟩)
  go_ret
  exact ⟨rfl, rfl⟩
end Go.Proofs.YtncdgjaadlpncaaDoor
