import Derived.Test.YtmmninlnpnhboaaGreatDoorGaa
import Derived.Test.YtmmninlnpnhboaaGreatDoorChecked
import Derived.WalkKit
import Derived.LaidEql
import Derived.Stop.Asserts
import Derived.RowKitTokens
namespace Go.Proofs.YtmmninlnpnhboaaGreatDoor
open Go.RowKit Go.Extern.Stop Go.Stop Go.Extern

/-- an error of errors.New's make -/
abbrev erV (a : Addr) : Value := .iface 225 (.pointer (some a))
theorem erTypeOf (v : Value) (w : World) : (callFunc 83 #[.iface 225 v]).run Tryz.prog w = .ok (.value (.iface 155 (.agg #[typeHandle Tryz.prog 225]))) w := by kernel_rfl
theorem erComparable (w : World) : (callFunc 167 #[.agg #[typeHandle Tryz.prog 225]]).run Tryz.prog w = .ok (.value (.bool true)) w := by kernel_rfl
theorem erMethod (n : Nat) (v : Value) (w : World) : (Go.method (n + 1) 155 v "Comparable").run Tryz.prog w = .ok (167, v) w := by kernel_rfl
theorem erComp : (Tryz.prog.info? 225).map (·.comparable) = some true := by kernel_rfl
theorem erSize : (Tryz.prog.info? 247).map (·.size) = some 1 := by kernel_rfl
theorem erNoIs (v : Value) (x : TypeId) (w : World) : (Instr.typeAssert (.iface 225 v) x 185 true).run Tryz.prog w = .ok (.tuple #[.nilIface, .bool false]) w := run_typeAssert_lacksB Tryz.underlying185 (by kernel_rfl) (by kernel_rfl) v x w
theorem erNoUn (v : Value) (x : TypeId) (w : World) : (Instr.typeAssert (.iface 225 v) x 162 true).run Tryz.prog w = .ok (.tuple #[.nilIface, .bool false]) w := run_typeAssert_lacksB Tryz.underlying162 (by kernel_rfl) (by kernel_rfl) v x w
theorem erNoUs (v : Value) (x : TypeId) (w : World) : (Instr.typeAssert (.iface 225 v) x 164 true).run Tryz.prog w = .ok (.tuple #[.nilIface, .bool false]) w := run_typeAssert_lacksB Tryz.underlying164 (by kernel_rfl) (by kernel_rfl) v x w

set_option maxRecDepth 20000 in
set_option maxHeartbeats 2000000 in
theorem is_same (a : Addr) (w : World) :
    Calls Tryz.prog 54 #[erV a, erV a] w fun e w' => e = .returned (.bool true) ∧ w = w' := by
  obtain ⟨i, hi, hcmp⟩ := Option.map_eq_some_iff.1 erComp
  obtain ⟨j, hj, hjs⟩ := Option.map_eq_some_iff.1 erSize
  have tT := erTypeOf
  have cT := erComparable
  have mR := erMethod 358
  have heq := run_eql_iface_ptr_same (P := Tryz.prog) w a Tryz.underlying73 Tryz.underlying225 hi hcmp hj
  have KI : Calls Tryz.prog 84 #[erV a, erV a, .bool true] w fun e w' => e = .returned (.bool true) ∧ w = w' := by
    go_enter Tryz.func84, Tryz.ntmps84
    go_wp2
    refine wp_loop_rounds 1 ?_
    rw [rounds_succ]
    go_wp2
    go_ret
    exact ⟨rfl, rfl⟩
  go_enter Tryz.func54, Tryz.ntmps54
  go_wp2_with (go_at_call 84; refine KI.mono ?_; rintro e w' ⟨rfl, rfl⟩)
  go_ret
  exact ⟨rfl, rfl⟩

set_option maxRecDepth 20000 in
set_option maxHeartbeats 2000000 in
theorem is_nil (b : Addr) (w : World) :
    Calls Tryz.prog 54 #[.nilIface, erV b] w fun e w' => e = .returned (.bool false) ∧ w = w' := by
  have hn := run_eql_iface_nil_left (P := Tryz.prog) w 225 (.pointer (some b)) Tryz.underlying73
  go_enter Tryz.func54, Tryz.ntmps54
  go_wp2
  go_ret
  exact ⟨rfl, rfl⟩

set_option maxRecDepth 20000 in
set_option maxHeartbeats 2000000 in
theorem is_other (a b : Addr) (ca cb : Array Value) (ta tb : TypeId) (w : World) (hne : a ≠ b) (ha : w.heap[a.block]? = some (.cells ca ta (0, 0))) (hb : w.heap[b.block]? = some (.cells cb tb (0, 0))) :
    Calls Tryz.prog 54 #[erV a, erV b] w fun e w' => e = .returned (.bool false) ∧ w = w' := by
  obtain ⟨i, hi, hcmp⟩ := Option.map_eq_some_iff.1 erComp
  obtain ⟨j, hj, hjs⟩ := Option.map_eq_some_iff.1 erSize
  have tT := erTypeOf
  have cT := erComparable
  have mR := erMethod 358
  have nE := erNoIs
  have uE := erNoUn
  have vE := erNoUs
  have heq := run_eql_iface_ptr_other (P := Tryz.prog) w Tryz.underlying73 Tryz.underlying225 hi hcmp hj (by rw [hjs]; decide) hne ha hb
  have KI : Calls Tryz.prog 84 #[erV a, erV b, .bool true] w fun e w' => e = .returned (.bool false) ∧ w = w' := by
    go_enter Tryz.func84, Tryz.ntmps84
    go_wp2
    refine wp_loop_rounds 1 ?_
    rw [rounds_succ]
    go_wp2
    go_ret
    exact ⟨rfl, rfl⟩
  go_enter Tryz.func54, Tryz.ntmps54
  go_wp2_with (go_at_call 84; refine KI.mono ?_; rintro e w' ⟨rfl, rfl⟩)
  go_ret
  exact ⟨rfl, rfl⟩
end Go.Proofs.YtmmninlnpnhboaaGreatDoor
