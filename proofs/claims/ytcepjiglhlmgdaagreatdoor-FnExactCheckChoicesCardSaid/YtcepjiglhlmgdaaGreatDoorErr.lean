import Derived.Test.YtcepjiglhlmgdaaGreatDoorGaa
import Derived.Test.YtcepjiglhlmgdaaGreatDoorChecked
import Derived.WalkKit
import Derived.LaidEql
import Derived.Stop.Asserts
import Derived.RowKitTokens
namespace Go.Proofs.YtcepjiglhlmgdaaGreatDoor
open Go.RowKit Go.Extern.Stop Go.Stop Go.Extern

/-- an error of errors.New's make -/
abbrev erV (a : Addr) : Value := .iface 175 (.pointer (some a))
theorem erTypeOf (v : Value) (w : World) : (callFunc 68 #[.iface 175 v]).run Tryz.prog w = .ok (.value (.iface 137 (.agg #[typeHandle Tryz.prog 175]))) w := by kernel_rfl
theorem erComparable (w : World) : (callFunc 123 #[.agg #[typeHandle Tryz.prog 175]]).run Tryz.prog w = .ok (.value (.bool true)) w := by kernel_rfl
theorem erMethod (n : Nat) (v : Value) (w : World) : (Go.method (n + 1) 137 v "Comparable").run Tryz.prog w = .ok (123, v) w := by kernel_rfl
theorem erComp : (Tryz.prog.info? 175).map (·.comparable) = some true := by kernel_rfl
theorem erSize : (Tryz.prog.info? 199).map (·.size) = some 1 := by kernel_rfl
theorem erNoIs (v : Value) (x : TypeId) (w : World) : (Instr.typeAssert (.iface 175 v) x 161 true).run Tryz.prog w = .ok (.tuple #[.nilIface, .bool false]) w := run_typeAssert_lacksB Tryz.underlying161 (by kernel_rfl) (by kernel_rfl) v x w
theorem erNoUn (v : Value) (x : TypeId) (w : World) : (Instr.typeAssert (.iface 175 v) x 145 true).run Tryz.prog w = .ok (.tuple #[.nilIface, .bool false]) w := run_typeAssert_lacksB Tryz.underlying145 (by kernel_rfl) (by kernel_rfl) v x w
theorem erNoUs (v : Value) (x : TypeId) (w : World) : (Instr.typeAssert (.iface 175 v) x 147 true).run Tryz.prog w = .ok (.tuple #[.nilIface, .bool false]) w := run_typeAssert_lacksB Tryz.underlying147 (by kernel_rfl) (by kernel_rfl) v x w

set_option maxRecDepth 20000 in
set_option maxHeartbeats 2000000 in
theorem is_same (a : Addr) (w : World) :
    Calls Tryz.prog 45 #[erV a, erV a] w fun e w' => e = .returned (.bool true) ∧ w = w' := by
  obtain ⟨i, hi, hcmp⟩ := Option.map_eq_some_iff.1 erComp
  obtain ⟨j, hj, hjs⟩ := Option.map_eq_some_iff.1 erSize
  have tT := erTypeOf
  have cT := erComparable
  have mR := erMethod 311
  have heq := run_eql_iface_ptr_same (P := Tryz.prog) w a Tryz.underlying67 Tryz.underlying175 hi hcmp hj
  have KI : Calls Tryz.prog 71 #[erV a, erV a, .bool true] w fun e w' => e = .returned (.bool true) ∧ w = w' := by
    go_enter Tryz.func71, Tryz.ntmps71
    go_wp2
    refine wp_loop_rounds 1 ?_
    rw [rounds_succ]
    go_wp2
    go_ret
    exact ⟨rfl, rfl⟩
  go_enter Tryz.func45, Tryz.ntmps45
  go_wp2_with (go_at_call 71; refine KI.mono ?_; rintro e w' ⟨rfl, rfl⟩)
  go_ret
  exact ⟨rfl, rfl⟩

set_option maxRecDepth 20000 in
set_option maxHeartbeats 2000000 in
theorem is_nil (b : Addr) (w : World) :
    Calls Tryz.prog 45 #[.nilIface, erV b] w fun e w' => e = .returned (.bool false) ∧ w = w' := by
  have hn := run_eql_iface_nil_left (P := Tryz.prog) w 175 (.pointer (some b)) Tryz.underlying67
  go_enter Tryz.func45, Tryz.ntmps45
  go_wp2
  go_ret
  exact ⟨rfl, rfl⟩

set_option maxRecDepth 20000 in
set_option maxHeartbeats 2000000 in
theorem is_other (a b : Addr) (ca cb : Array Value) (ta tb : TypeId) (w : World) (hne : a ≠ b) (ha : w.heap[a.block]? = some (.cells ca ta (0, 0))) (hb : w.heap[b.block]? = some (.cells cb tb (0, 0))) :
    Calls Tryz.prog 45 #[erV a, erV b] w fun e w' => e = .returned (.bool false) ∧ w = w' := by
  obtain ⟨i, hi, hcmp⟩ := Option.map_eq_some_iff.1 erComp
  obtain ⟨j, hj, hjs⟩ := Option.map_eq_some_iff.1 erSize
  have tT := erTypeOf
  have cT := erComparable
  have mR := erMethod 311
  have nE := erNoIs
  have uE := erNoUn
  have vE := erNoUs
  have heq := run_eql_iface_ptr_other (P := Tryz.prog) w Tryz.underlying67 Tryz.underlying175 hi hcmp hj (by rw [hjs]; decide) hne ha hb
  have KI : Calls Tryz.prog 71 #[erV a, erV b, .bool true] w fun e w' => e = .returned (.bool false) ∧ w = w' := by
    go_enter Tryz.func71, Tryz.ntmps71
    go_wp2
    refine wp_loop_rounds 1 ?_
    rw [rounds_succ]
    go_wp2
    go_ret
    exact ⟨rfl, rfl⟩
  go_enter Tryz.func45, Tryz.ntmps45
  go_wp2_with (go_at_call 71; refine KI.mono ?_; rintro e w' ⟨rfl, rfl⟩)
  go_ret
  exact ⟨rfl, rfl⟩
end Go.Proofs.YtcepjiglhlmgdaaGreatDoor
