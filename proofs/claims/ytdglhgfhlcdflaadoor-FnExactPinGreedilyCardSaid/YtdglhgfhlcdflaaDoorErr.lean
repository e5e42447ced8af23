import Derived.Test.YtdglhgfhlcdflaaDoorGaa
import Derived.Test.YtdglhgfhlcdflaaDoorChecked
import Derived.WalkKit
import Derived.LaidEql
import Derived.Stop.Asserts
import Derived.RowKitTokens
namespace Go.Proofs.YtdglhgfhlcdflaaDoor
open Go.RowKit Go.Extern.Stop Go.Stop Go.Extern

/-- an error of errors.New's make -/
abbrev erV (a : Addr) : Value := .iface 162 (.pointer (some a))
theorem erTypeOf (v : Value) (w : World) : (callFunc 63 #[.iface 162 v]).run Tryd.prog w = .ok (.value (.iface 143 (.agg #[typeHandle Tryd.prog 162]))) w := by kernel_rfl
theorem erComparable (w : World) : (callFunc 114 #[.agg #[typeHandle Tryd.prog 162]]).run Tryd.prog w = .ok (.value (.bool true)) w := by kernel_rfl
theorem erMethod (n : Nat) (v : Value) (w : World) : (Go.method (n + 1) 143 v "Comparable").run Tryd.prog w = .ok (114, v) w := by kernel_rfl
theorem erComp : (Tryd.prog.info? 162).map (·.comparable) = some true := by kernel_rfl
theorem erSize : (Tryd.prog.info? 190).map (·.size) = some 1 := by kernel_rfl
theorem erNoIs (v : Value) (x : TypeId) (w : World) : (Instr.typeAssert (.iface 162 v) x 145 true).run Tryd.prog w = .ok (.tuple #[.nilIface, .bool false]) w := run_typeAssert_lacksB Tryd.underlying145 (by kernel_rfl) (by kernel_rfl) v x w
theorem erNoUn (v : Value) (x : TypeId) (w : World) : (Instr.typeAssert (.iface 162 v) x 148 true).run Tryd.prog w = .ok (.tuple #[.nilIface, .bool false]) w := run_typeAssert_lacksB Tryd.underlying148 (by kernel_rfl) (by kernel_rfl) v x w
theorem erNoUs (v : Value) (x : TypeId) (w : World) : (Instr.typeAssert (.iface 162 v) x 150 true).run Tryd.prog w = .ok (.tuple #[.nilIface, .bool false]) w := run_typeAssert_lacksB Tryd.underlying150 (by kernel_rfl) (by kernel_rfl) v x w

set_option maxRecDepth 20000 in
set_option maxHeartbeats 2000000 in
theorem is_same (a : Addr) (w : World) :
    Calls Tryd.prog 41 #[erV a, erV a] w fun e w' => e = .returned (.bool true) ∧ w = w' := by
  obtain ⟨i, hi, hcmp⟩ := Option.map_eq_some_iff.1 erComp
  obtain ⟨j, hj, hjs⟩ := Option.map_eq_some_iff.1 erSize
  have tT := erTypeOf
  have cT := erComparable
  have mR := erMethod 302
  have heq := run_eql_iface_ptr_same (P := Tryd.prog) w a Tryd.underlying76 Tryd.underlying162 hi hcmp hj
  have KI : Calls Tryd.prog 64 #[erV a, erV a, .bool true] w fun e w' => e = .returned (.bool true) ∧ w = w' := by
    go_enter Tryd.func64, Tryd.ntmps64
    go_wp2
    refine wp_loop_rounds 1 ?_
    rw [rounds_succ]
    go_wp2
    go_ret
    exact ⟨rfl, rfl⟩
  go_enter Tryd.func41, Tryd.ntmps41
  go_wp2_with (go_at_call 64; refine KI.mono ?_; rintro e w' ⟨rfl, rfl⟩)
  go_ret
  exact ⟨rfl, rfl⟩

set_option maxRecDepth 20000 in
set_option maxHeartbeats 2000000 in
theorem is_nil (b : Addr) (w : World) :
    Calls Tryd.prog 41 #[.nilIface, erV b] w fun e w' => e = .returned (.bool false) ∧ w = w' := by
  have hn := run_eql_iface_nil_left (P := Tryd.prog) w 162 (.pointer (some b)) Tryd.underlying76
  go_enter Tryd.func41, Tryd.ntmps41
  go_wp2
  go_ret
  exact ⟨rfl, rfl⟩

set_option maxRecDepth 20000 in
set_option maxHeartbeats 2000000 in
theorem is_other (a b : Addr) (ca cb : Array Value) (ta tb : TypeId) (w : World) (hne : a ≠ b) (ha : w.heap[a.block]? = some (.cells ca ta (0, 0))) (hb : w.heap[b.block]? = some (.cells cb tb (0, 0))) :
    Calls Tryd.prog 41 #[erV a, erV b] w fun e w' => e = .returned (.bool false) ∧ w = w' := by
  obtain ⟨i, hi, hcmp⟩ := Option.map_eq_some_iff.1 erComp
  obtain ⟨j, hj, hjs⟩ := Option.map_eq_some_iff.1 erSize
  have tT := erTypeOf
  have cT := erComparable
  have mR := erMethod 302
  have nE := erNoIs
  have uE := erNoUn
  have vE := erNoUs
  have heq := run_eql_iface_ptr_other (P := Tryd.prog) w Tryd.underlying76 Tryd.underlying162 hi hcmp hj (by rw [hjs]; decide) hne ha hb
  have KI : Calls Tryd.prog 64 #[erV a, erV b, .bool true] w fun e w' => e = .returned (.bool false) ∧ w = w' := by
    go_enter Tryd.func64, Tryd.ntmps64
    go_wp2
    refine wp_loop_rounds 1 ?_
    rw [rounds_succ]
    go_wp2
    go_ret
    exact ⟨rfl, rfl⟩
  go_enter Tryd.func41, Tryd.ntmps41
  go_wp2_with (go_at_call 64; refine KI.mono ?_; rintro e w' ⟨rfl, rfl⟩)
  go_ret
  exact ⟨rfl, rfl⟩
end Go.Proofs.YtdglhgfhlcdflaaDoor
