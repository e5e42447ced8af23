import Derived.Test.YtncdgjaadlpncaaDoorStk
namespace Go.Proofs.YtncdgjaadlpncaaDoor
open Go.RowKit

theorem zeroQuick (w : World) : (zeroValue 123).run Tryd.prog w = .ok (.agg #[.int .i8 0, .int .i8 0]) w := by kernel_rfl
theorem ta_quick (v : Value) (w : World) : (Instr.typeAssert (.iface 123 v) 120 123 true).run Tryd.prog w = .ok (.tuple #[v, .bool true]) w := by
  simp [Instr.typeAssert, run_underlying Tryd.underlying123]
theorem ta_slow (v : Value) (w : World) : (Instr.typeAssert (.iface 124 v) 120 124 true).run Tryd.prog w = .ok (.tuple #[v, .bool true]) w := by
  simp [Instr.typeAssert, run_underlying Tryd.underlying124]
theorem ta_not (v : Value) (w : World) : (Instr.typeAssert (.iface 124 v) 120 123 true).run Tryd.prog w = .ok (.tuple #[.agg #[.int .i8 0, .int .i8 0], .bool false]) w := by
  simp [Instr.typeAssert, run_underlying Tryd.underlying123, zeroQuick]
end Go.Proofs.YtncdgjaadlpncaaDoor
