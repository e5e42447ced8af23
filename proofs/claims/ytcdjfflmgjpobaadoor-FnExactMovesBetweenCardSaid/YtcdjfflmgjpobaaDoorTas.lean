import Derived.Test.YtcdjfflmgjpobaaDoorStk
namespace Go.Proofs.YtcdjfflmgjpobaaDoor
open Go.RowKit

theorem zeroQuick (w : World) : (zeroValue 133).run Tryd.prog w = .ok (.agg #[.int .i8 0, .int .i8 0]) w := by kernel_rfl
theorem ta_quick (v : Value) (w : World) : (Instr.typeAssert (.iface 133 v) 130 133 true).run Tryd.prog w = .ok (.tuple #[v, .bool true]) w := by
  simp [Instr.typeAssert, run_underlying Tryd.underlying133]
theorem ta_slow (v : Value) (w : World) : (Instr.typeAssert (.iface 134 v) 130 134 true).run Tryd.prog w = .ok (.tuple #[v, .bool true]) w := by
  simp [Instr.typeAssert, run_underlying Tryd.underlying134]
theorem ta_not (v : Value) (w : World) : (Instr.typeAssert (.iface 134 v) 130 133 true).run Tryd.prog w = .ok (.tuple #[.agg #[.int .i8 0, .int .i8 0], .bool false]) w := by
  simp [Instr.typeAssert, run_underlying Tryd.underlying133, zeroQuick]
end Go.Proofs.YtcdjfflmgjpobaaDoor
