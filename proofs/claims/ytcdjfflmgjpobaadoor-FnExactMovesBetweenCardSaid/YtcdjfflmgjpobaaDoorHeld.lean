import Derived.Test.YtcdjfflmgjpobaaDoorVdi
import Derived.Deep.RegionHeld3
namespace Go.Proofs.YtcdjfflmgjpobaaDoor
open Go.RowKit
theorem infoLt (d : Nat → Int) : (Tryd.prog.info? 27).map (·.size) = some (dv d).length := by rw [dv_length]; exact info27
end Go.Proofs.YtcdjfflmgjpobaaDoor
