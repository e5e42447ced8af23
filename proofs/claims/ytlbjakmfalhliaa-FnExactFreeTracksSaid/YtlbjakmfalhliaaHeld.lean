import Derived.Test.YtlbjakmfalhliaaVdi
import Derived.Deep.RegionHeld3
namespace Go.Proofs.Ytlbjakmfalhliaa
open Go.RowKit
theorem infoLt (d : Nat → Int) : (Try.prog.info? 35).map (·.size) = some (dv d).length := by rw [dv_length]; exact info35
end Go.Proofs.Ytlbjakmfalhliaa
