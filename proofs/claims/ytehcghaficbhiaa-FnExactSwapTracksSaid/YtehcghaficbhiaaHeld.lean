import Derived.Test.YtehcghaficbhiaaVdi
import Derived.Deep.RegionHeld3
namespace Go.Proofs.Ytehcghaficbhiaa
open Go.RowKit
theorem infoLt (d : Nat → Int) : (Try.prog.info? 27).map (·.size) = some (dv d).length := by rw [dv_length]; exact info27
end Go.Proofs.Ytehcghaficbhiaa
