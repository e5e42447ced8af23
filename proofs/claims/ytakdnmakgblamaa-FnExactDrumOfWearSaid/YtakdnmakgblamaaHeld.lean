import Derived.Test.YtakdnmakgblamaaVdi
import Derived.Deep.RegionHeld3
namespace Go.Proofs.Ytakdnmakgblamaa
open Go.RowKit
theorem infoLt (d : Nat → Int) : (Try.prog.info? 52).map (·.size) = some (dv d).length := by rw [dv_length]; exact info52
end Go.Proofs.Ytakdnmakgblamaa
