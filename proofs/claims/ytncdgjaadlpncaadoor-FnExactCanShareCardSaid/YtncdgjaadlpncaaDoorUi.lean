import Derived.Test.YtncdgjaadlpncaaDoorUni
import Derived.Test.YtncdgjaadlpncaaDoorGe
namespace Go.Proofs.YtncdgjaadlpncaaDoor
open Go.RowKit

def unK (s : Int) (l : List (Int × Int)) (ds : List (Nat → Int)) : Int := lstC s l ds
def unD (s : Int) (l : List (Int × Int)) (ds : List (Nat → Int)) : Nat → Int := if lstC s l ds = 0 then unT ds ds.length else fun _ => 0
/-- the code of SharedPins -/
def shC (s : Int) (l : List (Int × Int)) (ds : List (Nat → Int)) : Int := if lstC s l ds = 0 then (if ds.length = 0 then 6 else 0) else lstC s l ds
def shD (s : Int) (l : List (Int × Int)) (ds : List (Nat → Int)) : Nat → Int := if shC s l ds = 0 then shT ds ds.length else fun _ => 0
def pnI (s : Int) (l : List (Int × Int)) (ds : List (Nat → Int)) : Int := if lstC s l ds = 0 then (mxT ds ds.length : Nat) else 0

end Go.Proofs.YtncdgjaadlpncaaDoor
