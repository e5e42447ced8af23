import Derived.Test.YtncdgjaadlpncaaDoorDs
namespace Go.Proofs.YtncdgjaadlpncaaDoor
open Go.RowKit

/-- the code of a frame and drums -/
def lstC (s : Int) (l : List (Int × Int)) (ds : List (Nat → Int)) : Int := if frB s l && drsB s l.length ds then (if ds.length ≤ 8 then 0 else 3) else 1
theorem lstC_inv {s : Int} {l : List (Int × Int)} {ds : List (Nat → Int)} (h : (frB s l && drsB s l.length ds) = false) : lstC s l ds = 1 := by rw [lstC, h]; rfl
theorem lstC_lim {s : Int} {l : List (Int × Int)} {ds : List (Nat → Int)} (h : (frB s l && drsB s l.length ds) = true) (h8 : 8 < ds.length) : lstC s l ds = 3 := by rw [lstC, h, if_pos rfl, if_neg (by omega)]
theorem lstC_ok {s : Int} {l : List (Int × Int)} {ds : List (Nat → Int)} (h : (frB s l && drsB s l.length ds) = true) (h8 : ds.length ≤ 8) : lstC s l ds = 0 := by rw [lstC, h, if_pos rfl, if_pos h8]

end Go.Proofs.YtncdgjaadlpncaaDoor
