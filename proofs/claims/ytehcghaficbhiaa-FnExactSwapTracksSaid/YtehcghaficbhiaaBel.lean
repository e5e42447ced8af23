import Derived.Test.YtehcghaficbhiaaFre
namespace Go.Proofs.Ytehcghaficbhiaa
open Go.RowKit


/-- the set of the first k hammers' pitches, as the walk spells it -/
def belTo (l : List (Int × Int)) : Nat → Int
  | 0 => 0
  | k + 1 => bits .or .u64 (belTo l k) (IntKind.u64.wrap (2 ^ (hPi l k).toNat))
def belI (l : List (Int × Int)) : Int := belTo l l.length
theorem HG.at {s : Int} {l : List (Int × Int)} {n k : Nat} (h : HG s l n) (hk : k < n) : (0 ≤ hPi l k ∧ hPi l k ≤ 47) ∧ (1 ≤ hRe l k ∧ hRe l k ≤ 20 ∧ hRe l k ≤ s) := by
  have := h k hk
  simp only [hamB, inB, Bool.and_eq_true, decide_eq_true_eq] at this
  have hm : mnI s ≤ 20 ∧ mnI s ≤ s := by unfold mnI; split <;> omega
  omega

end Go.Proofs.Ytehcghaficbhiaa
