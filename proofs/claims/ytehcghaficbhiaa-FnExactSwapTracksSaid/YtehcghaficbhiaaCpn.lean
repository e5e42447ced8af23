import Derived.Test.YtehcghaficbhiaaCnt
namespace Go.Proofs.Ytehcghaficbhiaa
open Go.RowKit

/-- the pins of the first k steps -/
def cntT (d : Nat → Int) : Nat → Nat
  | 0 => 0
  | k + 1 => cntT d k + pc (d k).toNat
theorem cntT_le (d : Nat → Int) (hd : DWF d) : ∀ k, k ≤ 96 → cntT d k ≤ k * 4294967295
  | 0, _ => by simp [cntT]
  | k + 1, h => by
    have h1 := cntT_le d hd k (by omega)
    have h2 := pc_le (d k).toNat
    have h3 := hd k (by omega)
    simp only [cntT]
    omega
def cntI (d : Nat → Int) : Int := (cntT d 96 : Nat)
theorem indexD (d : Nat → Int) (k : Nat) (hk : k < 96) (w : World) : (Instr.index 32 (.agg (da d)) (.int .i64 k)).run Try.prog w = .ok (.int .u32 (d k)) w := by
  have h := dv_get d k hk
  simp [Instr.index, asIntOf, run_underlying Try.underlying32, go_sem, hk, da, h]
end Go.Proofs.Ytehcghaficbhiaa
