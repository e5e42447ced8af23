import Derived.Test.YtncdgjaadlpncaaCnt
namespace Go.Proofs.Ytncdgjaadlpncaa
open Go.RowKit

/-- the pins of the first k steps -/
def cntT (d : Nat → Int) : Nat → Nat
  | 0 => 0
  | k + 1 => cntT d k + pc (d k).toNat
theorem cntT_le (d : Nat → Int) (hd : DWF d) : ∀ k, k ≤ 96 → cntT d k ≤ k * 4294967295
  | 0, _ => by simp [cntT]
  | k + 1, h => by
    have h1 := cntT_le d hd k (by omega)
    have h2 := pc_le (d k).toNat
    have h3 := hd k (by omega)
    simp only [cntT]
    omega
def cntI (d : Nat → Int) : Int := (cntT d 96 : Nat)
theorem indexD (d : Nat → Int) (k : Nat) (hk : k < 96) (w : World) : (Instr.index 29 (.agg (da d)) (.int .i64 k)).run Try.prog w = .ok (.int .u32 (d k)) w := by
  have h := dv_get d k hk
  simp [Instr.index, asIntOf, run_underlying Try.underlying29, go_sem, hk, da, h]
set_option maxRecDepth 20000 in
set_option maxHeartbeats 1000000 in
theorem count_any (d : Nat → Int) (w : World) (hd : DWF d) :
    Calls Try.prog 86 #[.agg (da d)] w fun e w' => e = .returned (.int .i64 (cntI d)) ∧ Below w.heap.size w w' := by
  have hb0 : Below w.heap.size w (w.alloc (.cells (da d) 29)) := (Below.refl _ _).alloc (Nat.le_refl _) _
  have D0 : Dr (w.alloc (.cells (da d) 29)) w.heap.size 29 d := heap_new' _ _ _ rfl
  have HR0 := hide D0.range
  have HI := hide (fun k hk => indexD d k hk)
  go_enter Try.func86, Try.ntmps86
  go_wp2_with (with_reducible refine wpList_load_da rfl 29 (.tmp 1) rfl w.heap.size 0 rfl d _ HR0.out Try.underlying29 rfl (dInfo d) ?_)
  go_loopw [3, 7] (fun n i wr => ∃ k : Nat, k ≤ 96 ∧ i = .int .i64 k ∧ n = .int .i64 (cntT d k : Nat) ∧ Below w.heap.size w wr)
    (fun _ i _ => 96 - (intOf i).toNat)
  case atStart => exact ⟨0, Nat.zero_le _, rfl, rfl, hb0⟩
  case round =>
    obtain ⟨k, hk, rfl, rfl, hb⟩ := hrel
    by_cases hlt : k < 96
    · have hx := HI.out k hlt
      obtain ⟨x, hxe⟩ : ∃ x : Nat, d k = (x : Int) := ⟨(d k).toNat, by have := hd k hlt; omega⟩
      have hxb : x ≤ 4294967295 := by have := hd k hlt; omega
      have HS := hide (show cntT d (k + 1) = cntT d k + pc x by simp [cntT, hxe])
      have h1 := cntT_le d hd k (by omega)
      have h2 := pc_le x
      rw [hxe] at hx
      clear hxe
      have hw1 : IntKind.i64.wrap ((cntT d k : Int) + (pc x : Int)) = (cntT d k : Int) + (pc x : Int) := IntWalk.i64_in _ (by omega)
      go_wp2_with (go_at_call 104; refine (ones_any x _ hxb).mono ?_; rintro e w2 ⟨rfl, hb2⟩; have hb3 := step_below hb2 hb)
      go_roundw
      case rel => exact ⟨k + 1, hlt, by go_num, by rw [HS.out]; rfl, hb3⟩
      case measure => simp [intOf]; omega
    · obtain rfl : k = 96 := by omega
      go_wp2
      go_ret
      exact ⟨rfl, hb⟩

end Go.Proofs.Ytncdgjaadlpncaa
