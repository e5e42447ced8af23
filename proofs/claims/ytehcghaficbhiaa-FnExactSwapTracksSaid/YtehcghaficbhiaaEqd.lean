import Derived.Test.YtehcghaficbhiaaWpi
import Derived.Test.YtehcghaficbhiaaHeld
namespace Go.Proofs.Ytehcghaficbhiaa
open Go.RowKit
set_option maxRecDepth 20000 in
set_option maxHeartbeats 1000000 in
theorem eqDrum_any (r : Nat → Int) (w : World) :
    Calls Try.prog 11 #[.agg (da r), .agg (da r)] w (Says true w) := by
  have hb0 : Below w.heap.size w ((w.alloc (.cells (da r) 32)).alloc (.cells (da r) 32)) := ((Below.refl _ _).alloc (Nat.le_refl _) _).alloc (by simp) _
  have A0 : Dr ((w.alloc (.cells (da r) 32)).alloc (.cells (da r) 32)) w.heap.size 32 r := heap_old' (heap_new' _ _ _ rfl)
  have B0 : Dr ((w.alloc (.cells (da r) 32)).alloc (.cells (da r) 32)) (w.heap.size + 1) 32 r := heap_new' _ _ _ (by simp)
  go_enter Try.func11, Try.ntmps11
  go_wp2_with fail
  go_loopw [5] (fun i wr => ∃ k : Nat, k ≤ 96 ∧ i = .int .i64 k ∧ Dr wr w.heap.size 32 r ∧ Dr wr (w.heap.size + 1) 32 r ∧ Below w.heap.size w wr)
    (fun i _ => 96 - (intOf i).toNat)
  case atStart => exact ⟨0, Nat.zero_le _, rfl, A0, B0, hb0⟩
  case round =>
    obtain ⟨k, hk, rfl, D1, D2, hb⟩ := hrel
    by_cases hlt : k < 96
    · have c1 := Later.cell (D1.cell hlt)
      have c2 := Later.cell (D2.cell hlt)
      have hne : (r k != r k) = false := by simp
      have hsz := hb.size
      go_wp2_with fail
      refine wp_region_later (by kernel_rfl) (by kernel_rfl) ?_
      repeat (go_big_quiet_step (fail))
      refine wpQuiet_nil ?_
      rintro _ ⟨⟨wq, hq⟩, rfl⟩
      go_wp2
      go_roundw
      case rel => exact ⟨k + 1, hlt, by go_num, D1.keep hq, D2.keep hq, hb.trans (hq.mono hsz)⟩
      case measure => simp [intOf]; omega
    · obtain rfl : k = 96 := by omega
      go_wp2
      go_ret
      exact ⟨rfl, hb⟩
end Go.Proofs.Ytehcghaficbhiaa
