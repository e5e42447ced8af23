import Derived.Test.YtehcghaficbhiaaUsd
import Derived.Test.YtehcghaficbhiaaWps
import Derived.Test.YtehcghaficbhiaaCpn
import Derived.Test.YtehcghaficbhiaaSl
import Derived.Test.YtehcghaficbhiaaHap
namespace Go.Proofs.Ytehcghaficbhiaa
open Go.RowKit

/-- a row without a track -/
def dropD (d : Nat → Int) (t k : Nat) : Int := bits .or .u32 (bits .and .u32 (d k) (2 ^ t - 1)) (bits .andNot .u32 (d k / 2) (2 ^ t - 1))
def drT (d : Nat → Int) (t k i : Nat) : Int := if i < k then dropD d t i else d i
theorem drT_step (d : Nat → Int) (t k i : Nat) : (if i = k then dropD d t k else drT d t k i) = drT d t (k + 1) i := by
  unfold drT
  by_cases h : i = k
  · subst h; simp
  · rw [if_neg h]
    by_cases h1 : i < k
    · rw [if_pos h1, if_pos (by omega)]
    · rw [if_neg h1, if_neg (by omega)]
theorem drT_zero (d : Nat → Int) (t : Nat) : drT d t 0 = d := by funext i; simp [drT]
theorem drT_at (d : Nat → Int) (t k : Nat) : drT d t k k = d k := by simp [drT]
theorem pow_u32 (t : Nat) (ht : t < 32) : (2 : Int) ^ t % 4294967296 = (2 : Int) ^ t := (pow_nat t ht).trans (by push_cast; rfl)
theorem pow_pos' (t : Nat) : (1 : Int) ≤ (2 : Int) ^ t := by
  have : (1 : Nat) ≤ 2 ^ t := Nat.one_le_two_pow
  exact_mod_cast this
theorem pow_sub (t : Nat) (ht : t < 32) : ((2 : Int) ^ t - 1) % 4294967296 = (2 : Int) ^ t - 1 := by
  have h1 := pow_u32 t ht
  have h2 := pow_pos' t
  have h3 : (2 : Int) ^ t % 4294967296 < 4294967296 := Int.emod_lt_of_pos _ (by decide)
  exact Int.emod_eq_of_lt (by omega) (by omega)

set_option maxRecDepth 20000 in
set_option maxHeartbeats 2000000 in
theorem withoutD_any (t : Nat) (d : Nat → Int) (w : World) (ht : t < 24) (hd : DWF d) :
    Calls Try.prog 33 #[.agg (da d), .int .i64 t] w fun e w' => e = .returned (.agg (da (drT d t 96))) ∧ Below w.heap.size w w' := by
  have hz := zeroDrum
  obtain ⟨X0, hX⟩ : ∃ X, X = (w.alloc (.cells (da d) 32)).alloc (.cells za 32) := ⟨_, rfl⟩
  have b0 : Below w.heap.size w X0 := by rw [hX]; exact ((Below.refl _ _).alloc (Nat.le_refl _) _).alloc (by simp) _
  have D5 : Dr X0 w.heap.size 32 d := by rw [hX]; exact heap_old' (heap_new' _ _ _ rfl)
  have Z5 : Dr X0 (w.heap.size + 1) 32 (fun _ => 0) := by rw [hX, za_eq]; exact heap_new' _ _ _ (by simp)
  have hp := pow_u32 t (by omega)
  have hm := pow_sub t (by omega)
  have HR0 := hide D5.range
  have HI := hide (fun k hk => indexD d k hk)
  go_enter Try.func33, Try.ntmps33
  go_upto_region 1 with fail
  rw [← hX]
  clear hX hz
  go_wp2_with (with_reducible refine wpList_load_da rfl 32 (.tmp 2) rfl w.heap.size 0 rfl d _ HR0.out Try.underlying32 rfl (dInfo d) ?_)
  go_loopw [6, 7, 12] (fun _ _ i wr => ∃ k : Nat, k ≤ 96 ∧ i = .int .i64 k ∧ Dr wr w.heap.size 32 (drT d t k) ∧ Dr wr (w.heap.size + 1) 32 (fun _ => 0) ∧ Below w.heap.size w wr)
    (fun _ _ i _ => 96 - (intOf i).toNat)
  case atStart => exact ⟨0, Nat.zero_le _, rfl, by rw [drT_zero]; exact D5, Z5, b0⟩
  case round =>
    obtain ⟨k, hk, rfl, E1, E2, hb⟩ := hrel
    by_cases hlt : k < 96
    · have hx := HI.out k hlt
      have hki : (k : Int) < 96 := by omega
      have f1 := E1.frozen k
      have c1 := E1.cell hlt
      have HS := hide (E1.set k (dropD d t k))
      go_wp2
      go_roundw
      case rel => exact ⟨k + 1, hlt, by go_num, HS.out.congr fun i _ => drT_step d t k i, E2.other (by omega) _, hb.setCell (p := ⟨_, _, none⟩) (by dsimp only; omega) _⟩
      case measure => simp [intOf]; omega
    · obtain rfl : k = 96 := by omega
      have R2 : wr.heap[w.heap.size + 1]? = some (.cells (da fun _ => 0) 32 (0, 0)) := E2
      have HZ := hide R2
      have HR3 := hide E1.range
      clear R2
      go_wp2_with (first | (with_reducible refine wpList_load_da rfl 32 (.tmp 2) rfl w.heap.size 0 rfl (drT d t 96) _ HR3.out Try.underlying32 rfl (dInfo (drT d t 96)) ?_) | (with_reducible refine wpList_store_row rfl 32 (.tmp 4) (.tmp 27) rfl (w.heap.size + 1) (da (drT d t 96)) rfl rfl 32 _ HZ.out (by rw [da_size]; exact info32) (by simp only [da_size]) (da_one _) ?_))
      exact bodyPost_ret (v := .agg (da (drT d t 96))) (results_cell_row Try.results33 _ _ (w.heap.size + 1) 32 (da (drT d t 96)) (0, 0) _ (by simp [Act.put]) (setRow_heap _ _ _ _ _ _ HZ.out) Try.underlying32 rfl (by rw [da_size]; exact info32)) rfl ⟨rfl, below_setRow hb (by omega)⟩
end Go.Proofs.Ytehcghaficbhiaa
