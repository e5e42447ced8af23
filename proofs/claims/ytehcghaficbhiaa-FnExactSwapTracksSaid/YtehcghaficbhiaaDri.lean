import Derived.Test.YtehcghaficbhiaaDrs
import Derived.StillTailTactics
namespace Go.Proofs.Ytehcghaficbhiaa
open Go.RowKit

/-- what is kept of a step: the bits of the tracks that there are -/
def keptI (n : Nat) (x : Int) : Int := bits .and .u32 x ((2 ^ n - 1) % 4294967296)
def keptD (s : Int) (n : Nat) (d : Nat → Int) (i : Nat) : Int := if (i : Int) < s then keptI n (d i) else 0

set_option maxRecDepth 20000 in
set_option maxHeartbeats 1000000 in
theorem cut_any (s : Int) (A : Option Addr) (n c : Nat) (d : Nat → Int) (w : World) (hn : n ≤ 24) (hs : 2 ≤ s ∧ s ≤ 96) (hd : DWF d) :
    Calls Try.prog 45 #[.agg #[.int .i64 s, .slice A n c], .agg (da d)] w fun e w' => e = .returned (.agg (da (keptD s n d))) ∧ Below w.heap.size w w' := by
  have hz := zeroDrum
  have HT := fun W => tracks_any A n c (by omega) W
  obtain ⟨hs1, hs2⟩ := hs
  obtain ⟨S, hS⟩ : ∃ S : Nat, s = (S : Int) := ⟨s.toNat, by omega⟩
  subst hS
  go_enter Try.func45, Try.ntmps45
  go_wp2_with fail
  clear hz
  have hb0 : Below w.heap.size w ((((w.alloc (.cells #[.int .i64 S, .slice A n c] 55)).alloc (.cells (da d) 32)).alloc (.cells za 32)).alloc (.cells za 32)) := ((((Below.refl _ _).alloc (Nat.le_refl _) _).alloc (by simp) _).alloc (by simp; omega) _).alloc (by simp; omega) _
  go_loopw [6, 9] (fun _ i wr => ∃ k : Nat, k ≤ S ∧ i = .int .i64 k ∧ wr.cell? ⟨w.heap.size, 1, none⟩ = some (.slice A n c) ∧ Dr wr (w.heap.size + 1) 32 d ∧ Dr wr (w.heap.size + 1 + 1) 32 (fun _ => 0) ∧ Dr wr (w.heap.size + 1 + 1 + 1) 32 (fun i => if i < k then keptI n (d i) else 0) ∧ Below w.heap.size w wr)
    (fun _ i _ => S - (intOf i).toNat)
  case atStart => exact ⟨0, Nat.zero_le _, rfl, by simp [go_sem], heap_old' (heap_old' (heap_new' _ _ _ (by simp))), by rw [za_eq]; exact heap_old' (heap_new' _ _ _ (by simp)), by rw [za_eq]; exact heap_new' _ _ _ (by simp), hb0⟩
  case round =>
    obtain ⟨k, hk, rfl, c0, D1, D2, D3, hb⟩ := hrel
    by_cases hlt : k < S
    · have hk96 : k < 96 := by omega
      have c1 := D1.cell hk96
      have c3 := D3.cell hk96
      have f3 := D3.frozen k
      obtain ⟨x1, x2⟩ := hd k hk96
      go_wp2_with fail
      refine wp_region_still_tail 11 (by kernel_rfl) (by kernel_rfl) ?_
      change wpStill _ _ wr.drew (fun a' => wpList _ _ _ _ a' wr.drew) _ _
      simp only [List.take_succ_cons, List.take_zero, List.drop_succ_cons, List.drop_zero]
      have hdr : Below wr.heap.size wr wr.drew := (Below.refl _ _).drew
      have c0d : wr.drew.cell? ⟨w.heap.size, 1, none⟩ = some (.slice A n c) := c0
      have D1d := D1.keep hdr
      have D2d := D2.keep hdr
      have D3d := D3.keep hdr
      have hbd := hb.drew
      have hki : (k : Int) < 96 := by omega
      have HTd : Calls Try.prog 31 #[.slice A n c] wr.drew fun e w' => e = .returned (.int .i64 n) ∧ w' = wr.drew := (HT _).mono fun e w' ⟨a, b⟩ => ⟨a, b.symm⟩
      clear c0 D1 D2 D3 hb hdr c1 c3 f3
      generalize wr.drew = wd at *
      have c1 := D1d.cell hk96
      have c3 := D3d.cell hk96
      have f3 := D3d.frozen k
      repeat (first | still_call HTd | still_step)
      refine wpStill_nil ?_
      go_wp2
      go_roundw
      case rel =>
        refine ⟨k + 1, hlt, by go_num, by simp [go_sem, c0d], D1d.other (by omega) _, D2d.other (by omega) _, (D3d.set k _).congr fun i hi => ?_, hbd.setCell (p := ⟨_, _, none⟩) (by dsimp only; omega) _⟩
        change (if i = k then keptI n (d k) else _) = _
        by_cases e : i = k
        · subst e; rw [if_pos rfl, if_pos (by omega)]
        · rw [if_neg e]
          by_cases h2 : i < k
          · rw [if_pos h2, if_pos (by omega)]
          · rw [if_neg h2, if_neg (by omega)]
      case measure => simp [intOf]; omega
    · obtain rfl : k = S := by omega
      have R2 : wr.heap[w.heap.size + 1 + 1]? = some (.cells (da fun _ => 0) 32 (0, 0)) := D2
      have R3 : wr.heap[w.heap.size + 1 + 1 + 1]? = some (.cells (da (keptD k n d)) 32 (0, 0)) := (D3.congr (d' := keptD k n d) fun i hi => by unfold keptD; by_cases h : i < k <;> simp [h] : Dr _ _ _ _)
      have HR2 := hide R2
      have HR3 := hide R3
      clear R2 R3
      go_wp2_with (first | (with_reducible refine wpList_load_row rfl 32 (.tmp 5) rfl (w.heap.size + 1 + 1 + 1) rfl 32 (da (keptD k n d)) (0, 0) _ HR3.out Try.underlying32 rfl (by rw [da_size]; exact info32) ?_) | (with_reducible refine wpList_store_row rfl 32 (.tmp 4) (.tmp 24) rfl (w.heap.size + 1 + 1) (da (keptD k n d)) rfl rfl 32 _ HR2.out (by rw [da_size]; exact info32) (by rw [da_size, da_size]) (da_one _) ?_))
      exact bodyPost_ret (v := .agg (da (keptD k n d))) (results_cell_row Try.results45 _ _ (w.heap.size + 1 + 1) 32 (da (keptD k n d)) (0, 0) _ (by simp [Act.put]) (setRow_heap _ _ _ _ _ _ HR2.out) Try.underlying32 rfl (by rw [da_size]; exact info32)) rfl ⟨rfl, below_setRow hb (by omega)⟩
end Go.Proofs.Ytehcghaficbhiaa
