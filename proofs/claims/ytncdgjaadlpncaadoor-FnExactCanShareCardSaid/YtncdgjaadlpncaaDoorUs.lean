import Derived.Test.YtncdgjaadlpncaaDoorUi
import Derived.StillTailTactics
namespace Go.Proofs.YtncdgjaadlpncaaDoor
open Go.RowKit

theorem code_ne {cc : Int} (h : ¬ cc = 0) : (cc != 0) = true := by simpa using h
theorem code_neq {cc : Int} (h : ¬ cc = 0) : (cc == 0) = false := by simpa using h
/-- the code of drums and a first one -/
def fstC (s : Int) (l : List (Int × Int)) (ds : List (Nat → Int)) (x : Int) : Int := if lstC s l ds = 0 then (if inB x (-1) ((ds.length : Int) - 1) then (if ds.length = 0 then 6 else 0) else 2) else lstC s l ds
theorem fstC_minus (s : Int) (l : List (Int × Int)) (ds : List (Nat → Int)) : fstC s l ds (-1) = shC s l ds := by
  have h : inB (-1) (-1) ((ds.length : Int) - 1) = true := by simp [inB]; omega
  simp [fstC, shC, h]
set_option maxRecDepth 20000 in
set_option maxHeartbeats 2000000 in
theorem l05Union_any (g e : Nat) (ds : List (Nat → Int)) (w : World) (hL : LD w g ds) (hds : ds.length ≤ 1048576) :
    Calls Tryd.prog 61 #[.slice (some ⟨g, 0, none⟩) ds.length e] w fun e' w' => e' = .returned (.agg (da (unT ds ds.length))) ∧ Below w.heap.size w w' := by
  have hz := zeroDrum
  have hza : za.size = (da fun _ => 0).size := by rw [da_size]; rfl
  have hzz : ((w.alloc (.cells za 31)).alloc (.cells za 31)).heap[w.heap.size + 1]? = some (.cells za 31 (0, 0)) := heap_new' _ _ _ (by simp)
  have HZZ := hide hzz
  obtain ⟨X0, hX⟩ : ∃ X, X = ((w.alloc (.cells za 31)).alloc (.cells za 31)).setRow (w.heap.size + 1) (da fun _ => 0) := ⟨_, rfl⟩
  have b0 : Below w.heap.size w X0 := by rw [hX]; exact below_setRow (((Below.refl _ _).alloc (Nat.le_refl _) _).alloc (by simp) _) (by omega)
  have Z0 : Dr X0 w.heap.size 31 (fun _ => 0) := by rw [hX]; exact (setRow_other _ _ _ _ (by omega)).trans (by rw [za_eq]; exact heap_old' (heap_new' _ _ _ rfl))
  have O0 : Dr X0 (w.heap.size + 1) 31 (unT ds 0) := by rw [hX]; exact setRow_heap _ _ _ _ _ _ hzz
  clear hzz
  go_enter Tryd.func61, Tryd.ntmps61
  go_upto_region 2 with (first | (with_reducible refine wpList_build0 rfl rfl ?_) | (with_reducible refine wpList_store_row rfl 31 (.tmp 3) (.tmp 6) rfl (w.heap.size + 1) (da fun _ => 0) rfl rfl 31 _ HZZ.out (by rw [da_size]; exact info31) hza (da_one _) ?_))
  rw [← hX]
  clear hX hz hza
  go_wp2_with fail
  go_loopw [4] (fun i wr => ∃ k : Nat, 0 ≤ k ∧ k ≤ ds.length ∧ i = .int .i64 k ∧ Dr wr w.heap.size 31 (fun _ => 0) ∧ Dr wr (w.heap.size + 1) 31 (unT ds k) ∧ Below w.heap.size w wr)
    (fun i _ => ds.length - (intOf i).toNat)
  case atStart => exact ⟨0, Nat.le_refl _, by omega, rfl, Z0, O0, b0⟩
  case round =>
    obtain ⟨k, hk0, hk, rfl, Z1, O1, hb⟩ := hrel
    by_cases hlt : k < ds.length
    · have hki : (k : Int) < (ds.length : Int) := by omega
      obtain ⟨q, hqq⟩ : ∃ q, ds.getD k (fun _ => 0) = q := ⟨_, rfl⟩
      have HQ := hide hqq
      obtain ⟨p, hp⟩ : ∃ p, unT ds k = p := ⟨_, rfl⟩
      rw [hp] at O1
      have HP := hide hp
      clear hp hqq
      go_wp2_with fail
      go_loopw [5] (fun i wq => ∃ j : Nat, j ≤ 96 ∧ i = .int .i64 j ∧ Dr wq w.heap.size 31 (fun _ => 0) ∧ Dr wq (w.heap.size + 1) 31 (fun i => if i < j then orD p q i else p i) ∧ Below w.heap.size w wq)
        (fun i _ => 96 - (intOf i).toNat)
      case atStart => exact ⟨0, Nat.zero_le _, rfl, Z1, O1, hb⟩
      case round =>
        obtain ⟨j, hj, rfl, Z2, O2, hb2⟩ := hrel
        by_cases hlt2 : j < 96
        · have hji : (j : Int) < 96 := by omega
          go_wp2_with fail
          have hd0 : Below wr.heap.size wr wr.drew := (Below.refl _ _).drew
          have b3 := hb2.drew
          have Z3 := Z2.keep hd0
          have O3 := O2.keep hd0
          refine wp_region_still_tail 12 (by kernel_rfl) (by kernel_rfl) ?_
          change wpStill _ _ wr.drew (fun a' => wpList _ _ _ _ a' wr.drew) _ _
          simp only [List.take_succ_cons, List.take_zero, List.drop_succ_cons, List.drop_zero]
          clear Z2 O2 hd0
          generalize wr.drew = wd at *
          have c1 : wd.cell? ⟨w.heap.size + 1, j, none⟩ = some (.int .u32 (p j)) := by rw [O3.cell hlt2, if_neg (Nat.lt_irrefl j)]
          have f1 := O3.frozen j
          have c2 : wd.cell? ⟨g, k * 96 + j, none⟩ = some (.int .u32 (q j)) := by rw [← HQ.out]; exact (hL.keep b3).range hlt j _ (dv_get _ j hlt2)
          repeat still_step
          refine wpStill_nil ?_
          go_wp2
          go_roundw
          case rel =>
            refine ⟨j + 1, hlt2, by go_num, Z3.other (by omega) _, (O3.set j _).congr fun i hi => ?_, b3.setCell (p := ⟨_, _, none⟩) (by dsimp only; omega) _⟩
            change (if i = j then orD p q j else _) = _
            by_cases e : i = j
            · subst e; rw [if_pos rfl, if_pos (by omega)]
            · rw [if_neg e]
              by_cases h2 : i < j
              · rw [if_pos h2, if_pos (by omega)]
              · rw [if_neg h2, if_neg (by omega)]
          case measure => simp [intOf]; omega
        · obtain rfl : j = 96 := by omega
          have O3 : Dr wr (w.heap.size + 1) 31 (unT ds (k + 1)) := O2.congr fun i hi => by rw [if_pos hi, unT, HP.out, HQ.out]
          have HO := hide O3
          clear O2 O3
          go_wp2
          go_roundw
          case rel => exact ⟨k + 1, by omega, hlt, by go_num, Z2, HO.out, hb2⟩
          case measure => simp [intOf]; omega
    · obtain rfl : k = ds.length := by omega
      have HR := hide O1.range
      have R2 : wr.heap[w.heap.size]? = some (.cells (da fun _ => 0) 31 (0, 0)) := Z1
      have HZ := hide R2
      clear R2 Z1 O1
      go_wp2_with (first | (with_reducible refine wpList_load_da rfl 31 (.tmp 3) rfl (w.heap.size + 1) 0 rfl (unT ds ds.length) _ HR.out Tryd.underlying31 rfl (dInfo (unT ds ds.length)) ?_) | (with_reducible refine wpList_store_row rfl 31 (.tmp 2) (.tmp 29) rfl w.heap.size (da (unT ds ds.length)) rfl rfl 31 _ HZ.out (by rw [da_size]; exact info31) (by simp only [da_size]) (da_one _) ?_))
      exact bodyPost_ret (v := .agg (da (unT ds ds.length))) (results_cell_row Tryd.results61 _ _ w.heap.size 31 (da (unT ds ds.length)) (0, 0) _ (by simp [Act.put]) (setRow_heap _ _ _ _ _ _ HZ.out) Tryd.underlying31 rfl (by rw [da_size]; exact info31)) rfl ⟨rfl, below_setRow hb (by omega)⟩
end Go.Proofs.YtncdgjaadlpncaaDoor
