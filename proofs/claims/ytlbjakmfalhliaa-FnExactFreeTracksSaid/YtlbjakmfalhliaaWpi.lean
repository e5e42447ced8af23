import Derived.Test.YtlbjakmfalhliaaWps
namespace Go.Proofs.Ytlbjakmfalhliaa
open Go.RowKit

set_option maxRecDepth 20000 in
set_option maxHeartbeats 2000000 in
theorem implWithPin_any (s : Int) (A : Option Addr) (c : Nat) (l : List (Int × Int)) (d : Nat → Int) (x y : Int) (w : World) (hA : HA w A l) (hn : l.length ≤ 1048576) (hwf : HWF l) (hs : -32768 ≤ s ∧ s ≤ 32767) (hd : DWF d) :
    Calls Try.prog 32 #[.agg #[.int .i16 s, .slice A l.length c], .agg (da d), .int .i64 x, .int .i64 y] w (DrC (wpD s l d x y true) (wpC s l d x y true) w) := by
  have hz := zeroDrum
  have hb0 : Below w.heap.size w (((w.alloc (.cells #[.int .i16 s, .slice A l.length c] 30)).alloc (.cells (da d) 37)).alloc (.cells za 37)) := (((Below.refl _ _).alloc (Nat.le_refl _) _).alloc (by simp) _).alloc (by simp; omega) _
  have hD : Dr (((w.alloc (.cells #[.int .i16 s, .slice A l.length c] 30)).alloc (.cells (da d) 37)).alloc (.cells za 37)) (w.heap.size + 1) 37 d := heap_old' (heap_new' _ _ _ (by simp))
  have hZ : Dr (((w.alloc (.cells #[.int .i16 s, .slice A l.length c] 30)).alloc (.cells (da d) 37)).alloc (.cells za 37)) (w.heap.size + 1 + 1) 37 (fun _ => 0) := by rw [za_eq]; exact heap_new' _ _ _ (by simp)
  have HR0 := hide hD.range
  go_enter Try.func32, Try.ntmps32
  go_wp2_with (with_reducible refine wpList_load_da rfl 37 (.tmp 5) rfl (w.heap.size + 1) 0 rfl d _ HR0.out Try.underlying37 rfl (dInfo d) ?_)
  clear hz
  refine (implHasPin_any s A c l d x y _ (hA.below hb0) hn hwf hs hd).mono ?_
  rintro e w1 ⟨rfl, hb1⟩
  have b1 := step_below hb1 hb0
  have D1 := hD.keep hb1
  have R1 : w1.heap[w.heap.size + 1 + 1]? = some (.cells (da fun _ => 0) 37 (0, 0)) := hZ.keep hb1
  have HZ := hide R1
  have HR1 := hide D1.range
  clear R1 hZ
  cases ha : askB s l d
  · simp only [hasC, hasB, cod3, ha]
    have hcc : wpC s l d x y true = 1 := by simp [wpC, ha]
    have HX := hide hcc
    have HY := hide (show wpD s l d x y true = fun _ => 0 by simp [wpD, hcc])
    clear hcc
    clear ha
    go_wp2_with (first | (with_reducible refine wpList_build0 rfl rfl ?_) | (with_reducible refine wpList_store_row rfl 37 (.tmp 8) (.tmp 22) rfl (w.heap.size + 1 + 1) (da fun _ => 0) rfl rfl 37 _ HZ.out (by rw [da_size]; exact info37) (by simp only [da_size]) (da_one _) ?_))
    exact bodyPost_ret (v := .tuple #[.agg (da fun _ => 0), .int .i64 1]) (results_dr Try.results32 _ _ (w.heap.size + 1 + 1) 37 _ _ (by simp [Act.put]) (by simp [Act.put]) (setRow_heap _ _ _ _ _ _ HZ.out)) rfl ⟨by rw [HY.out, HX.out], below_setRow b1 (by omega)⟩
  cases hp : plB s l.length x y
  · simp only [hasC, hasB, cod3, ha, hp]
    have hcc : wpC s l d x y true = 2 := by simp [wpC, ha, hp]
    have HX := hide hcc
    have HY := hide (show wpD s l d x y true = fun _ => 0 by simp [wpD, hcc])
    clear hcc
    clear ha hp
    go_wp2_with (first | (with_reducible refine wpList_build0 rfl rfl ?_) | (with_reducible refine wpList_store_row rfl 37 (.tmp 8) (.tmp 22) rfl (w.heap.size + 1 + 1) (da fun _ => 0) rfl rfl 37 _ HZ.out (by rw [da_size]; exact info37) (by simp only [da_size]) (da_one _) ?_))
    exact bodyPost_ret (v := .tuple #[.agg (da fun _ => 0), .int .i64 2]) (results_dr Try.results32 _ _ (w.heap.size + 1 + 1) 37 _ _ (by simp [Act.put]) (by simp [Act.put]) (setRow_heap _ _ _ _ _ _ HZ.out)) rfl ⟨by rw [HY.out, HX.out], below_setRow b1 (by omega)⟩
  have hfa := ask_all ha
  obtain ⟨k, t, hxk, hyt, hk, ht⟩ := plB_nat hp
  have hk96 : k < 96 := by omega
  have ht24 : t < 24 := by omega
  have hkx : x.toNat = k := by omega
  have hty : y.toNat = t := by omega
  cases hpin : pinB d k t
  · simp only [hasC, hasB, cod3, ha, hp, hkx, hty, hpin]
    have hcc : wpC s l d x y true = 0 := by simp [wpC, ha, hp, hkx, hty, hpin]
    have HX := hide hcc
    have HY := hide (show wpD s l d x y true = togD d k t by simp [wpD, hcc, hkx, hty])
    clear hcc
    clear ha hp hpin
    subst hxk hyt
    go_wp2_with (with_reducible refine wpList_load_da rfl 37 (.tmp 5) rfl (w.heap.size + 1) 0 rfl d _ HR1.out Try.underlying37 rfl (dInfo d) ?_)
    refine (toggled_any k t d _ hk96 ht24 hd).mono ?_
    rintro e w2 ⟨rfl, hb2⟩
    have b2 := step_below hb2 b1
    have R2 := (hb2.block _ (Array.getElem?_eq_some_iff.1 HZ.out).1).trans HZ.out
    have HZ := hide R2
    clear R2
    go_wp2_with (with_reducible refine wpList_store_row rfl 37 (.tmp 8) (.tmp 29) rfl (w.heap.size + 1 + 1) (da (togD d k t)) rfl rfl 37 _ HZ.out (by rw [da_size]; exact info37) (by simp only [da_size]) (da_one _) ?_)
    exact bodyPost_ret (v := .tuple #[.agg (da (togD d k t)), .int .i64 0]) (results_dr Try.results32 _ _ (w.heap.size + 1 + 1) 37 _ _ (by simp [Act.put]) (by simp [Act.put]) (setRow_heap _ _ _ _ _ _ HZ.out)) rfl ⟨by rw [HY.out, HX.out], below_setRow b2 (by omega)⟩
  · simp only [hasC, hasB, cod3, ha, hp, hkx, hty, hpin]
    have hcc : wpC s l d x y true = 4 := by simp [wpC, ha, hp, hkx, hty, hpin]
    have HX := hide hcc
    have HY := hide (show wpD s l d x y true = fun _ => 0 by simp [wpD, hcc])
    clear hcc
    clear ha hp hpin
    go_wp2_with (first | (with_reducible refine wpList_build0 rfl rfl ?_) | (with_reducible refine wpList_store_row rfl 37 (.tmp 8) (.tmp 25) rfl (w.heap.size + 1 + 1) (da fun _ => 0) rfl rfl 37 _ HZ.out (by rw [da_size]; exact info37) (by simp only [da_size]) (da_one _) ?_))
    exact bodyPost_ret (v := .tuple #[.agg (da fun _ => 0), .int .i64 4]) (results_dr Try.results32 _ _ (w.heap.size + 1 + 1) 37 _ _ (by simp [Act.put]) (by simp [Act.put]) (setRow_heap _ _ _ _ _ _ HZ.out)) rfl ⟨by rw [HY.out, HX.out], below_setRow b1 (by omega)⟩
set_option maxRecDepth 20000 in
set_option maxHeartbeats 2000000 in
theorem implWithoutPin_any (s : Int) (A : Option Addr) (c : Nat) (l : List (Int × Int)) (d : Nat → Int) (x y : Int) (w : World) (hA : HA w A l) (hn : l.length ≤ 1048576) (hwf : HWF l) (hs : -32768 ≤ s ∧ s ≤ 32767) (hd : DWF d) :
    Calls Try.prog 35 #[.agg #[.int .i16 s, .slice A l.length c], .agg (da d), .int .i64 x, .int .i64 y] w (DrC (wpD s l d x y false) (wpC s l d x y false) w) := by
  have hz := zeroDrum
  have hb0 : Below w.heap.size w (((w.alloc (.cells #[.int .i16 s, .slice A l.length c] 30)).alloc (.cells (da d) 37)).alloc (.cells za 37)) := (((Below.refl _ _).alloc (Nat.le_refl _) _).alloc (by simp) _).alloc (by simp; omega) _
  have hD : Dr (((w.alloc (.cells #[.int .i16 s, .slice A l.length c] 30)).alloc (.cells (da d) 37)).alloc (.cells za 37)) (w.heap.size + 1) 37 d := heap_old' (heap_new' _ _ _ (by simp))
  have hZ : Dr (((w.alloc (.cells #[.int .i16 s, .slice A l.length c] 30)).alloc (.cells (da d) 37)).alloc (.cells za 37)) (w.heap.size + 1 + 1) 37 (fun _ => 0) := by rw [za_eq]; exact heap_new' _ _ _ (by simp)
  have HR0 := hide hD.range
  go_enter Try.func35, Try.ntmps35
  go_wp2_with (with_reducible refine wpList_load_da rfl 37 (.tmp 5) rfl (w.heap.size + 1) 0 rfl d _ HR0.out Try.underlying37 rfl (dInfo d) ?_)
  clear hz
  refine (implHasPin_any s A c l d x y _ (hA.below hb0) hn hwf hs hd).mono ?_
  rintro e w1 ⟨rfl, hb1⟩
  have b1 := step_below hb1 hb0
  have D1 := hD.keep hb1
  have R1 : w1.heap[w.heap.size + 1 + 1]? = some (.cells (da fun _ => 0) 37 (0, 0)) := hZ.keep hb1
  have HZ := hide R1
  have HR1 := hide D1.range
  clear R1 hZ
  cases ha : askB s l d
  · simp only [hasC, hasB, cod3, ha]
    have hcc : wpC s l d x y false = 1 := by simp [wpC, ha]
    have HX := hide hcc
    have HY := hide (show wpD s l d x y false = fun _ => 0 by simp [wpD, hcc])
    clear hcc
    clear ha
    go_wp2_with (first | (with_reducible refine wpList_build0 rfl rfl ?_) | (with_reducible refine wpList_store_row rfl 37 (.tmp 8) (.tmp 22) rfl (w.heap.size + 1 + 1) (da fun _ => 0) rfl rfl 37 _ HZ.out (by rw [da_size]; exact info37) (by simp only [da_size]) (da_one _) ?_))
    exact bodyPost_ret (v := .tuple #[.agg (da fun _ => 0), .int .i64 1]) (results_dr Try.results35 _ _ (w.heap.size + 1 + 1) 37 _ _ (by simp [Act.put]) (by simp [Act.put]) (setRow_heap _ _ _ _ _ _ HZ.out)) rfl ⟨by rw [HY.out, HX.out], below_setRow b1 (by omega)⟩
  cases hp : plB s l.length x y
  · simp only [hasC, hasB, cod3, ha, hp]
    have hcc : wpC s l d x y false = 2 := by simp [wpC, ha, hp]
    have HX := hide hcc
    have HY := hide (show wpD s l d x y false = fun _ => 0 by simp [wpD, hcc])
    clear hcc
    clear ha hp
    go_wp2_with (first | (with_reducible refine wpList_build0 rfl rfl ?_) | (with_reducible refine wpList_store_row rfl 37 (.tmp 8) (.tmp 22) rfl (w.heap.size + 1 + 1) (da fun _ => 0) rfl rfl 37 _ HZ.out (by rw [da_size]; exact info37) (by simp only [da_size]) (da_one _) ?_))
    exact bodyPost_ret (v := .tuple #[.agg (da fun _ => 0), .int .i64 2]) (results_dr Try.results35 _ _ (w.heap.size + 1 + 1) 37 _ _ (by simp [Act.put]) (by simp [Act.put]) (setRow_heap _ _ _ _ _ _ HZ.out)) rfl ⟨by rw [HY.out, HX.out], below_setRow b1 (by omega)⟩
  have hfa := ask_all ha
  obtain ⟨k, t, hxk, hyt, hk, ht⟩ := plB_nat hp
  have hk96 : k < 96 := by omega
  have ht24 : t < 24 := by omega
  have hkx : x.toNat = k := by omega
  have hty : y.toNat = t := by omega
  cases hpin : pinB d k t
  · simp only [hasC, hasB, cod3, ha, hp, hkx, hty, hpin]
    have hcc : wpC s l d x y false = 4 := by simp [wpC, ha, hp, hkx, hty, hpin]
    have HX := hide hcc
    have HY := hide (show wpD s l d x y false = fun _ => 0 by simp [wpD, hcc])
    clear hcc
    clear ha hp hpin
    go_wp2_with (first | (with_reducible refine wpList_build0 rfl rfl ?_) | (with_reducible refine wpList_store_row rfl 37 (.tmp 8) (.tmp 26) rfl (w.heap.size + 1 + 1) (da fun _ => 0) rfl rfl 37 _ HZ.out (by rw [da_size]; exact info37) (by simp only [da_size]) (da_one _) ?_))
    exact bodyPost_ret (v := .tuple #[.agg (da fun _ => 0), .int .i64 4]) (results_dr Try.results35 _ _ (w.heap.size + 1 + 1) 37 _ _ (by simp [Act.put]) (by simp [Act.put]) (setRow_heap _ _ _ _ _ _ HZ.out)) rfl ⟨by rw [HY.out, HX.out], below_setRow b1 (by omega)⟩
  · simp only [hasC, hasB, cod3, ha, hp, hkx, hty, hpin]
    have hcc : wpC s l d x y false = 0 := by simp [wpC, ha, hp, hkx, hty, hpin]
    have HX := hide hcc
    have HY := hide (show wpD s l d x y false = togD d k t by simp [wpD, hcc, hkx, hty])
    clear hcc
    clear ha hp hpin
    subst hxk hyt
    go_wp2_with (with_reducible refine wpList_load_da rfl 37 (.tmp 5) rfl (w.heap.size + 1) 0 rfl d _ HR1.out Try.underlying37 rfl (dInfo d) ?_)
    refine (toggled_any k t d _ hk96 ht24 hd).mono ?_
    rintro e w2 ⟨rfl, hb2⟩
    have b2 := step_below hb2 b1
    have R2 := (hb2.block _ (Array.getElem?_eq_some_iff.1 HZ.out).1).trans HZ.out
    have HZ := hide R2
    clear R2
    go_wp2_with (with_reducible refine wpList_store_row rfl 37 (.tmp 8) (.tmp 30) rfl (w.heap.size + 1 + 1) (da (togD d k t)) rfl rfl 37 _ HZ.out (by rw [da_size]; exact info37) (by simp only [da_size]) (da_one _) ?_)
    exact bodyPost_ret (v := .tuple #[.agg (da (togD d k t)), .int .i64 0]) (results_dr Try.results35 _ _ (w.heap.size + 1 + 1) 37 _ _ (by simp [Act.put]) (by simp [Act.put]) (setRow_heap _ _ _ _ _ _ HZ.out)) rfl ⟨by rw [HY.out, HX.out], below_setRow b2 (by omega)⟩
end Go.Proofs.Ytlbjakmfalhliaa
