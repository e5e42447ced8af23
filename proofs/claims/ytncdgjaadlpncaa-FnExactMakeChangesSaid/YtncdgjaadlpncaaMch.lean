import Derived.Test.YtncdgjaadlpncaaMki
namespace Go.Proofs.Ytncdgjaadlpncaa
open Go.RowKit

def fbC (s : Int) (l : List (Int × Int)) (d : Nat → Int) (cl : List (Int × Int × Bool)) : Int := if askB s l d then (if cl.length ≤ 2400 then (if mcC s l.length d cl = 0 then 6 else 0) else 3) else 1
def fbI (s : Int) (l : List (Int × Int)) (d : Nat → Int) (cl : List (Int × Int × Bool)) : Int := if fbC s l d cl = 0 then (mcI s l.length d cl : Nat) else 0
theorem ne_c {cc : Int} (h : ¬ cc = 0) : (cc != 0) = true := by simpa using h
theorem eq_c {cc : Int} (h : ¬ cc = 0) : (cc == 0) = false := by simpa using h
set_option maxRecDepth 20000 in
set_option maxHeartbeats 1000000 in
theorem specMakeChanges_any (s : Int) (A : Option Addr) (c : Nat) (l : List (Int × Int)) (d : Nat → Int) (B : Option Addr) (cB : Nat) (cl : List (Int × Int × Bool)) (w : World) (hA : HA w A l) (hn : l.length ≤ 1048576) (hwf : HWF l) (hs : -32768 ≤ s ∧ s ≤ 32767) (hd : DWF d) (hC : CgA w B cl) (hcn : cl.length ≤ 1048576) (hcw : CgWF cl) :
    Calls Try.prog 45 #[.agg #[.int .i16 s, .slice A l.length c], .agg (da d), .slice B cl.length cB] w (DrC (maD s l d cl) (maC s l d cl) w) := by
  have hz := zeroDrum
  obtain ⟨X0, hX⟩ : ∃ X, X = ((w.alloc (.cells #[.int .i16 s, .slice A l.length c] 34)).alloc (.cells (da d) 29)).alloc (.cells za 29) := ⟨_, rfl⟩
  have b0 : Below w.heap.size w X0 := by rw [hX]; exact (((Below.refl _ _).alloc (Nat.le_refl _) _).alloc (by simp) _).alloc (by simp; omega) _
  have F0 : FP X0 w.heap.size s A l.length c := by rw [hX]; exact ⟨by simp [go_sem], by simp [go_sem]⟩
  have D0 : Dr X0 (w.heap.size + 1) 29 d := by rw [hX]; exact heap_old' (heap_new' _ _ _ (by simp))
  have Z0 : Dr X0 (w.heap.size + 1 + 1) 29 (fun _ => 0) := by rw [hX, za_eq]; exact heap_new' _ _ _ (by simp)
  have HD0 := hide D0.range
  go_enter Try.func45, Try.ntmps45
  go_upto_region 1 with fail
  rw [← hX]
  clear hX
  go_wp2_with (with_reducible refine wpList_load_da rfl 29 (.tmp 4) rfl (w.heap.size + 1) 0 rfl d _ HD0.out Try.underlying29 rfl (dInfo d) ?_)
  refine (l05Make_any _ s A c l d B cB cl _ F0 (hA.below b0) hn hwf hs hd (hC.below b0) hcn hcw).mono ?_
  rintro e w1 ⟨rfl, hb1⟩
  have b1 := step_below hb1 b0
  obtain ⟨cc, hcc⟩ : ∃ cc, cc = maC s l d cl := ⟨_, rfl⟩
  obtain ⟨r, hr⟩ : ∃ r, r = maD s l d cl := ⟨_, rfl⟩
  obtain ⟨nn, hnn⟩ : ∃ nn, nn = maN s l d cl := ⟨_, rfl⟩
  rw [← hcc, ← hr, ← hnn]
  have HX := hide hcc.symm
  have HY := hide hr.symm
  have HM := hide (show cc ≠ 0 → r = fun _ => 0 by intro h; rw [hr, maD, if_neg (by rw [← hcc]; exact h)])
  clear hcc hr hnn
  have hza : za.size = (da r).size := by rw [da_size]; rfl
  have Z1 := Z0.keep hb1
  obtain ⟨X2, hX2⟩ : ∃ X, X = w1.alloc (.cells (da r) 29) := ⟨_, rfl⟩
  have hb2 : Below w1.heap.size w1 X2 := by rw [hX2]; exact (Below.refl _ _).alloc (Nat.le_refl _) _
  have b2 := step_below hb2 b1
  have R0 : Dr X2 w1.heap.size 29 r := by rw [hX2]; exact heap_new' _ _ _ rfl
  have HR := hide R0.range
  have R2 : X2.heap[w.heap.size + 1 + 1]? = some (.cells (da fun _ => 0) 29 (0, 0)) := Z1.keep hb2
  have HZ := hide R2
  clear R2 Z1 R0
  go_upto_region 2 with (with_reducible refine wpList_store_new rfl 29 (.tmp 8) (.tmp 15) rfl r rfl rfl 29 _ (dInfo r) hza ?_)
  rw [← hX2]
  clear hX2 hz hza
  by_cases h0 : cc = 0
  · subst h0
    go_wp2_with (first | (with_reducible refine wpList_load_da rfl 29 (.tmp 8) rfl w1.heap.size 0 rfl r _ HR.out Try.underlying29 rfl (dInfo r) ?_) | (with_reducible refine wpList_store_row rfl 29 (.tmp 6) (.tmp 22) rfl (w.heap.size + 1 + 1) (da (r)) rfl rfl 29 _ HZ.out (by rw [da_size]; exact info29) (by simp only [da_size]) (da_one _) ?_))
    exact bodyPost_ret (v := .tuple #[.agg (da (r)), .int .i64 0]) (results_dr Try.results45 _ _ (w.heap.size + 1 + 1) 29 _ _ (by simp [Act.put]) (by simp [Act.put]) (setRow_heap _ _ _ _ _ _ HZ.out)) rfl ⟨by rw [HY.out, HX.out], below_setRow b2 (by omega)⟩
  · have hne := ne_c h0
    have HM2 := hide (HM.out h0)
    clear h0
    go_wp2_with (first | (with_reducible refine wpList_build0 rfl rfl ?_) | (with_reducible refine wpList_store_row rfl 29 (.tmp 6) (.tmp 20) rfl (w.heap.size + 1 + 1) (da (fun _ => 0)) rfl rfl 29 _ HZ.out (by rw [da_size]; exact info29) (by simp only [da_size]) (da_one _) ?_))
    exact bodyPost_ret (v := .tuple #[.agg (da (fun _ => 0)), .int .i64 cc]) (results_dr Try.results45 _ _ (w.heap.size + 1 + 1) 29 _ _ (by simp [Act.put]) (by simp [Act.put]) (setRow_heap _ _ _ _ _ _ HZ.out)) rfl ⟨by rw [HY.out, HX.out, HM2.out], below_setRow b2 (by omega)⟩
set_option maxRecDepth 20000 in
set_option maxHeartbeats 1000000 in
theorem specFirstBadChange_any (s : Int) (A : Option Addr) (c : Nat) (l : List (Int × Int)) (d : Nat → Int) (B : Option Addr) (cB : Nat) (cl : List (Int × Int × Bool)) (w : World) (hA : HA w A l) (hn : l.length ≤ 1048576) (hwf : HWF l) (hs : -32768 ≤ s ∧ s ≤ 32767) (hd : DWF d) (hC : CgA w B cl) (hcn : cl.length ≤ 1048576) (hcw : CgWF cl) :
    Calls Try.prog 47 #[.agg #[.int .i16 s, .slice A l.length c], .agg (da d), .slice B cl.length cB] w fun e w' => e = .returned (.tuple #[.int .i64 (fbI s l d cl), .int .i64 (fbC s l d cl)]) ∧ Below w.heap.size w w' := by
  have hz := zeroDrum
  obtain ⟨X0, hX⟩ : ∃ X, X = (w.alloc (.cells #[.int .i16 s, .slice A l.length c] 34)).alloc (.cells (da d) 29) := ⟨_, rfl⟩
  have b0 : Below w.heap.size w X0 := by rw [hX]; exact ((Below.refl _ _).alloc (Nat.le_refl _) _).alloc (by simp) _
  have F0 : FP X0 w.heap.size s A l.length c := by rw [hX]; exact ⟨by simp [go_sem], by simp [go_sem]⟩
  have D0 : Dr X0 (w.heap.size + 1) 29 d := by rw [hX]; exact heap_new' _ _ _ (by simp)
  have HD0 := hide D0.range
  go_enter Try.func47, Try.ntmps47
  go_upto_region 1 with fail
  rw [← hX]
  clear hX
  go_wp2_with fail
  refine (l02Asked_any _ _ s A c l d _ F0 D0 (hA.below b0) hn hwf hs hd).mono ?_
  rintro e w1 ⟨rfl, hb1⟩
  have b1 := step_below hb1 b0
  have D1 := hide (D0.keep hb1).range
  cases ha : askB s l d
  · have HX := hide (show fbC s l d cl = 1 by simp [fbC, ha])
    have HY := hide (show fbI s l d cl = 0 by simp [fbI, HX.out])
    clear ha
    simp only [codeI]
    go_wp2
    go_ret2
    exact ⟨by rw [HX.out, HY.out]; rfl, b1⟩
  simp only [codeI]
  by_cases h8 : cl.length ≤ 2400
  · have hg2 : ¬ (2400 : Int) < (cl.length : Int) := by omega
    have HF := hide (show fbC s l d cl = if mcC s l.length d cl = 0 then 6 else 0 by simp [fbC, ha, h8])
    have HA2 := hide (show maC s l d cl = mcC s l.length d cl by simp [maC, ha, h8])
    have HN2 := hide (show maN s l d cl = (mcI s l.length d cl : Nat) by simp [maN, ha, h8])
    clear ha h8
    go_wp2_with (with_reducible refine wpList_load_da rfl 29 (.tmp 4) rfl (w.heap.size + 1) 0 rfl d _ D1.out Try.underlying29 rfl (dInfo d) ?_)
    refine (l05Make_any _ s A c l d B cB cl _ (F0.keep hb1) (hA.below b1) hn hwf hs hd (hC.below b1) hcn hcw).mono ?_
    rintro e w2 ⟨rfl, hb2⟩
    have b2 := step_below hb2 b1
    rw [HA2.out, HN2.out]
    obtain ⟨cc, hcc⟩ : ∃ cc, cc = mcC s l.length d cl := ⟨_, rfl⟩
    obtain ⟨r, hr⟩ : ∃ r, r = maD s l d cl := ⟨_, rfl⟩
    rw [← hcc, ← hr]
    have HCC := hide hcc.symm
    clear hcc hr
    have hza : za.size = (da r).size := by rw [da_size]; rfl
    obtain ⟨X2, hX2⟩ : ∃ X, X = w2.alloc (.cells (da r) 29) := ⟨_, rfl⟩
    have hb3 : Below w2.heap.size w2 X2 := by rw [hX2]; exact (Below.refl _ _).alloc (Nat.le_refl _) _
    have b3 := step_below hb3 b2
    go_upto_region 7 with (with_reducible refine wpList_store_new rfl 29 (.tmp 9) (.tmp 23) rfl r rfl rfl 29 _ (dInfo r) hza ?_)
    rw [← hX2]
    clear hX2 hz hza
    by_cases h0 : cc = 0
    · subst h0
      have HX := hide (show fbC s l d cl = 6 by rw [HF.out, HCC.out]; rfl)
      have HY := hide (show fbI s l d cl = 0 by simp [fbI, HX.out])
      go_wp2
      go_ret2
      exact ⟨by rw [HX.out, HY.out]; rfl, b3⟩
    · have HX := hide (show fbC s l d cl = 0 by rw [HF.out, HCC.out, if_neg h0])
      have HY := hide (show fbI s l d cl = (mcI s l.length d cl : Nat) by simp [fbI, HX.out])
      have hne := eq_c h0
      clear h0
      go_wp2
      go_ret2
      exact ⟨by rw [HX.out, HY.out]; rfl, b3⟩
  · have hg2 : (2400 : Int) < (cl.length : Int) := by omega
    have HX := hide (show fbC s l d cl = 3 by simp [fbC, ha, h8])
    have HY := hide (show fbI s l d cl = 0 by simp [fbI, HX.out])
    clear ha h8 hz
    go_wp2
    go_ret2
    exact ⟨by rw [HX.out, HY.out]; rfl, b1⟩
set_option maxRecDepth 20000 in
set_option maxHeartbeats 1000000 in
theorem implMakeChanges_any (s : Int) (A : Option Addr) (c : Nat) (l : List (Int × Int)) (d : Nat → Int) (B : Option Addr) (cB : Nat) (cl : List (Int × Int × Bool)) (w : World) (hA : HA w A l) (hn : l.length ≤ 1048576) (hwf : HWF l) (hs : -32768 ≤ s ∧ s ≤ 32767) (hd : DWF d) (hC : CgA w B cl) (hcn : cl.length ≤ 1048576) (hcw : CgWF cl) :
    Calls Try.prog 46 #[.agg #[.int .i16 s, .slice A l.length c], .agg (da d), .slice B cl.length cB] w (DrC (maD s l d cl) (maC s l d cl) w) := by
  have hz := zeroDrum
  obtain ⟨X0, hX⟩ : ∃ X, X = ((w.alloc (.cells #[.int .i16 s, .slice A l.length c] 34)).alloc (.cells (da d) 29)).alloc (.cells za 29) := ⟨_, rfl⟩
  have b0 : Below w.heap.size w X0 := by rw [hX]; exact (((Below.refl _ _).alloc (Nat.le_refl _) _).alloc (by simp) _).alloc (by simp; omega) _
  have F0 : FP X0 w.heap.size s A l.length c := by rw [hX]; exact ⟨by simp [go_sem], by simp [go_sem]⟩
  have D0 : Dr X0 (w.heap.size + 1) 29 d := by rw [hX]; exact heap_old' (heap_new' _ _ _ (by simp))
  have Z0 : Dr X0 (w.heap.size + 1 + 1) 29 (fun _ => 0) := by rw [hX, za_eq]; exact heap_new' _ _ _ (by simp)
  have HD0 := hide D0.range
  go_enter Try.func46, Try.ntmps46
  go_upto_region 1 with fail
  rw [← hX]
  clear hX
  have c00 := F0.1
  have c01 := F0.2
  go_wp2_with (first | (with_reducible refine wpList_load_da rfl 29 (.tmp 4) rfl (w.heap.size + 1) 0 rfl d _ HD0.out Try.underlying29 rfl (dInfo d) ?_) | (with_reducible refine wpList_build1 rfl (.tmp 15) rfl d rfl ?_))
  refine (machine1_any s A c l d _ (hA.below b0) hn hwf hs hd _ rfl).mono ?_
  rintro e w2 ⟨rfl, hb2⟩
  have hx0 : Below X0.heap.size X0 (X0.alloc (.cells (da d) 29)) := (Below.refl _ _).alloc (Nat.le_refl _) _
  have b2 := step_below hb2 (step_below hx0 b0)
  obtain ⟨X3, hX3⟩ : ∃ X, X = w2.alloc (.cells #[.int .i64 s, .slice A l.length c] 77) := ⟨_, rfl⟩
  have hy : Below w2.heap.size w2 X3 := by rw [hX3]; exact (Below.refl _ _).alloc (Nat.le_refl _) _
  have b3 := step_below hy b2
  have D3 := hide (((D0.keep hx0).keep hb2).keep hy).range
  have e0 : X3.cell? ⟨w2.heap.size, 0, none⟩ = some (.int .i64 s) := by rw [hX3]; simp [go_sem]
  have e1 : X3.cell? ⟨w2.heap.size, 1, none⟩ = some (.slice A l.length c) := by rw [hX3]; simp [go_sem]
  have Z3 := ((Z0.keep hx0).keep hb2).keep hy
  have HZ := hide (show X3.heap[w.heap.size + 1 + 1]? = some (.cells (da fun _ => 0) 29 (0, 0)) from Z3)
  go_upto_region 2 with fail
  rw [← hX3]
  clear hX3
  cases ha : askB s l d
  · have HX := hide (show maC s l d cl = 1 by simp [maC, ha])
    have HY := hide (show maD s l d cl = fun _ => 0 by simp [maD, HX.out])
    clear ha hz
    go_wp2_with (first | (with_reducible refine wpList_build0 rfl rfl ?_) | (with_reducible refine wpList_store_row rfl 29 (.tmp 6) (.tmp 22) rfl (w.heap.size + 1 + 1) (da (fun _ => 0)) rfl rfl 29 _ HZ.out (by rw [da_size]; exact info29) (by simp only [da_size]) (da_one _) ?_))
    exact bodyPost_ret (v := .tuple #[.agg (da (fun _ => 0)), .int .i64 1]) (results_dr Try.results46 _ _ (w.heap.size + 1 + 1) 29 _ _ (by simp [Act.put]) (by simp [Act.put]) (setRow_heap _ _ _ _ _ _ HZ.out)) rfl ⟨by rw [HY.out, HX.out], below_setRow b3 (by omega)⟩
  have hfa := ask_all ha
  by_cases h8 : cl.length ≤ 2400
  · have hg2 : ¬ (2400 : Int) < (cl.length : Int) := by omega
    have HX := hide (show maC s l d cl = mcC s l.length d cl by simp [maC, ha, h8])
    have HY := hide (show maD s l d cl = mkD s l.length d cl by rw [maD, mkD, HX.out])
    clear ha h8
    go_wp2_with (with_reducible refine wpList_load_da rfl 29 (.tmp 4) rfl (w.heap.size + 1) 0 rfl d _ D3.out Try.underlying29 rfl (dInfo d) ?_)
    refine (changed_any s A l.length c d B cB cl _ hfa.1 hfa.2.1.2 hd (hC.below b3) hcn hcw).mono ?_
    rintro e w4 ⟨rfl, hb4⟩
    have b4 := step_below hb4 b3
    obtain ⟨cc, hcc⟩ : ∃ cc, cc = mcC s l.length d cl := ⟨_, rfl⟩
    obtain ⟨r, hr⟩ : ∃ r, r = mkD s l.length d cl := ⟨_, rfl⟩
    obtain ⟨nn, hnn⟩ : ∃ nn, nn = mkN s l.length d cl := ⟨_, rfl⟩
    rw [← hcc, ← hr, ← hnn]
    have HCC := hide hcc.symm
    have HR := hide hr.symm
    have HNN := hide hnn.symm
    clear hcc hr hnn
    have hza : za.size = (da r).size := by rw [da_size]; rfl
    obtain ⟨X5, hX5⟩ : ∃ X, X = w4.alloc (.cells (da r) 29) := ⟨_, rfl⟩
    have hb5 : Below w4.heap.size w4 X5 := by rw [hX5]; exact (Below.refl _ _).alloc (Nat.le_refl _) _
    have b5 := step_below hb5 b4
    have R0 : Dr X5 w4.heap.size 29 r := by rw [hX5]; exact heap_new' _ _ _ rfl
    have HRR := hide R0.range
    have HZ := hide (show X5.heap[w.heap.size + 1 + 1]? = some (.cells (da fun _ => 0) 29 (0, 0)) from (Z3.keep hb4).keep hb5)
    clear R0
    go_upto_region 7 with (with_reducible refine wpList_store_new rfl 29 (.tmp 10) (.tmp 32) rfl r rfl rfl 29 _ (dInfo r) hza ?_)
    rw [← hX5]
    clear hX5 hz hza
    go_wp2_with (first | (with_reducible refine wpList_load_da rfl 29 (.tmp 10) rfl w4.heap.size 0 rfl r _ HRR.out Try.underlying29 rfl (dInfo r) ?_) | (with_reducible refine wpList_store_row rfl 29 (.tmp 6) (.tmp 35) rfl (w.heap.size + 1 + 1) (da (r)) rfl rfl 29 _ HZ.out (by rw [da_size]; exact info29) (by simp only [da_size]) (da_one _) ?_))
    exact bodyPost_ret (v := .tuple #[.agg (da (r)), .int .i64 cc]) (results_dr Try.results46 _ _ (w.heap.size + 1 + 1) 29 _ _ (by simp [Act.put]) (by simp [Act.put]) (setRow_heap _ _ _ _ _ _ HZ.out)) rfl ⟨by rw [HY.out, HX.out, HCC.out, HR.out], below_setRow b5 (by omega)⟩
  · have hg2 : (2400 : Int) < (cl.length : Int) := by omega
    have HX := hide (show maC s l d cl = 3 by simp [maC, ha, h8])
    have HY := hide (show maD s l d cl = fun _ => 0 by simp [maD, HX.out])
    clear ha h8 hz
    go_wp2_with (first | (with_reducible refine wpList_build0 rfl rfl ?_) | (with_reducible refine wpList_store_row rfl 29 (.tmp 6) (.tmp 26) rfl (w.heap.size + 1 + 1) (da (fun _ => 0)) rfl rfl 29 _ HZ.out (by rw [da_size]; exact info29) (by simp only [da_size]) (da_one _) ?_))
    exact bodyPost_ret (v := .tuple #[.agg (da (fun _ => 0)), .int .i64 3]) (results_dr Try.results46 _ _ (w.heap.size + 1 + 1) 29 _ _ (by simp [Act.put]) (by simp [Act.put]) (setRow_heap _ _ _ _ _ _ HZ.out)) rfl ⟨by rw [HY.out, HX.out], below_setRow b3 (by omega)⟩
set_option maxRecDepth 20000 in
set_option maxHeartbeats 1000000 in
theorem implFirstBadChange_any (s : Int) (A : Option Addr) (c : Nat) (l : List (Int × Int)) (d : Nat → Int) (B : Option Addr) (cB : Nat) (cl : List (Int × Int × Bool)) (w : World) (hA : HA w A l) (hn : l.length ≤ 1048576) (hwf : HWF l) (hs : -32768 ≤ s ∧ s ≤ 32767) (hd : DWF d) (hC : CgA w B cl) (hcn : cl.length ≤ 1048576) (hcw : CgWF cl) :
    Calls Try.prog 48 #[.agg #[.int .i16 s, .slice A l.length c], .agg (da d), .slice B cl.length cB] w fun e w' => e = .returned (.tuple #[.int .i64 (fbI s l d cl), .int .i64 (fbC s l d cl)]) ∧ Below w.heap.size w w' := by
  have hz := zeroDrum
  obtain ⟨X0, hX⟩ : ∃ X, X = (w.alloc (.cells #[.int .i16 s, .slice A l.length c] 34)).alloc (.cells (da d) 29) := ⟨_, rfl⟩
  have b0 : Below w.heap.size w X0 := by rw [hX]; exact ((Below.refl _ _).alloc (Nat.le_refl _) _).alloc (by simp) _
  have F0 : FP X0 w.heap.size s A l.length c := by rw [hX]; exact ⟨by simp [go_sem], by simp [go_sem]⟩
  have D0 : Dr X0 (w.heap.size + 1) 29 d := by rw [hX]; exact heap_new' _ _ _ (by simp)
  have HD0 := hide D0.range
  go_enter Try.func48, Try.ntmps48
  go_upto_region 1 with fail
  rw [← hX]
  clear hX
  have c00 := F0.1
  have c01 := F0.2
  go_wp2_with (first | (with_reducible refine wpList_load_da rfl 29 (.tmp 4) rfl (w.heap.size + 1) 0 rfl d _ HD0.out Try.underlying29 rfl (dInfo d) ?_) | (with_reducible refine wpList_build1 rfl (.tmp 15) rfl d rfl ?_))
  refine (machine1_any s A c l d _ (hA.below b0) hn hwf hs hd _ rfl).mono ?_
  rintro e w2 ⟨rfl, hb2⟩
  have hx0 : Below X0.heap.size X0 (X0.alloc (.cells (da d) 29)) := (Below.refl _ _).alloc (Nat.le_refl _) _
  have b2 := step_below hb2 (step_below hx0 b0)
  obtain ⟨X3, hX3⟩ : ∃ X, X = w2.alloc (.cells #[.int .i64 s, .slice A l.length c] 77) := ⟨_, rfl⟩
  have hy : Below w2.heap.size w2 X3 := by rw [hX3]; exact (Below.refl _ _).alloc (Nat.le_refl _) _
  have b3 := step_below hy b2
  have D3 := hide (((D0.keep hx0).keep hb2).keep hy).range
  have e0 : X3.cell? ⟨w2.heap.size, 0, none⟩ = some (.int .i64 s) := by rw [hX3]; simp [go_sem]
  have e1 : X3.cell? ⟨w2.heap.size, 1, none⟩ = some (.slice A l.length c) := by rw [hX3]; simp [go_sem]
  skip
  go_upto_region 2 with fail
  rw [← hX3]
  clear hX3
  cases ha : askB s l d
  · have HX := hide (show fbC s l d cl = 1 by simp [fbC, ha])
    have HY := hide (show fbI s l d cl = 0 by simp [fbI, HX.out])
    clear ha hz
    go_wp2
    go_ret2
    exact ⟨by rw [HX.out, HY.out]; rfl, b3⟩
  have hfa := ask_all ha
  by_cases h8 : cl.length ≤ 2400
  · have hg2 : ¬ (2400 : Int) < (cl.length : Int) := by omega
    have HF := hide (show fbC s l d cl = if mcC s l.length d cl = 0 then 6 else 0 by simp [fbC, ha, h8])
    clear ha h8
    go_wp2_with (with_reducible refine wpList_load_da rfl 29 (.tmp 4) rfl (w.heap.size + 1) 0 rfl d _ D3.out Try.underlying29 rfl (dInfo d) ?_)
    refine (changed_any s A l.length c d B cB cl _ hfa.1 hfa.2.1.2 hd (hC.below b3) hcn hcw).mono ?_
    rintro e w4 ⟨rfl, hb4⟩
    have b4 := step_below hb4 b3
    obtain ⟨cc, hcc⟩ : ∃ cc, cc = mcC s l.length d cl := ⟨_, rfl⟩
    obtain ⟨r, hr⟩ : ∃ r, r = mkD s l.length d cl := ⟨_, rfl⟩
    obtain ⟨nn, hnn⟩ : ∃ nn, nn = mkN s l.length d cl := ⟨_, rfl⟩
    rw [← hcc, ← hr, ← hnn]
    have HCC := hide hcc.symm
    have HR := hide hr.symm
    have HNN := hide hnn.symm
    clear hcc hr hnn
    have hza : za.size = (da r).size := by rw [da_size]; rfl
    obtain ⟨X5, hX5⟩ : ∃ X, X = w4.alloc (.cells (da r) 29) := ⟨_, rfl⟩
    have hb5 : Below w4.heap.size w4 X5 := by rw [hX5]; exact (Below.refl _ _).alloc (Nat.le_refl _) _
    have b5 := step_below hb5 b4
    have R0 : Dr X5 w4.heap.size 29 r := by rw [hX5]; exact heap_new' _ _ _ rfl
    have HRR := hide R0.range
    clear R0
    go_upto_region 7 with (with_reducible refine wpList_store_new rfl 29 (.tmp 10) (.tmp 30) rfl r rfl rfl 29 _ (dInfo r) hza ?_)
    rw [← hX5]
    clear hX5 hz hza
    by_cases h0 : cc = 0
    · subst h0
      have HX := hide (show fbC s l d cl = 6 by rw [HF.out, HCC.out]; rfl)
      have HY := hide (show fbI s l d cl = 0 by simp [fbI, HX.out])
      go_wp2
      go_ret2
      exact ⟨by rw [HX.out, HY.out]; rfl, b5⟩
    · have HX := hide (show fbC s l d cl = 0 by rw [HF.out, HCC.out, if_neg h0])
      have HY := hide (show fbI s l d cl = nn by rw [fbI, if_pos HX.out, ← HNN.out, mkN, HCC.out, if_neg h0])
      have hne := eq_c h0
      clear h0
      go_wp2
      go_ret2
      exact ⟨by rw [HX.out, HY.out]; rfl, b5⟩
  · have hg2 : (2400 : Int) < (cl.length : Int) := by omega
    have HX := hide (show fbC s l d cl = 3 by simp [fbC, ha, h8])
    have HY := hide (show fbI s l d cl = 0 by simp [fbI, HX.out])
    clear ha h8 hz
    go_wp2
    go_ret2
    exact ⟨by rw [HX.out, HY.out]; rfl, b3⟩
end Go.Proofs.Ytncdgjaadlpncaa
