import Derived.Test.YtehcghaficbhiaaWs
namespace Go.Proofs.Ytehcghaficbhiaa
open Go.RowKit

theorem shr_one (x t : Nat) (hx : x < 4294967296) : (bits .and .u32 ((x : Int) / 2 ^ t) 1 == 1) = x.testBit t := by
  have hb := shr_bounds (x : Int) t (by omega) (by omega)
  rw [and_one32 _ hb.1 hb.2, Nat.testBit_eq_decide_div_mod_eq]
  have e : ((x : Int) / 2 ^ t) = ((x / 2 ^ t : Nat) : Int) := by push_cast; rfl
  rw [e]
  generalize x / 2 ^ t = y
  rcases Nat.mod_two_eq_zero_or_one y with h | h
  · have : (y : Int) % 2 = 0 := by omega
    simp [this, h]
  · have : (y : Int) % 2 = 1 := by omega
    simp [this, h]

set_option maxRecDepth 20000 in
set_option maxHeartbeats 4000000 in
theorem implWithoutTrack_any (s : Int) (A : Option Addr) (_c : Nat) (l : List (Int × Int)) (d : Nat → Int) (x : Int) (w : World) (hA : HA w A l) (hn : l.length ≤ 1048576) (hwf : HWF l) (hs : -32768 ≤ s ∧ s ≤ 32767) (hd : DWF d) :
    Calls Try.prog 15 #[.agg #[.int .i16 s, .slice A l.length l.length], .agg (da d), .int .i64 x] w (FdC (wtS s l d x) (wtL s l d x) (wtD s l d x) (wtC s l d x) w) := by
  have hz := zeroDrum
  obtain ⟨X0, hX0⟩ : ∃ X, X = (((w.alloc (.cells #[.int .i16 s, .slice A l.length l.length] 31)).alloc (.cells (da d) 32)).alloc (.cells #[.int .i16 0, .slice none 0 0] 31)).alloc (.cells za 32) := ⟨_, rfl⟩
  have b0 : Below w.heap.size w X0 := by rw [hX0]; exact ((((Below.refl _ _).alloc (Nat.le_refl _) _).alloc (by simp) _).alloc (by simp; omega) _).alloc (by simp; omega) _
  have rA : X0.heap[w.heap.size]? = some (.cells #[.int .i16 s, .slice A l.length l.length] 31 (0, 0)) := by rw [hX0]; exact heap_old' (heap_old' (heap_old' (heap_alloc_new _ _)))
  have D0 : Dr X0 (w.heap.size + 1) 32 d := by rw [hX0]; exact heap_old' (heap_old' (heap_new' _ _ _ (by simp)))
  have RF0 : X0.heap[w.heap.size + 1 + 1]? = some (.cells #[.int .i16 0, .slice none 0 0] 31 (0, 0)) := by rw [hX0]; exact heap_old' (heap_new' _ _ _ (by simp))
  have RD0 : X0.heap[w.heap.size + 1 + 1 + 1]? = some (.cells (da fun _ => 0) 32 (0, 0)) := by rw [hX0, za_eq]; exact heap_new' _ _ _ (by simp)
  have hF0 : FP X0 w.heap.size s A l.length l.length := ⟨by rw [cell_of_row _ _ 0 _ _ _ rA] <;> simp, by rw [cell_of_row _ _ 1 _ _ _ rA] <;> simp⟩
  have hA0 := hA.below b0
  go_enter Try.func15, Try.ntmps15
  go_upto_region 1 with fail
  rw [← hX0]
  clear hX0 hz
  have HR0 := hide D0.range
  have c0 := hF0.1
  have c1 := hF0.2
  go_wp2_with (first | (with_reducible refine wpList_load_da rfl 32 (.tmp 4) rfl (w.heap.size + 1) 0 rfl d _ HR0.out Try.underlying32 rfl (dInfo d) ?_) | (with_reducible refine wpList_build1 rfl (.tmp 13) rfl d rfl ?_))
  refine (machine1_any s A l.length l d X0 hA0 hn hwf hs hd _ rfl).mono ?_
  rintro e w2 ⟨rfl, hb2⟩
  clear c0 c1
  have hx0 : Below X0.heap.size X0 (X0.alloc (.cells (da d) 32)) := (Below.refl _ _).alloc (Nat.le_refl _) _
  have b2 := step_below hb2 (b0.alloc b0.size (.cells (da d) 32))
  obtain ⟨w3, hw3⟩ : ∃ X, X = w2.alloc (.cells #[.int .i64 s, .slice A l.length l.length] 55) := ⟨_, rfl⟩
  have hy : Below w2.heap.size w2 w3 := by rw [hw3]; exact (Below.refl _ _).alloc (Nat.le_refl _) _
  have M3 : w3.heap[w2.heap.size]? = some (.cells #[.int .i64 s, .slice A l.length l.length] 55 (0, 0)) := by rw [hw3]; exact heap_alloc_new _ _
  have b3 := b2.trans (hy.mono b2.size)
  have hbx : Below X0.heap.size X0 w3 := (step_below hb2 hx0).trans (hy.mono (step_below hb2 hx0).size)
  have F3 := hF0.keep hbx
  have D3 := D0.keep hbx
  have RF3 := (hbx.block _ (Array.getElem?_eq_some_iff.1 RF0).1).trans RF0
  have RD3 := (hbx.block _ (Array.getElem?_eq_some_iff.1 RD0).1).trans RD0
  have hA3 := hA0.below hbx
  go_upto_region 2 with fail
  rw [← hw3]
  clear hw3 hb2 hx0 hy HR0 rA
  cases ha : askB s l d
  · skip
    have hcc : wtC s l d x = 1 := by simp [wtC, ha]
    have HX := hide hcc
    have HS := hide (show wtS s l d x = 0 by simp [wtS, hcc])
    have HL := hide (show wtL s l d x = [] by simp [wtL, hcc])
    have HY := hide (show wtD s l d x = fun _ => 0 by simp [wtD, hcc])
    have hgl : w.heap.size + 1 + 1 + 1 < w3.heap.size := (Array.getElem?_eq_some_iff.1 RD3).1
    have RD9 : (w3.setRow (w.heap.size + 1 + 1) #[.int .i16 0, .slice none 0 0]).heap[w.heap.size + 1 + 1 + 1]? = some (.cells (da fun _ => 0) 32 (0, 0)) := (setRow_other _ _ _ _ (by omega)).trans RD3
    have HF := hide RF3
    have HZ := hide RD9
    have bE := below_setRow (cs := da fun _ => 0) (g := w.heap.size + 1 + 1 + 1) (below_setRow (cs := #[.int .i16 0, .slice none 0 0]) (g := w.heap.size + 1 + 1) b3 (by omega)) (by omega)
    clear hcc RD9 RF3 RD3 RF0 RD0 ha
    go_wp2_with (first | (with_reducible refine wpList_build0 rfl rfl ?_) | (with_reducible refine wpList_store_row rfl 31 (.tmp 6) (.tmp 20) rfl (w.heap.size + 1 + 1) #[.int .i16 0, .slice none 0 0] rfl rfl 31 _ HF.out (infoF2 _ _) (sz22 _ _ _ _) (oneF _ _ _ _) ?_) | (with_reducible refine wpList_store_row rfl 32 (.tmp 7) (.tmp 21) rfl (w.heap.size + 1 + 1 + 1) (da fun _ => 0) rfl rfl 32 _ HZ.out (by rw [da_size]; exact info32) (by simp only [da_size]) (da_one _) ?_))
    exact bodyPost_ret (v := .tuple #[.agg #[.int .i16 0, .slice none 0 0], .agg (da fun _ => 0), .int .i64 1]) (results_fd Try.results15 _ _ (w.heap.size + 1 + 1) (w.heap.size + 1 + 1 + 1) _ _ #[.int .i16 0, .slice none 0 0] _ _ rfl (by simp [Act.put]) (by simp [Act.put]) (by simp [Act.put]) ((setRow_other _ _ _ _ (by omega)).trans (setRow_heap _ _ _ _ _ _ HF.out)) (setRow_heap _ _ _ _ _ _ HZ.out)) rfl ⟨none, 0, by rw [HY.out, HX.out, HS.out, HL.out]; rfl, by rw [HL.out]; exact World.ownsRow_nil _ _ _ _, bE⟩
  have hfa := ask_all ha
  have n1 := cell_of_row _ _ 0 _ _ _ M3
  have n2 := cell_of_row _ _ 1 _ _ _ M3
  simp at n1 n2
  go_wp2_with fail
  clear n1 n2
  refine (hasTrack_any s x A l.length l.length _ hn).mono ?_
  rintro e w4 ⟨rfl, hb4⟩
  have b4 := step_below hb4 b3
  have F4 := F3.keep hb4
  have D4 := D3.keep hb4
  have RF4 := (hb4.block _ (Array.getElem?_eq_some_iff.1 RF3).1).trans RF3
  have RD4 := (hb4.block _ (Array.getElem?_eq_some_iff.1 RD3).1).trans RD3
  have hA4 := hA3.below hb4
  have M4 := (hb4.block _ (Array.getElem?_eq_some_iff.1 M3).1).trans M3
  rw [← pl_step0 ha]
  cases hp : plB s l.length 0 x
  · skip
    have hcc : wtC s l d x = 2 := by simp [wtC, ha, hp]
    have HX := hide hcc
    have HS := hide (show wtS s l d x = 0 by simp [wtS, hcc])
    have HL := hide (show wtL s l d x = [] by simp [wtL, hcc])
    have HY := hide (show wtD s l d x = fun _ => 0 by simp [wtD, hcc])
    have hgl : w.heap.size + 1 + 1 + 1 < w4.heap.size := (Array.getElem?_eq_some_iff.1 RD4).1
    have RD9 : (w4.setRow (w.heap.size + 1 + 1) #[.int .i16 0, .slice none 0 0]).heap[w.heap.size + 1 + 1 + 1]? = some (.cells (da fun _ => 0) 32 (0, 0)) := (setRow_other _ _ _ _ (by omega)).trans RD4
    have HF := hide RF4
    have HZ := hide RD9
    have bE := below_setRow (cs := da fun _ => 0) (g := w.heap.size + 1 + 1 + 1) (below_setRow (cs := #[.int .i16 0, .slice none 0 0]) (g := w.heap.size + 1 + 1) b4 (by omega)) (by omega)
    clear hcc RD9 RF4 RD4 RF0 RD0 RF3 RD3 ha hp
    go_wp2_with (first | (with_reducible refine wpList_build0 rfl rfl ?_) | (with_reducible refine wpList_store_row rfl 31 (.tmp 6) (.tmp 26) rfl (w.heap.size + 1 + 1) #[.int .i16 0, .slice none 0 0] rfl rfl 31 _ HF.out (infoF2 _ _) (sz22 _ _ _ _) (oneF _ _ _ _) ?_) | (with_reducible refine wpList_store_row rfl 32 (.tmp 7) (.tmp 27) rfl (w.heap.size + 1 + 1 + 1) (da fun _ => 0) rfl rfl 32 _ HZ.out (by rw [da_size]; exact info32) (by simp only [da_size]) (da_one _) ?_))
    exact bodyPost_ret (v := .tuple #[.agg #[.int .i16 0, .slice none 0 0], .agg (da fun _ => 0), .int .i64 2]) (results_fd Try.results15 _ _ (w.heap.size + 1 + 1) (w.heap.size + 1 + 1 + 1) _ _ #[.int .i16 0, .slice none 0 0] _ _ rfl (by simp [Act.put]) (by simp [Act.put]) (by simp [Act.put]) ((setRow_other _ _ _ _ (by omega)).trans (setRow_heap _ _ _ _ _ _ HF.out)) (setRow_heap _ _ _ _ _ _ HZ.out)) rfl ⟨none, 0, by rw [HY.out, HX.out, HS.out, HL.out]; rfl, by rw [HL.out]; exact World.ownsRow_nil _ _ _ _, bE⟩
  obtain ⟨k0, t, hk0, hxt, _, htl⟩ := plB_nat hp
  have ht24 : t < 24 := by omega
  have hty : x.toNat = t := by omega
  clear hk0
  subst hxt
  have hx63 : (t : Int) ≤ 9223372036854775807 := by omega
  have HR4 := hide D4.range
  go_wp2_with (with_reducible refine wpList_load_da rfl 32 (.tmp 4) rfl (w.heap.size + 1) 0 rfl d _ HR4.out Try.underlying32 rfl (dInfo d) ?_)
  refine (used_any d _ hd).mono ?_
  rintro e w5 ⟨rfl, hb5⟩
  have b5 := step_below hb5 b4
  have F5 := F4.keep hb5
  have D5 := D4.keep hb5
  have RF5 := (hb5.block _ (Array.getElem?_eq_some_iff.1 RF4).1).trans RF4
  have RD5 := (hb5.block _ (Array.getElem?_eq_some_iff.1 RD4).1).trans RD4
  have hA5 := hA4.below hb5
  have M5 := (hb5.block _ (Array.getElem?_eq_some_iff.1 M4).1).trans M4
  have m1 := cell_of_row _ _ 0 _ _ _ M5
  have m2 := cell_of_row _ _ 1 _ _ _ M5
  simp at m1 m2
  have hso := shr_one (orT d 96) t (orT_lt d hd 96 (Nat.le_refl _))
  rw [orT_bit d hd t 96 (Nat.le_refl _)] at hso
  obtain ⟨u, hu0⟩ : ∃ u, orT d 96 = u := ⟨_, rfl⟩
  rw [hu0] at hso ⊢
  clear hu0
  have HT := fun W => tracks_any A l.length l.length hn W
  clear RF0 RD0 RF3 RD3 RF4 RD4 HR4 M3 M4
  cases hu : useT d t 96
  case true =>
    rw [hu] at hso
    have hcc : wtC s l d t = 4 := by simp [wtC, ha, hp, hu, hty]
    have HX := hide hcc
    have HS := hide (show wtS s l d t = 0 by simp [wtS, hcc])
    have HL := hide (show wtL s l d t = [] by simp [wtL, hcc])
    have HY := hide (show wtD s l d t = fun _ => 0 by simp [wtD, hcc])
    have hgl : w.heap.size + 1 + 1 + 1 < w5.heap.size := (Array.getElem?_eq_some_iff.1 RD5).1
    have RD9 : (w5.setRow (w.heap.size + 1 + 1) #[.int .i16 0, .slice none 0 0]).heap[w.heap.size + 1 + 1 + 1]? = some (.cells (da fun _ => 0) 32 (0, 0)) := (setRow_other _ _ _ _ (by omega)).trans RD5
    have HF := hide RF5
    have HZ := hide RD9
    have bE := below_setRow (cs := da fun _ => 0) (g := w.heap.size + 1 + 1 + 1) (below_setRow (cs := #[.int .i16 0, .slice none 0 0]) (g := w.heap.size + 1 + 1) b5 (by omega)) (by omega)
    clear hcc RD9 RF5 RD5 ha hp
    go_wp2_with (first | (with_reducible refine wpList_build0 rfl rfl ?_) | (with_reducible refine wpList_store_row rfl 31 (.tmp 6) (.tmp 40) rfl (w.heap.size + 1 + 1) #[.int .i16 0, .slice none 0 0] rfl rfl 31 _ HF.out (infoF2 _ _) (sz22 _ _ _ _) (oneF _ _ _ _) ?_) | (with_reducible refine wpList_store_row rfl 32 (.tmp 7) (.tmp 41) rfl (w.heap.size + 1 + 1 + 1) (da fun _ => 0) rfl rfl 32 _ HZ.out (by rw [da_size]; exact info32) (by simp only [da_size]) (da_one _) ?_))
    exact bodyPost_ret (v := .tuple #[.agg #[.int .i16 0, .slice none 0 0], .agg (da fun _ => 0), .int .i64 4]) (results_fd Try.results15 _ _ (w.heap.size + 1 + 1) (w.heap.size + 1 + 1 + 1) _ _ #[.int .i16 0, .slice none 0 0] _ _ rfl (by simp [Act.put]) (by simp [Act.put]) (by simp [Act.put]) ((setRow_other _ _ _ _ (by omega)).trans (setRow_heap _ _ _ _ _ _ HF.out)) (setRow_heap _ _ _ _ _ _ HZ.out)) rfl ⟨none, 0, by rw [HY.out, HX.out, HS.out, HL.out]; rfl, by rw [HL.out]; exact World.ownsRow_nil _ _ _ _, bE⟩
  rw [hu] at hso
  by_cases hl1 : l.length = 1
  · have hl2 : ((l.length : Int) == 1) = true := by simp [hl1]
    have hcc : wtC s l d t = 4 := by unfold wtC; rw [if_pos ha, if_pos hp, if_pos (by simp [hl1])]
    have HX := hide hcc
    have HS := hide (show wtS s l d t = 0 by simp [wtS, hcc])
    have HL := hide (show wtL s l d t = [] by simp [wtL, hcc])
    have HY := hide (show wtD s l d t = fun _ => 0 by simp [wtD, hcc])
    have hgl : w.heap.size + 1 + 1 + 1 < w5.heap.size := (Array.getElem?_eq_some_iff.1 RD5).1
    have RD9 : (w5.setRow (w.heap.size + 1 + 1) #[.int .i16 0, .slice none 0 0]).heap[w.heap.size + 1 + 1 + 1]? = some (.cells (da fun _ => 0) 32 (0, 0)) := (setRow_other _ _ _ _ (by omega)).trans RD5
    have HF := hide RF5
    have HZ := hide RD9
    have bE := below_setRow (cs := da fun _ => 0) (g := w.heap.size + 1 + 1 + 1) (below_setRow (cs := #[.int .i16 0, .slice none 0 0]) (g := w.heap.size + 1 + 1) b5 (by omega)) (by omega)
    clear hcc RD9 RF5 RD5 ha hp hl1
    go_wp2_with (first | (go_at_call 31; with_reducible refine (HT _).mono ?_; rintro e w' ⟨rfl, rfl⟩) | (with_reducible refine wpList_build0 rfl rfl ?_) | (with_reducible refine wpList_store_row rfl 31 (.tmp 6) (.tmp 40) rfl (w.heap.size + 1 + 1) #[.int .i16 0, .slice none 0 0] rfl rfl 31 _ HF.out (infoF2 _ _) (sz22 _ _ _ _) (oneF _ _ _ _) ?_) | (with_reducible refine wpList_store_row rfl 32 (.tmp 7) (.tmp 41) rfl (w.heap.size + 1 + 1 + 1) (da fun _ => 0) rfl rfl 32 _ HZ.out (by rw [da_size]; exact info32) (by simp only [da_size]) (da_one _) ?_))
    exact bodyPost_ret (v := .tuple #[.agg #[.int .i16 0, .slice none 0 0], .agg (da fun _ => 0), .int .i64 4]) (results_fd Try.results15 _ _ (w.heap.size + 1 + 1) (w.heap.size + 1 + 1 + 1) _ _ #[.int .i16 0, .slice none 0 0] _ _ rfl (by simp [Act.put]) (by simp [Act.put]) (by simp [Act.put]) ((setRow_other _ _ _ _ (by omega)).trans (setRow_heap _ _ _ _ _ _ HF.out)) (setRow_heap _ _ _ _ _ _ HZ.out)) rfl ⟨none, 0, by rw [HY.out, HX.out, HS.out, HL.out]; rfl, by rw [HL.out]; exact World.ownsRow_nil _ _ _ _, bE⟩
  have hl2 : ((l.length : Int) == 1) = false := by simp; omega
  have hcc : wtC s l d t = 0 := by simp [wtC, ha, hp, hu, hty, hl1]
  have HX := hide hcc
  have HS := hide (show wtS s l d t = s by simp [wtS, hcc])
  have HL := hide (show wtL s l d t = dropL l t by simp [wtL, hcc, hty])
  have HY := hide (show wtD s l d t = drT d t 96 by simp [wtD, hcc, hty])
  clear hcc ha hp hu hl1 hfa
  have KL := fun W (h : Below w5.heap.size w5 W) => withoutF_any s A l t W (hA5.below h) hn htl
  have KD := fun W => withoutD_any t d W ht24 hd
  have hd1 : Below w5.heap.size w5 w5.drew := (Below.refl _ _).drew
  have p1 := (F5.keep hd1).1
  have p2 := (F5.keep hd1).2
  have p3 := (D5.keep hd1).range
  have hg3 : w.heap.size + 1 + 1 + 1 < w5.heap.size := (Array.getElem?_eq_some_iff.1 RD5).1
  have HRF := hide RF5
  have HRD := hide RD5
  clear RF5 RD5
  go_wp2_with (go_at_call 31; with_reducible refine (HT _).mono ?_; rintro e w' ⟨rfl, rfl⟩)
  refine wp_region_held_drew (S := fun w' => w'.cell? ⟨w.heap.size, 0, none⟩ = some (.int .i16 s) ∧ w'.cell? ⟨w.heap.size, 1, none⟩ = some (.slice A l.length l.length) ∧ w'.rangeAt (w.heap.size + 1) 0 (dv d)) (by kernel_rfl) ⟨p1, p2, p3⟩ fun hS1 => ?_
  refine wpAnyH_take (i := 0) (v := .agg #[.int .i16 s, .slice A l.length l.length]) rfl (by kernel_rfl) (by kernel_rfl) (by kernel_rfl) (fun _ _ _ h => h) (Or.inl ⟨by rfl, fun w' h => ?_⟩) hS1 ?_
  · have c0 := h.1
    have c1 := h.2.1
    clear h
    go_simp
  simp only [Act.put, List.setIfInBounds_toArray, List.set_cons_zero, List.set_cons_succ]
  refine wpAnyH_take (i := 1) (v := .int .i64 t) rfl (by kernel_rfl) (by kernel_rfl) (by kernel_rfl) (fun _ _ _ h => h) (Or.inl ⟨by rfl, fun w' _ => by go_simp⟩) hS1 ?_
  change wpAnyH _ _ _ _ _ _ _ (Act.put _ (some 43) _) _
  simp only [Act.put, List.setIfInBounds_toArray, List.set_cons_zero, List.set_cons_succ]
  refine wpAnyH_take (i := 3) rfl (by kernel_rfl) (by kernel_rfl) (by kernel_rfl) (fun _ _ _ h => h) (yieldsIf_load_mid (by rfl) _ _ rfl (w.heap.size + 1) 0 rfl (dv d) _ (fun _ h => h.2.2) Try.underlying32 rfl (dInfo d)) hS1 ?_
  simp only [Act.put, List.setIfInBounds_toArray, List.set_cons_zero, List.set_cons_succ]
  refine wpAnyH_take (i := 4) (v := .int .i64 t) rfl (by kernel_rfl) (by kernel_rfl) (by kernel_rfl) (fun _ _ _ h => h) (Or.inl ⟨by rfl, fun w' _ => by go_simp⟩) hS1 ?_
  change wpAnyH _ _ _ _ _ _ _ (Act.put _ (some 46) _) _
  simp only [Act.put, List.setIfInBounds_toArray, List.set_cons_zero, List.set_cons_succ]
  refine wpAnyH_ready (rs := [2]) (by kernel_rfl) (by simp) (AllReadyH.cons rfl ?_ AllReadyH.nil)
  intro K hK
  rw [if_pos (by rfl)]
  go_simp
  refine (KL _ hd1).mono ?_
  rintro e w6 ⟨C6, q6, rfl, own6, hb6'⟩
  have hb6 := step_below hb6' hd1
  refine hK.out _ _ ⟨(F5.keep hb6).1, (F5.keep hb6).2, (D5.keep hb6).range⟩ (fun hS2 => ?_)
  clear hK K hS1
  refine wpAnyH_ready (rs := [5]) (by kernel_rfl) (by simp) (AllReadyH.cons rfl ?_ AllReadyH.nil)
  intro K hK
  rw [if_pos (by rfl)]
  go_simp
  refine (KD _).mono ?_
  rintro e w7 ⟨rfl, hb7'⟩
  have hb7 := step_below hb7' hb6
  have own7 := own_keep own6 hb7'
  have b7 := step_below hb7 b5
  have F7 := F5.keep hb7
  have D7 := D5.keep hb7
  have RF7 := (hb7.block _ (Array.getElem?_eq_some_iff.1 HRF.out).1).trans HRF.out
  have RD7 := (hb7.block _ (Array.getElem?_eq_some_iff.1 HRD.out).1).trans HRD.out
  refine hK.out _ _ ⟨F7.1, F7.2, D7.range⟩ (fun hS3 => ?_)
  clear hK K hS2
  refine wpAnyH_ready (rs := [6]) (by kernel_rfl) (by simp) (AllReadyH.cons rfl ?_ AllReadyH.nil)
  intro K hK
  rw [if_pos (by rfl)]
  refine wp_store_row 31 (.tmp 6) (.tmp 44) rfl (w.heap.size + 1 + 1) #[.int .i16 s, .slice C6 (dropL l t).length q6] rfl rfl 31 _ RF7 (infoF2 _ _) (sz22 _ _ _ _) (oneF _ _ _ _) ?_
  have RF8 := setRow_heap _ _ _ #[.int .i16 s, .slice C6 (dropL l t).length q6] _ _ RF7
  have RD8 : (w7.setRow (w.heap.size + 1 + 1) #[.int .i16 s, .slice C6 (dropL l t).length q6]).heap[w.heap.size + 1 + 1 + 1]? = some (.cells (da fun _ => 0) 32 (0, 0)) := (setRow_other _ _ _ _ (by omega)).trans RD7
  have D8 : Dr (w7.setRow (w.heap.size + 1 + 1) #[.int .i16 s, .slice C6 (dropL l t).length q6]) (w.heap.size + 1) 32 d := (setRow_other _ _ _ _ (by omega)).trans D7
  have F8 : FP (w7.setRow (w.heap.size + 1 + 1) #[.int .i16 s, .slice C6 (dropL l t).length q6]) w.heap.size s A l.length l.length := ⟨(cell_block (setRow_other _ _ _ _ (by omega))).trans F7.1, (cell_block (setRow_other _ _ _ _ (by omega))).trans F7.2⟩
  refine hK.out _ _ ⟨F8.1, F8.2, D8.range⟩ (fun hS4 => ?_)
  clear hK K hS3
  refine wpAnyH_ready (rs := [7]) (by kernel_rfl) (by simp) (AllReadyH.cons rfl ?_ AllReadyH.nil)
  intro K hK
  rw [if_pos (by rfl)]
  refine wp_store_row 32 (.tmp 7) (.tmp 47) rfl (w.heap.size + 1 + 1 + 1) (da (drT d t 96)) rfl rfl 32 _ RD8 (by rw [da_size]; exact info32) (by simp only [da_size]) (da_one _) ?_
  have RF9 : ((w7.setRow (w.heap.size + 1 + 1) #[.int .i16 s, .slice C6 (dropL l t).length q6]).setRow (w.heap.size + 1 + 1 + 1) (da (drT d t 96))).heap[w.heap.size + 1 + 1]? = some (.cells #[.int .i16 s, .slice C6 (dropL l t).length q6] 31 (0, 0)) := (setRow_other _ _ _ _ (by omega)).trans RF8
  have RD9 := setRow_heap _ _ _ (da (drT d t 96)) _ _ RD8
  have D9 : Dr ((w7.setRow (w.heap.size + 1 + 1) #[.int .i16 s, .slice C6 (dropL l t).length q6]).setRow (w.heap.size + 1 + 1 + 1) (da (drT d t 96))) (w.heap.size + 1) 32 d := (setRow_other _ _ _ _ (by omega)).trans D8
  have F9 : FP ((w7.setRow (w.heap.size + 1 + 1) #[.int .i16 s, .slice C6 (dropL l t).length q6]).setRow (w.heap.size + 1 + 1 + 1) (da (drT d t 96))) w.heap.size s A l.length l.length := ⟨(cell_block (setRow_other _ _ _ _ (by omega))).trans F8.1, (cell_block (setRow_other _ _ _ _ (by omega))).trans F8.2⟩
  refine hK.out _ _ ⟨F9.1, F9.2, D9.range⟩ (fun hS5 => ?_)
  clear hK K hS4
  refine wpAnyH_take (i := 8) (v := .int .i64 0) rfl (by kernel_rfl) (by kernel_rfl) (by kernel_rfl) (fun _ _ _ h => h) (Or.inl ⟨by rfl, fun w' _ => by go_simp⟩) hS5 ?_
  change wpAnyH _ _ _ _ _ _ _ (Act.put _ (some 8) _) _
  simp only [Act.put, List.setIfInBounds_toArray, List.set_cons_zero, List.set_cons_succ]
  refine wpAnyH_done (by kernel_rfl) ?_ _
  have HF9 := hide RF9
  have HZ9 := hide RD9
  have bE := below_setRow (cs := da (drT d t 96)) (g := w.heap.size + 1 + 1 + 1) (below_setRow (cs := #[.int .i16 s, .slice C6 (dropL l t).length q6]) (g := w.heap.size + 1 + 1) b7 (by omega)) (by omega)
  have hdrs : w5.drew.heap.size = w5.heap.size := rfl
  have hw5s := b5.size
  have ow := own_base (own_keepR (own_keepR own7 (by omega : w.heap.size + 1 + 1 < w5.drew.heap.size) #[.int .i16 s, .slice C6 (dropL l t).length q6]) (by omega : w.heap.size + 1 + 1 + 1 < w5.drew.heap.size) (da (drT d t 96))) (by omega : w.heap.size ≤ w5.drew.heap.size)
  clear RF9 RD9 D9 F9 RF8 RD8 D8 F8 RF7 RD7 D7 F7
  go_wp2
  exact bodyPost_ret (v := .tuple #[.agg #[.int .i16 s, .slice C6 (dropL l t).length q6], .agg (da (drT d t 96)), .int .i64 0]) (results_fd Try.results15 _ _ (w.heap.size + 1 + 1) (w.heap.size + 1 + 1 + 1) _ _ #[.int .i16 s, .slice C6 (dropL l t).length q6] _ _ rfl (by simp [Act.put]) (by simp [Act.put]) (by simp [Act.put]) HF9.out HZ9.out) rfl ⟨C6, q6, by rw [HY.out, HX.out, HS.out, HL.out], by rw [HL.out]; exact ow, bE⟩
end Go.Proofs.Ytehcghaficbhiaa
