import Derived.Test.YtncdgjaadlpncaaDoorAps
namespace Go.Proofs.YtncdgjaadlpncaaDoor
open Go.RowKit

set_option maxRecDepth 20000 in
set_option maxHeartbeats 4000000 in
theorem implApplyMoves_any (p : Nat → Addr) (s : Int) (A : Option Addr) (c : Nat) (l : List (Int × Int)) (d : Nat → Int) (A1 : Option Addr) (n1 c1 : Nat) (zs1 : List Int) (A2 : Option Addr) (n2 c2 : Nat) (zs2 : List Int) (w : World) (hA : HA w A l) (hn : l.length ≤ 1048576) (hwf : HWF l) (hs : -32768 ≤ s ∧ s ≤ 32767) (hd : DWF d) (h1 : SA w w.heap.size A1 n1 zs1) (hn1 : n1 ≤ 1048576) (h2 : SA w w.heap.size A2 n2 zs2) (hn2 : n2 ≤ 1048576) (hE : ErrP p w) :
    Calls Tryd.prog 12 #[.agg #[.int .i16 s, .slice A l.length c], .agg (da d), .slice A1 n1 c1, .slice A2 n2 c2] w (DrC (amX s l d zs1 n1 zs2 n2).1 (amX s l d zs1 n1 zs2 n2).2 w) := by
  have hz := zeroDrum
  have hb0 : Below w.heap.size w (((w.alloc (.cells #[.int .i16 s, .slice A l.length c] 36)).alloc (.cells (da d) 31)).alloc (.cells za 31)) := (((Below.refl _ _).alloc (Nat.le_refl _) _).alloc (by simp) _).alloc (by simp; omega) _
  have D0 : Dr (((w.alloc (.cells #[.int .i16 s, .slice A l.length c] 36)).alloc (.cells (da d) 31)).alloc (.cells za 31)) (w.heap.size + 1) 31 d := heap_old' (heap_new' _ _ _ (by simp))
  have Z0 : Dr (((w.alloc (.cells #[.int .i16 s, .slice A l.length c] 36)).alloc (.cells (da d) 31)).alloc (.cells za 31)) (w.heap.size + 1 + 1) 31 (fun _ => 0) := by rw [za_eq]; exact heap_new' _ _ _ (by simp)
  have HR0 := hide D0.range
  go_enter Tryd.func12, Tryd.ntmps12
  go_wp2_with (first | (with_reducible refine wpList_load_da rfl 31 (.tmp 5) rfl (w.heap.size + 1) 0 rfl d _ HR0.out Tryd.underlying31 rfl (dInfo d) ?_) | (with_reducible refine wpList_build1 rfl (.tmp 17) rfl d rfl ?_))
  clear hz
  refine (machine1_any s A c l d _ (hA.below hb0) hn hwf hs hd _ (by simp)).mono ?_
  rintro e w2 ⟨rfl, hb2⟩
  have hx0 : Below (((w.alloc (.cells #[.int .i16 s, .slice A l.length c] 36)).alloc (.cells (da d) 31)).alloc (.cells za 31)).heap.size (((w.alloc (.cells #[.int .i16 s, .slice A l.length c] 36)).alloc (.cells (da d) 31)).alloc (.cells za 31)) ((((w.alloc (.cells #[.int .i16 s, .slice A l.length c] 36)).alloc (.cells (da d) 31)).alloc (.cells za 31)).alloc (.cells (da d) 31)) := (Below.refl _ _).alloc (Nat.le_refl _) _
  have b2 := step_below hb2 (hb0.alloc hb0.size (.cells (da d) 31))
  have hy : Below w2.heap.size w2 (w2.alloc (.cells #[.int .i64 s, .slice A l.length c] 64)) := (Below.refl _ _).alloc (Nat.le_refl _) _
  have b3 := b2.alloc b2.size (.cells #[.int .i64 s, .slice A l.length c] 64)
  have D3 := ((D0.keep hx0).keep hb2).keep hy
  have Z3 := ((Z0.keep hx0).keep hb2).keep hy
  have M3 : FP (w2.alloc (.cells #[.int .i16 0, .slice A l.length c] 64)) w2.heap.size 0 A l.length c := ⟨by simp [go_sem], by simp [go_sem]⟩
  have m1 : (w2.alloc (.cells #[.int .i64 s, .slice A l.length c] 64)).cell? ⟨w2.heap.size, 0, none⟩ = some (.int .i64 s) := by simp [go_sem]
  have m2 : (w2.alloc (.cells #[.int .i64 s, .slice A l.length c] 64)).cell? ⟨w2.heap.size, 1, none⟩ = some (.slice A l.length c) := by simp [go_sem]
  have hw2 : w2.heap.size < (w2.alloc (.cells #[.int .i64 s, .slice A l.length c] 64)).heap.size := by simp
  have HZ3 := hide (show (w2.alloc (.cells #[.int .i64 s, .slice A l.length c] 64)).heap[w.heap.size + 1 + 1]? = some (.cells (da fun _ => 0) 31 (0, 0)) from Z3)
  clear M3 hx0 hb2 hy D0 Z0 HR0 hb0 b2
  cases ha : askB s l d
  · have HX := hide (show amX s l d zs1 n1 zs2 n2 = (fun _ => 0, 1) by simp [amX, ha])
    clear ha
    go_wp2_with (first | (with_reducible refine wpList_build0 rfl rfl ?_) | (with_reducible refine wpList_store_row rfl 31 (.tmp 8) (.tmp 24) rfl (w.heap.size + 1 + 1) (da fun _ => 0) rfl rfl 31 _ HZ3.out (by rw [da_size]; exact info31) (by simp only [da_size]) (da_one _) ?_))
    exact bodyPost_ret (v := .tuple #[.agg (da fun _ => 0), .int .i64 1]) (results_dr Tryd.results12 _ _ (w.heap.size + 1 + 1) 31 _ _ (by simp [Act.put]) (by simp [Act.put]) (setRow_heap _ _ _ _ _ _ HZ3.out)) rfl ⟨by rw [HX.out], below_setRow b3 (by omega)⟩
  have hfa := ask_all ha
  have hl24 := hfa.2.1.2
  obtain ⟨W3, hW3⟩ : ∃ W3, W3 = w2.alloc (.cells #[.int .i64 s, .slice A l.length c] 64) := ⟨_, rfl⟩
  have HW3 := hide hW3
  rw [← hW3] at b3 D3 Z3 m1 m2 hw2 HZ3
  clear hW3
  cases ht1 : thB s l.length zs1 n1
  · have HX := hide (show amX s l d zs1 n1 zs2 n2 = (fun _ => 0, 2) by simp [amX, ha, ht1])
    have K1 : Calls Tryd.prog 31 #[.agg #[.int .i64 s, .slice A l.length c], .slice A1 n1 c1] W3 (Says false W3) := by
      rw [← ht1]; exact hasPlaces_any s A l.length c A1 n1 c1 zs1 w.heap.size W3 (h1.below b3) b3.size hn1 hn hs
    clear ha ht1 hfa
    go_wp2_with fail
    rw [← HW3.out]
    refine K1.mono ?_
    rintro e w4 ⟨rfl, hb4⟩
    have b4 := step_below hb4 b3
    have HZ4 := hide (show w4.heap[w.heap.size + 1 + 1]? = some (.cells (da fun _ => 0) 31 (0, 0)) from Z3.keep hb4)
    go_wp2_with (first | (with_reducible refine wpList_build0 rfl rfl ?_) | (with_reducible refine wpList_store_row rfl 31 (.tmp 8) (.tmp 35) rfl (w.heap.size + 1 + 1) (da fun _ => 0) rfl rfl 31 _ HZ4.out (by rw [da_size]; exact info31) (by simp only [da_size]) (da_one _) ?_))
    exact bodyPost_ret (v := .tuple #[.agg (da fun _ => 0), .int .i64 2]) (results_dr Tryd.results12 _ _ (w.heap.size + 1 + 1) 31 _ _ (by simp [Act.put]) (by simp [Act.put]) (setRow_heap _ _ _ _ _ _ HZ4.out)) rfl ⟨by rw [HX.out], below_setRow b4 (by omega)⟩
  have K1 : Calls Tryd.prog 31 #[.agg #[.int .i64 s, .slice A l.length c], .slice A1 n1 c1] W3 (Says true W3) := by
    rw [← ht1]; exact hasPlaces_any s A l.length c A1 n1 c1 zs1 w.heap.size W3 (h1.below b3) b3.size hn1 hn hs
  go_wp2_with fail
  rw [← HW3.out]
  refine K1.mono ?_
  rintro e w4 ⟨rfl, hb4⟩
  have b4 := step_below hb4 b3
  have D4 := D3.keep hb4
  have Z4 := Z3.keep hb4
  have q1 := (hb4.cell (p := ⟨w2.heap.size, 0, none⟩) hw2).trans m1
  have q2 := (hb4.cell (p := ⟨w2.heap.size, 1, none⟩) hw2).trans m2
  cases ht2 : thB s l.length zs2 n2
  · have HX := hide (show amX s l d zs1 n1 zs2 n2 = (fun _ => 0, 2) by simp [amX, ha, ht2])
    have K2 : Calls Tryd.prog 31 #[.agg #[.int .i64 s, .slice A l.length c], .slice A2 n2 c2] w4 (Says false w4) := by
      rw [← ht2]; exact hasPlaces_any s A l.length c A2 n2 c2 zs2 w.heap.size w4 (h2.below b4) b4.size hn2 hn hs
    clear ha ht1 ht2 hfa
    go_wp2_with fail
    refine K2.mono ?_
    rintro e w5 ⟨rfl, hb5⟩
    have b5 := step_below hb5 b4
    have HZ5 := hide (show w5.heap[w.heap.size + 1 + 1]? = some (.cells (da fun _ => 0) 31 (0, 0)) from Z4.keep hb5)
    go_wp2_with (first | (with_reducible refine wpList_build0 rfl rfl ?_) | (with_reducible refine wpList_store_row rfl 31 (.tmp 8) (.tmp 35) rfl (w.heap.size + 1 + 1) (da fun _ => 0) rfl rfl 31 _ HZ5.out (by rw [da_size]; exact info31) (by simp only [da_size]) (da_one _) ?_))
    exact bodyPost_ret (v := .tuple #[.agg (da fun _ => 0), .int .i64 2]) (results_dr Tryd.results12 _ _ (w.heap.size + 1 + 1) 31 _ _ (by simp [Act.put]) (by simp [Act.put]) (setRow_heap _ _ _ _ _ _ HZ5.out)) rfl ⟨by rw [HX.out], below_setRow b5 (by omega)⟩
  have K2 : Calls Tryd.prog 31 #[.agg #[.int .i64 s, .slice A l.length c], .slice A2 n2 c2] w4 (Says true w4) := by
    rw [← ht2]; exact hasPlaces_any s A l.length c A2 n2 c2 zs2 w.heap.size w4 (h2.below b4) b4.size hn2 hn hs
  have HTH1 := hide (thB_all ht1)
  have HTH2 := hide (thB_all ht2)
  have HN1 := hide (fun hq => amX_none ha ht1 ht2 hq)
  have HN2 := hide (fun q hq hr => amX_none2 (q := q) ha ht1 ht2 hq hr)
  have HS1 := hide (fun q r hq hr => amX_some (q := q) (r := r) ha ht1 ht2 hq hr)
  obtain ⟨S, hSs⟩ : ∃ S : Nat, s = (S : Int) := ⟨s.toNat, by omega⟩
  have hS96 : S ≤ 96 := by have := hfa.1.2; omega
  have hz := zeroDrum
  clear ha ht1 ht2 K1 hfa HZ3
  subst hSs
  go_wp2_with fail
  refine K2.mono ?_
  rintro e w5 ⟨rfl, hb5⟩
  have b5 := step_below hb5 b4
  have D5 := D4.keep hb5
  have Z5 := Z4.keep hb5
  have HR5 := hide D5.range
  clear K2
  go_wp2_with (with_reducible refine wpList_load_da rfl 31 (.tmp 5) rfl (w.heap.size + 1) 0 rfl d _ HR5.out Tryd.underlying31 rfl (dInfo d) ?_)
  refine (toggledAll_any p d true S l.length A1 n1 c1 zs1 w.heap.size w5 (hE.keep b5) (h1.below b5) b5.size hn1 hS96 hl24 hd HTH1.out).mono ?_
  rintro e w6 ⟨hr, hb6⟩
  have b6 := step_below hb6 b5
  have Z6 := Z5.keep hb6
  have hw6 : w.heap.size + 1 + 1 < w6.heap.size := Z6.lt
  cases hq : amF zs1 true d n1 with
  | none =>
    rw [hq] at hr
    obtain rfl := hr
    have HX := hide (show amX S l d zs1 n1 zs2 n2 = (fun _ => 0, 4) from HN1.out hq)
    have hzz : za.size = (da fun _ => 0).size := by rw [za_eq]
    have hy7 : Below w6.heap.size w6 (w6.alloc (.cells (da fun _ => 0) 31)) := (Below.refl _ _).alloc (Nat.le_refl _) _
    have b7 := step_below hy7 b6
    have E7 := hE.keep b7
    have HZ7 := hide (show (w6.alloc (.cells (da fun _ => 0) 31)).heap[w.heap.size + 1 + 1]? = some (.cells (da fun _ => 0) 31 (0, 0)) from Z6.keep hy7)
    clear hq
    go_wp2_with (first | (with_reducible refine wpList_store_new rfl 31 (.tmp 12) (.tmp 40) rfl (fun _ => 0) rfl rfl 31 _ (dInfo fun _ => 0) hzz ?_) | (with_reducible refine wpList_build0 rfl rfl ?_) | (go_at_call 33; refine (codeOf_3 E7).mono ?_; rintro e w' ⟨rfl, rfl⟩) | (with_reducible refine wpList_store_row rfl 31 (.tmp 8) (.tmp 44) rfl (w.heap.size + 1 + 1) (da fun _ => 0) rfl rfl 31 _ HZ7.out (by rw [da_size]; exact info31) (by simp only [da_size]) (da_one _) ?_))
    exact bodyPost_ret (v := .tuple #[.agg (da fun _ => 0), .int .i64 4]) (results_dr Tryd.results12 _ _ (w.heap.size + 1 + 1) 31 _ _ (by simp [Act.put]) (by simp [Act.put]) (setRow_heap _ _ _ _ _ _ HZ7.out)) rfl ⟨by rw [HX.out], below_setRow b7 (by omega)⟩
  | some q =>
    rw [hq] at hr
    obtain rfl := hr
    have hqw := amF_wf hd hq
    have hzq : za.size = (da q).size := by rw [za_eq]; simp only [da_size]
    have hy7 : Below w6.heap.size w6 (w6.alloc (.cells (da q) 31)) := (Below.refl _ _).alloc (Nat.le_refl _) _
    have b7 := step_below hy7 b6
    have E7 := hE.keep b7
    have Z7 := Z6.keep hy7
    have D7 : Dr (w6.alloc (.cells (da q) 31)) w6.heap.size 31 q := heap_new' _ _ _ rfl
    have HR7 := hide D7.range
    have HQ := hide hq
    clear hq
    go_wp2_with (first | (with_reducible refine wpList_store_new rfl 31 (.tmp 12) (.tmp 40) rfl q rfl rfl 31 _ (dInfo q) hzq ?_) | (with_reducible refine wpList_load_da rfl 31 (.tmp 12) rfl w6.heap.size 0 rfl q _ HR7.out Tryd.underlying31 rfl (dInfo q) ?_))
    refine (toggledAll_any p q false S l.length A2 n2 c2 zs2 w.heap.size _ E7 (h2.below b7) b7.size hn2 hS96 hl24 hqw HTH2.out).mono ?_
    rintro e w8 ⟨hr, hb8⟩
    have b8 := step_below hb8 b7
    have Z8 := Z7.keep hb8
    have E8 := hE.keep b8
    cases hr2 : amF zs2 false q n2 with
    | none =>
      rw [hr2] at hr
      obtain rfl := hr
      have HX := hide (show amX S l d zs1 n1 zs2 n2 = (fun _ => 0, 4) from HN2.out q HQ.out hr2)
      clear hr2
      have hzz : za.size = (da (fun _ => 0)).size := by simp only [za_eq, da_size]
      have hy9 : Below w8.heap.size w8 (w8.alloc (.cells (da (fun _ => 0)) 31)) := (Below.refl _ _).alloc (Nat.le_refl _) _
      have b9 := step_below hy9 b8
      have D9 : Dr (w8.alloc (.cells (da (fun _ => 0)) 31)) w8.heap.size 31 (fun _ => 0) := heap_new' _ _ _ rfl
      have Z9 := Z8.keep hy9
      have hw8 : w.heap.size + 1 + 1 < w8.heap.size := Z8.lt
      go_wp2_with (with_reducible refine wpList_store_new rfl 31 (.tmp 14) (.tmp 51) rfl (fun _ => 0) rfl rfl 31 _ (dInfo (fun _ => 0)) hzz ?_)
      have hd1 : Below (w8.alloc (.cells (da (fun _ => 0)) 31)).heap.size (w8.alloc (.cells (da (fun _ => 0)) 31)) (w8.alloc (.cells (da (fun _ => 0)) 31)).drew := (Below.refl _ _).drew
      have b10 := step_below hd1 b9
      have D10 := D9.keep hd1
      have E10 := hE.keep b10
      have Z10 : (w8.alloc (.cells (da (fun _ => 0)) 31)).drew.heap[w.heap.size + 1 + 1]? = some (.cells (da fun _ => 0) 31 (0, 0)) := Z9.keep hd1
      have hU := Tryd.underlying31
      refine wp_region_held_drew (S := fun w' => w'.rangeAt w8.heap.size 0 (dv (fun _ => 0))) (by kernel_rfl) D10.range fun hS10 => ?_
      refine wpAnyH_take (i := 0) rfl (by kernel_rfl) (by kernel_rfl) (by kernel_rfl) (fun _ _ _ h => h) (yieldsIf_load_mid (by rfl) _ _ rfl w8.heap.size 0 rfl (dv (fun _ => 0)) _ (fun _ h => h) hU rfl (dInfo (fun _ => 0))) hS10 ?_
      simp only [Act.put, List.setIfInBounds_toArray, List.set_cons_zero, List.set_cons_succ]
      refine wpAnyH_ready (rs := [1]) (by kernel_rfl) (by simp) (AllReadyH.cons rfl ?_ AllReadyH.nil)
      intro K hK
      rw [if_pos (by rfl)]
      go_simp
      refine hK.out _ _ D10.range (fun hS11 => ?_)
      clear hK K
      refine wpAnyH_ready (rs := [2]) (by kernel_rfl) (by simp) (AllReadyH.cons rfl ?_ AllReadyH.nil)
      intro K hK
      rw [if_pos (by rfl)]
      go_simp
      refine (codeOf_3 E10).mono ?_
      rintro e w' ⟨rfl, rfl⟩
      refine hK.out _ _ D10.range (fun hS12 => ?_)
      clear hK K
      refine wpAnyH_ready (rs := [3]) (by kernel_rfl) (by simp) (AllReadyH.cons rfl ?_ AllReadyH.nil)
      intro K hK
      rw [if_pos (by rfl)]
      refine wp_store_row 31 (.tmp 8) (.tmp 53) rfl (w.heap.size + 1 + 1) (da (fun _ => 0)) rfl rfl 31 _ Z10 (by rw [da_size]; exact info31) (by simp only [da_size]) (da_one _) ?_
      have D13 : Dr ((w8.alloc (.cells (da (fun _ => 0)) 31)).drew.setRow (w.heap.size + 1 + 1) (da (fun _ => 0))) w8.heap.size 31 (fun _ => 0) := (setRow_other _ _ _ _ (by omega)).trans D10
      have b13 := below_setRow (g := w.heap.size + 1 + 1) (cs := da (fun _ => 0)) b10 (by omega)
      have HZ13 := hide (setRow_heap _ _ _ _ _ _ Z10 : ((w8.alloc (.cells (da (fun _ => 0)) 31)).drew.setRow (w.heap.size + 1 + 1) (da (fun _ => 0))).heap[w.heap.size + 1 + 1]? = some (.cells (da (fun _ => 0)) 31 (0, 0)))
      refine hK.out _ _ D13.range (fun hS13 => ?_)
      clear hK K
      refine wpAnyH_take (i := 4) (v := .int .i64 4) rfl (by kernel_rfl) (by kernel_rfl) (by kernel_rfl) (fun _ _ _ h => h) (Or.inl ⟨by rfl, fun w' _ => by go_simp⟩) hS13 ?_
      change wpAnyH _ _ _ _ _ _ _ (Act.put _ (some 9) _) _
      simp only [Act.put, List.setIfInBounds_toArray, List.set_cons_zero, List.set_cons_succ]
      refine wpAnyH_done (by kernel_rfl) ?_ _
      have HB13 := hide b13
      clear b13 D13 Z10 hS10 hS11 hS12 hS13
      go_wp2_with fail
      exact bodyPost_ret (v := .tuple #[.agg (da (fun _ => 0)), .int .i64 4]) (results_dr Tryd.results12 _ _ (w.heap.size + 1 + 1) 31 _ _ (by simp) (by simp) HZ13.out) rfl ⟨by rw [HX.out], HB13.out⟩
    | some r =>
      rw [hr2] at hr
      obtain rfl := hr
      have HX := hide (show amX S l d zs1 n1 zs2 n2 = (r, 0) from HS1.out q r HQ.out hr2)
      clear hr2
      have hzz : za.size = (da (r)).size := by simp only [za_eq, da_size]
      have hy9 : Below w8.heap.size w8 (w8.alloc (.cells (da (r)) 31)) := (Below.refl _ _).alloc (Nat.le_refl _) _
      have b9 := step_below hy9 b8
      have D9 : Dr (w8.alloc (.cells (da (r)) 31)) w8.heap.size 31 (r) := heap_new' _ _ _ rfl
      have Z9 := Z8.keep hy9
      have hw8 : w.heap.size + 1 + 1 < w8.heap.size := Z8.lt
      go_wp2_with (with_reducible refine wpList_store_new rfl 31 (.tmp 14) (.tmp 51) rfl (r) rfl rfl 31 _ (dInfo (r)) hzz ?_)
      have hd1 : Below (w8.alloc (.cells (da (r)) 31)).heap.size (w8.alloc (.cells (da (r)) 31)) (w8.alloc (.cells (da (r)) 31)).drew := (Below.refl _ _).drew
      have b10 := step_below hd1 b9
      have D10 := D9.keep hd1
      have E10 := hE.keep b10
      have Z10 : (w8.alloc (.cells (da (r)) 31)).drew.heap[w.heap.size + 1 + 1]? = some (.cells (da fun _ => 0) 31 (0, 0)) := Z9.keep hd1
      have hU := Tryd.underlying31
      refine wp_region_held_drew (S := fun w' => w'.rangeAt w8.heap.size 0 (dv (r))) (by kernel_rfl) D10.range fun hS10 => ?_
      refine wpAnyH_take (i := 0) rfl (by kernel_rfl) (by kernel_rfl) (by kernel_rfl) (fun _ _ _ h => h) (yieldsIf_load_mid (by rfl) _ _ rfl w8.heap.size 0 rfl (dv (r)) _ (fun _ h => h) hU rfl (dInfo (r))) hS10 ?_
      simp only [Act.put, List.setIfInBounds_toArray, List.set_cons_zero, List.set_cons_succ]
      refine wpAnyH_ready (rs := [1]) (by kernel_rfl) (by simp) (AllReadyH.cons rfl ?_ AllReadyH.nil)
      intro K hK
      rw [if_pos (by rfl)]
      go_simp
      refine hK.out _ _ D10.range (fun hS11 => ?_)
      clear hK K
      refine wpAnyH_ready (rs := [2]) (by kernel_rfl) (by simp) (AllReadyH.cons rfl ?_ AllReadyH.nil)
      intro K hK
      rw [if_pos (by rfl)]
      go_simp
      refine (codeOf_nil E10).mono ?_
      rintro e w' ⟨rfl, rfl⟩
      refine hK.out _ _ D10.range (fun hS12 => ?_)
      clear hK K
      refine wpAnyH_ready (rs := [3]) (by kernel_rfl) (by simp) (AllReadyH.cons rfl ?_ AllReadyH.nil)
      intro K hK
      rw [if_pos (by rfl)]
      refine wp_store_row 31 (.tmp 8) (.tmp 53) rfl (w.heap.size + 1 + 1) (da (r)) rfl rfl 31 _ Z10 (by rw [da_size]; exact info31) (by simp only [da_size]) (da_one _) ?_
      have D13 : Dr ((w8.alloc (.cells (da (r)) 31)).drew.setRow (w.heap.size + 1 + 1) (da (r))) w8.heap.size 31 (r) := (setRow_other _ _ _ _ (by omega)).trans D10
      have b13 := below_setRow (g := w.heap.size + 1 + 1) (cs := da (r)) b10 (by omega)
      have HZ13 := hide (setRow_heap _ _ _ _ _ _ Z10 : ((w8.alloc (.cells (da (r)) 31)).drew.setRow (w.heap.size + 1 + 1) (da (r))).heap[w.heap.size + 1 + 1]? = some (.cells (da (r)) 31 (0, 0)))
      refine hK.out _ _ D13.range (fun hS13 => ?_)
      clear hK K
      refine wpAnyH_take (i := 4) (v := .int .i64 0) rfl (by kernel_rfl) (by kernel_rfl) (by kernel_rfl) (fun _ _ _ h => h) (Or.inl ⟨by rfl, fun w' _ => by go_simp⟩) hS13 ?_
      change wpAnyH _ _ _ _ _ _ _ (Act.put _ (some 9) _) _
      simp only [Act.put, List.setIfInBounds_toArray, List.set_cons_zero, List.set_cons_succ]
      refine wpAnyH_done (by kernel_rfl) ?_ _
      have HB13 := hide b13
      clear b13 D13 Z10 hS10 hS11 hS12 hS13
      go_wp2_with fail
      exact bodyPost_ret (v := .tuple #[.agg (da (r)), .int .i64 0]) (results_dr Tryd.results12 _ _ (w.heap.size + 1 + 1) 31 _ _ (by simp) (by simp) HZ13.out) rfl ⟨by rw [HX.out], HB13.out⟩
end Go.Proofs.YtncdgjaadlpncaaDoor
