import Derived.Test.YtdglhgfhlcdflaaDoorGaf
import Derived.Test.YtdglhgfhlcdflaaDoorMkf
import Derived.Test.YtdglhgfhlcdflaaDoorGag
import Derived.Test.YtdglhgfhlcdflaaDoorGdu
import Derived.Deep.RegionHeld3
import Derived.Deep.CutRange
namespace Go.Proofs.YtdglhgfhlcdflaaDoor
open Go.RowKit

set_option maxRecDepth 20000 in
set_option maxHeartbeats 1000000 in
theorem lawPinGreedily_big0 (s0 : Int) (A0 : Option Addr) (c0 : Nat) (l0 : List (Int × Int)) (A1 : Option Addr) (c1 : Nat) (l1 : List (Int × Int)) (w : World)  (hbg : 1048576 < l0.length) (hm0 : l0.length ≤ maxLen) (hm1 : l1.length ≤ maxLen) :
    Calls Tryd.prog 4 #[.agg #[.int .i16 s0, .slice A0 l0.length c0], .slice A1 l1.length c1] w (Says true w) := by
  obtain ⟨X0, hX0⟩ : ∃ X, X = (w.alloc (.cells #[.int .i16 s0, .slice A0 l0.length c0] 25)) := ⟨_, rfl⟩
  have b0 : Below w.heap.size w X0 := by rw [hX0]; exact ((Below.refl _ _).alloc (Nat.le_refl _) _)
  have B0_0 : Bk X0 (w.heap.size) 25 #[.int .i16 s0, .slice A0 l0.length c0] := by rw [hX0]; exact Bk.new _ _ _ rfl
  have bw0 : w.heap.size < X0.heap.size := B0_0.lt
  go_enter Tryd.func4, Tryd.ntmps4
  go_upto_region 1 with fail
  rw [← hX0]
  clear hX0
  have pf12_0 := B0_0.cell (i := 0) rfl
  have pf12_1 := B0_0.cell (i := 1) rfl
  go_wp2_with fail
  clear pf12_0 pf12_1
  refine (szFrame_at_big s0 A0 l0.length c0 (1048576) (by omega) (by omega) hm0 (by omega) _).mono ?_
  rintro e w1 ⟨rfl, hb1⟩
  have b1 := step_below hb1 b0
  go_wp2
  go_ret
  exact ⟨rfl, b1⟩
set_option maxRecDepth 20000 in
set_option maxHeartbeats 1000000 in
theorem lawPinGreedily_big1 (s0 : Int) (A0 : Option Addr) (c0 : Nat) (l0 : List (Int × Int)) (A1 : Option Addr) (c1 : Nat) (l1 : List (Int × Int)) (w : World) (hc0 : l0.length ≤ 1048576) (hbg : 1048576 < l0.length + l1.length) (hm0 : l0.length ≤ maxLen) (hm1 : l1.length ≤ maxLen) :
    Calls Tryd.prog 4 #[.agg #[.int .i16 s0, .slice A0 l0.length c0], .slice A1 l1.length c1] w (Says true w) := by
  obtain ⟨X0, hX0⟩ : ∃ X, X = (w.alloc (.cells #[.int .i16 s0, .slice A0 l0.length c0] 25)) := ⟨_, rfl⟩
  have b0 : Below w.heap.size w X0 := by rw [hX0]; exact ((Below.refl _ _).alloc (Nat.le_refl _) _)
  have B0_0 : Bk X0 (w.heap.size) 25 #[.int .i16 s0, .slice A0 l0.length c0] := by rw [hX0]; exact Bk.new _ _ _ rfl
  have bw0 : w.heap.size < X0.heap.size := B0_0.lt
  go_enter Tryd.func4, Tryd.ntmps4
  go_upto_region 1 with fail
  rw [← hX0]
  clear hX0
  have pf12_0 := B0_0.cell (i := 0) rfl
  have pf12_1 := B0_0.cell (i := 1) rfl
  go_wp2_with fail
  clear pf12_0 pf12_1
  refine (szFrame_at_small s0 A0 l0.length c0 (1048576) (by omega) (by omega) hm0 (by omega) _).mono ?_
  rintro e w1 ⟨rfl, hb1⟩
  have b1 := step_below hb1 b0
  have B0_1 := B0_0.keep hb1
  go_wp2_with fail
  refine (szTune_big A1 l1.length c1 (1048576 - (l0.length : Int)) (by omega) (by omega) hm1 (by omega) _).mono ?_
  rintro e w2 ⟨rfl, rfl⟩
  go_wp2
  go_ret
  exact ⟨rfl, b1⟩
set_option maxRecDepth 20000 in
set_option maxHeartbeats 4000000 in
theorem lawPinGreedily_small (s0 : Int) (A0 : Option Addr) (c0 : Nat) (l0 : List (Int × Int)) (A1 : Option Addr) (c1 : Nat) (l1 : List (Int × Int)) (w : World) (hA0 : HA w A0 l0) (hwf0 : HWF l0) (hs0 : -32768 ≤ s0 ∧ s0 ≤ 32767) (hA1 : NA w A1 l1) (hwf1 : WF l1) (hT : TabE w) (hc0 : l0.length ≤ 1048576) (hc1 : l0.length + l1.length ≤ 1048576) (hm0 : l0.length ≤ maxLen) (hm1 : l1.length ≤ maxLen) :
    Calls Tryd.prog 4 #[.agg #[.int .i16 s0, .slice A0 l0.length c0], .slice A1 l1.length c1] w (Says true w) := by
  have hn0 : l0.length ≤ 1048576 := by omega
  have hn1 : l1.length ≤ 1048576 := by omega
  obtain ⟨r0, hr0⟩ : ∃ r : Nat → Int, r = gpD s0 l0 l1 := ⟨_, rfl⟩
  obtain ⟨r1, hr1⟩ : ∃ r : Int, r = gpC s0 l0 l1 := ⟨_, rfl⟩
  have KS : ∀ (E0 : Option Addr) (E1 : Option Addr) (W : World), HA W E0 l0 → NA W E1 l1 → TabE W → Calls Tryd.prog 15 #[.agg #[.int .i16 s0, .slice E0 l0.length l0.length], .slice E1 l1.length l1.length] W (fun e w' => e = .returned (.tuple #[.agg (da r0), .int .i64 r1]) ∧ Below W.heap.size W w') := fun E0 E1 W h0 h1 hT' => by rw [hr0, hr1]; exact specPinGreedily_any s0 E0 l0.length l0 E1 l1.length l1 W h0 hn0 hwf0 hs0 h1 hn1 hwf1
  have KI : ∀ (E0 : Option Addr) (E1 : Option Addr) (W : World), HA W E0 l0 → NA W E1 l1 → TabE W → Calls Tryd.prog 16 #[.agg #[.int .i16 s0, .slice E0 l0.length l0.length], .slice E1 l1.length l1.length] W (fun e w' => e = .returned (.tuple #[.agg (da r0), .int .i64 r1]) ∧ Below W.heap.size W w') := fun E0 E1 W h0 h1 hT' => by rw [hr0, hr1]; exact implPinGreedily_e s0 E0 l0.length l0 E1 l1.length l1 W h0 hn0 hwf0 hs0 h1 hn1 hwf1 hT'
  clear hr0 hr1
  obtain ⟨X0, hX0⟩ : ∃ X, X = (w.alloc (.cells #[.int .i16 s0, .slice A0 l0.length c0] 25)) := ⟨_, rfl⟩
  have b0 : Below w.heap.size w X0 := by rw [hX0]; exact ((Below.refl _ _).alloc (Nat.le_refl _) _)
  have B0_0 : Bk X0 (w.heap.size) 25 #[.int .i16 s0, .slice A0 l0.length c0] := by rw [hX0]; exact Bk.new _ _ _ rfl
  have bw0 : w.heap.size < X0.heap.size := B0_0.lt
  go_enter Tryd.func4, Tryd.ntmps4
  go_upto_region 1 with fail
  rw [← hX0]
  clear hX0
  have pf12_0 := B0_0.cell (i := 0) rfl
  have pf12_1 := B0_0.cell (i := 1) rfl
  go_wp2_with fail
  clear pf12_0 pf12_1
  refine (szFrame_at_small s0 A0 l0.length c0 (1048576) (by omega) (by omega) hm0 (by omega) _).mono ?_
  rintro e w1 ⟨rfl, hb1⟩
  have b1 := step_below hb1 b0
  have B0_1 := B0_0.keep hb1
  go_wp2_with fail
  refine (szTune_small A1 l1.length c1 (1048576 - (l0.length : Int)) (by omega) (by omega) hm1 (by omega) _).mono ?_
  rintro e w2' ⟨rfl, rfl⟩
  have pf23_0 := B0_1.cell (i := 0) rfl
  have pf23_1 := B0_1.cell (i := 1) rfl
  go_wp2_with fail
  clear pf23_0 pf23_1
  refine (toFrame_any s0 A0 c0 l0 _ (hA0.below b1) hn0).mono ?_
  rintro e w2 ⟨g2, rfl, hg2, own2, hb2⟩
  have b2 := step_below hb2 b1
  have B0_2 := B0_1.keep hb2
  have gl2 : g2 < w2.heap.size := (own2.lt g2 rfl).2
  have q2_2 := own2
  go_wp2_with fail
  refine (toTune_ex A1 c1 l1 _ (hA1.below b2) hn1).mono ?_
  rintro e w3 ⟨g3, rfl, hg3, own3, hb3⟩
  have b3 := step_below hb3 b2
  have B0_3 := B0_2.keep hb3
  have q2_3 := own_keep q2_2 hb3
  have gl3 : g3 < w3.heap.size := (own3.lt g3 rfl).2
  have q3_3 := own3
  go_wp2_with fail
  refine (KS _ _ _ (HA.of_own q2_3) (NA.of_own q3_3) (hT.keep b3)).mono ?_
  rintro e w4 ⟨rfl, hb4⟩
  have b4 := step_below hb4 b3
  have B0_4 := B0_3.keep hb4
  have t4 : Below w4.heap.size w4 w4 := Below.refl _ _
  have hz := zeroDrum
  have hza : za.size = (da r0).size := by rw [da_size]; rfl
  go_upto_region 9 with (with_reducible refine wpList_store_new rfl 43 (.tmp 6) (.tmp 28) rfl r0 rfl rfl 43 _ (dInfo r0) hza ?_)
  clear hz hza
  obtain ⟨w5, hX5⟩ : ∃ X, X = w4.alloc (.cells (da r0) 43) := ⟨_, rfl⟩
  have hb5 : Below w4.heap.size w4 w5 := by rw [hX5]; exact (Below.refl _ _).alloc (Nat.le_refl _) _
  have K5 : Bk w5 w4.heap.size 43 (da r0) := by rw [hX5]; exact Bk.new _ _ _ rfl
  rw [← hX5]
  clear hX5
  have b5 := step_below hb5 b4
  have B0_5 := B0_4.keep hb5
  have t5 := step_below hb5 t4
  have R5_5 := K5
  have pf30_0 := B0_5.cell (i := 0) rfl
  have pf30_1 := B0_5.cell (i := 1) rfl
  go_wp2_with fail
  clear pf30_0 pf30_1
  refine (toFrame_any s0 A0 c0 l0 _ (hA0.below b5) hn0).mono ?_
  rintro e w6 ⟨g6, rfl, hg6, own6, hb6⟩
  have b6 := step_below hb6 b5
  have B0_6 := B0_5.keep hb6
  have R5_6 := R5_5.keep hb6
  have t6 := step_below hb6 t5
  have gl6 : g6 < w6.heap.size := (own6.lt g6 rfl).2
  have q6_6 := own6
  go_upto_region 10 with fail
  obtain ⟨w7, hX7⟩ : ∃ X, X = w6.alloc (.cells #[.int .i16 s0, .slice (some ⟨g6, 0, none⟩) l0.length l0.length] 33) := ⟨_, rfl⟩
  have hb7 : Below w6.heap.size w6 w7 := by rw [hX7]; exact (Below.refl _ _).alloc (Nat.le_refl _) _
  have K7 : Bk w7 w6.heap.size 33 #[.int .i16 s0, .slice (some ⟨g6, 0, none⟩) l0.length l0.length] := by rw [hX7]; exact Bk.new _ _ _ rfl
  rw [← hX7]
  clear hX7
  have b7 := step_below hb7 b6
  have B0_7 := B0_6.keep hb7
  have R5_7 := R5_6.keep hb7
  have q6_7 := own_keep q6_6 hb7
  have t7 := step_below hb7 t6
  have Y0_7 := K7
  have yw0 : w6.heap.size < w7.heap.size := K7.lt
  go_wp2_with fail
  refine (toTune_ex A1 c1 l1 _ (hA1.below b7) hn1).mono ?_
  rintro e w8 ⟨g8, rfl, hg8, own8, hb8⟩
  have b8 := step_below hb8 b7
  have B0_8 := B0_7.keep hb8
  have R5_8 := R5_7.keep hb8
  have Y0_8 := Y0_7.keep hb8
  have q6_8 := own_keep q6_7 hb8
  have t8 := step_below hb8 t7
  have gl8 : g8 < w8.heap.size := (own8.lt g8 rfl).2
  have q8_8 := own8
  have pf35_0 := Y0_8.cell (i := 0) rfl
  have pf35_1 := Y0_8.cell (i := 1) rfl
  go_wp2_with fail
  clear pf35_0 pf35_1
  refine (KI _ _ _ (HA.of_own q6_8) (NA.of_own q8_8) (hT.keep b8)).mono ?_
  rintro e w9 ⟨rfl, hb9⟩
  have b9 := step_below hb9 b8
  have B0_9 := B0_8.keep hb9
  have R5_9 := R5_8.keep hb9
  have Y0_9 := Y0_8.keep hb9
  have q6_9 := own_keep q6_8 hb9
  have q8_9 := own_keep q8_8 hb9
  have t9 := step_below hb9 t8
  have hz := zeroDrum
  have hza : za.size = (da r0).size := by rw [da_size]; rfl
  go_upto_region 12 with (with_reducible refine wpList_store_new rfl 43 (.tmp 10) (.tmp 38) rfl r0 rfl rfl 43 _ (dInfo r0) hza ?_)
  clear hz hza
  obtain ⟨w10, hX10⟩ : ∃ X, X = w9.alloc (.cells (da r0) 43) := ⟨_, rfl⟩
  have hb10 : Below w9.heap.size w9 w10 := by rw [hX10]; exact (Below.refl _ _).alloc (Nat.le_refl _) _
  have K10 : Bk w10 w9.heap.size 43 (da r0) := by rw [hX10]; exact Bk.new _ _ _ rfl
  rw [← hX10]
  clear hX10
  have b10 := step_below hb10 b9
  have B0_10 := B0_9.keep hb10
  have R5_10 := R5_9.keep hb10
  have Y0_10 := Y0_9.keep hb10
  have q6_10 := own_keep q6_9 hb10
  have q8_10 := own_keep q8_9 hb10
  have t10 := step_below hb10 t9
  have R10_10 := K10
  have HD40_ := hide (show Dr w10 (w9.heap.size) 43 r0 from R10_10).range
  have HD41_ := hide (show Dr w10 (w4.heap.size) 43 r0 from R5_10).range
  go_wp2_with (first | (with_reducible refine wpList_load_da rfl 43 (.tmp 10) rfl (w9.heap.size) 0 rfl r0 _ HD40_.out Tryd.underlying43 rfl (dInfo r0) ?_) | (with_reducible refine wpList_load_da rfl 43 (.tmp 6) rfl (w4.heap.size) 0 rfl r0 _ HD41_.out Tryd.underlying43 rfl (dInfo r0) ?_))
  clear HD40_ HD41_
  refine (eqDrum_any r0 _).mono ?_
  rintro e w11 ⟨rfl, hb11⟩
  have b11 := step_below hb11 b10
  have B0_11 := B0_10.keep hb11
  have R5_11 := R5_10.keep hb11
  have Y0_11 := Y0_10.keep hb11
  have R10_11 := R10_10.keep hb11
  have q6_11 := own_keep q6_10 hb11
  have q8_11 := own_keep q8_10 hb11
  have t11 := step_below hb11 t10
  go_wp2_with fail
  have hb12 : Below w11.heap.size w11 w11.drew := (Below.refl _ _).drew
  have b12 := step_below hb12 b11
  have B0_12 := B0_11.keep hb12
  have R5_12 := R5_11.keep hb12
  have Y0_12 := Y0_11.keep hb12
  have R10_12 := R10_11.keep hb12
  have q6_12 := own_keep q6_11 hb12
  have q8_12 := own_keep q8_11 hb12
  have t12 := step_below hb12 t11
  refine wp_region_held_drew (S := fun w' => w'.cell? ⟨w6.heap.size, 0, none⟩ = some (.int .i16 s0) ∧ w'.cell? ⟨w6.heap.size, 1, none⟩ = some (.slice (some ⟨g6, 0, none⟩) l0.length l0.length) ∧ w'.cell? ⟨w.heap.size, 0, none⟩ = some (.int .i16 s0) ∧ w'.cell? ⟨w.heap.size, 1, none⟩ = some (.slice A0 l0.length c0)) (by kernel_rfl) ⟨(Y0_12.cell (i := 0) rfl), (Y0_12.cell (i := 1) rfl), (B0_12.cell (i := 0) rfl), (B0_12.cell (i := 1) rfl)⟩ fun hS12 => ?_
  refine wpAnyH_take (i := 0) (v := .agg #[.int .i16 s0, .slice (some ⟨g6, 0, none⟩) l0.length l0.length]) rfl (by kernel_rfl) (by kernel_rfl) (by kernel_rfl) (fun _ _ _ h => h) (Or.inl ⟨by rfl, fun w' h => ?_⟩) hS12 ?_
  · have c0 := h.1
    have c1 := h.2.1
    clear h
    go_simp
  simp only [Act.put, List.setIfInBounds_toArray, List.set_cons_zero, List.set_cons_succ]
  refine wpAnyH_take (i := 1) (v := .agg #[.int .i16 s0, .slice A0 l0.length c0]) rfl (by kernel_rfl) (by kernel_rfl) (by kernel_rfl) (fun _ _ _ h => h) (Or.inl ⟨by rfl, fun w' h => ?_⟩) hS12 ?_
  · have c0 := h.2.2.1
    have c1 := h.2.2.2
    clear h
    go_simp
  simp only [Act.put, List.setIfInBounds_toArray, List.set_cons_zero, List.set_cons_succ]
  refine wpAnyH_ready (rs := [2]) (by kernel_rfl) (by simp) (AllReadyH.cons rfl ?_ AllReadyH.nil)
  intro K hK
  rw [if_pos (by rfl)]
  go_simp
  refine (toFrame_any s0 A0 c0 l0 _ (hA0.below b12) hn0).mono ?_
  rintro e w13 ⟨g13, rfl, hg13, own13, hb13⟩
  have b13 := step_below hb13 b12
  have B0_13 := B0_12.keep hb13
  have R5_13 := R5_12.keep hb13
  have Y0_13 := Y0_12.keep hb13
  have R10_13 := R10_12.keep hb13
  have q6_13 := own_keep q6_12 hb13
  have q8_13 := own_keep q8_12 hb13
  have t13 := step_below hb13 t12
  have gl13 : g13 < w13.heap.size := (own13.lt g13 rfl).2
  have q13_13 := own13
  refine hK.out _ _ ⟨(Y0_13.cell (i := 0) rfl), (Y0_13.cell (i := 1) rfl), (B0_13.cell (i := 0) rfl), (B0_13.cell (i := 1) rfl)⟩ (fun hS13 => ?_)
  clear hK K
  refine wpAnyH_ready (rs := [3]) (by kernel_rfl) (by simp) (AllReadyH.cons rfl ?_ AllReadyH.nil)
  intro K hK
  rw [if_pos (by rfl)]
  go_simp
  refine (eqFrame_any s0 _ _ _ _ l0 _ (HA.of_own q6_13) (HA.of_own q13_13) hn0).mono ?_
  rintro e w14 ⟨rfl, hb14⟩
  have b14 := step_below hb14 b13
  have B0_14 := B0_13.keep hb14
  have R5_14 := R5_13.keep hb14
  have Y0_14 := Y0_13.keep hb14
  have R10_14 := R10_13.keep hb14
  have q6_14 := own_keep q6_13 hb14
  have q8_14 := own_keep q8_13 hb14
  have t14 := step_below hb14 t13
  refine hK.out _ _ ⟨(Y0_14.cell (i := 0) rfl), (Y0_14.cell (i := 1) rfl), (B0_14.cell (i := 0) rfl), (B0_14.cell (i := 1) rfl)⟩ (fun hS14 => ?_)
  clear hK K
  refine wpAnyH_take (i := 4) (v := .bool false) rfl (by kernel_rfl) (by kernel_rfl) (by kernel_rfl) (fun _ _ _ h => h) (Or.inl ⟨by rfl, fun w' _ => by go_simp⟩) hS14 ?_
  change wpAnyH _ _ _ _ _ _ _ (Act.put _ (some 53) _) _
  simp only [Act.put, List.setIfInBounds_toArray, List.set_cons_zero, List.set_cons_succ]
  refine wpAnyH_done (by kernel_rfl) ?_ _
  go_wp2_with fail
  refine (toTune_ex A1 c1 l1 _ (hA1.below b14) hn1).mono ?_
  rintro e w15 ⟨g15, rfl, hg15, own15, hb15⟩
  have b15 := step_below hb15 b14
  have B0_15 := B0_14.keep hb15
  have R5_15 := R5_14.keep hb15
  have Y0_15 := Y0_14.keep hb15
  have R10_15 := R10_14.keep hb15
  have q6_15 := own_keep q6_14 hb15
  have q8_15 := own_keep q8_14 hb15
  have t15 := step_below hb15 t14
  have gl15 : g15 < w15.heap.size := (own15.lt g15 rfl).2
  have q15_15 := own15
  go_wp2_with fail
  refine (eqTune_self _ _ _ _ l1 _ (NA.of_own q8_15) (NA.of_own q15_15) hn1).mono ?_
  rintro e w16 ⟨rfl, hb16⟩
  have b16 := step_below hb16 b15
  have B0_16 := B0_15.keep hb16
  have R5_16 := R5_15.keep hb16
  have Y0_16 := Y0_15.keep hb16
  have R10_16 := R10_15.keep hb16
  have q6_16 := own_keep q6_15 hb16
  have q8_16 := own_keep q8_15 hb16
  have t16 := step_below hb16 t15
  go_wp2
  go_ret
  exact ⟨rfl, b16⟩
theorem lawPinGreedily_any (s0 : Int) (A0 : Option Addr) (c0 : Nat) (l0 : List (Int × Int)) (A1 : Option Addr) (c1 : Nat) (l1 : List (Int × Int)) (w : World) (hA0 : HA w A0 l0) (hwf0 : HWF l0) (hs0 : -32768 ≤ s0 ∧ s0 ≤ 32767) (hA1 : NA w A1 l1) (hwf1 : WF l1) (hT : TabE w) (hm0 : l0.length ≤ maxLen) (hm1 : l1.length ≤ maxLen)  :
    Calls Tryd.prog 4 #[.agg #[.int .i16 s0, .slice A0 l0.length c0], .slice A1 l1.length c1] w (Says true w) := by
  rcases Nat.lt_or_ge 1048576 (l0.length) with h0 | h0
  · exact lawPinGreedily_big0 s0 A0 c0 l0 A1 c1 l1 w  h0 hm0 hm1
  rcases Nat.lt_or_ge 1048576 (l0.length + l1.length) with h1 | h1
  · exact lawPinGreedily_big1 s0 A0 c0 l0 A1 c1 l1 w h0 h1 hm0 hm1
  exact lawPinGreedily_small s0 A0 c0 l0 A1 c1 l1 w hA0 hwf0 hs0 hA1 hwf1 hT h0 h1 hm0 hm1 
end Go.Proofs.YtdglhgfhlcdflaaDoor
