import Derived.Test.YtdglhgfhlcdflaaDoorGaf
import Derived.Test.YtdglhgfhlcdflaaDoorMkf
import Derived.Test.YtdglhgfhlcdflaaDoorGag
import Derived.Test.YtdglhgfhlcdflaaDoorGdu
import Derived.Deep.RegionHeld3
import Derived.Deep.CutRange
namespace Go.Proofs.YtdglhgfhlcdflaaDoor
open Go.RowKit

set_option maxRecDepth 20000 in
set_option maxHeartbeats 1000000 in
theorem lawFirstUnpinned_big0 (s0 : Int) (A0 : Option Addr) (c0 : Nat) (l0 : List (Int × Int)) (A1 : Option Addr) (c1 : Nat) (l1 : List (Int × Int)) (w : World)  (hbg : 1048576 < l0.length) (hm0 : l0.length ≤ maxLen) (hm1 : l1.length ≤ maxLen) :
    Calls Tryd.prog 3 #[.agg #[.int .i16 s0, .slice A0 l0.length c0], .slice A1 l1.length c1] w (Says true w) := by
  obtain ⟨X0, hX0⟩ : ∃ X, X = (w.alloc (.cells #[.int .i16 s0, .slice A0 l0.length c0] 25)) := ⟨_, rfl⟩
  have b0 : Below w.heap.size w X0 := by rw [hX0]; exact ((Below.refl _ _).alloc (Nat.le_refl _) _)
  have B0_0 : Bk X0 (w.heap.size) 25 #[.int .i16 s0, .slice A0 l0.length c0] := by rw [hX0]; exact Bk.new _ _ _ rfl
  have bw0 : w.heap.size < X0.heap.size := B0_0.lt
  go_enter Tryd.func3, Tryd.ntmps3
  go_upto_region 1 with fail
  rw [← hX0]
  clear hX0
  have pf12_0 := B0_0.cell (i := 0) rfl
  have pf12_1 := B0_0.cell (i := 1) rfl
  go_wp2_with fail
  clear pf12_0 pf12_1
  refine (szFrame_at_big s0 A0 l0.length c0 (1048576) (by omega) (by omega) hm0 (by omega) _).mono ?_
  rintro e w1 ⟨rfl, hb1⟩
  have b1 := step_below hb1 b0
  go_wp2
  go_ret
  exact ⟨rfl, b1⟩
set_option maxRecDepth 20000 in
set_option maxHeartbeats 1000000 in
theorem lawFirstUnpinned_big1 (s0 : Int) (A0 : Option Addr) (c0 : Nat) (l0 : List (Int × Int)) (A1 : Option Addr) (c1 : Nat) (l1 : List (Int × Int)) (w : World) (hc0 : l0.length ≤ 1048576) (hbg : 1048576 < l0.length + l1.length) (hm0 : l0.length ≤ maxLen) (hm1 : l1.length ≤ maxLen) :
    Calls Tryd.prog 3 #[.agg #[.int .i16 s0, .slice A0 l0.length c0], .slice A1 l1.length c1] w (Says true w) := by
  obtain ⟨X0, hX0⟩ : ∃ X, X = (w.alloc (.cells #[.int .i16 s0, .slice A0 l0.length c0] 25)) := ⟨_, rfl⟩
  have b0 : Below w.heap.size w X0 := by rw [hX0]; exact ((Below.refl _ _).alloc (Nat.le_refl _) _)
  have B0_0 : Bk X0 (w.heap.size) 25 #[.int .i16 s0, .slice A0 l0.length c0] := by rw [hX0]; exact Bk.new _ _ _ rfl
  have bw0 : w.heap.size < X0.heap.size := B0_0.lt
  go_enter Tryd.func3, Tryd.ntmps3
  go_upto_region 1 with fail
  rw [← hX0]
  clear hX0
  have pf12_0 := B0_0.cell (i := 0) rfl
  have pf12_1 := B0_0.cell (i := 1) rfl
  go_wp2_with fail
  clear pf12_0 pf12_1
  refine (szFrame_at_small s0 A0 l0.length c0 (1048576) (by omega) (by omega) hm0 (by omega) _).mono ?_
  rintro e w1 ⟨rfl, hb1⟩
  have b1 := step_below hb1 b0
  have B0_1 := B0_0.keep hb1
  go_wp2_with fail
  refine (szTune_big A1 l1.length c1 (1048576 - (l0.length : Int)) (by omega) (by omega) hm1 (by omega) _).mono ?_
  rintro e w2 ⟨rfl, rfl⟩
  go_wp2
  go_ret
  exact ⟨rfl, b1⟩
set_option maxRecDepth 20000 in
set_option maxHeartbeats 4000000 in
theorem lawFirstUnpinned_small (s0 : Int) (A0 : Option Addr) (c0 : Nat) (l0 : List (Int × Int)) (A1 : Option Addr) (c1 : Nat) (l1 : List (Int × Int)) (w : World) (hA0 : HA w A0 l0) (hwf0 : HWF l0) (hs0 : -32768 ≤ s0 ∧ s0 ≤ 32767) (hA1 : NA w A1 l1) (hwf1 : WF l1) (hT : TabE w) (hc0 : l0.length ≤ 1048576) (hc1 : l0.length + l1.length ≤ 1048576) (hm0 : l0.length ≤ maxLen) (hm1 : l1.length ≤ maxLen) :
    Calls Tryd.prog 3 #[.agg #[.int .i16 s0, .slice A0 l0.length c0], .slice A1 l1.length c1] w (Says true w) := by
  have hn0 : l0.length ≤ 1048576 := by omega
  have hn1 : l1.length ≤ 1048576 := by omega
  obtain ⟨r0, hr0⟩ : ∃ r : Int, r = guV s0 l0 l1 := ⟨_, rfl⟩
  obtain ⟨r1, hr1⟩ : ∃ r : Int, r = guC s0 l0 l1 := ⟨_, rfl⟩
  have KS : ∀ (E0 : Option Addr) (E1 : Option Addr) (W : World), HA W E0 l0 → NA W E1 l1 → TabE W → Calls Tryd.prog 9 #[.agg #[.int .i16 s0, .slice E0 l0.length l0.length], .slice E1 l1.length l1.length] W (fun e w' => e = .returned (.tuple #[.int .i64 r0, .int .i64 r1]) ∧ Below W.heap.size W w') := fun E0 E1 W h0 h1 hT' => by rw [hr0, hr1]; exact specFirstUnpinned_any s0 E0 l0.length l0 E1 l1.length l1 W h0 hn0 hwf0 hs0 h1 hn1 hwf1
  have KI : ∀ (E0 : Option Addr) (E1 : Option Addr) (W : World), HA W E0 l0 → NA W E1 l1 → TabE W → Calls Tryd.prog 12 #[.agg #[.int .i16 s0, .slice E0 l0.length l0.length], .slice E1 l1.length l1.length] W (fun e w' => e = .returned (.tuple #[.int .i64 r0, .int .i64 r1]) ∧ Below W.heap.size W w') := fun E0 E1 W h0 h1 hT' => by rw [hr0, hr1]; exact implFirstUnpinned_e s0 E0 l0.length l0 E1 l1.length l1 W h0 hn0 hwf0 hs0 h1 hn1 hwf1 hT'
  clear hr0 hr1
  obtain ⟨X0, hX0⟩ : ∃ X, X = (w.alloc (.cells #[.int .i16 s0, .slice A0 l0.length c0] 25)) := ⟨_, rfl⟩
  have b0 : Below w.heap.size w X0 := by rw [hX0]; exact ((Below.refl _ _).alloc (Nat.le_refl _) _)
  have B0_0 : Bk X0 (w.heap.size) 25 #[.int .i16 s0, .slice A0 l0.length c0] := by rw [hX0]; exact Bk.new _ _ _ rfl
  have bw0 : w.heap.size < X0.heap.size := B0_0.lt
  go_enter Tryd.func3, Tryd.ntmps3
  go_upto_region 1 with fail
  rw [← hX0]
  clear hX0
  have pf12_0 := B0_0.cell (i := 0) rfl
  have pf12_1 := B0_0.cell (i := 1) rfl
  go_wp2_with fail
  clear pf12_0 pf12_1
  refine (szFrame_at_small s0 A0 l0.length c0 (1048576) (by omega) (by omega) hm0 (by omega) _).mono ?_
  rintro e w1 ⟨rfl, hb1⟩
  have b1 := step_below hb1 b0
  have B0_1 := B0_0.keep hb1
  go_wp2_with fail
  refine (szTune_small A1 l1.length c1 (1048576 - (l0.length : Int)) (by omega) (by omega) hm1 (by omega) _).mono ?_
  rintro e w2' ⟨rfl, rfl⟩
  have pf23_0 := B0_1.cell (i := 0) rfl
  have pf23_1 := B0_1.cell (i := 1) rfl
  go_wp2_with fail
  clear pf23_0 pf23_1
  refine (toFrame_any s0 A0 c0 l0 _ (hA0.below b1) hn0).mono ?_
  rintro e w2 ⟨g2, rfl, hg2, own2, hb2⟩
  have b2 := step_below hb2 b1
  have B0_2 := B0_1.keep hb2
  have gl2 : g2 < w2.heap.size := (own2.lt g2 rfl).2
  have q2_2 := own2
  go_wp2_with fail
  refine (toTune_ex A1 c1 l1 _ (hA1.below b2) hn1).mono ?_
  rintro e w3 ⟨g3, rfl, hg3, own3, hb3⟩
  have b3 := step_below hb3 b2
  have B0_3 := B0_2.keep hb3
  have q2_3 := own_keep q2_2 hb3
  have gl3 : g3 < w3.heap.size := (own3.lt g3 rfl).2
  have q3_3 := own3
  go_wp2_with fail
  refine (KS _ _ _ (HA.of_own q2_3) (NA.of_own q3_3) (hT.keep b3)).mono ?_
  rintro e w4 ⟨rfl, hb4⟩
  have b4 := step_below hb4 b3
  have B0_4 := B0_3.keep hb4
  have t4 : Below w4.heap.size w4 w4 := Below.refl _ _
  have pf30_0 := B0_4.cell (i := 0) rfl
  have pf30_1 := B0_4.cell (i := 1) rfl
  go_wp2_with fail
  clear pf30_0 pf30_1
  refine (toFrame_any s0 A0 c0 l0 _ (hA0.below b4) hn0).mono ?_
  rintro e w5 ⟨g5, rfl, hg5, own5, hb5⟩
  have b5 := step_below hb5 b4
  have B0_5 := B0_4.keep hb5
  have t5 := step_below hb5 t4
  have gl5 : g5 < w5.heap.size := (own5.lt g5 rfl).2
  have q5_5 := own5
  go_upto_region 10 with fail
  obtain ⟨w6, hX6⟩ : ∃ X, X = w5.alloc (.cells #[.int .i16 s0, .slice (some ⟨g5, 0, none⟩) l0.length l0.length] 33) := ⟨_, rfl⟩
  have hb6 : Below w5.heap.size w5 w6 := by rw [hX6]; exact (Below.refl _ _).alloc (Nat.le_refl _) _
  have K6 : Bk w6 w5.heap.size 33 #[.int .i16 s0, .slice (some ⟨g5, 0, none⟩) l0.length l0.length] := by rw [hX6]; exact Bk.new _ _ _ rfl
  rw [← hX6]
  clear hX6
  have b6 := step_below hb6 b5
  have B0_6 := B0_5.keep hb6
  have q5_6 := own_keep q5_5 hb6
  have t6 := step_below hb6 t5
  have Y0_6 := K6
  have yw0 : w5.heap.size < w6.heap.size := K6.lt
  go_wp2_with fail
  refine (toTune_ex A1 c1 l1 _ (hA1.below b6) hn1).mono ?_
  rintro e w7 ⟨g7, rfl, hg7, own7, hb7⟩
  have b7 := step_below hb7 b6
  have B0_7 := B0_6.keep hb7
  have Y0_7 := Y0_6.keep hb7
  have q5_7 := own_keep q5_6 hb7
  have t7 := step_below hb7 t6
  have gl7 : g7 < w7.heap.size := (own7.lt g7 rfl).2
  have q7_7 := own7
  have pf35_0 := Y0_7.cell (i := 0) rfl
  have pf35_1 := Y0_7.cell (i := 1) rfl
  go_wp2_with fail
  clear pf35_0 pf35_1
  refine (KI _ _ _ (HA.of_own q5_7) (NA.of_own q7_7) (hT.keep b7)).mono ?_
  rintro e w8 ⟨rfl, hb8⟩
  have b8 := step_below hb8 b7
  have B0_8 := B0_7.keep hb8
  have Y0_8 := Y0_7.keep hb8
  have q5_8 := own_keep q5_7 hb8
  have q7_8 := own_keep q7_7 hb8
  have t8 := step_below hb8 t7
  go_wp2_with fail
  have hb9 : Below w8.heap.size w8 w8.drew := (Below.refl _ _).drew
  have b9 := step_below hb9 b8
  have B0_9 := B0_8.keep hb9
  have Y0_9 := Y0_8.keep hb9
  have q5_9 := own_keep q5_8 hb9
  have q7_9 := own_keep q7_8 hb9
  have t9 := step_below hb9 t8
  refine wp_region_held_drew (S := fun w' => w'.cell? ⟨w5.heap.size, 0, none⟩ = some (.int .i16 s0) ∧ w'.cell? ⟨w5.heap.size, 1, none⟩ = some (.slice (some ⟨g5, 0, none⟩) l0.length l0.length) ∧ w'.cell? ⟨w.heap.size, 0, none⟩ = some (.int .i16 s0) ∧ w'.cell? ⟨w.heap.size, 1, none⟩ = some (.slice A0 l0.length c0)) (by kernel_rfl) ⟨(Y0_9.cell (i := 0) rfl), (Y0_9.cell (i := 1) rfl), (B0_9.cell (i := 0) rfl), (B0_9.cell (i := 1) rfl)⟩ fun hS9 => ?_
  refine wpAnyH_take (i := 0) (v := .agg #[.int .i16 s0, .slice (some ⟨g5, 0, none⟩) l0.length l0.length]) rfl (by kernel_rfl) (by kernel_rfl) (by kernel_rfl) (fun _ _ _ h => h) (Or.inl ⟨by rfl, fun w' h => ?_⟩) hS9 ?_
  · have c0 := h.1
    have c1 := h.2.1
    clear h
    go_simp
  simp only [Act.put, List.setIfInBounds_toArray, List.set_cons_zero, List.set_cons_succ]
  refine wpAnyH_take (i := 1) (v := .agg #[.int .i16 s0, .slice A0 l0.length c0]) rfl (by kernel_rfl) (by kernel_rfl) (by kernel_rfl) (fun _ _ _ h => h) (Or.inl ⟨by rfl, fun w' h => ?_⟩) hS9 ?_
  · have c0 := h.2.2.1
    have c1 := h.2.2.2
    clear h
    go_simp
  simp only [Act.put, List.setIfInBounds_toArray, List.set_cons_zero, List.set_cons_succ]
  refine wpAnyH_ready (rs := [2]) (by kernel_rfl) (by simp) (AllReadyH.cons rfl ?_ AllReadyH.nil)
  intro K hK
  rw [if_pos (by rfl)]
  go_simp
  refine (toFrame_any s0 A0 c0 l0 _ (hA0.below b9) hn0).mono ?_
  rintro e w10 ⟨g10, rfl, hg10, own10, hb10⟩
  have b10 := step_below hb10 b9
  have B0_10 := B0_9.keep hb10
  have Y0_10 := Y0_9.keep hb10
  have q5_10 := own_keep q5_9 hb10
  have q7_10 := own_keep q7_9 hb10
  have t10 := step_below hb10 t9
  have gl10 : g10 < w10.heap.size := (own10.lt g10 rfl).2
  have q10_10 := own10
  refine hK.out _ _ ⟨(Y0_10.cell (i := 0) rfl), (Y0_10.cell (i := 1) rfl), (B0_10.cell (i := 0) rfl), (B0_10.cell (i := 1) rfl)⟩ (fun hS10 => ?_)
  clear hK K
  refine wpAnyH_ready (rs := [3]) (by kernel_rfl) (by simp) (AllReadyH.cons rfl ?_ AllReadyH.nil)
  intro K hK
  rw [if_pos (by rfl)]
  go_simp
  refine (eqFrame_any s0 _ _ _ _ l0 _ (HA.of_own q5_10) (HA.of_own q10_10) hn0).mono ?_
  rintro e w11 ⟨rfl, hb11⟩
  have b11 := step_below hb11 b10
  have B0_11 := B0_10.keep hb11
  have Y0_11 := Y0_10.keep hb11
  have q5_11 := own_keep q5_10 hb11
  have q7_11 := own_keep q7_10 hb11
  have t11 := step_below hb11 t10
  refine hK.out _ _ ⟨(Y0_11.cell (i := 0) rfl), (Y0_11.cell (i := 1) rfl), (B0_11.cell (i := 0) rfl), (B0_11.cell (i := 1) rfl)⟩ (fun hS11 => ?_)
  clear hK K
  refine wpAnyH_take (i := 4) (v := .bool false) rfl (by kernel_rfl) (by kernel_rfl) (by kernel_rfl) (fun _ _ _ h => h) (Or.inl ⟨by rfl, fun w' _ => by go_simp⟩) hS11 ?_
  change wpAnyH _ _ _ _ _ _ _ (Act.put _ (some 52) _) _
  simp only [Act.put, List.setIfInBounds_toArray, List.set_cons_zero, List.set_cons_succ]
  refine wpAnyH_done (by kernel_rfl) ?_ _
  go_wp2_with fail
  refine (toTune_ex A1 c1 l1 _ (hA1.below b11) hn1).mono ?_
  rintro e w12 ⟨g12, rfl, hg12, own12, hb12⟩
  have b12 := step_below hb12 b11
  have B0_12 := B0_11.keep hb12
  have Y0_12 := Y0_11.keep hb12
  have q5_12 := own_keep q5_11 hb12
  have q7_12 := own_keep q7_11 hb12
  have t12 := step_below hb12 t11
  have gl12 : g12 < w12.heap.size := (own12.lt g12 rfl).2
  have q12_12 := own12
  go_wp2_with fail
  refine (eqTune_self _ _ _ _ l1 _ (NA.of_own q7_12) (NA.of_own q12_12) hn1).mono ?_
  rintro e w13 ⟨rfl, hb13⟩
  have b13 := step_below hb13 b12
  have B0_13 := B0_12.keep hb13
  have Y0_13 := Y0_12.keep hb13
  have q5_13 := own_keep q5_12 hb13
  have q7_13 := own_keep q7_12 hb13
  have t13 := step_below hb13 t12
  go_wp2
  go_ret
  exact ⟨rfl, b13⟩
theorem lawFirstUnpinned_any (s0 : Int) (A0 : Option Addr) (c0 : Nat) (l0 : List (Int × Int)) (A1 : Option Addr) (c1 : Nat) (l1 : List (Int × Int)) (w : World) (hA0 : HA w A0 l0) (hwf0 : HWF l0) (hs0 : -32768 ≤ s0 ∧ s0 ≤ 32767) (hA1 : NA w A1 l1) (hwf1 : WF l1) (hT : TabE w) (hm0 : l0.length ≤ maxLen) (hm1 : l1.length ≤ maxLen)  :
    Calls Tryd.prog 3 #[.agg #[.int .i16 s0, .slice A0 l0.length c0], .slice A1 l1.length c1] w (Says true w) := by
  rcases Nat.lt_or_ge 1048576 (l0.length) with h0 | h0
  · exact lawFirstUnpinned_big0 s0 A0 c0 l0 A1 c1 l1 w  h0 hm0 hm1
  rcases Nat.lt_or_ge 1048576 (l0.length + l1.length) with h1 | h1
  · exact lawFirstUnpinned_big1 s0 A0 c0 l0 A1 c1 l1 w h0 h1 hm0 hm1
  exact lawFirstUnpinned_small s0 A0 c0 l0 A1 c1 l1 w hA0 hwf0 hs0 hA1 hwf1 hT h0 h1 hm0 hm1 
end Go.Proofs.YtdglhgfhlcdflaaDoor
