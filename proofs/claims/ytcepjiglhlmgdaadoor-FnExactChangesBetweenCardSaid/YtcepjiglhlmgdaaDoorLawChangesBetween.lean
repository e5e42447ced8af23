import Derived.Test.YtcepjiglhlmgdaaDoorGah
import Derived.Test.YtcepjiglhlmgdaaDoorMkf
import Derived.Test.YtcepjiglhlmgdaaDoorGal
import Derived.Test.YtcepjiglhlmgdaaDoorCgi
import Derived.Test.YtcepjiglhlmgdaaDoorGag
import Derived.Deep.RegionHeld3
import Derived.Deep.CutRange
namespace Go.Proofs.YtcepjiglhlmgdaaDoor
open Go.RowKit

set_option maxRecDepth 20000 in
set_option maxHeartbeats 1000000 in
theorem lawChangesBetween_big0 (s0 : Int) (A0 : Option Addr) (c0 : Nat) (l0 : List (Int × Int)) (d1 : Nat → Int) (d2 : Nat → Int) (w : World)  (hbg : 1048576 < l0.length) (hm0 : l0.length ≤ maxLen) :
    Calls Tryd.prog 4 #[.agg #[.int .i16 s0, .slice A0 l0.length c0], .agg (da d1), .agg (da d2)] w (Says true w) := by
  obtain ⟨X0, hX0⟩ : ∃ X, X = (((w.alloc (.cells #[.int .i16 s0, .slice A0 l0.length c0] 25)).alloc (.cells (da d1) 45)).alloc (.cells (da d2) 45)) := ⟨_, rfl⟩
  have b0 : Below w.heap.size w X0 := by rw [hX0]; exact ((((Below.refl _ _).alloc (Nat.le_refl _) _).alloc (by simp) _).alloc (by simp; omega) _)
  have B0_0 : Bk X0 (w.heap.size) 25 #[.int .i16 s0, .slice A0 l0.length c0] := by rw [hX0]; exact Bk.new _ _ _ rfl |>.old _ |>.old _
  have bw0 : w.heap.size < X0.heap.size := B0_0.lt
  have B1_0 : Bk X0 (w.heap.size + 1) 45 (da d1) := by rw [hX0]; exact Bk.new _ _ _ (by simp) |>.old _
  have bw1 : w.heap.size + 1 < X0.heap.size := B1_0.lt
  have B2_0 : Bk X0 (w.heap.size + 1 + 1) 45 (da d2) := by rw [hX0]; exact Bk.new _ _ _ (by simp)
  have bw2 : w.heap.size + 1 + 1 < X0.heap.size := B2_0.lt
  go_enter Tryd.func4, Tryd.ntmps4
  go_upto_region 1 with fail
  rw [← hX0]
  clear hX0
  have pf18_0 := B0_0.cell (i := 0) rfl
  have pf18_1 := B0_0.cell (i := 1) rfl
  go_wp2_with fail
  clear pf18_0 pf18_1
  refine (szFrame_at_big s0 A0 l0.length c0 (1048576) (by omega) (by omega) hm0 (by omega) _).mono ?_
  rintro e w1 ⟨rfl, hb1⟩
  have b1 := step_below hb1 b0
  go_wp2
  go_ret
  exact ⟨rfl, b1⟩
set_option maxRecDepth 20000 in
set_option maxHeartbeats 4000000 in
theorem lawChangesBetween_small (s0 : Int) (A0 : Option Addr) (c0 : Nat) (l0 : List (Int × Int)) (d1 : Nat → Int) (d2 : Nat → Int) (w : World) (hA0 : HA w A0 l0) (hwf0 : HWF l0) (hs0 : -32768 ≤ s0 ∧ s0 ≤ 32767) (hd1 : DWF d1) (hd2 : DWF d2) (hT : TabW w) (hc0 : l0.length ≤ 1048576) (hm0 : l0.length ≤ maxLen) :
    Calls Tryd.prog 4 #[.agg #[.int .i16 s0, .slice A0 l0.length c0], .agg (da d1), .agg (da d2)] w (Says true w) := by
  have hn0 : l0.length ≤ 1048576 := by omega
  obtain ⟨r0, hr0⟩ : ∃ r : List (Int × Int × Bool), r = cbV s0 l0 d1 d2 := ⟨_, rfl⟩
  obtain ⟨r1, hr1⟩ : ∃ r : Int, r = codeI (ask2B s0 l0 d1 d2) := ⟨_, rfl⟩
  have hrl0 : r0.length ≤ 1048576 := by rw [hr0]; exact cbV_len _ _ _ _
  have KS : ∀ (E0 : Option Addr) (W : World), HA W E0 l0 → TabW W → Calls Tryd.prog 15 #[.agg #[.int .i16 s0, .slice E0 l0.length l0.length], .agg (da d1), .agg (da d2)] W (fun e w' => ∃ (C : Option Addr) (q : Nat), e = .returned (.tuple #[.slice C r0.length q, .int .i64 r1]) ∧ w'.ownsRow W.heap.size 87 3 (.slice C r0.length q) r0.length (cgC r0) ∧ Below W.heap.size W w') := fun E0 W h0 hT' => by rw [hr0, hr1]; exact specChangesBetween_any s0 E0 l0.length l0 d1 d2 W h0 hn0 hwf0 hs0 hd1 hd2
  have KI : ∀ (E0 : Option Addr) (W : World), HA W E0 l0 → TabW W → Calls Tryd.prog 17 #[.agg #[.int .i16 s0, .slice E0 l0.length l0.length], .agg (da d1), .agg (da d2)] W (fun e w' => ∃ (C : Option Addr) (q : Nat), e = .returned (.tuple #[.slice C r0.length q, .int .i64 r1]) ∧ w'.ownsRow W.heap.size 87 3 (.slice C r0.length q) r0.length (cgC r0) ∧ Below W.heap.size W w') := fun E0 W h0 hT' => by rw [hr0, hr1]; exact implChangesBetween_any s0 E0 l0.length l0 d1 d2 W h0 hn0 hwf0 hs0 hd1 hd2 hT'
  clear hr0 hr1
  obtain ⟨X0, hX0⟩ : ∃ X, X = (((w.alloc (.cells #[.int .i16 s0, .slice A0 l0.length c0] 25)).alloc (.cells (da d1) 45)).alloc (.cells (da d2) 45)) := ⟨_, rfl⟩
  have b0 : Below w.heap.size w X0 := by rw [hX0]; exact ((((Below.refl _ _).alloc (Nat.le_refl _) _).alloc (by simp) _).alloc (by simp; omega) _)
  have B0_0 : Bk X0 (w.heap.size) 25 #[.int .i16 s0, .slice A0 l0.length c0] := by rw [hX0]; exact Bk.new _ _ _ rfl |>.old _ |>.old _
  have bw0 : w.heap.size < X0.heap.size := B0_0.lt
  have B1_0 : Bk X0 (w.heap.size + 1) 45 (da d1) := by rw [hX0]; exact Bk.new _ _ _ (by simp) |>.old _
  have bw1 : w.heap.size + 1 < X0.heap.size := B1_0.lt
  have B2_0 : Bk X0 (w.heap.size + 1 + 1) 45 (da d2) := by rw [hX0]; exact Bk.new _ _ _ (by simp)
  have bw2 : w.heap.size + 1 + 1 < X0.heap.size := B2_0.lt
  go_enter Tryd.func4, Tryd.ntmps4
  go_upto_region 1 with fail
  rw [← hX0]
  clear hX0
  have pf18_0 := B0_0.cell (i := 0) rfl
  have pf18_1 := B0_0.cell (i := 1) rfl
  go_wp2_with fail
  clear pf18_0 pf18_1
  refine (szFrame_at_small s0 A0 l0.length c0 (1048576) (by omega) (by omega) hm0 (by omega) _).mono ?_
  rintro e w1 ⟨rfl, hb1⟩
  have b1 := step_below hb1 b0
  have B0_1 := B0_0.keep hb1
  have B1_1 := B1_0.keep hb1
  have B2_1 := B2_0.keep hb1
  go_wp2_with fail
  have hb2 : Below w1.heap.size w1 w1.drew := (Below.refl _ _).drew
  have b2 := step_below hb2 b1
  have B0_2 := B0_1.keep hb2
  have B1_2 := B1_1.keep hb2
  have B2_2 := B2_1.keep hb2
  refine wp_region_held_drew (S := fun w' => w'.cell? ⟨w.heap.size, 0, none⟩ = some (.int .i16 s0) ∧ w'.cell? ⟨w.heap.size, 1, none⟩ = some (.slice A0 l0.length c0) ∧ w'.rangeAt (w.heap.size + 1) 0 (dv d1) ∧ w'.rangeAt (w.heap.size + 1 + 1) 0 (dv d2)) (by kernel_rfl) ⟨(B0_2.cell (i := 0) rfl), (B0_2.cell (i := 1) rfl), (show Dr w1.drew (w.heap.size + 1) 45 d1 from B1_2).range, (show Dr w1.drew (w.heap.size + 1 + 1) 45 d2 from B2_2).range⟩ fun hS2 => ?_
  refine wpAnyH_take (i := 0) (v := .agg #[.int .i16 s0, .slice A0 l0.length c0]) rfl (by kernel_rfl) (by kernel_rfl) (by kernel_rfl) (fun _ _ _ h => h) (Or.inl ⟨by rfl, fun w' h => ?_⟩) hS2 ?_
  · have c0 := h.1
    have c1 := h.2.1
    clear h
    go_simp
  simp only [Act.put, List.setIfInBounds_toArray, List.set_cons_zero, List.set_cons_succ]
  refine wpAnyH_take (i := 2) rfl (by kernel_rfl) (by kernel_rfl) (by kernel_rfl) (fun _ _ _ h => h) (yieldsIf_load_mid (by rfl) _ _ rfl (w.heap.size + 1) 0 rfl (dv d1) _ (fun _ h => h.2.2.1) Tryd.underlying45 rfl (infoLt d1)) hS2 ?_
  simp only [Act.put, List.setIfInBounds_toArray, List.set_cons_zero, List.set_cons_succ]
  refine wpAnyH_take (i := 4) rfl (by kernel_rfl) (by kernel_rfl) (by kernel_rfl) (fun _ _ _ h => h) (yieldsIf_load_mid (by rfl) _ _ rfl (w.heap.size + 1 + 1) 0 rfl (dv d2) _ (fun _ h => h.2.2.2) Tryd.underlying45 rfl (infoLt d2)) hS2 ?_
  simp only [Act.put, List.setIfInBounds_toArray, List.set_cons_zero, List.set_cons_succ]
  refine wpAnyH_ready (rs := [1]) (by kernel_rfl) (by simp) (AllReadyH.cons rfl ?_ AllReadyH.nil)
  intro K hK
  rw [if_pos (by rfl)]
  go_simp
  refine (toFrame_any s0 A0 c0 l0 _ (hA0.below b2) hn0).mono ?_
  rintro e w3 ⟨g3, rfl, hg3, own3, hb3⟩
  have b3 := step_below hb3 b2
  have B0_3 := B0_2.keep hb3
  have B1_3 := B1_2.keep hb3
  have B2_3 := B2_2.keep hb3
  have gl3 : g3 < w3.heap.size := (own3.lt g3 rfl).2
  have q3_3 := own3
  refine hK.out _ _ ⟨(B0_3.cell (i := 0) rfl), (B0_3.cell (i := 1) rfl), (show Dr w3 (w.heap.size + 1) 45 d1 from B1_3).range, (show Dr w3 (w.heap.size + 1 + 1) 45 d2 from B2_3).range⟩ (fun hS3 => ?_)
  clear hK K
  refine wpAnyH_ready (rs := [3]) (by kernel_rfl) (by simp) (AllReadyH.cons rfl ?_ AllReadyH.nil)
  intro K hK
  rw [if_pos (by rfl)]
  go_simp
  refine (toDrum_any d1 _).mono ?_
  rintro e w4 ⟨rfl, hb4⟩
  have b4 := step_below hb4 b3
  have B0_4 := B0_3.keep hb4
  have B1_4 := B1_3.keep hb4
  have B2_4 := B2_3.keep hb4
  have q3_4 := own_keep q3_3 hb4
  refine hK.out _ _ ⟨(B0_4.cell (i := 0) rfl), (B0_4.cell (i := 1) rfl), (show Dr w4 (w.heap.size + 1) 45 d1 from B1_4).range, (show Dr w4 (w.heap.size + 1 + 1) 45 d2 from B2_4).range⟩ (fun hS4 => ?_)
  clear hK K
  refine wpAnyH_ready (rs := [5]) (by kernel_rfl) (by simp) (AllReadyH.cons rfl ?_ AllReadyH.nil)
  intro K hK
  rw [if_pos (by rfl)]
  go_simp
  refine (toDrum_any d2 _).mono ?_
  rintro e w5 ⟨rfl, hb5⟩
  have b5 := step_below hb5 b4
  have B0_5 := B0_4.keep hb5
  have B1_5 := B1_4.keep hb5
  have B2_5 := B2_4.keep hb5
  have q3_5 := own_keep q3_4 hb5
  refine hK.out _ _ ⟨(B0_5.cell (i := 0) rfl), (B0_5.cell (i := 1) rfl), (show Dr w5 (w.heap.size + 1) 45 d1 from B1_5).range, (show Dr w5 (w.heap.size + 1 + 1) 45 d2 from B2_5).range⟩ (fun hS5 => ?_)
  clear hK K
  refine wpAnyH_ready (rs := [6]) (by kernel_rfl) (by simp) (AllReadyH.cons rfl ?_ AllReadyH.nil)
  intro K hK
  rw [if_pos (by rfl)]
  go_simp
  refine (KS _ _ (HA.of_own q3_5) (hT.keep b5)).mono ?_
  rintro e w6 ⟨C6, e6, rfl, own6, hb6⟩
  have b6 := step_below hb6 b5
  have B0_6 := B0_5.keep hb6
  have B1_6 := B1_5.keep hb6
  have B2_6 := B2_5.keep hb6
  have v6_6 := own6
  have t6 : Below w6.heap.size w6 w6 := Below.refl _ _
  refine hK.out _ _ ⟨(B0_6.cell (i := 0) rfl), (B0_6.cell (i := 1) rfl), (show Dr w6 (w.heap.size + 1) 45 d1 from B1_6).range, (show Dr w6 (w.heap.size + 1 + 1) 45 d2 from B2_6).range⟩ (fun hS6 => ?_)
  clear hK K
  refine wpAnyH_take (i := 7) (v := .tuple #[.slice C6 r0.length e6, .int .i64 r1]) rfl (by kernel_rfl) (by kernel_rfl) (by kernel_rfl) (fun _ _ _ h => h) (Or.inl ⟨by rfl, fun w' _ => by go_simp⟩) hS6 ?_
  change wpAnyH _ _ _ _ _ _ _ (Act.put _ (some 23) _) _
  simp only [Act.put, List.setIfInBounds_toArray, List.set_cons_zero, List.set_cons_succ]
  refine wpAnyH_take (i := 8) (v := .slice C6 r0.length e6) rfl (by kernel_rfl) (by kernel_rfl) (by kernel_rfl) (fun _ _ _ h => h) (Or.inl ⟨by rfl, fun w' _ => by go_simp⟩) hS6 ?_
  change wpAnyH _ _ _ _ _ _ _ (Act.put _ (some 31) _) _
  simp only [Act.put, List.setIfInBounds_toArray, List.set_cons_zero, List.set_cons_succ]
  refine wpAnyH_take (i := 9) (v := .int .i64 r1) rfl (by kernel_rfl) (by kernel_rfl) (by kernel_rfl) (fun _ _ _ h => h) (Or.inl ⟨by rfl, fun w' _ => by go_simp⟩) hS6 ?_
  change wpAnyH _ _ _ _ _ _ _ (Act.put _ (some 32) _) _
  simp only [Act.put, List.setIfInBounds_toArray, List.set_cons_zero, List.set_cons_succ]
  refine wpAnyH_take (i := 10) (v := .slice C6 r0.length e6) rfl (by kernel_rfl) (by kernel_rfl) (by kernel_rfl) (fun _ _ _ h => h) (Or.inl ⟨by rfl, fun w' _ => by go_simp⟩) hS6 ?_
  change wpAnyH _ _ _ _ _ _ _ (Act.put _ (some 8) _) _
  simp only [Act.put, List.setIfInBounds_toArray, List.set_cons_zero, List.set_cons_succ]
  refine wpAnyH_take (i := 11) (v := .int .i64 r1) rfl (by kernel_rfl) (by kernel_rfl) (by kernel_rfl) (fun _ _ _ h => h) (Or.inl ⟨by rfl, fun w' _ => by go_simp⟩) hS6 ?_
  change wpAnyH _ _ _ _ _ _ _ (Act.put _ (some 9) _) _
  simp only [Act.put, List.setIfInBounds_toArray, List.set_cons_zero, List.set_cons_succ]
  refine wpAnyH_done (by kernel_rfl) ?_ _
  have pf33_0 := B0_6.cell (i := 0) rfl
  have pf33_1 := B0_6.cell (i := 1) rfl
  go_wp2_with fail
  clear pf33_0 pf33_1
  refine (toFrame_any s0 A0 c0 l0 _ (hA0.below b6) hn0).mono ?_
  rintro e w7 ⟨g7, rfl, hg7, own7, hb7⟩
  have b7 := step_below hb7 b6
  have B0_7 := B0_6.keep hb7
  have B1_7 := B1_6.keep hb7
  have B2_7 := B2_6.keep hb7
  have v6_7 := own_keep v6_6 hb7
  have t7 := step_below hb7 t6
  have gl7 : g7 < w7.heap.size := (own7.lt g7 rfl).2
  have q7_7 := own7
  go_upto_region 7 with fail
  obtain ⟨w8, hX8⟩ : ∃ X, X = w7.alloc (.cells #[.int .i16 s0, .slice (some ⟨g7, 0, none⟩) l0.length l0.length] 35) := ⟨_, rfl⟩
  have hb8 : Below w7.heap.size w7 w8 := by rw [hX8]; exact (Below.refl _ _).alloc (Nat.le_refl _) _
  have K8 : Bk w8 w7.heap.size 35 #[.int .i16 s0, .slice (some ⟨g7, 0, none⟩) l0.length l0.length] := by rw [hX8]; exact Bk.new _ _ _ rfl
  rw [← hX8]
  clear hX8
  have b8 := step_below hb8 b7
  have B0_8 := B0_7.keep hb8
  have B1_8 := B1_7.keep hb8
  have B2_8 := B2_7.keep hb8
  have v6_8 := own_keep v6_7 hb8
  have q7_8 := own_keep q7_7 hb8
  have t8 := step_below hb8 t7
  have Y0_8 := K8
  have yw0 : w7.heap.size < w8.heap.size := K8.lt
  go_wp2_with fail
  have hb9 : Below w8.heap.size w8 w8.drew := (Below.refl _ _).drew
  have b9 := step_below hb9 b8
  have B0_9 := B0_8.keep hb9
  have B1_9 := B1_8.keep hb9
  have B2_9 := B2_8.keep hb9
  have Y0_9 := Y0_8.keep hb9
  have v6_9 := own_keep v6_8 hb9
  have q7_9 := own_keep q7_8 hb9
  have t9 := step_below hb9 t8
  refine wp_region_held_drew (S := fun w' => w'.cell? ⟨w7.heap.size, 0, none⟩ = some (.int .i16 s0) ∧ w'.cell? ⟨w7.heap.size, 1, none⟩ = some (.slice (some ⟨g7, 0, none⟩) l0.length l0.length) ∧ w'.rangeAt (w.heap.size + 1) 0 (dv d1) ∧ w'.rangeAt (w.heap.size + 1 + 1) 0 (dv d2)) (by kernel_rfl) ⟨(Y0_9.cell (i := 0) rfl), (Y0_9.cell (i := 1) rfl), (show Dr w8.drew (w.heap.size + 1) 45 d1 from B1_9).range, (show Dr w8.drew (w.heap.size + 1 + 1) 45 d2 from B2_9).range⟩ fun hS9 => ?_
  refine wpAnyH_take (i := 0) (v := .agg #[.int .i16 s0, .slice (some ⟨g7, 0, none⟩) l0.length l0.length]) rfl (by kernel_rfl) (by kernel_rfl) (by kernel_rfl) (fun _ _ _ h => h) (Or.inl ⟨by rfl, fun w' h => ?_⟩) hS9 ?_
  · have c0 := h.1
    have c1 := h.2.1
    clear h
    go_simp
  simp only [Act.put, List.setIfInBounds_toArray, List.set_cons_zero, List.set_cons_succ]
  refine wpAnyH_take (i := 1) rfl (by kernel_rfl) (by kernel_rfl) (by kernel_rfl) (fun _ _ _ h => h) (yieldsIf_load_mid (by rfl) _ _ rfl (w.heap.size + 1) 0 rfl (dv d1) _ (fun _ h => h.2.2.1) Tryd.underlying45 rfl (infoLt d1)) hS9 ?_
  simp only [Act.put, List.setIfInBounds_toArray, List.set_cons_zero, List.set_cons_succ]
  refine wpAnyH_take (i := 3) rfl (by kernel_rfl) (by kernel_rfl) (by kernel_rfl) (fun _ _ _ h => h) (yieldsIf_load_mid (by rfl) _ _ rfl (w.heap.size + 1 + 1) 0 rfl (dv d2) _ (fun _ h => h.2.2.2) Tryd.underlying45 rfl (infoLt d2)) hS9 ?_
  simp only [Act.put, List.setIfInBounds_toArray, List.set_cons_zero, List.set_cons_succ]
  refine wpAnyH_ready (rs := [2]) (by kernel_rfl) (by simp) (AllReadyH.cons rfl ?_ AllReadyH.nil)
  intro K hK
  rw [if_pos (by rfl)]
  go_simp
  refine (toDrum_any d1 _).mono ?_
  rintro e w10 ⟨rfl, hb10⟩
  have b10 := step_below hb10 b9
  have B0_10 := B0_9.keep hb10
  have B1_10 := B1_9.keep hb10
  have B2_10 := B2_9.keep hb10
  have Y0_10 := Y0_9.keep hb10
  have v6_10 := own_keep v6_9 hb10
  have q7_10 := own_keep q7_9 hb10
  have t10 := step_below hb10 t9
  refine hK.out _ _ ⟨(Y0_10.cell (i := 0) rfl), (Y0_10.cell (i := 1) rfl), (show Dr w10 (w.heap.size + 1) 45 d1 from B1_10).range, (show Dr w10 (w.heap.size + 1 + 1) 45 d2 from B2_10).range⟩ (fun hS10 => ?_)
  clear hK K
  refine wpAnyH_ready (rs := [4]) (by kernel_rfl) (by simp) (AllReadyH.cons rfl ?_ AllReadyH.nil)
  intro K hK
  rw [if_pos (by rfl)]
  go_simp
  refine (toDrum_any d2 _).mono ?_
  rintro e w11 ⟨rfl, hb11⟩
  have b11 := step_below hb11 b10
  have B0_11 := B0_10.keep hb11
  have B1_11 := B1_10.keep hb11
  have B2_11 := B2_10.keep hb11
  have Y0_11 := Y0_10.keep hb11
  have v6_11 := own_keep v6_10 hb11
  have q7_11 := own_keep q7_10 hb11
  have t11 := step_below hb11 t10
  refine hK.out _ _ ⟨(Y0_11.cell (i := 0) rfl), (Y0_11.cell (i := 1) rfl), (show Dr w11 (w.heap.size + 1) 45 d1 from B1_11).range, (show Dr w11 (w.heap.size + 1 + 1) 45 d2 from B2_11).range⟩ (fun hS11 => ?_)
  clear hK K
  refine wpAnyH_ready (rs := [5]) (by kernel_rfl) (by simp) (AllReadyH.cons rfl ?_ AllReadyH.nil)
  intro K hK
  rw [if_pos (by rfl)]
  go_simp
  refine (KI _ _ (HA.of_own q7_11) (hT.keep b11)).mono ?_
  rintro e w12 ⟨C12, e12, rfl, own12, hb12⟩
  have b12 := step_below hb12 b11
  have B0_12 := B0_11.keep hb12
  have B1_12 := B1_11.keep hb12
  have B2_12 := B2_11.keep hb12
  have Y0_12 := Y0_11.keep hb12
  have v6_12 := own_keep v6_11 hb12
  have q7_12 := own_keep q7_11 hb12
  have t12 := step_below hb12 t11
  have r12_12 := own12
  refine hK.out _ _ ⟨(Y0_12.cell (i := 0) rfl), (Y0_12.cell (i := 1) rfl), (show Dr w12 (w.heap.size + 1) 45 d1 from B1_12).range, (show Dr w12 (w.heap.size + 1 + 1) 45 d2 from B2_12).range⟩ (fun hS12 => ?_)
  clear hK K
  refine wpAnyH_take (i := 6) (v := .tuple #[.slice C12 r0.length e12, .int .i64 r1]) rfl (by kernel_rfl) (by kernel_rfl) (by kernel_rfl) (fun _ _ _ h => h) (Or.inl ⟨by rfl, fun w' _ => by go_simp⟩) hS12 ?_
  change wpAnyH _ _ _ _ _ _ _ (Act.put _ (some 35) _) _
  simp only [Act.put, List.setIfInBounds_toArray, List.set_cons_zero, List.set_cons_succ]
  refine wpAnyH_take (i := 7) (v := .slice C12 r0.length e12) rfl (by kernel_rfl) (by kernel_rfl) (by kernel_rfl) (fun _ _ _ h => h) (Or.inl ⟨by rfl, fun w' _ => by go_simp⟩) hS12 ?_
  change wpAnyH _ _ _ _ _ _ _ (Act.put _ (some 42) _) _
  simp only [Act.put, List.setIfInBounds_toArray, List.set_cons_zero, List.set_cons_succ]
  refine wpAnyH_take (i := 8) (v := .int .i64 r1) rfl (by kernel_rfl) (by kernel_rfl) (by kernel_rfl) (fun _ _ _ h => h) (Or.inl ⟨by rfl, fun w' _ => by go_simp⟩) hS12 ?_
  change wpAnyH _ _ _ _ _ _ _ (Act.put _ (some 43) _) _
  simp only [Act.put, List.setIfInBounds_toArray, List.set_cons_zero, List.set_cons_succ]
  refine wpAnyH_take (i := 9) (v := .slice C12 r0.length e12) rfl (by kernel_rfl) (by kernel_rfl) (by kernel_rfl) (fun _ _ _ h => h) (Or.inl ⟨by rfl, fun w' _ => by go_simp⟩) hS12 ?_
  change wpAnyH _ _ _ _ _ _ _ (Act.put _ (some 11) _) _
  simp only [Act.put, List.setIfInBounds_toArray, List.set_cons_zero, List.set_cons_succ]
  refine wpAnyH_take (i := 10) (v := .int .i64 r1) rfl (by kernel_rfl) (by kernel_rfl) (by kernel_rfl) (fun _ _ _ h => h) (Or.inl ⟨by rfl, fun w' _ => by go_simp⟩) hS12 ?_
  change wpAnyH _ _ _ _ _ _ _ (Act.put _ (some 12) _) _
  simp only [Act.put, List.setIfInBounds_toArray, List.set_cons_zero, List.set_cons_succ]
  refine wpAnyH_done (by kernel_rfl) ?_ _
  go_wp2_with fail
  refine (eqChangeS_self _ _ _ _ r0 _ (CgA.of_own r12_12) (CgA.of_own v6_12) hrl0).mono ?_
  rintro e w13 ⟨rfl, hb13⟩
  have b13 := step_below hb13 b12
  have B0_13 := B0_12.keep hb13
  have B1_13 := B1_12.keep hb13
  have B2_13 := B2_12.keep hb13
  have Y0_13 := Y0_12.keep hb13
  have v6_13 := own_keep v6_12 hb13
  have q7_13 := own_keep q7_12 hb13
  have r12_13 := own_keep r12_12 hb13
  have t13 := step_below hb13 t12
  go_wp2_with fail
  have hb14 : Below w13.heap.size w13 w13.drew := (Below.refl _ _).drew
  have b14 := step_below hb14 b13
  have B0_14 := B0_13.keep hb14
  have B1_14 := B1_13.keep hb14
  have B2_14 := B2_13.keep hb14
  have Y0_14 := Y0_13.keep hb14
  have v6_14 := own_keep v6_13 hb14
  have q7_14 := own_keep q7_13 hb14
  have r12_14 := own_keep r12_13 hb14
  have t14 := step_below hb14 t13
  refine wp_region_held_drew (S := fun w' => w'.cell? ⟨w7.heap.size, 0, none⟩ = some (.int .i16 s0) ∧ w'.cell? ⟨w7.heap.size, 1, none⟩ = some (.slice (some ⟨g7, 0, none⟩) l0.length l0.length) ∧ w'.cell? ⟨w.heap.size, 0, none⟩ = some (.int .i16 s0) ∧ w'.cell? ⟨w.heap.size, 1, none⟩ = some (.slice A0 l0.length c0)) (by kernel_rfl) ⟨(Y0_14.cell (i := 0) rfl), (Y0_14.cell (i := 1) rfl), (B0_14.cell (i := 0) rfl), (B0_14.cell (i := 1) rfl)⟩ fun hS14 => ?_
  refine wpAnyH_take (i := 0) (v := .agg #[.int .i16 s0, .slice (some ⟨g7, 0, none⟩) l0.length l0.length]) rfl (by kernel_rfl) (by kernel_rfl) (by kernel_rfl) (fun _ _ _ h => h) (Or.inl ⟨by rfl, fun w' h => ?_⟩) hS14 ?_
  · have c0 := h.1
    have c1 := h.2.1
    clear h
    go_simp
  simp only [Act.put, List.setIfInBounds_toArray, List.set_cons_zero, List.set_cons_succ]
  refine wpAnyH_take (i := 1) (v := .agg #[.int .i16 s0, .slice A0 l0.length c0]) rfl (by kernel_rfl) (by kernel_rfl) (by kernel_rfl) (fun _ _ _ h => h) (Or.inl ⟨by rfl, fun w' h => ?_⟩) hS14 ?_
  · have c0 := h.2.2.1
    have c1 := h.2.2.2
    clear h
    go_simp
  simp only [Act.put, List.setIfInBounds_toArray, List.set_cons_zero, List.set_cons_succ]
  refine wpAnyH_ready (rs := [2]) (by kernel_rfl) (by simp) (AllReadyH.cons rfl ?_ AllReadyH.nil)
  intro K hK
  rw [if_pos (by rfl)]
  go_simp
  refine (toFrame_any s0 A0 c0 l0 _ (hA0.below b14) hn0).mono ?_
  rintro e w15 ⟨g15, rfl, hg15, own15, hb15⟩
  have b15 := step_below hb15 b14
  have B0_15 := B0_14.keep hb15
  have B1_15 := B1_14.keep hb15
  have B2_15 := B2_14.keep hb15
  have Y0_15 := Y0_14.keep hb15
  have v6_15 := own_keep v6_14 hb15
  have q7_15 := own_keep q7_14 hb15
  have r12_15 := own_keep r12_14 hb15
  have t15 := step_below hb15 t14
  have gl15 : g15 < w15.heap.size := (own15.lt g15 rfl).2
  have q15_15 := own15
  refine hK.out _ _ ⟨(Y0_15.cell (i := 0) rfl), (Y0_15.cell (i := 1) rfl), (B0_15.cell (i := 0) rfl), (B0_15.cell (i := 1) rfl)⟩ (fun hS15 => ?_)
  clear hK K
  refine wpAnyH_ready (rs := [3]) (by kernel_rfl) (by simp) (AllReadyH.cons rfl ?_ AllReadyH.nil)
  intro K hK
  rw [if_pos (by rfl)]
  go_simp
  refine (eqFrame_any s0 _ _ _ _ l0 _ (HA.of_own q7_15) (HA.of_own q15_15) hn0).mono ?_
  rintro e w16 ⟨rfl, hb16⟩
  have b16 := step_below hb16 b15
  have B0_16 := B0_15.keep hb16
  have B1_16 := B1_15.keep hb16
  have B2_16 := B2_15.keep hb16
  have Y0_16 := Y0_15.keep hb16
  have v6_16 := own_keep v6_15 hb16
  have q7_16 := own_keep q7_15 hb16
  have r12_16 := own_keep r12_15 hb16
  have t16 := step_below hb16 t15
  refine hK.out _ _ ⟨(Y0_16.cell (i := 0) rfl), (Y0_16.cell (i := 1) rfl), (B0_16.cell (i := 0) rfl), (B0_16.cell (i := 1) rfl)⟩ (fun hS16 => ?_)
  clear hK K
  refine wpAnyH_take (i := 4) (v := .bool false) rfl (by kernel_rfl) (by kernel_rfl) (by kernel_rfl) (fun _ _ _ h => h) (Or.inl ⟨by rfl, fun w' _ => by go_simp⟩) hS16 ?_
  change wpAnyH _ _ _ _ _ _ _ (Act.put _ (some 57) _) _
  simp only [Act.put, List.setIfInBounds_toArray, List.set_cons_zero, List.set_cons_succ]
  refine wpAnyH_done (by kernel_rfl) ?_ _
  have pf58_0 := Y0_16.cell (i := 0) rfl
  have pf58_1 := Y0_16.cell (i := 1) rfl
  go_wp2_with fail
  clear pf58_0 pf58_1
  refine (markFrame_from s0 _ _ l0 _ (1) _ q7_16 hn0 ⟨by omega, by omega⟩).mono ?_
  rintro e w17 ⟨rfl, mo17, hgr17⟩
  have hbs17 := hgr17.size
  have t17 : Below w6.heap.size w6 w17 := t16.grown hgr17 t16.size (fun j hj => by cases hj; exact Nat.le_trans t6.size hg7)
  have b17 : Below w.heap.size w w17 := b6.trans (t17.mono b6.size)
  have B0_17 := B0_6.keep t17
  have B1_17 := B1_6.keep t17
  have B2_17 := B2_6.keep t17
  have Y0_17 := Y0_16.grown hgr17 (fun e => by have e' : g7 = w7.heap.size := Option.some.inj e; have gg := gl7; have gh := hg7; have h7_ := hb7.size; have h8_ := hb8.size; omega)
  have v6_17 := own_keep v6_6 t17
  have r12_17 := r12_16.kept hgr17 (own_ne2 r12_16 q7_16 (by decide))
  have hneg17 : decide (1 + 2 * (l0.length : Int) < 0) = false := by simp; omega
  go_wp2_with fail
  refine (eqChangeS_self _ _ _ _ r0 _ (CgA.of_own r12_17) (CgA.of_own v6_17) hrl0).mono ?_
  rintro e w18 ⟨rfl, hb18⟩
  have b18 := step_below hb18 b17
  have B0_18 := B0_17.keep hb18
  have B1_18 := B1_17.keep hb18
  have B2_18 := B2_17.keep hb18
  have Y0_18 := Y0_17.keep hb18
  have v6_18 := own_keep v6_17 hb18
  have r12_18 := own_keep r12_17 hb18
  have t18 := step_below hb18 t17
  go_wp2_with fail
  refine (markChangeS_from _ _ r0 _ (1) _ r12_18 hrl0 ⟨by omega, by omega⟩).mono ?_
  rintro e w19 ⟨rfl, mo19, hgr19⟩
  have hbs19 := hgr19.size
  have t19 : Below w6.heap.size w6 w19 := t18.grown hgr19 t18.size (fun j hj => Nat.le_trans t11.size ((r12_18).lt j hj).1)
  have b19 : Below w.heap.size w w19 := b6.trans (t19.mono b6.size)
  have B0_19 := B0_6.keep t19
  have B1_19 := B1_6.keep t19
  have B2_19 := B2_6.keep t19
  have v6_19 := own_keep v6_6 t19
  have k19_19 := mo19
  have hneg19 : decide (1 + 3 * (r0.length : Int) < 0) = false := by simp; omega
  have hneq19 : ((1 + 3 * (r0.length : Int)) != (1 + 3 * (r0.length : Int))) = false := by simp
  go_wp2_with fail
  refine (heldChangeS_from _ _ r0.length (1) _ (mkCg_of_own k19_19) hrl0 ⟨by omega, by omega⟩).mono ?_
  rintro e w20' ⟨rfl, rfl⟩
  go_wp2_with fail
  have hb20 : Below w19.heap.size w19 w19.drew := (Below.refl _ _).drew
  have b20 := step_below hb20 b19
  have B0_20 := B0_19.keep hb20
  have B1_20 := B1_19.keep hb20
  have B2_20 := B2_19.keep hb20
  have v6_20 := own_keep v6_19 hb20
  have k19_20 := own_keep k19_19 hb20
  have t20 := step_below hb20 t19
  refine wp_region_held_drew (S := fun w' => w'.cell? ⟨w.heap.size, 0, none⟩ = some (.int .i16 s0) ∧ w'.cell? ⟨w.heap.size, 1, none⟩ = some (.slice A0 l0.length c0) ∧ w'.rangeAt (w.heap.size + 1) 0 (dv d1) ∧ w'.rangeAt (w.heap.size + 1 + 1) 0 (dv d2)) (by kernel_rfl) ⟨(B0_20.cell (i := 0) rfl), (B0_20.cell (i := 1) rfl), (show Dr w19.drew (w.heap.size + 1) 45 d1 from B1_20).range, (show Dr w19.drew (w.heap.size + 1 + 1) 45 d2 from B2_20).range⟩ fun hS20 => ?_
  refine wpAnyH_take (i := 0) (v := .agg #[.int .i16 s0, .slice A0 l0.length c0]) rfl (by kernel_rfl) (by kernel_rfl) (by kernel_rfl) (fun _ _ _ h => h) (Or.inl ⟨by rfl, fun w' h => ?_⟩) hS20 ?_
  · have c0 := h.1
    have c1 := h.2.1
    clear h
    go_simp
  simp only [Act.put, List.setIfInBounds_toArray, List.set_cons_zero, List.set_cons_succ]
  refine wpAnyH_take (i := 2) rfl (by kernel_rfl) (by kernel_rfl) (by kernel_rfl) (fun _ _ _ h => h) (yieldsIf_load_mid (by rfl) _ _ rfl (w.heap.size + 1) 0 rfl (dv d1) _ (fun _ h => h.2.2.1) Tryd.underlying45 rfl (infoLt d1)) hS20 ?_
  simp only [Act.put, List.setIfInBounds_toArray, List.set_cons_zero, List.set_cons_succ]
  refine wpAnyH_take (i := 4) rfl (by kernel_rfl) (by kernel_rfl) (by kernel_rfl) (fun _ _ _ h => h) (yieldsIf_load_mid (by rfl) _ _ rfl (w.heap.size + 1 + 1) 0 rfl (dv d2) _ (fun _ h => h.2.2.2) Tryd.underlying45 rfl (infoLt d2)) hS20 ?_
  simp only [Act.put, List.setIfInBounds_toArray, List.set_cons_zero, List.set_cons_succ]
  refine wpAnyH_ready (rs := [1]) (by kernel_rfl) (by simp) (AllReadyH.cons rfl ?_ AllReadyH.nil)
  intro K hK
  rw [if_pos (by rfl)]
  go_simp
  refine (toFrame_any s0 A0 c0 l0 _ (hA0.below b20) hn0).mono ?_
  rintro e w21 ⟨g21, rfl, hg21, own21, hb21⟩
  have b21 := step_below hb21 b20
  have B0_21 := B0_20.keep hb21
  have B1_21 := B1_20.keep hb21
  have B2_21 := B2_20.keep hb21
  have v6_21 := own_keep v6_20 hb21
  have k19_21 := own_keep k19_20 hb21
  have t21 := step_below hb21 t20
  have gl21 : g21 < w21.heap.size := (own21.lt g21 rfl).2
  have q21_21 := own21
  refine hK.out _ _ ⟨(B0_21.cell (i := 0) rfl), (B0_21.cell (i := 1) rfl), (show Dr w21 (w.heap.size + 1) 45 d1 from B1_21).range, (show Dr w21 (w.heap.size + 1 + 1) 45 d2 from B2_21).range⟩ (fun hS21 => ?_)
  clear hK K
  refine wpAnyH_ready (rs := [3]) (by kernel_rfl) (by simp) (AllReadyH.cons rfl ?_ AllReadyH.nil)
  intro K hK
  rw [if_pos (by rfl)]
  go_simp
  refine (toDrum_any d1 _).mono ?_
  rintro e w22 ⟨rfl, hb22⟩
  have b22 := step_below hb22 b21
  have B0_22 := B0_21.keep hb22
  have B1_22 := B1_21.keep hb22
  have B2_22 := B2_21.keep hb22
  have v6_22 := own_keep v6_21 hb22
  have k19_22 := own_keep k19_21 hb22
  have q21_22 := own_keep q21_21 hb22
  have t22 := step_below hb22 t21
  refine hK.out _ _ ⟨(B0_22.cell (i := 0) rfl), (B0_22.cell (i := 1) rfl), (show Dr w22 (w.heap.size + 1) 45 d1 from B1_22).range, (show Dr w22 (w.heap.size + 1 + 1) 45 d2 from B2_22).range⟩ (fun hS22 => ?_)
  clear hK K
  refine wpAnyH_ready (rs := [5]) (by kernel_rfl) (by simp) (AllReadyH.cons rfl ?_ AllReadyH.nil)
  intro K hK
  rw [if_pos (by rfl)]
  go_simp
  refine (toDrum_any d2 _).mono ?_
  rintro e w23 ⟨rfl, hb23⟩
  have b23 := step_below hb23 b22
  have B0_23 := B0_22.keep hb23
  have B1_23 := B1_22.keep hb23
  have B2_23 := B2_22.keep hb23
  have v6_23 := own_keep v6_22 hb23
  have k19_23 := own_keep k19_22 hb23
  have q21_23 := own_keep q21_22 hb23
  have t23 := step_below hb23 t22
  refine hK.out _ _ ⟨(B0_23.cell (i := 0) rfl), (B0_23.cell (i := 1) rfl), (show Dr w23 (w.heap.size + 1) 45 d1 from B1_23).range, (show Dr w23 (w.heap.size + 1 + 1) 45 d2 from B2_23).range⟩ (fun hS23 => ?_)
  clear hK K
  refine wpAnyH_ready (rs := [6]) (by kernel_rfl) (by simp) (AllReadyH.cons rfl ?_ AllReadyH.nil)
  intro K hK
  rw [if_pos (by rfl)]
  go_simp
  refine (KI _ _ (HA.of_own q21_23) (hT.keep b23)).mono ?_
  rintro e w24 ⟨C24, e24, rfl, own24, hb24⟩
  have b24 := step_below hb24 b23
  have B0_24 := B0_23.keep hb24
  have B1_24 := B1_23.keep hb24
  have B2_24 := B2_23.keep hb24
  have v6_24 := own_keep v6_23 hb24
  have k19_24 := own_keep k19_23 hb24
  have q21_24 := own_keep q21_23 hb24
  have t24 := step_below hb24 t23
  have r24_24 := own24
  refine hK.out _ _ ⟨(B0_24.cell (i := 0) rfl), (B0_24.cell (i := 1) rfl), (show Dr w24 (w.heap.size + 1) 45 d1 from B1_24).range, (show Dr w24 (w.heap.size + 1 + 1) 45 d2 from B2_24).range⟩ (fun hS24 => ?_)
  clear hK K
  refine wpAnyH_take (i := 7) (v := .tuple #[.slice C24 r0.length e24, .int .i64 r1]) rfl (by kernel_rfl) (by kernel_rfl) (by kernel_rfl) (fun _ _ _ h => h) (Or.inl ⟨by rfl, fun w' _ => by go_simp⟩) hS24 ?_
  change wpAnyH _ _ _ _ _ _ _ (Act.put _ (some 85) _) _
  simp only [Act.put, List.setIfInBounds_toArray, List.set_cons_zero, List.set_cons_succ]
  refine wpAnyH_take (i := 8) (v := .slice C24 r0.length e24) rfl (by kernel_rfl) (by kernel_rfl) (by kernel_rfl) (fun _ _ _ h => h) (Or.inl ⟨by rfl, fun w' _ => by go_simp⟩) hS24 ?_
  change wpAnyH _ _ _ _ _ _ _ (Act.put _ (some 93) _) _
  simp only [Act.put, List.setIfInBounds_toArray, List.set_cons_zero, List.set_cons_succ]
  refine wpAnyH_take (i := 9) (v := .int .i64 r1) rfl (by kernel_rfl) (by kernel_rfl) (by kernel_rfl) (fun _ _ _ h => h) (Or.inl ⟨by rfl, fun w' _ => by go_simp⟩) hS24 ?_
  change wpAnyH _ _ _ _ _ _ _ (Act.put _ (some 94) _) _
  simp only [Act.put, List.setIfInBounds_toArray, List.set_cons_zero, List.set_cons_succ]
  refine wpAnyH_take (i := 10) (v := .slice C24 r0.length e24) rfl (by kernel_rfl) (by kernel_rfl) (by kernel_rfl) (fun _ _ _ h => h) (Or.inl ⟨by rfl, fun w' _ => by go_simp⟩) hS24 ?_
  change wpAnyH _ _ _ _ _ _ _ (Act.put _ (some 16) _) _
  simp only [Act.put, List.setIfInBounds_toArray, List.set_cons_zero, List.set_cons_succ]
  refine wpAnyH_take (i := 11) (v := .int .i64 r1) rfl (by kernel_rfl) (by kernel_rfl) (by kernel_rfl) (fun _ _ _ h => h) (Or.inl ⟨by rfl, fun w' _ => by go_simp⟩) hS24 ?_
  change wpAnyH _ _ _ _ _ _ _ (Act.put _ (some 17) _) _
  simp only [Act.put, List.setIfInBounds_toArray, List.set_cons_zero, List.set_cons_succ]
  refine wpAnyH_done (by kernel_rfl) ?_ _
  go_wp2_with fail
  refine (eqChangeS_self _ _ _ _ r0 _ (CgA.of_own r24_24) (CgA.of_own v6_24) hrl0).mono ?_
  rintro e w25 ⟨rfl, hb25⟩
  have b25 := step_below hb25 b24
  have B0_25 := B0_24.keep hb25
  have B1_25 := B1_24.keep hb25
  have B2_25 := B2_24.keep hb25
  have v6_25 := own_keep v6_24 hb25
  have k19_25 := own_keep k19_24 hb25
  have q21_25 := own_keep q21_24 hb25
  have t25 := step_below hb25 t24
  go_wp2_with fail
  refine (heldChangeS_from _ _ r0.length (1) _ (mkCg_of_own k19_25) hrl0 ⟨by omega, by omega⟩).mono ?_
  rintro e w26' ⟨rfl, rfl⟩
  go_wp2
  go_ret
  exact ⟨rfl, b25⟩
theorem lawChangesBetween_any (s0 : Int) (A0 : Option Addr) (c0 : Nat) (l0 : List (Int × Int)) (d1 : Nat → Int) (d2 : Nat → Int) (w : World) (hA0 : HA w A0 l0) (hwf0 : HWF l0) (hs0 : -32768 ≤ s0 ∧ s0 ≤ 32767) (hd1 : DWF d1) (hd2 : DWF d2) (hT : TabW w) (hm0 : l0.length ≤ maxLen)  :
    Calls Tryd.prog 4 #[.agg #[.int .i16 s0, .slice A0 l0.length c0], .agg (da d1), .agg (da d2)] w (Says true w) := by
  rcases Nat.lt_or_ge 1048576 (l0.length) with h0 | h0
  · exact lawChangesBetween_big0 s0 A0 c0 l0 d1 d2 w  h0 hm0
  exact lawChangesBetween_small s0 A0 c0 l0 d1 d2 w hA0 hwf0 hs0 hd1 hd2 hT h0 hm0 
end Go.Proofs.YtcepjiglhlmgdaaDoor
