import Derived.Test.YtghkcfghkbihcaaDoorGag
import Derived.Test.YtghkcfghkbihcaaDoorMkf
import Derived.Test.YtghkcfghkbihcaaDoorMkn
import Derived.Test.YtghkcfghkbihcaaDoorGax
import Derived.Test.YtghkcfghkbihcaaDoorTof
import Derived.Deep.RegionHeld3
import Derived.Deep.CutRange
namespace Go.Proofs.YtghkcfghkbihcaaDoor
open Go.RowKit

set_option maxRecDepth 20000 in
set_option maxHeartbeats 1000000 in
theorem lawTuneOf_big0 (s0 : Int) (A0 : Option Addr) (c0 : Nat) (l0 : List (Int × Int)) (d1 : Nat → Int) (w : World)  (hbg : 1048576 < l0.length) (hm0 : l0.length ≤ maxLen) :
    Calls Tryd.prog 3 #[.agg #[.int .i16 s0, .slice A0 l0.length c0], .agg (da d1)] w (Says true w) := by
  obtain ⟨X0, hX0⟩ : ∃ X, X = ((w.alloc (.cells #[.int .i16 s0, .slice A0 l0.length c0] 25)).alloc (.cells (da d1) 27)) := ⟨_, rfl⟩
  have b0 : Below w.heap.size w X0 := by rw [hX0]; exact (((Below.refl _ _).alloc (Nat.le_refl _) _).alloc (by simp) _)
  have B0_0 : Bk X0 (w.heap.size) 25 #[.int .i16 s0, .slice A0 l0.length c0] := by rw [hX0]; exact Bk.new _ _ _ rfl |>.old _
  have bw0 : w.heap.size < X0.heap.size := B0_0.lt
  have B1_0 : Bk X0 (w.heap.size + 1) 27 (da d1) := by rw [hX0]; exact Bk.new _ _ _ (by simp)
  have bw1 : w.heap.size + 1 < X0.heap.size := B1_0.lt
  go_enter Tryd.func3, Tryd.ntmps3
  go_upto_region 1 with fail
  rw [← hX0]
  clear hX0
  have pf16_0 := B0_0.cell (i := 0) rfl
  have pf16_1 := B0_0.cell (i := 1) rfl
  go_wp2_with fail
  clear pf16_0 pf16_1
  refine (szFrame_at_big s0 A0 l0.length c0 (1048576) (by omega) (by omega) hm0 (by omega) _).mono ?_
  rintro e w1 ⟨rfl, hb1⟩
  have b1 := step_below hb1 b0
  go_wp2
  go_ret
  exact ⟨rfl, b1⟩
set_option maxRecDepth 20000 in
set_option maxHeartbeats 16000000 in
theorem lawTuneOf_small (s0 : Int) (A0 : Option Addr) (c0 : Nat) (l0 : List (Int × Int)) (d1 : Nat → Int) (w : World) (hA0 : HA w A0 l0) (hwf0 : HWF l0) (hs0 : -32768 ≤ s0 ∧ s0 ≤ 32767) (hd1 : DWF d1) (hT : TabW w) (hc0 : l0.length ≤ 1048576) (hm0 : l0.length ≤ maxLen) :
    Calls Tryd.prog 3 #[.agg #[.int .i16 s0, .slice A0 l0.length c0], .agg (da d1)] w (Says true w) := by
  have hn0 : l0.length ≤ 1048576 := by omega
  obtain ⟨r0, hr0⟩ : ∃ r : List (Int × Int), r = toV s0 l0 d1 := ⟨_, rfl⟩
  obtain ⟨r1, hr1⟩ : ∃ r : Int, r = toC s0 l0 d1 := ⟨_, rfl⟩
  have hrl0 : r0.length ≤ 1048576 := by rw [hr0]; exact toV_len _ _ _
  have KS : ∀ (E0 : Option Addr) (W : World), HA W E0 l0 → TabW W → Calls Tryd.prog 7 #[.agg #[.int .i16 s0, .slice E0 l0.length l0.length], .agg (da d1)] W (fun e w' => ∃ (C : Option Addr) (q : Nat), e = .returned (.tuple #[.slice C r0.length q, .int .i64 r1]) ∧ w'.ownsRow W.heap.size 71 2 (.slice C r0.length q) r0.length (cellsOf r0) ∧ Below W.heap.size W w') := fun E0 W h0 hT' => by rw [hr0, hr1]; exact specTuneOf_any s0 E0 l0.length l0 d1 W h0 hn0 hwf0 hs0 hd1
  have KI : ∀ (E0 : Option Addr) (W : World), HA W E0 l0 → TabW W → Calls Tryd.prog 10 #[.agg #[.int .i16 s0, .slice E0 l0.length l0.length], .agg (da d1)] W (fun e w' => ∃ (C : Option Addr) (q : Nat), e = .returned (.tuple #[.slice C r0.length q, .int .i64 r1]) ∧ w'.ownsRow W.heap.size 71 2 (.slice C r0.length q) r0.length (cellsOf r0) ∧ Below W.heap.size W w') := fun E0 W h0 hT' => by rw [hr0, hr1]; exact implTuneOf_any s0 E0 l0.length l0 d1 W h0 hn0 hwf0 hs0 hd1 hT'
  clear hr0 hr1
  obtain ⟨X0, hX0⟩ : ∃ X, X = ((w.alloc (.cells #[.int .i16 s0, .slice A0 l0.length c0] 25)).alloc (.cells (da d1) 27)) := ⟨_, rfl⟩
  have b0 : Below w.heap.size w X0 := by rw [hX0]; exact (((Below.refl _ _).alloc (Nat.le_refl _) _).alloc (by simp) _)
  have B0_0 : Bk X0 (w.heap.size) 25 #[.int .i16 s0, .slice A0 l0.length c0] := by rw [hX0]; exact Bk.new _ _ _ rfl |>.old _
  have bw0 : w.heap.size < X0.heap.size := B0_0.lt
  have B1_0 : Bk X0 (w.heap.size + 1) 27 (da d1) := by rw [hX0]; exact Bk.new _ _ _ (by simp)
  have bw1 : w.heap.size + 1 < X0.heap.size := B1_0.lt
  go_enter Tryd.func3, Tryd.ntmps3
  go_upto_region 1 with fail
  rw [← hX0]
  clear hX0
  have pf16_0 := B0_0.cell (i := 0) rfl
  have pf16_1 := B0_0.cell (i := 1) rfl
  go_wp2_with fail
  clear pf16_0 pf16_1
  refine (szFrame_at_small s0 A0 l0.length c0 (1048576) (by omega) (by omega) hm0 (by omega) _).mono ?_
  rintro e w1 ⟨rfl, hb1⟩
  have b1 := step_below hb1 b0
  have B0_1 := B0_0.keep hb1
  have B1_1 := B1_0.keep hb1
  go_wp2_with fail
  have hb2 : Below w1.heap.size w1 w1.drew := (Below.refl _ _).drew
  have b2 := step_below hb2 b1
  have B0_2 := B0_1.keep hb2
  have B1_2 := B1_1.keep hb2
  refine wp_region_held_drew (S := fun w' => w'.cell? ⟨w.heap.size, 0, none⟩ = some (.int .i16 s0) ∧ w'.cell? ⟨w.heap.size, 1, none⟩ = some (.slice A0 l0.length c0) ∧ w'.rangeAt (w.heap.size + 1) 0 (dv d1)) (by kernel_rfl) ⟨(B0_2.cell (i := 0) rfl), (B0_2.cell (i := 1) rfl), (show Dr w1.drew (w.heap.size + 1) 27 d1 from B1_2).range⟩ fun hS2 => ?_
  refine wpAnyH_take (i := 0) (v := .agg #[.int .i16 s0, .slice A0 l0.length c0]) rfl (by kernel_rfl) (by kernel_rfl) (by kernel_rfl) (fun _ _ _ h => h) (Or.inl ⟨by rfl, fun w' h => ?_⟩) hS2 ?_
  · have c0 := h.1
    have c1 := h.2.1
    clear h
    go_simp
  simp only [Act.put, List.setIfInBounds_toArray, List.set_cons_zero, List.set_cons_succ]
  refine wpAnyH_take (i := 2) rfl (by kernel_rfl) (by kernel_rfl) (by kernel_rfl) (fun _ _ _ h => h) (yieldsIf_load_mid (by rfl) _ _ rfl (w.heap.size + 1) 0 rfl (dv d1) _ (fun _ h => h.2.2) Tryd.underlying27 rfl (infoLt d1)) hS2 ?_
  simp only [Act.put, List.setIfInBounds_toArray, List.set_cons_zero, List.set_cons_succ]
  refine wpAnyH_ready (rs := [1]) (by kernel_rfl) (by simp) (AllReadyH.cons rfl ?_ AllReadyH.nil)
  intro K hK
  rw [if_pos (by rfl)]
  go_simp
  refine (toFrame_any s0 A0 c0 l0 _ (hA0.below b2) hn0).mono ?_
  rintro e w3 ⟨g3, rfl, hg3, own3, hb3⟩
  have b3 := step_below hb3 b2
  have B0_3 := B0_2.keep hb3
  have B1_3 := B1_2.keep hb3
  have gl3 : g3 < w3.heap.size := (own3.lt g3 rfl).2
  have q3_3 := own3
  refine hK.out _ _ ⟨(B0_3.cell (i := 0) rfl), (B0_3.cell (i := 1) rfl), (show Dr w3 (w.heap.size + 1) 27 d1 from B1_3).range⟩ (fun hS3 => ?_)
  clear hK K
  refine wpAnyH_ready (rs := [3]) (by kernel_rfl) (by simp) (AllReadyH.cons rfl ?_ AllReadyH.nil)
  intro K hK
  rw [if_pos (by rfl)]
  go_simp
  refine (toDrum_any d1 _).mono ?_
  rintro e w4 ⟨rfl, hb4⟩
  have b4 := step_below hb4 b3
  have B0_4 := B0_3.keep hb4
  have B1_4 := B1_3.keep hb4
  have q3_4 := own_keep q3_3 hb4
  refine hK.out _ _ ⟨(B0_4.cell (i := 0) rfl), (B0_4.cell (i := 1) rfl), (show Dr w4 (w.heap.size + 1) 27 d1 from B1_4).range⟩ (fun hS4 => ?_)
  clear hK K
  refine wpAnyH_ready (rs := [4]) (by kernel_rfl) (by simp) (AllReadyH.cons rfl ?_ AllReadyH.nil)
  intro K hK
  rw [if_pos (by rfl)]
  go_simp
  refine (KS _ _ (HA.of_own q3_4) (hT.keep b4)).mono ?_
  rintro e w5 ⟨C5, e5, rfl, own5, hb5⟩
  have b5 := step_below hb5 b4
  have B0_5 := B0_4.keep hb5
  have B1_5 := B1_4.keep hb5
  have v5_5 := own5
  have t5 : Below w5.heap.size w5 w5 := Below.refl _ _
  refine hK.out _ _ ⟨(B0_5.cell (i := 0) rfl), (B0_5.cell (i := 1) rfl), (show Dr w5 (w.heap.size + 1) 27 d1 from B1_5).range⟩ (fun hS5 => ?_)
  clear hK K
  refine wpAnyH_take (i := 5) (v := .tuple #[.slice C5 r0.length e5, .int .i64 r1]) rfl (by kernel_rfl) (by kernel_rfl) (by kernel_rfl) (fun _ _ _ h => h) (Or.inl ⟨by rfl, fun w' _ => by go_simp⟩) hS5 ?_
  change wpAnyH _ _ _ _ _ _ _ (Act.put _ (some 21) _) _
  simp only [Act.put, List.setIfInBounds_toArray, List.set_cons_zero, List.set_cons_succ]
  refine wpAnyH_take (i := 6) (v := .slice C5 r0.length e5) rfl (by kernel_rfl) (by kernel_rfl) (by kernel_rfl) (fun _ _ _ h => h) (Or.inl ⟨by rfl, fun w' _ => by go_simp⟩) hS5 ?_
  change wpAnyH _ _ _ _ _ _ _ (Act.put _ (some 27) _) _
  simp only [Act.put, List.setIfInBounds_toArray, List.set_cons_zero, List.set_cons_succ]
  refine wpAnyH_take (i := 7) (v := .int .i64 r1) rfl (by kernel_rfl) (by kernel_rfl) (by kernel_rfl) (fun _ _ _ h => h) (Or.inl ⟨by rfl, fun w' _ => by go_simp⟩) hS5 ?_
  change wpAnyH _ _ _ _ _ _ _ (Act.put _ (some 28) _) _
  simp only [Act.put, List.setIfInBounds_toArray, List.set_cons_zero, List.set_cons_succ]
  refine wpAnyH_take (i := 8) (v := .slice C5 r0.length e5) rfl (by kernel_rfl) (by kernel_rfl) (by kernel_rfl) (fun _ _ _ h => h) (Or.inl ⟨by rfl, fun w' _ => by go_simp⟩) hS5 ?_
  change wpAnyH _ _ _ _ _ _ _ (Act.put _ (some 6) _) _
  simp only [Act.put, List.setIfInBounds_toArray, List.set_cons_zero, List.set_cons_succ]
  refine wpAnyH_take (i := 9) (v := .int .i64 r1) rfl (by kernel_rfl) (by kernel_rfl) (by kernel_rfl) (fun _ _ _ h => h) (Or.inl ⟨by rfl, fun w' _ => by go_simp⟩) hS5 ?_
  change wpAnyH _ _ _ _ _ _ _ (Act.put _ (some 7) _) _
  simp only [Act.put, List.setIfInBounds_toArray, List.set_cons_zero, List.set_cons_succ]
  refine wpAnyH_done (by kernel_rfl) ?_ _
  have pf29_0 := B0_5.cell (i := 0) rfl
  have pf29_1 := B0_5.cell (i := 1) rfl
  go_wp2_with fail
  clear pf29_0 pf29_1
  refine (toFrame_any s0 A0 c0 l0 _ (hA0.below b5) hn0).mono ?_
  rintro e w6 ⟨g6, rfl, hg6, own6, hb6⟩
  have b6 := step_below hb6 b5
  have B0_6 := B0_5.keep hb6
  have B1_6 := B1_5.keep hb6
  have v5_6 := own_keep v5_5 hb6
  have t6 := step_below hb6 t5
  have gl6 : g6 < w6.heap.size := (own6.lt g6 rfl).2
  have q6_6 := own6
  go_upto_region 7 with fail
  obtain ⟨w7, hX7⟩ : ∃ X, X = w6.alloc (.cells #[.int .i16 s0, .slice (some ⟨g6, 0, none⟩) l0.length l0.length] 35) := ⟨_, rfl⟩
  have hb7 : Below w6.heap.size w6 w7 := by rw [hX7]; exact (Below.refl _ _).alloc (Nat.le_refl _) _
  have K7 : Bk w7 w6.heap.size 35 #[.int .i16 s0, .slice (some ⟨g6, 0, none⟩) l0.length l0.length] := by rw [hX7]; exact Bk.new _ _ _ rfl
  rw [← hX7]
  clear hX7
  have b7 := step_below hb7 b6
  have B0_7 := B0_6.keep hb7
  have B1_7 := B1_6.keep hb7
  have v5_7 := own_keep v5_6 hb7
  have q6_7 := own_keep q6_6 hb7
  have t7 := step_below hb7 t6
  have Y0_7 := K7
  have yw0 : w6.heap.size < w7.heap.size := K7.lt
  go_wp2_with fail
  have hb8 : Below w7.heap.size w7 w7.drew := (Below.refl _ _).drew
  have b8 := step_below hb8 b7
  have B0_8 := B0_7.keep hb8
  have B1_8 := B1_7.keep hb8
  have Y0_8 := Y0_7.keep hb8
  have v5_8 := own_keep v5_7 hb8
  have q6_8 := own_keep q6_7 hb8
  have t8 := step_below hb8 t7
  refine wp_region_held_drew (S := fun w' => w'.cell? ⟨w6.heap.size, 0, none⟩ = some (.int .i16 s0) ∧ w'.cell? ⟨w6.heap.size, 1, none⟩ = some (.slice (some ⟨g6, 0, none⟩) l0.length l0.length) ∧ w'.rangeAt (w.heap.size + 1) 0 (dv d1)) (by kernel_rfl) ⟨(Y0_8.cell (i := 0) rfl), (Y0_8.cell (i := 1) rfl), (show Dr w7.drew (w.heap.size + 1) 27 d1 from B1_8).range⟩ fun hS8 => ?_
  refine wpAnyH_take (i := 0) (v := .agg #[.int .i16 s0, .slice (some ⟨g6, 0, none⟩) l0.length l0.length]) rfl (by kernel_rfl) (by kernel_rfl) (by kernel_rfl) (fun _ _ _ h => h) (Or.inl ⟨by rfl, fun w' h => ?_⟩) hS8 ?_
  · have c0 := h.1
    have c1 := h.2.1
    clear h
    go_simp
  simp only [Act.put, List.setIfInBounds_toArray, List.set_cons_zero, List.set_cons_succ]
  refine wpAnyH_take (i := 1) rfl (by kernel_rfl) (by kernel_rfl) (by kernel_rfl) (fun _ _ _ h => h) (yieldsIf_load_mid (by rfl) _ _ rfl (w.heap.size + 1) 0 rfl (dv d1) _ (fun _ h => h.2.2) Tryd.underlying27 rfl (infoLt d1)) hS8 ?_
  simp only [Act.put, List.setIfInBounds_toArray, List.set_cons_zero, List.set_cons_succ]
  refine wpAnyH_ready (rs := [2]) (by kernel_rfl) (by simp) (AllReadyH.cons rfl ?_ AllReadyH.nil)
  intro K hK
  rw [if_pos (by rfl)]
  go_simp
  refine (toDrum_any d1 _).mono ?_
  rintro e w9 ⟨rfl, hb9⟩
  have b9 := step_below hb9 b8
  have B0_9 := B0_8.keep hb9
  have B1_9 := B1_8.keep hb9
  have Y0_9 := Y0_8.keep hb9
  have v5_9 := own_keep v5_8 hb9
  have q6_9 := own_keep q6_8 hb9
  have t9 := step_below hb9 t8
  refine hK.out _ _ ⟨(Y0_9.cell (i := 0) rfl), (Y0_9.cell (i := 1) rfl), (show Dr w9 (w.heap.size + 1) 27 d1 from B1_9).range⟩ (fun hS9 => ?_)
  clear hK K
  refine wpAnyH_ready (rs := [3]) (by kernel_rfl) (by simp) (AllReadyH.cons rfl ?_ AllReadyH.nil)
  intro K hK
  rw [if_pos (by rfl)]
  go_simp
  refine (KI _ _ (HA.of_own q6_9) (hT.keep b9)).mono ?_
  rintro e w10 ⟨C10, e10, rfl, own10, hb10⟩
  have b10 := step_below hb10 b9
  have B0_10 := B0_9.keep hb10
  have B1_10 := B1_9.keep hb10
  have Y0_10 := Y0_9.keep hb10
  have v5_10 := own_keep v5_9 hb10
  have q6_10 := own_keep q6_9 hb10
  have t10 := step_below hb10 t9
  have r10_10 := own10
  refine hK.out _ _ ⟨(Y0_10.cell (i := 0) rfl), (Y0_10.cell (i := 1) rfl), (show Dr w10 (w.heap.size + 1) 27 d1 from B1_10).range⟩ (fun hS10 => ?_)
  clear hK K
  refine wpAnyH_take (i := 4) (v := .tuple #[.slice C10 r0.length e10, .int .i64 r1]) rfl (by kernel_rfl) (by kernel_rfl) (by kernel_rfl) (fun _ _ _ h => h) (Or.inl ⟨by rfl, fun w' _ => by go_simp⟩) hS10 ?_
  change wpAnyH _ _ _ _ _ _ _ (Act.put _ (some 31) _) _
  simp only [Act.put, List.setIfInBounds_toArray, List.set_cons_zero, List.set_cons_succ]
  refine wpAnyH_take (i := 5) (v := .slice C10 r0.length e10) rfl (by kernel_rfl) (by kernel_rfl) (by kernel_rfl) (fun _ _ _ h => h) (Or.inl ⟨by rfl, fun w' _ => by go_simp⟩) hS10 ?_
  change wpAnyH _ _ _ _ _ _ _ (Act.put _ (some 36) _) _
  simp only [Act.put, List.setIfInBounds_toArray, List.set_cons_zero, List.set_cons_succ]
  refine wpAnyH_take (i := 6) (v := .int .i64 r1) rfl (by kernel_rfl) (by kernel_rfl) (by kernel_rfl) (fun _ _ _ h => h) (Or.inl ⟨by rfl, fun w' _ => by go_simp⟩) hS10 ?_
  change wpAnyH _ _ _ _ _ _ _ (Act.put _ (some 37) _) _
  simp only [Act.put, List.setIfInBounds_toArray, List.set_cons_zero, List.set_cons_succ]
  refine wpAnyH_take (i := 7) (v := .slice C10 r0.length e10) rfl (by kernel_rfl) (by kernel_rfl) (by kernel_rfl) (fun _ _ _ h => h) (Or.inl ⟨by rfl, fun w' _ => by go_simp⟩) hS10 ?_
  change wpAnyH _ _ _ _ _ _ _ (Act.put _ (some 9) _) _
  simp only [Act.put, List.setIfInBounds_toArray, List.set_cons_zero, List.set_cons_succ]
  refine wpAnyH_take (i := 8) (v := .int .i64 r1) rfl (by kernel_rfl) (by kernel_rfl) (by kernel_rfl) (fun _ _ _ h => h) (Or.inl ⟨by rfl, fun w' _ => by go_simp⟩) hS10 ?_
  change wpAnyH _ _ _ _ _ _ _ (Act.put _ (some 10) _) _
  simp only [Act.put, List.setIfInBounds_toArray, List.set_cons_zero, List.set_cons_succ]
  refine wpAnyH_done (by kernel_rfl) ?_ _
  go_wp2_with fail
  refine (eqTune_self _ _ _ _ r0 _ (NA.of_own r10_10) (NA.of_own v5_10) hrl0).mono ?_
  rintro e w11 ⟨rfl, hb11⟩
  have b11 := step_below hb11 b10
  have B0_11 := B0_10.keep hb11
  have B1_11 := B1_10.keep hb11
  have Y0_11 := Y0_10.keep hb11
  have v5_11 := own_keep v5_10 hb11
  have q6_11 := own_keep q6_10 hb11
  have r10_11 := own_keep r10_10 hb11
  have t11 := step_below hb11 t10
  go_wp2_with fail
  have hb12 : Below w11.heap.size w11 w11.drew := (Below.refl _ _).drew
  have b12 := step_below hb12 b11
  have B0_12 := B0_11.keep hb12
  have B1_12 := B1_11.keep hb12
  have Y0_12 := Y0_11.keep hb12
  have v5_12 := own_keep v5_11 hb12
  have q6_12 := own_keep q6_11 hb12
  have r10_12 := own_keep r10_11 hb12
  have t12 := step_below hb12 t11
  refine wp_region_held_drew (S := fun w' => w'.cell? ⟨w6.heap.size, 0, none⟩ = some (.int .i16 s0) ∧ w'.cell? ⟨w6.heap.size, 1, none⟩ = some (.slice (some ⟨g6, 0, none⟩) l0.length l0.length) ∧ w'.cell? ⟨w.heap.size, 0, none⟩ = some (.int .i16 s0) ∧ w'.cell? ⟨w.heap.size, 1, none⟩ = some (.slice A0 l0.length c0)) (by kernel_rfl) ⟨(Y0_12.cell (i := 0) rfl), (Y0_12.cell (i := 1) rfl), (B0_12.cell (i := 0) rfl), (B0_12.cell (i := 1) rfl)⟩ fun hS12 => ?_
  refine wpAnyH_take (i := 0) (v := .agg #[.int .i16 s0, .slice (some ⟨g6, 0, none⟩) l0.length l0.length]) rfl (by kernel_rfl) (by kernel_rfl) (by kernel_rfl) (fun _ _ _ h => h) (Or.inl ⟨by rfl, fun w' h => ?_⟩) hS12 ?_
  · have c0 := h.1
    have c1 := h.2.1
    clear h
    go_simp
  simp only [Act.put, List.setIfInBounds_toArray, List.set_cons_zero, List.set_cons_succ]
  refine wpAnyH_take (i := 1) (v := .agg #[.int .i16 s0, .slice A0 l0.length c0]) rfl (by kernel_rfl) (by kernel_rfl) (by kernel_rfl) (fun _ _ _ h => h) (Or.inl ⟨by rfl, fun w' h => ?_⟩) hS12 ?_
  · have c0 := h.2.2.1
    have c1 := h.2.2.2
    clear h
    go_simp
  simp only [Act.put, List.setIfInBounds_toArray, List.set_cons_zero, List.set_cons_succ]
  refine wpAnyH_ready (rs := [2]) (by kernel_rfl) (by simp) (AllReadyH.cons rfl ?_ AllReadyH.nil)
  intro K hK
  rw [if_pos (by rfl)]
  go_simp
  refine (toFrame_any s0 A0 c0 l0 _ (hA0.below b12) hn0).mono ?_
  rintro e w13 ⟨g13, rfl, hg13, own13, hb13⟩
  have b13 := step_below hb13 b12
  have B0_13 := B0_12.keep hb13
  have B1_13 := B1_12.keep hb13
  have Y0_13 := Y0_12.keep hb13
  have v5_13 := own_keep v5_12 hb13
  have q6_13 := own_keep q6_12 hb13
  have r10_13 := own_keep r10_12 hb13
  have t13 := step_below hb13 t12
  have gl13 : g13 < w13.heap.size := (own13.lt g13 rfl).2
  have q13_13 := own13
  refine hK.out _ _ ⟨(Y0_13.cell (i := 0) rfl), (Y0_13.cell (i := 1) rfl), (B0_13.cell (i := 0) rfl), (B0_13.cell (i := 1) rfl)⟩ (fun hS13 => ?_)
  clear hK K
  refine wpAnyH_ready (rs := [3]) (by kernel_rfl) (by simp) (AllReadyH.cons rfl ?_ AllReadyH.nil)
  intro K hK
  rw [if_pos (by rfl)]
  go_simp
  refine (eqFrame_any s0 _ _ _ _ l0 _ (HA.of_own q6_13) (HA.of_own q13_13) hn0).mono ?_
  rintro e w14 ⟨rfl, hb14⟩
  have b14 := step_below hb14 b13
  have B0_14 := B0_13.keep hb14
  have B1_14 := B1_13.keep hb14
  have Y0_14 := Y0_13.keep hb14
  have v5_14 := own_keep v5_13 hb14
  have q6_14 := own_keep q6_13 hb14
  have r10_14 := own_keep r10_13 hb14
  have t14 := step_below hb14 t13
  refine hK.out _ _ ⟨(Y0_14.cell (i := 0) rfl), (Y0_14.cell (i := 1) rfl), (B0_14.cell (i := 0) rfl), (B0_14.cell (i := 1) rfl)⟩ (fun hS14 => ?_)
  clear hK K
  refine wpAnyH_take (i := 4) (v := .bool false) rfl (by kernel_rfl) (by kernel_rfl) (by kernel_rfl) (fun _ _ _ h => h) (Or.inl ⟨by rfl, fun w' _ => by go_simp⟩) hS14 ?_
  change wpAnyH _ _ _ _ _ _ _ (Act.put _ (some 51) _) _
  simp only [Act.put, List.setIfInBounds_toArray, List.set_cons_zero, List.set_cons_succ]
  refine wpAnyH_done (by kernel_rfl) ?_ _
  have pf52_0 := Y0_14.cell (i := 0) rfl
  have pf52_1 := Y0_14.cell (i := 1) rfl
  go_wp2_with fail
  clear pf52_0 pf52_1
  refine (markFrame_from s0 _ _ l0 _ (1) _ q6_14 hn0 ⟨by omega, by omega⟩).mono ?_
  rintro e w15 ⟨rfl, mo15, hgr15⟩
  have hbs15 := hgr15.size
  have t15 : Below w5.heap.size w5 w15 := t14.grown hgr15 t14.size (fun j hj => by cases hj; exact Nat.le_trans t5.size hg6)
  have b15 : Below w.heap.size w w15 := b5.trans (t15.mono b5.size)
  have B0_15 := B0_5.keep t15
  have B1_15 := B1_5.keep t15
  have Y0_15 := Y0_14.grown hgr15 (fun e => by have e' : g6 = w6.heap.size := Option.some.inj e; have gg := gl6; have gh := hg6; have h6_ := hb6.size; have h7_ := hb7.size; omega)
  have v5_15 := own_keep v5_5 t15
  have r10_15 := r10_14.kept hgr15 (own_ne2 r10_14 q6_14 (by decide))
  have hneg15 : decide (1 + 2 * (l0.length : Int) < 0) = false := by simp; omega
  go_wp2_with fail
  refine (eqTune_self _ _ _ _ r0 _ (NA.of_own r10_15) (NA.of_own v5_15) hrl0).mono ?_
  rintro e w16 ⟨rfl, hb16⟩
  have b16 := step_below hb16 b15
  have B0_16 := B0_15.keep hb16
  have B1_16 := B1_15.keep hb16
  have Y0_16 := Y0_15.keep hb16
  have v5_16 := own_keep v5_15 hb16
  have r10_16 := own_keep r10_15 hb16
  have t16 := step_below hb16 t15
  go_wp2_with fail
  refine (markTune_from _ _ r0 _ (1) _ r10_16 hrl0 ⟨by omega, by omega⟩).mono ?_
  rintro e w17 ⟨rfl, mo17, hgr17⟩
  have hbs17 := hgr17.size
  have t17 : Below w5.heap.size w5 w17 := t16.grown hgr17 t16.size (fun j hj => Nat.le_trans t9.size ((r10_16).lt j hj).1)
  have b17 : Below w.heap.size w w17 := b5.trans (t17.mono b5.size)
  have B0_17 := B0_5.keep t17
  have B1_17 := B1_5.keep t17
  have v5_17 := own_keep v5_5 t17
  have k17_17 := mo17
  have hneg17 : decide (1 + 2 * (r0.length : Int) < 0) = false := by simp; omega
  have hneq17 : ((1 + 2 * (r0.length : Int)) != (1 + 2 * (r0.length : Int))) = false := by simp
  go_wp2_with fail
  refine (heldTune_from _ _ r0.length (1) _ (mkN_of_own k17_17) hrl0 ⟨by omega, by omega⟩).mono ?_
  rintro e w18' ⟨rfl, rfl⟩
  go_wp2_with fail
  have hb18 : Below w17.heap.size w17 w17.drew := (Below.refl _ _).drew
  have b18 := step_below hb18 b17
  have B0_18 := B0_17.keep hb18
  have B1_18 := B1_17.keep hb18
  have v5_18 := own_keep v5_17 hb18
  have k17_18 := own_keep k17_17 hb18
  have t18 := step_below hb18 t17
  refine wp_region_held_drew (S := fun w' => w'.cell? ⟨w.heap.size, 0, none⟩ = some (.int .i16 s0) ∧ w'.cell? ⟨w.heap.size, 1, none⟩ = some (.slice A0 l0.length c0) ∧ w'.rangeAt (w.heap.size + 1) 0 (dv d1)) (by kernel_rfl) ⟨(B0_18.cell (i := 0) rfl), (B0_18.cell (i := 1) rfl), (show Dr w17.drew (w.heap.size + 1) 27 d1 from B1_18).range⟩ fun hS18 => ?_
  refine wpAnyH_take (i := 0) (v := .agg #[.int .i16 s0, .slice A0 l0.length c0]) rfl (by kernel_rfl) (by kernel_rfl) (by kernel_rfl) (fun _ _ _ h => h) (Or.inl ⟨by rfl, fun w' h => ?_⟩) hS18 ?_
  · have c0 := h.1
    have c1 := h.2.1
    clear h
    go_simp
  simp only [Act.put, List.setIfInBounds_toArray, List.set_cons_zero, List.set_cons_succ]
  refine wpAnyH_take (i := 2) rfl (by kernel_rfl) (by kernel_rfl) (by kernel_rfl) (fun _ _ _ h => h) (yieldsIf_load_mid (by rfl) _ _ rfl (w.heap.size + 1) 0 rfl (dv d1) _ (fun _ h => h.2.2) Tryd.underlying27 rfl (infoLt d1)) hS18 ?_
  simp only [Act.put, List.setIfInBounds_toArray, List.set_cons_zero, List.set_cons_succ]
  refine wpAnyH_ready (rs := [1]) (by kernel_rfl) (by simp) (AllReadyH.cons rfl ?_ AllReadyH.nil)
  intro K hK
  rw [if_pos (by rfl)]
  go_simp
  refine (toFrame_any s0 A0 c0 l0 _ (hA0.below b18) hn0).mono ?_
  rintro e w19 ⟨g19, rfl, hg19, own19, hb19⟩
  have b19 := step_below hb19 b18
  have B0_19 := B0_18.keep hb19
  have B1_19 := B1_18.keep hb19
  have v5_19 := own_keep v5_18 hb19
  have k17_19 := own_keep k17_18 hb19
  have t19 := step_below hb19 t18
  have gl19 : g19 < w19.heap.size := (own19.lt g19 rfl).2
  have q19_19 := own19
  refine hK.out _ _ ⟨(B0_19.cell (i := 0) rfl), (B0_19.cell (i := 1) rfl), (show Dr w19 (w.heap.size + 1) 27 d1 from B1_19).range⟩ (fun hS19 => ?_)
  clear hK K
  refine wpAnyH_ready (rs := [3]) (by kernel_rfl) (by simp) (AllReadyH.cons rfl ?_ AllReadyH.nil)
  intro K hK
  rw [if_pos (by rfl)]
  go_simp
  refine (toDrum_any d1 _).mono ?_
  rintro e w20 ⟨rfl, hb20⟩
  have b20 := step_below hb20 b19
  have B0_20 := B0_19.keep hb20
  have B1_20 := B1_19.keep hb20
  have v5_20 := own_keep v5_19 hb20
  have k17_20 := own_keep k17_19 hb20
  have q19_20 := own_keep q19_19 hb20
  have t20 := step_below hb20 t19
  refine hK.out _ _ ⟨(B0_20.cell (i := 0) rfl), (B0_20.cell (i := 1) rfl), (show Dr w20 (w.heap.size + 1) 27 d1 from B1_20).range⟩ (fun hS20 => ?_)
  clear hK K
  refine wpAnyH_ready (rs := [4]) (by kernel_rfl) (by simp) (AllReadyH.cons rfl ?_ AllReadyH.nil)
  intro K hK
  rw [if_pos (by rfl)]
  go_simp
  refine (KI _ _ (HA.of_own q19_20) (hT.keep b20)).mono ?_
  rintro e w21 ⟨C21, e21, rfl, own21, hb21⟩
  have b21 := step_below hb21 b20
  have B0_21 := B0_20.keep hb21
  have B1_21 := B1_20.keep hb21
  have v5_21 := own_keep v5_20 hb21
  have k17_21 := own_keep k17_20 hb21
  have q19_21 := own_keep q19_20 hb21
  have t21 := step_below hb21 t20
  have r21_21 := own21
  refine hK.out _ _ ⟨(B0_21.cell (i := 0) rfl), (B0_21.cell (i := 1) rfl), (show Dr w21 (w.heap.size + 1) 27 d1 from B1_21).range⟩ (fun hS21 => ?_)
  clear hK K
  refine wpAnyH_take (i := 5) (v := .tuple #[.slice C21 r0.length e21, .int .i64 r1]) rfl (by kernel_rfl) (by kernel_rfl) (by kernel_rfl) (fun _ _ _ h => h) (Or.inl ⟨by rfl, fun w' _ => by go_simp⟩) hS21 ?_
  change wpAnyH _ _ _ _ _ _ _ (Act.put _ (some 79) _) _
  simp only [Act.put, List.setIfInBounds_toArray, List.set_cons_zero, List.set_cons_succ]
  refine wpAnyH_take (i := 6) (v := .slice C21 r0.length e21) rfl (by kernel_rfl) (by kernel_rfl) (by kernel_rfl) (fun _ _ _ h => h) (Or.inl ⟨by rfl, fun w' _ => by go_simp⟩) hS21 ?_
  change wpAnyH _ _ _ _ _ _ _ (Act.put _ (some 85) _) _
  simp only [Act.put, List.setIfInBounds_toArray, List.set_cons_zero, List.set_cons_succ]
  refine wpAnyH_take (i := 7) (v := .int .i64 r1) rfl (by kernel_rfl) (by kernel_rfl) (by kernel_rfl) (fun _ _ _ h => h) (Or.inl ⟨by rfl, fun w' _ => by go_simp⟩) hS21 ?_
  change wpAnyH _ _ _ _ _ _ _ (Act.put _ (some 86) _) _
  simp only [Act.put, List.setIfInBounds_toArray, List.set_cons_zero, List.set_cons_succ]
  refine wpAnyH_take (i := 8) (v := .slice C21 r0.length e21) rfl (by kernel_rfl) (by kernel_rfl) (by kernel_rfl) (fun _ _ _ h => h) (Or.inl ⟨by rfl, fun w' _ => by go_simp⟩) hS21 ?_
  change wpAnyH _ _ _ _ _ _ _ (Act.put _ (some 14) _) _
  simp only [Act.put, List.setIfInBounds_toArray, List.set_cons_zero, List.set_cons_succ]
  refine wpAnyH_take (i := 9) (v := .int .i64 r1) rfl (by kernel_rfl) (by kernel_rfl) (by kernel_rfl) (fun _ _ _ h => h) (Or.inl ⟨by rfl, fun w' _ => by go_simp⟩) hS21 ?_
  change wpAnyH _ _ _ _ _ _ _ (Act.put _ (some 15) _) _
  simp only [Act.put, List.setIfInBounds_toArray, List.set_cons_zero, List.set_cons_succ]
  refine wpAnyH_done (by kernel_rfl) ?_ _
  go_wp2_with fail
  refine (eqTune_self _ _ _ _ r0 _ (NA.of_own r21_21) (NA.of_own v5_21) hrl0).mono ?_
  rintro e w22 ⟨rfl, hb22⟩
  have b22 := step_below hb22 b21
  have B0_22 := B0_21.keep hb22
  have B1_22 := B1_21.keep hb22
  have v5_22 := own_keep v5_21 hb22
  have k17_22 := own_keep k17_21 hb22
  have q19_22 := own_keep q19_21 hb22
  have t22 := step_below hb22 t21
  go_wp2_with fail
  refine (heldTune_from _ _ r0.length (1) _ (mkN_of_own k17_22) hrl0 ⟨by omega, by omega⟩).mono ?_
  rintro e w23' ⟨rfl, rfl⟩
  go_wp2
  go_ret
  exact ⟨rfl, b22⟩
theorem lawTuneOf_any (s0 : Int) (A0 : Option Addr) (c0 : Nat) (l0 : List (Int × Int)) (d1 : Nat → Int) (w : World) (hA0 : HA w A0 l0) (hwf0 : HWF l0) (hs0 : -32768 ≤ s0 ∧ s0 ≤ 32767) (hd1 : DWF d1) (hT : TabW w) (hm0 : l0.length ≤ maxLen)  :
    Calls Tryd.prog 3 #[.agg #[.int .i16 s0, .slice A0 l0.length c0], .agg (da d1)] w (Says true w) := by
  rcases Nat.lt_or_ge 1048576 (l0.length) with h0 | h0
  · exact lawTuneOf_big0 s0 A0 c0 l0 d1 w  h0 hm0
  exact lawTuneOf_small s0 A0 c0 l0 d1 w hA0 hwf0 hs0 hd1 hT h0 hm0 
end Go.Proofs.YtghkcfghkbihcaaDoor
