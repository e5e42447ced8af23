import Derived.Test.YtehmkablandefaaDoorGaf
import Derived.Test.YtehmkablandefaaDoorGbu
import Derived.Test.YtehmkablandefaaDoorMkf
import Derived.Test.YtehmkablandefaaDoorMkn
import Derived.Test.YtehmkablandefaaDoorGar
import Derived.Test.YtehmkablandefaaDoorTkg
import Derived.Deep.RegionHeld3
import Derived.Deep.CutRange
namespace Go.Proofs.YtehmkablandefaaDoor
open Go.RowKit

set_option maxRecDepth 20000 in
set_option maxHeartbeats 1000000 in
theorem lawTracksOf_big0 (s0 : Int) (A0 : Option Addr) (c0 : Nat) (l0 : List (Int × Int)) (A1 : Option Addr) (c1 : Nat) (l1 : List (Int × Int)) (d2 : Nat → Int) (w : World)  (hbg : 1048576 < l0.length) (hm0 : l0.length ≤ maxLen) (hm1 : l1.length ≤ maxLen) :
    Calls Tryd.prog 5 #[.agg #[.int .i16 s0, .slice A0 l0.length c0], .slice A1 l1.length c1, .agg (da d2)] w (Says true w) := by
  obtain ⟨X0, hX0⟩ : ∃ X, X = ((w.alloc (.cells #[.int .i16 s0, .slice A0 l0.length c0] 25)).alloc (.cells (da d2) 27)) := ⟨_, rfl⟩
  have b0 : Below w.heap.size w X0 := by rw [hX0]; exact (((Below.refl _ _).alloc (Nat.le_refl _) _).alloc (by simp) _)
  have B0_0 : Bk X0 (w.heap.size) 25 #[.int .i16 s0, .slice A0 l0.length c0] := by rw [hX0]; exact Bk.new _ _ _ rfl |>.old _
  have bw0 : w.heap.size < X0.heap.size := B0_0.lt
  have B2_0 : Bk X0 (w.heap.size + 1) 27 (da d2) := by rw [hX0]; exact Bk.new _ _ _ (by simp)
  have bw2 : w.heap.size + 1 < X0.heap.size := B2_0.lt
  go_enter Tryd.func5, Tryd.ntmps5
  go_upto_region 1 with fail
  rw [← hX0]
  clear hX0
  have pf19_0 := B0_0.cell (i := 0) rfl
  have pf19_1 := B0_0.cell (i := 1) rfl
  go_wp2_with fail
  clear pf19_0 pf19_1
  refine (szFrame_at_big s0 A0 l0.length c0 (1048576) (by omega) (by omega) hm0 (by omega) _).mono ?_
  rintro e w1 ⟨rfl, hb1⟩
  have b1 := step_below hb1 b0
  go_wp2
  go_ret
  exact ⟨rfl, b1⟩
set_option maxRecDepth 20000 in
set_option maxHeartbeats 1000000 in
theorem lawTracksOf_big1 (s0 : Int) (A0 : Option Addr) (c0 : Nat) (l0 : List (Int × Int)) (A1 : Option Addr) (c1 : Nat) (l1 : List (Int × Int)) (d2 : Nat → Int) (w : World) (hc0 : l0.length ≤ 1048576) (hbg : 1048576 < l0.length + l1.length) (hm0 : l0.length ≤ maxLen) (hm1 : l1.length ≤ maxLen) :
    Calls Tryd.prog 5 #[.agg #[.int .i16 s0, .slice A0 l0.length c0], .slice A1 l1.length c1, .agg (da d2)] w (Says true w) := by
  obtain ⟨X0, hX0⟩ : ∃ X, X = ((w.alloc (.cells #[.int .i16 s0, .slice A0 l0.length c0] 25)).alloc (.cells (da d2) 27)) := ⟨_, rfl⟩
  have b0 : Below w.heap.size w X0 := by rw [hX0]; exact (((Below.refl _ _).alloc (Nat.le_refl _) _).alloc (by simp) _)
  have B0_0 : Bk X0 (w.heap.size) 25 #[.int .i16 s0, .slice A0 l0.length c0] := by rw [hX0]; exact Bk.new _ _ _ rfl |>.old _
  have bw0 : w.heap.size < X0.heap.size := B0_0.lt
  have B2_0 : Bk X0 (w.heap.size + 1) 27 (da d2) := by rw [hX0]; exact Bk.new _ _ _ (by simp)
  have bw2 : w.heap.size + 1 < X0.heap.size := B2_0.lt
  go_enter Tryd.func5, Tryd.ntmps5
  go_upto_region 1 with fail
  rw [← hX0]
  clear hX0
  have pf19_0 := B0_0.cell (i := 0) rfl
  have pf19_1 := B0_0.cell (i := 1) rfl
  go_wp2_with fail
  clear pf19_0 pf19_1
  refine (szFrame_at_small s0 A0 l0.length c0 (1048576) (by omega) (by omega) hm0 (by omega) _).mono ?_
  rintro e w1 ⟨rfl, hb1⟩
  have b1 := step_below hb1 b0
  have B0_1 := B0_0.keep hb1
  have B2_1 := B2_0.keep hb1
  go_wp2_with fail
  refine (szTune_big A1 l1.length c1 (1048576 - (l0.length : Int)) (by omega) (by omega) hm1 (by omega) _).mono ?_
  rintro e w2 ⟨rfl, rfl⟩
  go_wp2
  go_ret
  exact ⟨rfl, b1⟩
set_option maxRecDepth 20000 in
set_option maxHeartbeats 4000000 in
theorem lawTracksOf_small (s0 : Int) (A0 : Option Addr) (c0 : Nat) (l0 : List (Int × Int)) (A1 : Option Addr) (c1 : Nat) (l1 : List (Int × Int)) (d2 : Nat → Int) (w : World) (hA0 : HA w A0 l0) (hwf0 : HWF l0) (hs0 : -32768 ≤ s0 ∧ s0 ≤ 32767) (hA1 : NA w A1 l1) (hwf1 : WF l1) (hd2 : DWF d2) (hT : TabE w) (hc0 : l0.length ≤ 1048576) (hc1 : l0.length + l1.length ≤ 1048576) (hm0 : l0.length ≤ maxLen) (hm1 : l1.length ≤ maxLen) :
    Calls Tryd.prog 5 #[.agg #[.int .i16 s0, .slice A0 l0.length c0], .slice A1 l1.length c1, .agg (da d2)] w (Says true w) := by
  have hn0 : l0.length ≤ 1048576 := by omega
  have hn1 : l1.length ≤ 1048576 := by omega
  obtain ⟨r0, hr0⟩ : ∃ r : List Int, r = tcZ s0 l0 d2 l1 := ⟨_, rfl⟩
  obtain ⟨r1, hr1⟩ : ∃ r : Int, r = tcC s0 l0 d2 l1 := ⟨_, rfl⟩
  have hrl0 : r0.length ≤ 1048576 := by rw [hr0]; exact tcZ_len _ _ _ _
  have KS : ∀ (E0 : Option Addr) (E1 : Option Addr) (W : World), HA W E0 l0 → NA W E1 l1 → TabE W → Calls Tryd.prog 20 #[.agg #[.int .i16 s0, .slice E0 l0.length l0.length], .slice E1 l1.length l1.length, .agg (da d2)] W (fun e w' => ∃ (C : Option Addr) (q : Nat), e = .returned (.tuple #[.slice C r0.length q, .int .i64 r1]) ∧ w'.ownsRow W.heap.size 2 1 (.slice C r0.length q) r0.length (icells r0) ∧ Below W.heap.size W w') := fun E0 E1 W h0 h1 hT' => by rw [hr0, hr1]; exact specTracksOf_any s0 E0 l0.length l0 E1 l1.length l1 d2 W h0 hn0 hwf0 hs0 h1 hn1 hwf1 hd2
  have KI : ∀ (E0 : Option Addr) (E1 : Option Addr) (W : World), HA W E0 l0 → NA W E1 l1 → TabE W → Calls Tryd.prog 21 #[.agg #[.int .i16 s0, .slice E0 l0.length l0.length], .slice E1 l1.length l1.length, .agg (da d2)] W (fun e w' => ∃ (C : Option Addr) (q : Nat), e = .returned (.tuple #[.slice C r0.length q, .int .i64 r1]) ∧ w'.ownsRow W.heap.size 2 1 (.slice C r0.length q) r0.length (icells r0) ∧ Below W.heap.size W w') := fun E0 E1 W h0 h1 hT' => by rw [hr0, hr1]; exact implTracksOf_e s0 E0 l0.length l0 E1 l1.length l1 d2 W h0 hn0 hwf0 hs0 h1 hn1 hwf1 hd2 hT'
  clear hr0 hr1
  obtain ⟨X0, hX0⟩ : ∃ X, X = ((w.alloc (.cells #[.int .i16 s0, .slice A0 l0.length c0] 25)).alloc (.cells (da d2) 27)) := ⟨_, rfl⟩
  have b0 : Below w.heap.size w X0 := by rw [hX0]; exact (((Below.refl _ _).alloc (Nat.le_refl _) _).alloc (by simp) _)
  have B0_0 : Bk X0 (w.heap.size) 25 #[.int .i16 s0, .slice A0 l0.length c0] := by rw [hX0]; exact Bk.new _ _ _ rfl |>.old _
  have bw0 : w.heap.size < X0.heap.size := B0_0.lt
  have B2_0 : Bk X0 (w.heap.size + 1) 27 (da d2) := by rw [hX0]; exact Bk.new _ _ _ (by simp)
  have bw2 : w.heap.size + 1 < X0.heap.size := B2_0.lt
  go_enter Tryd.func5, Tryd.ntmps5
  go_upto_region 1 with fail
  rw [← hX0]
  clear hX0
  have pf19_0 := B0_0.cell (i := 0) rfl
  have pf19_1 := B0_0.cell (i := 1) rfl
  go_wp2_with fail
  clear pf19_0 pf19_1
  refine (szFrame_at_small s0 A0 l0.length c0 (1048576) (by omega) (by omega) hm0 (by omega) _).mono ?_
  rintro e w1 ⟨rfl, hb1⟩
  have b1 := step_below hb1 b0
  have B0_1 := B0_0.keep hb1
  have B2_1 := B2_0.keep hb1
  go_wp2_with fail
  refine (szTune_small A1 l1.length c1 (1048576 - (l0.length : Int)) (by omega) (by omega) hm1 (by omega) _).mono ?_
  rintro e w2' ⟨rfl, rfl⟩
  go_wp2_with fail
  have hb2 : Below w1.heap.size w1 w1.drew := (Below.refl _ _).drew
  have b2 := step_below hb2 b1
  have B0_2 := B0_1.keep hb2
  have B2_2 := B2_1.keep hb2
  refine wp_region_held_drew (S := fun w' => w'.cell? ⟨w.heap.size, 0, none⟩ = some (.int .i16 s0) ∧ w'.cell? ⟨w.heap.size, 1, none⟩ = some (.slice A0 l0.length c0) ∧ w'.rangeAt (w.heap.size + 1) 0 (dv d2)) (by kernel_rfl) ⟨(B0_2.cell (i := 0) rfl), (B0_2.cell (i := 1) rfl), (show Dr w1.drew (w.heap.size + 1) 27 d2 from B2_2).range⟩ fun hS2 => ?_
  refine wpAnyH_take (i := 0) (v := .agg #[.int .i16 s0, .slice A0 l0.length c0]) rfl (by kernel_rfl) (by kernel_rfl) (by kernel_rfl) (fun _ _ _ h => h) (Or.inl ⟨by rfl, fun w' h => ?_⟩) hS2 ?_
  · have c0 := h.1
    have c1 := h.2.1
    clear h
    go_simp
  simp only [Act.put, List.setIfInBounds_toArray, List.set_cons_zero, List.set_cons_succ]
  refine wpAnyH_take (i := 4) rfl (by kernel_rfl) (by kernel_rfl) (by kernel_rfl) (fun _ _ _ h => h) (yieldsIf_load_mid (by rfl) _ _ rfl (w.heap.size + 1) 0 rfl (dv d2) _ (fun _ h => h.2.2) Tryd.underlying27 rfl (infoLt d2)) hS2 ?_
  simp only [Act.put, List.setIfInBounds_toArray, List.set_cons_zero, List.set_cons_succ]
  refine wpAnyH_take (i := 2) (v := .slice A1 l1.length c1) rfl (by kernel_rfl) (by kernel_rfl) (by kernel_rfl) (fun _ _ _ h => h) (Or.inl ⟨by rfl, fun w' _ => by go_simp⟩) hS2 ?_
  change wpAnyH _ _ _ _ _ _ _ (Act.put _ (some 32) _) _
  simp only [Act.put, List.setIfInBounds_toArray, List.set_cons_zero, List.set_cons_succ]
  refine wpAnyH_ready (rs := [1]) (by kernel_rfl) (by simp) (AllReadyH.cons rfl ?_ AllReadyH.nil)
  intro K hK
  rw [if_pos (by rfl)]
  go_simp
  refine (toFrame_any s0 A0 c0 l0 _ (hA0.below b2) hn0).mono ?_
  rintro e w3 ⟨g3, rfl, hg3, own3, hb3⟩
  have b3 := step_below hb3 b2
  have B0_3 := B0_2.keep hb3
  have B2_3 := B2_2.keep hb3
  have gl3 : g3 < w3.heap.size := (own3.lt g3 rfl).2
  have q3_3 := own3
  refine hK.out _ _ ⟨(B0_3.cell (i := 0) rfl), (B0_3.cell (i := 1) rfl), (show Dr w3 (w.heap.size + 1) 27 d2 from B2_3).range⟩ (fun hS3 => ?_)
  clear hK K
  refine wpAnyH_ready (rs := [3]) (by kernel_rfl) (by simp) (AllReadyH.cons rfl ?_ AllReadyH.nil)
  intro K hK
  rw [if_pos (by rfl)]
  go_simp
  refine (toTune_ex A1 c1 l1 _ (hA1.below b3) hn1).mono ?_
  rintro e w4 ⟨g4, rfl, hg4, own4, hb4⟩
  have b4 := step_below hb4 b3
  have B0_4 := B0_3.keep hb4
  have B2_4 := B2_3.keep hb4
  have q3_4 := own_keep q3_3 hb4
  have gl4 : g4 < w4.heap.size := (own4.lt g4 rfl).2
  have q4_4 := own4
  refine hK.out _ _ ⟨(B0_4.cell (i := 0) rfl), (B0_4.cell (i := 1) rfl), (show Dr w4 (w.heap.size + 1) 27 d2 from B2_4).range⟩ (fun hS4 => ?_)
  clear hK K
  refine wpAnyH_ready (rs := [5]) (by kernel_rfl) (by simp) (AllReadyH.cons rfl ?_ AllReadyH.nil)
  intro K hK
  rw [if_pos (by rfl)]
  go_simp
  refine (toDrum_any d2 _).mono ?_
  rintro e w5 ⟨rfl, hb5⟩
  have b5 := step_below hb5 b4
  have B0_5 := B0_4.keep hb5
  have B2_5 := B2_4.keep hb5
  have q3_5 := own_keep q3_4 hb5
  have q4_5 := own_keep q4_4 hb5
  refine hK.out _ _ ⟨(B0_5.cell (i := 0) rfl), (B0_5.cell (i := 1) rfl), (show Dr w5 (w.heap.size + 1) 27 d2 from B2_5).range⟩ (fun hS5 => ?_)
  clear hK K
  refine wpAnyH_ready (rs := [6]) (by kernel_rfl) (by simp) (AllReadyH.cons rfl ?_ AllReadyH.nil)
  intro K hK
  rw [if_pos (by rfl)]
  go_simp
  refine (KS _ _ _ (HA.of_own q3_5) (NA.of_own q4_5) (hT.keep b5)).mono ?_
  rintro e w6 ⟨C6, e6, rfl, own6, hb6⟩
  have b6 := step_below hb6 b5
  have B0_6 := B0_5.keep hb6
  have B2_6 := B2_5.keep hb6
  have v6_6 := own6
  have t6 : Below w6.heap.size w6 w6 := Below.refl _ _
  refine hK.out _ _ ⟨(B0_6.cell (i := 0) rfl), (B0_6.cell (i := 1) rfl), (show Dr w6 (w.heap.size + 1) 27 d2 from B2_6).range⟩ (fun hS6 => ?_)
  clear hK K
  refine wpAnyH_take (i := 7) (v := .tuple #[.slice C6 r0.length e6, .int .i64 r1]) rfl (by kernel_rfl) (by kernel_rfl) (by kernel_rfl) (fun _ _ _ h => h) (Or.inl ⟨by rfl, fun w' _ => by go_simp⟩) hS6 ?_
  change wpAnyH _ _ _ _ _ _ _ (Act.put _ (some 29) _) _
  simp only [Act.put, List.setIfInBounds_toArray, List.set_cons_zero, List.set_cons_succ]
  refine wpAnyH_take (i := 8) (v := .slice C6 r0.length e6) rfl (by kernel_rfl) (by kernel_rfl) (by kernel_rfl) (fun _ _ _ h => h) (Or.inl ⟨by rfl, fun w' _ => by go_simp⟩) hS6 ?_
  change wpAnyH _ _ _ _ _ _ _ (Act.put _ (some 37) _) _
  simp only [Act.put, List.setIfInBounds_toArray, List.set_cons_zero, List.set_cons_succ]
  refine wpAnyH_take (i := 9) (v := .int .i64 r1) rfl (by kernel_rfl) (by kernel_rfl) (by kernel_rfl) (fun _ _ _ h => h) (Or.inl ⟨by rfl, fun w' _ => by go_simp⟩) hS6 ?_
  change wpAnyH _ _ _ _ _ _ _ (Act.put _ (some 38) _) _
  simp only [Act.put, List.setIfInBounds_toArray, List.set_cons_zero, List.set_cons_succ]
  refine wpAnyH_take (i := 10) (v := .slice C6 r0.length e6) rfl (by kernel_rfl) (by kernel_rfl) (by kernel_rfl) (fun _ _ _ h => h) (Or.inl ⟨by rfl, fun w' _ => by go_simp⟩) hS6 ?_
  change wpAnyH _ _ _ _ _ _ _ (Act.put _ (some 8) _) _
  simp only [Act.put, List.setIfInBounds_toArray, List.set_cons_zero, List.set_cons_succ]
  refine wpAnyH_take (i := 11) (v := .int .i64 r1) rfl (by kernel_rfl) (by kernel_rfl) (by kernel_rfl) (fun _ _ _ h => h) (Or.inl ⟨by rfl, fun w' _ => by go_simp⟩) hS6 ?_
  change wpAnyH _ _ _ _ _ _ _ (Act.put _ (some 9) _) _
  simp only [Act.put, List.setIfInBounds_toArray, List.set_cons_zero, List.set_cons_succ]
  refine wpAnyH_done (by kernel_rfl) ?_ _
  have pf39_0 := B0_6.cell (i := 0) rfl
  have pf39_1 := B0_6.cell (i := 1) rfl
  go_wp2_with fail
  clear pf39_0 pf39_1
  refine (toFrame_any s0 A0 c0 l0 _ (hA0.below b6) hn0).mono ?_
  rintro e w7 ⟨g7, rfl, hg7, own7, hb7⟩
  have b7 := step_below hb7 b6
  have B0_7 := B0_6.keep hb7
  have B2_7 := B2_6.keep hb7
  have v6_7 := own_keep v6_6 hb7
  have t7 := step_below hb7 t6
  have gl7 : g7 < w7.heap.size := (own7.lt g7 rfl).2
  have q7_7 := own7
  go_upto_region 10 with fail
  obtain ⟨w8, hX8⟩ : ∃ X, X = w7.alloc (.cells #[.int .i16 s0, .slice (some ⟨g7, 0, none⟩) l0.length l0.length] 35) := ⟨_, rfl⟩
  have hb8 : Below w7.heap.size w7 w8 := by rw [hX8]; exact (Below.refl _ _).alloc (Nat.le_refl _) _
  have K8 : Bk w8 w7.heap.size 35 #[.int .i16 s0, .slice (some ⟨g7, 0, none⟩) l0.length l0.length] := by rw [hX8]; exact Bk.new _ _ _ rfl
  rw [← hX8]
  clear hX8
  have b8 := step_below hb8 b7
  have B0_8 := B0_7.keep hb8
  have B2_8 := B2_7.keep hb8
  have v6_8 := own_keep v6_7 hb8
  have q7_8 := own_keep q7_7 hb8
  have t8 := step_below hb8 t7
  have Y0_8 := K8
  have yw0 : w7.heap.size < w8.heap.size := K8.lt
  go_wp2_with fail
  refine (toTune_ex A1 c1 l1 _ (hA1.below b8) hn1).mono ?_
  rintro e w9 ⟨g9, rfl, hg9, own9, hb9⟩
  have b9 := step_below hb9 b8
  have B0_9 := B0_8.keep hb9
  have B2_9 := B2_8.keep hb9
  have Y0_9 := Y0_8.keep hb9
  have v6_9 := own_keep v6_8 hb9
  have q7_9 := own_keep q7_8 hb9
  have t9 := step_below hb9 t8
  have gl9 : g9 < w9.heap.size := (own9.lt g9 rfl).2
  have q9_9 := own9
  go_wp2_with fail
  have hb10 : Below w9.heap.size w9 w9.drew := (Below.refl _ _).drew
  have b10 := step_below hb10 b9
  have B0_10 := B0_9.keep hb10
  have B2_10 := B2_9.keep hb10
  have Y0_10 := Y0_9.keep hb10
  have v6_10 := own_keep v6_9 hb10
  have q7_10 := own_keep q7_9 hb10
  have q9_10 := own_keep q9_9 hb10
  have t10 := step_below hb10 t9
  refine wp_region_held_drew (S := fun w' => w'.cell? ⟨w7.heap.size, 0, none⟩ = some (.int .i16 s0) ∧ w'.cell? ⟨w7.heap.size, 1, none⟩ = some (.slice (some ⟨g7, 0, none⟩) l0.length l0.length) ∧ w'.rangeAt (w.heap.size + 1) 0 (dv d2)) (by kernel_rfl) ⟨(Y0_10.cell (i := 0) rfl), (Y0_10.cell (i := 1) rfl), (show Dr w9.drew (w.heap.size + 1) 27 d2 from B2_10).range⟩ fun hS10 => ?_
  refine wpAnyH_take (i := 0) (v := .agg #[.int .i16 s0, .slice (some ⟨g7, 0, none⟩) l0.length l0.length]) rfl (by kernel_rfl) (by kernel_rfl) (by kernel_rfl) (fun _ _ _ h => h) (Or.inl ⟨by rfl, fun w' h => ?_⟩) hS10 ?_
  · have c0 := h.1
    have c1 := h.2.1
    clear h
    go_simp
  simp only [Act.put, List.setIfInBounds_toArray, List.set_cons_zero, List.set_cons_succ]
  refine wpAnyH_take (i := 2) rfl (by kernel_rfl) (by kernel_rfl) (by kernel_rfl) (fun _ _ _ h => h) (yieldsIf_load_mid (by rfl) _ _ rfl (w.heap.size + 1) 0 rfl (dv d2) _ (fun _ h => h.2.2) Tryd.underlying27 rfl (infoLt d2)) hS10 ?_
  simp only [Act.put, List.setIfInBounds_toArray, List.set_cons_zero, List.set_cons_succ]
  refine wpAnyH_take (i := 1) (v := .slice (some ⟨g9, 0, none⟩) l1.length l1.length) rfl (by kernel_rfl) (by kernel_rfl) (by kernel_rfl) (fun _ _ _ h => h) (Or.inl ⟨by rfl, fun w' _ => by go_simp⟩) hS10 ?_
  change wpAnyH _ _ _ _ _ _ _ (Act.put _ (some 45) _) _
  simp only [Act.put, List.setIfInBounds_toArray, List.set_cons_zero, List.set_cons_succ]
  refine wpAnyH_ready (rs := [3]) (by kernel_rfl) (by simp) (AllReadyH.cons rfl ?_ AllReadyH.nil)
  intro K hK
  rw [if_pos (by rfl)]
  go_simp
  refine (toDrum_any d2 _).mono ?_
  rintro e w11 ⟨rfl, hb11⟩
  have b11 := step_below hb11 b10
  have B0_11 := B0_10.keep hb11
  have B2_11 := B2_10.keep hb11
  have Y0_11 := Y0_10.keep hb11
  have v6_11 := own_keep v6_10 hb11
  have q7_11 := own_keep q7_10 hb11
  have q9_11 := own_keep q9_10 hb11
  have t11 := step_below hb11 t10
  refine hK.out _ _ ⟨(Y0_11.cell (i := 0) rfl), (Y0_11.cell (i := 1) rfl), (show Dr w11 (w.heap.size + 1) 27 d2 from B2_11).range⟩ (fun hS11 => ?_)
  clear hK K
  refine wpAnyH_ready (rs := [4]) (by kernel_rfl) (by simp) (AllReadyH.cons rfl ?_ AllReadyH.nil)
  intro K hK
  rw [if_pos (by rfl)]
  go_simp
  refine (KI _ _ _ (HA.of_own q7_11) (NA.of_own q9_11) (hT.keep b11)).mono ?_
  rintro e w12 ⟨C12, e12, rfl, own12, hb12⟩
  have b12 := step_below hb12 b11
  have B0_12 := B0_11.keep hb12
  have B2_12 := B2_11.keep hb12
  have Y0_12 := Y0_11.keep hb12
  have v6_12 := own_keep v6_11 hb12
  have q7_12 := own_keep q7_11 hb12
  have q9_12 := own_keep q9_11 hb12
  have t12 := step_below hb12 t11
  have r12_12 := own12
  refine hK.out _ _ ⟨(Y0_12.cell (i := 0) rfl), (Y0_12.cell (i := 1) rfl), (show Dr w12 (w.heap.size + 1) 27 d2 from B2_12).range⟩ (fun hS12 => ?_)
  clear hK K
  refine wpAnyH_take (i := 5) (v := .tuple #[.slice C12 r0.length e12, .int .i64 r1]) rfl (by kernel_rfl) (by kernel_rfl) (by kernel_rfl) (fun _ _ _ h => h) (Or.inl ⟨by rfl, fun w' _ => by go_simp⟩) hS12 ?_
  change wpAnyH _ _ _ _ _ _ _ (Act.put _ (some 43) _) _
  simp only [Act.put, List.setIfInBounds_toArray, List.set_cons_zero, List.set_cons_succ]
  refine wpAnyH_take (i := 6) (v := .slice C12 r0.length e12) rfl (by kernel_rfl) (by kernel_rfl) (by kernel_rfl) (fun _ _ _ h => h) (Or.inl ⟨by rfl, fun w' _ => by go_simp⟩) hS12 ?_
  change wpAnyH _ _ _ _ _ _ _ (Act.put _ (some 49) _) _
  simp only [Act.put, List.setIfInBounds_toArray, List.set_cons_zero, List.set_cons_succ]
  refine wpAnyH_take (i := 7) (v := .int .i64 r1) rfl (by kernel_rfl) (by kernel_rfl) (by kernel_rfl) (fun _ _ _ h => h) (Or.inl ⟨by rfl, fun w' _ => by go_simp⟩) hS12 ?_
  change wpAnyH _ _ _ _ _ _ _ (Act.put _ (some 50) _) _
  simp only [Act.put, List.setIfInBounds_toArray, List.set_cons_zero, List.set_cons_succ]
  refine wpAnyH_take (i := 8) (v := .slice C12 r0.length e12) rfl (by kernel_rfl) (by kernel_rfl) (by kernel_rfl) (fun _ _ _ h => h) (Or.inl ⟨by rfl, fun w' _ => by go_simp⟩) hS12 ?_
  change wpAnyH _ _ _ _ _ _ _ (Act.put _ (some 12) _) _
  simp only [Act.put, List.setIfInBounds_toArray, List.set_cons_zero, List.set_cons_succ]
  refine wpAnyH_take (i := 9) (v := .int .i64 r1) rfl (by kernel_rfl) (by kernel_rfl) (by kernel_rfl) (fun _ _ _ h => h) (Or.inl ⟨by rfl, fun w' _ => by go_simp⟩) hS12 ?_
  change wpAnyH _ _ _ _ _ _ _ (Act.put _ (some 13) _) _
  simp only [Act.put, List.setIfInBounds_toArray, List.set_cons_zero, List.set_cons_succ]
  refine wpAnyH_done (by kernel_rfl) ?_ _
  go_wp2_with fail
  refine (eqInt64S_self _ _ _ _ r0 _ (SI.of_own r12_12) (SI.of_own v6_12) hrl0).mono ?_
  rintro e w13 ⟨rfl, hb13⟩
  have b13 := step_below hb13 b12
  have B0_13 := B0_12.keep hb13
  have B2_13 := B2_12.keep hb13
  have Y0_13 := Y0_12.keep hb13
  have v6_13 := own_keep v6_12 hb13
  have q7_13 := own_keep q7_12 hb13
  have q9_13 := own_keep q9_12 hb13
  have r12_13 := own_keep r12_12 hb13
  have t13 := step_below hb13 t12
  go_wp2_with fail
  have hb14 : Below w13.heap.size w13 w13.drew := (Below.refl _ _).drew
  have b14 := step_below hb14 b13
  have B0_14 := B0_13.keep hb14
  have B2_14 := B2_13.keep hb14
  have Y0_14 := Y0_13.keep hb14
  have v6_14 := own_keep v6_13 hb14
  have q7_14 := own_keep q7_13 hb14
  have q9_14 := own_keep q9_13 hb14
  have r12_14 := own_keep r12_13 hb14
  have t14 := step_below hb14 t13
  refine wp_region_held_drew (S := fun w' => w'.cell? ⟨w7.heap.size, 0, none⟩ = some (.int .i16 s0) ∧ w'.cell? ⟨w7.heap.size, 1, none⟩ = some (.slice (some ⟨g7, 0, none⟩) l0.length l0.length) ∧ w'.cell? ⟨w.heap.size, 0, none⟩ = some (.int .i16 s0) ∧ w'.cell? ⟨w.heap.size, 1, none⟩ = some (.slice A0 l0.length c0)) (by kernel_rfl) ⟨(Y0_14.cell (i := 0) rfl), (Y0_14.cell (i := 1) rfl), (B0_14.cell (i := 0) rfl), (B0_14.cell (i := 1) rfl)⟩ fun hS14 => ?_
  refine wpAnyH_take (i := 0) (v := .agg #[.int .i16 s0, .slice (some ⟨g7, 0, none⟩) l0.length l0.length]) rfl (by kernel_rfl) (by kernel_rfl) (by kernel_rfl) (fun _ _ _ h => h) (Or.inl ⟨by rfl, fun w' h => ?_⟩) hS14 ?_
  · have c0 := h.1
    have c1 := h.2.1
    clear h
    go_simp
  simp only [Act.put, List.setIfInBounds_toArray, List.set_cons_zero, List.set_cons_succ]
  refine wpAnyH_take (i := 1) (v := .agg #[.int .i16 s0, .slice A0 l0.length c0]) rfl (by kernel_rfl) (by kernel_rfl) (by kernel_rfl) (fun _ _ _ h => h) (Or.inl ⟨by rfl, fun w' h => ?_⟩) hS14 ?_
  · have c0 := h.2.2.1
    have c1 := h.2.2.2
    clear h
    go_simp
  simp only [Act.put, List.setIfInBounds_toArray, List.set_cons_zero, List.set_cons_succ]
  refine wpAnyH_ready (rs := [2]) (by kernel_rfl) (by simp) (AllReadyH.cons rfl ?_ AllReadyH.nil)
  intro K hK
  rw [if_pos (by rfl)]
  go_simp
  refine (toFrame_any s0 A0 c0 l0 _ (hA0.below b14) hn0).mono ?_
  rintro e w15 ⟨g15, rfl, hg15, own15, hb15⟩
  have b15 := step_below hb15 b14
  have B0_15 := B0_14.keep hb15
  have B2_15 := B2_14.keep hb15
  have Y0_15 := Y0_14.keep hb15
  have v6_15 := own_keep v6_14 hb15
  have q7_15 := own_keep q7_14 hb15
  have q9_15 := own_keep q9_14 hb15
  have r12_15 := own_keep r12_14 hb15
  have t15 := step_below hb15 t14
  have gl15 : g15 < w15.heap.size := (own15.lt g15 rfl).2
  have q15_15 := own15
  refine hK.out _ _ ⟨(Y0_15.cell (i := 0) rfl), (Y0_15.cell (i := 1) rfl), (B0_15.cell (i := 0) rfl), (B0_15.cell (i := 1) rfl)⟩ (fun hS15 => ?_)
  clear hK K
  refine wpAnyH_ready (rs := [3]) (by kernel_rfl) (by simp) (AllReadyH.cons rfl ?_ AllReadyH.nil)
  intro K hK
  rw [if_pos (by rfl)]
  go_simp
  refine (eqFrame_any s0 _ _ _ _ l0 _ (HA.of_own q7_15) (HA.of_own q15_15) hn0).mono ?_
  rintro e w16 ⟨rfl, hb16⟩
  have b16 := step_below hb16 b15
  have B0_16 := B0_15.keep hb16
  have B2_16 := B2_15.keep hb16
  have Y0_16 := Y0_15.keep hb16
  have v6_16 := own_keep v6_15 hb16
  have q7_16 := own_keep q7_15 hb16
  have q9_16 := own_keep q9_15 hb16
  have r12_16 := own_keep r12_15 hb16
  have t16 := step_below hb16 t15
  refine hK.out _ _ ⟨(Y0_16.cell (i := 0) rfl), (Y0_16.cell (i := 1) rfl), (B0_16.cell (i := 0) rfl), (B0_16.cell (i := 1) rfl)⟩ (fun hS16 => ?_)
  clear hK K
  refine wpAnyH_take (i := 4) (v := .bool false) rfl (by kernel_rfl) (by kernel_rfl) (by kernel_rfl) (fun _ _ _ h => h) (Or.inl ⟨by rfl, fun w' _ => by go_simp⟩) hS16 ?_
  change wpAnyH _ _ _ _ _ _ _ (Act.put _ (some 64) _) _
  simp only [Act.put, List.setIfInBounds_toArray, List.set_cons_zero, List.set_cons_succ]
  refine wpAnyH_done (by kernel_rfl) ?_ _
  go_wp2_with fail
  refine (toTune_ex A1 c1 l1 _ (hA1.below b16) hn1).mono ?_
  rintro e w17 ⟨g17, rfl, hg17, own17, hb17⟩
  have b17 := step_below hb17 b16
  have B0_17 := B0_16.keep hb17
  have B2_17 := B2_16.keep hb17
  have Y0_17 := Y0_16.keep hb17
  have v6_17 := own_keep v6_16 hb17
  have q7_17 := own_keep q7_16 hb17
  have q9_17 := own_keep q9_16 hb17
  have r12_17 := own_keep r12_16 hb17
  have t17 := step_below hb17 t16
  have gl17 : g17 < w17.heap.size := (own17.lt g17 rfl).2
  have q17_17 := own17
  go_wp2_with fail
  refine (eqTune_self _ _ _ _ l1 _ (NA.of_own q9_17) (NA.of_own q17_17) hn1).mono ?_
  rintro e w18 ⟨rfl, hb18⟩
  have b18 := step_below hb18 b17
  have B0_18 := B0_17.keep hb18
  have B2_18 := B2_17.keep hb18
  have Y0_18 := Y0_17.keep hb18
  have v6_18 := own_keep v6_17 hb18
  have q7_18 := own_keep q7_17 hb18
  have q9_18 := own_keep q9_17 hb18
  have r12_18 := own_keep r12_17 hb18
  have t18 := step_below hb18 t17
  have pf70_0 := Y0_18.cell (i := 0) rfl
  have pf70_1 := Y0_18.cell (i := 1) rfl
  go_wp2_with fail
  clear pf70_0 pf70_1
  refine (markFrame_from s0 _ _ l0 _ (1) _ q7_18 hn0 ⟨by omega, by omega⟩).mono ?_
  rintro e w19 ⟨rfl, mo19, hgr19⟩
  have hbs19 := hgr19.size
  have t19 : Below w6.heap.size w6 w19 := t18.grown hgr19 t18.size (fun j hj => by cases hj; exact Nat.le_trans t6.size hg7)
  have b19 : Below w.heap.size w w19 := b6.trans (t19.mono b6.size)
  have B0_19 := B0_6.keep t19
  have B2_19 := B2_6.keep t19
  have Y0_19 := Y0_18.grown hgr19 (fun e => by have e' : g7 = w7.heap.size := Option.some.inj e; have gg := gl7; have gh := hg7; have h7_ := hb7.size; have h8_ := hb8.size; omega)
  have v6_19 := own_keep v6_6 t19
  have q9_19 := q9_18.kept hgr19 (own_ne2 q9_18 q7_18 (by decide))
  have r12_19 := r12_18.kept hgr19 (own_ne2 r12_18 q7_18 (by decide))
  have hneg19 : decide (1 + 2 * (l0.length : Int) < 0) = false := by simp; omega
  go_wp2_with fail
  refine (markTune_from _ _ l1 _ (1 + 2 * (l0.length : Int)) _ q9_19 hn1 ⟨by omega, by omega⟩).mono ?_
  rintro e w20 ⟨rfl, mo20, hgr20⟩
  have hbs20 := hgr20.size
  have t20 : Below w6.heap.size w6 w20 := t19.grown hgr20 t19.size (fun j hj => by cases hj; exact Nat.le_trans t8.size hg9)
  have b20 : Below w.heap.size w w20 := b6.trans (t20.mono b6.size)
  have B0_20 := B0_6.keep t20
  have B2_20 := B2_6.keep t20
  have Y0_20 := Y0_19.grown hgr20 (fun e => by have e' : g9 = w7.heap.size := Option.some.inj e; have gg := gl9; have gh := hg9; have h8_ := hb8.size; have h9_ := hb9.size; omega)
  have v6_20 := own_keep v6_6 t20
  have r12_20 := r12_19.kept hgr20 (own_ne2 r12_19 q9_19 (by decide))
  have hneg20 : decide (1 + 2 * (l0.length : Int) + 2 * (l1.length : Int) < 0) = false := by simp; omega
  go_wp2_with fail
  refine (eqInt64S_self _ _ _ _ r0 _ (SI.of_own r12_20) (SI.of_own v6_20) hrl0).mono ?_
  rintro e w21 ⟨rfl, hb21⟩
  have b21 := step_below hb21 b20
  have B0_21 := B0_20.keep hb21
  have B2_21 := B2_20.keep hb21
  have Y0_21 := Y0_20.keep hb21
  have v6_21 := own_keep v6_20 hb21
  have r12_21 := own_keep r12_20 hb21
  have t21 := step_below hb21 t20
  go_wp2_with fail
  refine (markInt64S_from _ _ r0 _ (1) _ r12_21 hrl0 ⟨by omega, by omega⟩).mono ?_
  rintro e w22 ⟨rfl, mo22, hgr22⟩
  have hbs22 := hgr22.size
  have t22 : Below w6.heap.size w6 w22 := t21.grown hgr22 t21.size (fun j hj => Nat.le_trans t11.size ((r12_21).lt j hj).1)
  have b22 : Below w.heap.size w w22 := b6.trans (t22.mono b6.size)
  have B0_22 := B0_6.keep t22
  have B2_22 := B2_6.keep t22
  have v6_22 := own_keep v6_6 t22
  have k22_22 := mo22
  have hneg22 : decide (1 + (r0.length : Int) < 0) = false := by simp; omega
  have hneq22 : ((1 + (r0.length : Int)) != (1 + (r0.length : Int))) = false := by simp
  go_wp2_with fail
  refine (heldInt64S_from _ _ r0.length _ (1) _ (mkI_of_own k22_22) hrl0 ⟨by omega, by omega⟩).mono ?_
  rintro e w23' ⟨rfl, rfl⟩
  go_wp2_with fail
  have hb23 : Below w22.heap.size w22 w22.drew := (Below.refl _ _).drew
  have b23 := step_below hb23 b22
  have B0_23 := B0_22.keep hb23
  have B2_23 := B2_22.keep hb23
  have v6_23 := own_keep v6_22 hb23
  have k22_23 := own_keep k22_22 hb23
  have t23 := step_below hb23 t22
  refine wp_region_held_drew (S := fun w' => w'.cell? ⟨w.heap.size, 0, none⟩ = some (.int .i16 s0) ∧ w'.cell? ⟨w.heap.size, 1, none⟩ = some (.slice A0 l0.length c0) ∧ w'.rangeAt (w.heap.size + 1) 0 (dv d2)) (by kernel_rfl) ⟨(B0_23.cell (i := 0) rfl), (B0_23.cell (i := 1) rfl), (show Dr w22.drew (w.heap.size + 1) 27 d2 from B2_23).range⟩ fun hS23 => ?_
  refine wpAnyH_take (i := 0) (v := .agg #[.int .i16 s0, .slice A0 l0.length c0]) rfl (by kernel_rfl) (by kernel_rfl) (by kernel_rfl) (fun _ _ _ h => h) (Or.inl ⟨by rfl, fun w' h => ?_⟩) hS23 ?_
  · have c0 := h.1
    have c1 := h.2.1
    clear h
    go_simp
  simp only [Act.put, List.setIfInBounds_toArray, List.set_cons_zero, List.set_cons_succ]
  refine wpAnyH_take (i := 4) rfl (by kernel_rfl) (by kernel_rfl) (by kernel_rfl) (fun _ _ _ h => h) (yieldsIf_load_mid (by rfl) _ _ rfl (w.heap.size + 1) 0 rfl (dv d2) _ (fun _ h => h.2.2) Tryd.underlying27 rfl (infoLt d2)) hS23 ?_
  simp only [Act.put, List.setIfInBounds_toArray, List.set_cons_zero, List.set_cons_succ]
  refine wpAnyH_take (i := 2) (v := .slice A1 l1.length c1) rfl (by kernel_rfl) (by kernel_rfl) (by kernel_rfl) (fun _ _ _ h => h) (Or.inl ⟨by rfl, fun w' _ => by go_simp⟩) hS23 ?_
  change wpAnyH _ _ _ _ _ _ _ (Act.put _ (some 103) _) _
  simp only [Act.put, List.setIfInBounds_toArray, List.set_cons_zero, List.set_cons_succ]
  refine wpAnyH_ready (rs := [1]) (by kernel_rfl) (by simp) (AllReadyH.cons rfl ?_ AllReadyH.nil)
  intro K hK
  rw [if_pos (by rfl)]
  go_simp
  refine (toFrame_any s0 A0 c0 l0 _ (hA0.below b23) hn0).mono ?_
  rintro e w24 ⟨g24, rfl, hg24, own24, hb24⟩
  have b24 := step_below hb24 b23
  have B0_24 := B0_23.keep hb24
  have B2_24 := B2_23.keep hb24
  have v6_24 := own_keep v6_23 hb24
  have k22_24 := own_keep k22_23 hb24
  have t24 := step_below hb24 t23
  have gl24 : g24 < w24.heap.size := (own24.lt g24 rfl).2
  have q24_24 := own24
  refine hK.out _ _ ⟨(B0_24.cell (i := 0) rfl), (B0_24.cell (i := 1) rfl), (show Dr w24 (w.heap.size + 1) 27 d2 from B2_24).range⟩ (fun hS24 => ?_)
  clear hK K
  refine wpAnyH_ready (rs := [3]) (by kernel_rfl) (by simp) (AllReadyH.cons rfl ?_ AllReadyH.nil)
  intro K hK
  rw [if_pos (by rfl)]
  go_simp
  refine (toTune_ex A1 c1 l1 _ (hA1.below b24) hn1).mono ?_
  rintro e w25 ⟨g25, rfl, hg25, own25, hb25⟩
  have b25 := step_below hb25 b24
  have B0_25 := B0_24.keep hb25
  have B2_25 := B2_24.keep hb25
  have v6_25 := own_keep v6_24 hb25
  have k22_25 := own_keep k22_24 hb25
  have q24_25 := own_keep q24_24 hb25
  have t25 := step_below hb25 t24
  have gl25 : g25 < w25.heap.size := (own25.lt g25 rfl).2
  have q25_25 := own25
  refine hK.out _ _ ⟨(B0_25.cell (i := 0) rfl), (B0_25.cell (i := 1) rfl), (show Dr w25 (w.heap.size + 1) 27 d2 from B2_25).range⟩ (fun hS25 => ?_)
  clear hK K
  refine wpAnyH_ready (rs := [5]) (by kernel_rfl) (by simp) (AllReadyH.cons rfl ?_ AllReadyH.nil)
  intro K hK
  rw [if_pos (by rfl)]
  go_simp
  refine (toDrum_any d2 _).mono ?_
  rintro e w26 ⟨rfl, hb26⟩
  have b26 := step_below hb26 b25
  have B0_26 := B0_25.keep hb26
  have B2_26 := B2_25.keep hb26
  have v6_26 := own_keep v6_25 hb26
  have k22_26 := own_keep k22_25 hb26
  have q24_26 := own_keep q24_25 hb26
  have q25_26 := own_keep q25_25 hb26
  have t26 := step_below hb26 t25
  refine hK.out _ _ ⟨(B0_26.cell (i := 0) rfl), (B0_26.cell (i := 1) rfl), (show Dr w26 (w.heap.size + 1) 27 d2 from B2_26).range⟩ (fun hS26 => ?_)
  clear hK K
  refine wpAnyH_ready (rs := [6]) (by kernel_rfl) (by simp) (AllReadyH.cons rfl ?_ AllReadyH.nil)
  intro K hK
  rw [if_pos (by rfl)]
  go_simp
  refine (KI _ _ _ (HA.of_own q24_26) (NA.of_own q25_26) (hT.keep b26)).mono ?_
  rintro e w27 ⟨C27, e27, rfl, own27, hb27⟩
  have b27 := step_below hb27 b26
  have B0_27 := B0_26.keep hb27
  have B2_27 := B2_26.keep hb27
  have v6_27 := own_keep v6_26 hb27
  have k22_27 := own_keep k22_26 hb27
  have q24_27 := own_keep q24_26 hb27
  have q25_27 := own_keep q25_26 hb27
  have t27 := step_below hb27 t26
  have r27_27 := own27
  refine hK.out _ _ ⟨(B0_27.cell (i := 0) rfl), (B0_27.cell (i := 1) rfl), (show Dr w27 (w.heap.size + 1) 27 d2 from B2_27).range⟩ (fun hS27 => ?_)
  clear hK K
  refine wpAnyH_take (i := 7) (v := .tuple #[.slice C27 r0.length e27, .int .i64 r1]) rfl (by kernel_rfl) (by kernel_rfl) (by kernel_rfl) (fun _ _ _ h => h) (Or.inl ⟨by rfl, fun w' _ => by go_simp⟩) hS27 ?_
  change wpAnyH _ _ _ _ _ _ _ (Act.put _ (some 100) _) _
  simp only [Act.put, List.setIfInBounds_toArray, List.set_cons_zero, List.set_cons_succ]
  refine wpAnyH_take (i := 8) (v := .slice C27 r0.length e27) rfl (by kernel_rfl) (by kernel_rfl) (by kernel_rfl) (fun _ _ _ h => h) (Or.inl ⟨by rfl, fun w' _ => by go_simp⟩) hS27 ?_
  change wpAnyH _ _ _ _ _ _ _ (Act.put _ (some 108) _) _
  simp only [Act.put, List.setIfInBounds_toArray, List.set_cons_zero, List.set_cons_succ]
  refine wpAnyH_take (i := 9) (v := .int .i64 r1) rfl (by kernel_rfl) (by kernel_rfl) (by kernel_rfl) (fun _ _ _ h => h) (Or.inl ⟨by rfl, fun w' _ => by go_simp⟩) hS27 ?_
  change wpAnyH _ _ _ _ _ _ _ (Act.put _ (some 109) _) _
  simp only [Act.put, List.setIfInBounds_toArray, List.set_cons_zero, List.set_cons_succ]
  refine wpAnyH_take (i := 10) (v := .slice C27 r0.length e27) rfl (by kernel_rfl) (by kernel_rfl) (by kernel_rfl) (fun _ _ _ h => h) (Or.inl ⟨by rfl, fun w' _ => by go_simp⟩) hS27 ?_
  change wpAnyH _ _ _ _ _ _ _ (Act.put _ (some 17) _) _
  simp only [Act.put, List.setIfInBounds_toArray, List.set_cons_zero, List.set_cons_succ]
  refine wpAnyH_take (i := 11) (v := .int .i64 r1) rfl (by kernel_rfl) (by kernel_rfl) (by kernel_rfl) (fun _ _ _ h => h) (Or.inl ⟨by rfl, fun w' _ => by go_simp⟩) hS27 ?_
  change wpAnyH _ _ _ _ _ _ _ (Act.put _ (some 18) _) _
  simp only [Act.put, List.setIfInBounds_toArray, List.set_cons_zero, List.set_cons_succ]
  refine wpAnyH_done (by kernel_rfl) ?_ _
  go_wp2_with fail
  refine (eqInt64S_self _ _ _ _ r0 _ (SI.of_own r27_27) (SI.of_own v6_27) hrl0).mono ?_
  rintro e w28 ⟨rfl, hb28⟩
  have b28 := step_below hb28 b27
  have B0_28 := B0_27.keep hb28
  have B2_28 := B2_27.keep hb28
  have v6_28 := own_keep v6_27 hb28
  have k22_28 := own_keep k22_27 hb28
  have q24_28 := own_keep q24_27 hb28
  have q25_28 := own_keep q25_27 hb28
  have t28 := step_below hb28 t27
  go_wp2_with fail
  refine (heldInt64S_from _ _ r0.length _ (1) _ (mkI_of_own k22_28) hrl0 ⟨by omega, by omega⟩).mono ?_
  rintro e w29' ⟨rfl, rfl⟩
  go_wp2
  go_ret
  exact ⟨rfl, b28⟩
theorem lawTracksOf_any (s0 : Int) (A0 : Option Addr) (c0 : Nat) (l0 : List (Int × Int)) (A1 : Option Addr) (c1 : Nat) (l1 : List (Int × Int)) (d2 : Nat → Int) (w : World) (hA0 : HA w A0 l0) (hwf0 : HWF l0) (hs0 : -32768 ≤ s0 ∧ s0 ≤ 32767) (hA1 : NA w A1 l1) (hwf1 : WF l1) (hd2 : DWF d2) (hT : TabE w) (hm0 : l0.length ≤ maxLen) (hm1 : l1.length ≤ maxLen)  :
    Calls Tryd.prog 5 #[.agg #[.int .i16 s0, .slice A0 l0.length c0], .slice A1 l1.length c1, .agg (da d2)] w (Says true w) := by
  rcases Nat.lt_or_ge 1048576 (l0.length) with h0 | h0
  · exact lawTracksOf_big0 s0 A0 c0 l0 A1 c1 l1 d2 w  h0 hm0 hm1
  rcases Nat.lt_or_ge 1048576 (l0.length + l1.length) with h1 | h1
  · exact lawTracksOf_big1 s0 A0 c0 l0 A1 c1 l1 d2 w h0 h1 hm0 hm1
  exact lawTracksOf_small s0 A0 c0 l0 A1 c1 l1 d2 w hA0 hwf0 hs0 hA1 hwf1 hd2 hT h0 h1 hm0 hm1 
end Go.Proofs.YtehmkablandefaaDoor
