import Derived.Test.YtehmkablandefaaGreatDoorGad
import Derived.Test.YtehmkablandefaaGreatDoorGaf
import Derived.Test.YtehmkablandefaaGreatDoorGag
import Derived.Test.YtehmkablandefaaGreatDoorGan
import Derived.Test.YtehmkablandefaaGreatDoorCai
import Derived.Deep.RegionHeld3
import Derived.Deep.CutRange
namespace Go.Proofs.YtehmkablandefaaGreatDoor
open Go.RowKit

set_option maxRecDepth 20000 in
set_option maxHeartbeats 1000000 in
theorem lawChimeAt_big0 (s0 : Int) (A0 : Option Addr) (c0 : Nat) (l0 : List (Int × Int)) (d1 : Nat → Int) (A2 : Option Addr) (c2 : Nat) (l2 : List (Int × Int)) (o2 : Nat → Int) (x3 : Int) (w : World)  (hbg : 1048576 < l0.length) (hm0 : l0.length ≤ maxLen) (hm2 : l2.length ≤ maxLen) :
    Calls Tryz.prog 4 #[.agg #[.int .i16 s0, .slice A0 l0.length c0], .agg (da d1), .agg (prA A2 l2.length c2 o2), .int .i64 x3] w (Says true w) := by
  obtain ⟨X0, hX0⟩ : ∃ X, X = (((w.alloc (.cells #[.int .i16 s0, .slice A0 l0.length c0] 25)).alloc (.cells (da d1) 27)).alloc (.cells (prA A2 l2.length c2 o2) 32)) := ⟨_, rfl⟩
  have b0 : Below w.heap.size w X0 := by rw [hX0]; exact ((((Below.refl _ _).alloc (Nat.le_refl _) _).alloc (by simp) _).alloc (by simp; omega) _)
  have B0_0 : Bk X0 (w.heap.size) 25 #[.int .i16 s0, .slice A0 l0.length c0] := by rw [hX0]; exact Bk.new _ _ _ rfl |>.old _ |>.old _
  have bw0 : w.heap.size < X0.heap.size := B0_0.lt
  have B1_0 : Bk X0 (w.heap.size + 1) 27 (da d1) := by rw [hX0]; exact Bk.new _ _ _ (by simp) |>.old _
  have bw1 : w.heap.size + 1 < X0.heap.size := B1_0.lt
  have B2_0 : Bk X0 (w.heap.size + 1 + 1) 32 (prA A2 l2.length c2 o2) := by rw [hX0]; exact Bk.new _ _ _ (by simp)
  have bw2 : w.heap.size + 1 + 1 < X0.heap.size := B2_0.lt
  go_enter Tryz.func4, Tryz.ntmps4
  go_upto_region 1 with fail
  rw [← hX0]
  clear hX0
  have pf21_0 := B0_0.cell (i := 0) rfl
  have pf21_1 := B0_0.cell (i := 1) rfl
  go_wp2_with fail
  clear pf21_0 pf21_1
  refine (szFrame_at_big s0 A0 l0.length c0 (1048576) (by omega) (by omega) hm0 (by omega) _).mono ?_
  rintro e w1 ⟨rfl, hb1⟩
  have b1 := step_below hb1 b0
  go_wp2
  go_ret
  exact ⟨rfl, b1⟩
set_option maxRecDepth 20000 in
set_option maxHeartbeats 1000000 in
theorem lawChimeAt_big1 (s0 : Int) (A0 : Option Addr) (c0 : Nat) (l0 : List (Int × Int)) (d1 : Nat → Int) (A2 : Option Addr) (c2 : Nat) (l2 : List (Int × Int)) (o2 : Nat → Int) (x3 : Int) (w : World) (hc0 : l0.length ≤ 1048576) (hbg : 1048576 < l0.length + l2.length) (hm0 : l0.length ≤ maxLen) (hm2 : l2.length ≤ maxLen) :
    Calls Tryz.prog 4 #[.agg #[.int .i16 s0, .slice A0 l0.length c0], .agg (da d1), .agg (prA A2 l2.length c2 o2), .int .i64 x3] w (Says true w) := by
  obtain ⟨X0, hX0⟩ : ∃ X, X = (((w.alloc (.cells #[.int .i16 s0, .slice A0 l0.length c0] 25)).alloc (.cells (da d1) 27)).alloc (.cells (prA A2 l2.length c2 o2) 32)) := ⟨_, rfl⟩
  have b0 : Below w.heap.size w X0 := by rw [hX0]; exact ((((Below.refl _ _).alloc (Nat.le_refl _) _).alloc (by simp) _).alloc (by simp; omega) _)
  have B0_0 : Bk X0 (w.heap.size) 25 #[.int .i16 s0, .slice A0 l0.length c0] := by rw [hX0]; exact Bk.new _ _ _ rfl |>.old _ |>.old _
  have bw0 : w.heap.size < X0.heap.size := B0_0.lt
  have B1_0 : Bk X0 (w.heap.size + 1) 27 (da d1) := by rw [hX0]; exact Bk.new _ _ _ (by simp) |>.old _
  have bw1 : w.heap.size + 1 < X0.heap.size := B1_0.lt
  have B2_0 : Bk X0 (w.heap.size + 1 + 1) 32 (prA A2 l2.length c2 o2) := by rw [hX0]; exact Bk.new _ _ _ (by simp)
  have bw2 : w.heap.size + 1 + 1 < X0.heap.size := B2_0.lt
  go_enter Tryz.func4, Tryz.ntmps4
  go_upto_region 1 with fail
  rw [← hX0]
  clear hX0
  have pf21_0 := B0_0.cell (i := 0) rfl
  have pf21_1 := B0_0.cell (i := 1) rfl
  go_wp2_with fail
  clear pf21_0 pf21_1
  refine (szFrame_at_small s0 A0 l0.length c0 (1048576) (by omega) (by omega) hm0 (by omega) _).mono ?_
  rintro e w1 ⟨rfl, hb1⟩
  have b1 := step_below hb1 b0
  have B0_1 := B0_0.keep hb1
  have B1_1 := B1_0.keep hb1
  have B2_1 := B2_0.keep hb1
  go_wp2_with (first | (with_reducible refine wpList_load_pr rfl 32 (.tmp 6) rfl (w.heap.size + 1 + 1) 0 rfl _ _ _ _ _ B2_1.range49 Tryz.underlying32 rfl (pInfoL _ _ _ _) ?_))
  refine (szProgramme_big A2 l2.length c2 o2 (1048576 - (l0.length : Int)) (by omega) (by omega) hm2 (by omega) _).mono ?_
  rintro e w2 ⟨rfl, hb2⟩
  have b2 := step_below hb2 b1
  go_wp2
  go_ret
  exact ⟨rfl, b2⟩
set_option maxRecDepth 20000 in
set_option maxHeartbeats 16000000 in
theorem lawChimeAt_small (s0 : Int) (A0 : Option Addr) (c0 : Nat) (l0 : List (Int × Int)) (d1 : Nat → Int) (A2 : Option Addr) (c2 : Nat) (l2 : List (Int × Int)) (o2 : Nat → Int) (x3 : Int) (w : World) (hA0 : HA w A0 l0) (hwf0 : HWF l0) (hs0 : -32768 ≤ s0 ∧ s0 ≤ 32767) (hd1 : DWF d1) (hA2 : SecA w A2 l2) (hswf2 : SWF l2) (howf2 : OWF o2) (hT : TabW w) (hc0 : l0.length ≤ 1048576) (hc1 : l0.length + l2.length ≤ 1048576) (hm0 : l0.length ≤ maxLen) (hm2 : l2.length ≤ maxLen) :
    Calls Tryz.prog 4 #[.agg #[.int .i16 s0, .slice A0 l0.length c0], .agg (da d1), .agg (prA A2 l2.length c2 o2), .int .i64 x3] w (Says true w) := by
  have hn0 : l0.length ≤ 1048576 := by omega
  have hn2 : l2.length ≤ 1048576 := by omega
  obtain ⟨r0, hr0⟩ : ∃ r : List (Int × Int), r = caV s0 l0 d1 l2 o2 x3 := ⟨_, rfl⟩
  obtain ⟨r1, hr1⟩ : ∃ r : Int, r = caC s0 l0 d1 l2 o2 x3 := ⟨_, rfl⟩
  have hrl0 : r0.length ≤ 1048576 := by rw [hr0]; exact caV_len _ _ _ _ _ _
  have KS : ∀ (E0 : Option Addr) (E2 : Option Addr) (W : World), HA W E0 l0 → SecA W E2 l2 → TabW W → Calls Tryz.prog 20 #[.agg #[.int .i16 s0, .slice E0 l0.length l0.length], .agg (da d1), .agg (prA E2 l2.length l2.length o2), .int .i64 x3] W (fun e w' => ∃ (C : Option Addr) (q : Nat), e = .returned (.tuple #[.slice C r0.length q, .int .i64 r1]) ∧ w'.ownsRow W.heap.size 83 2 (.slice C r0.length q) r0.length (cellsOf r0) ∧ Below W.heap.size W w') := fun E0 E2 W h0 h2 hT' => by rw [hr0, hr1]; exact specChimeAt_any s0 E0 l0.length l0 d1 E2 l2.length l2 o2 x3 W h0 hn0 hwf0 hs0 hd1 h2 hn2 hswf2 howf2 
  have KI : ∀ (E0 : Option Addr) (E2 : Option Addr) (W : World), HA W E0 l0 → SecA W E2 l2 → TabW W → Calls Tryz.prog 21 #[.agg #[.int .i16 s0, .slice E0 l0.length l0.length], .agg (da d1), .agg (prA E2 l2.length l2.length o2), .int .i64 x3] W (fun e w' => ∃ (C : Option Addr) (q : Nat), e = .returned (.tuple #[.slice C r0.length q, .int .i64 r1]) ∧ w'.ownsRow W.heap.size 83 2 (.slice C r0.length q) r0.length (cellsOf r0) ∧ Below W.heap.size W w') := fun E0 E2 W h0 h2 hT' => by rw [hr0, hr1]; exact implChimeAt_any s0 E0 l0.length l0 d1 E2 l2.length l2 o2 x3 W h0 hn0 hwf0 hs0 hd1 h2 hn2 hswf2 howf2  hT'
  clear hr0 hr1
  obtain ⟨X0, hX0⟩ : ∃ X, X = (((w.alloc (.cells #[.int .i16 s0, .slice A0 l0.length c0] 25)).alloc (.cells (da d1) 27)).alloc (.cells (prA A2 l2.length c2 o2) 32)) := ⟨_, rfl⟩
  have b0 : Below w.heap.size w X0 := by rw [hX0]; exact ((((Below.refl _ _).alloc (Nat.le_refl _) _).alloc (by simp) _).alloc (by simp; omega) _)
  have B0_0 : Bk X0 (w.heap.size) 25 #[.int .i16 s0, .slice A0 l0.length c0] := by rw [hX0]; exact Bk.new _ _ _ rfl |>.old _ |>.old _
  have bw0 : w.heap.size < X0.heap.size := B0_0.lt
  have B1_0 : Bk X0 (w.heap.size + 1) 27 (da d1) := by rw [hX0]; exact Bk.new _ _ _ (by simp) |>.old _
  have bw1 : w.heap.size + 1 < X0.heap.size := B1_0.lt
  have B2_0 : Bk X0 (w.heap.size + 1 + 1) 32 (prA A2 l2.length c2 o2) := by rw [hX0]; exact Bk.new _ _ _ (by simp)
  have bw2 : w.heap.size + 1 + 1 < X0.heap.size := B2_0.lt
  go_enter Tryz.func4, Tryz.ntmps4
  go_upto_region 1 with fail
  rw [← hX0]
  clear hX0
  have pf21_0 := B0_0.cell (i := 0) rfl
  have pf21_1 := B0_0.cell (i := 1) rfl
  go_wp2_with fail
  clear pf21_0 pf21_1
  refine (szFrame_at_small s0 A0 l0.length c0 (1048576) (by omega) (by omega) hm0 (by omega) _).mono ?_
  rintro e w1 ⟨rfl, hb1⟩
  have b1 := step_below hb1 b0
  have B0_1 := B0_0.keep hb1
  have B1_1 := B1_0.keep hb1
  have B2_1 := B2_0.keep hb1
  go_wp2_with (first | (with_reducible refine wpList_load_pr rfl 32 (.tmp 6) rfl (w.heap.size + 1 + 1) 0 rfl _ _ _ _ _ B2_1.range49 Tryz.underlying32 rfl (pInfoL _ _ _ _) ?_))
  refine (szProgramme_small A2 l2.length c2 o2 (1048576 - (l0.length : Int)) (by omega) (by omega) hm2 (by omega) _).mono ?_
  rintro e w2 ⟨rfl, hb2⟩
  have b2 := step_below hb2 b1
  have B0_2 := B0_1.keep hb2
  have B1_2 := B1_1.keep hb2
  have B2_2 := B2_1.keep hb2
  go_wp2_with fail
  have hb3 : Below w2.heap.size w2 w2.drew := (Below.refl _ _).drew
  have b3 := step_below hb3 b2
  have B0_3 := B0_2.keep hb3
  have B1_3 := B1_2.keep hb3
  have B2_3 := B2_2.keep hb3
  refine wp_region_held_drew (S := fun w' => w'.cell? ⟨w.heap.size, 0, none⟩ = some (.int .i16 s0) ∧ w'.cell? ⟨w.heap.size, 1, none⟩ = some (.slice A0 l0.length c0) ∧ w'.rangeAt (w.heap.size + 1) 0 (dv d1) ∧ w'.rangeAt (w.heap.size + 1 + 1) 0 (prL A2 l2.length c2 o2)) (by kernel_rfl) ⟨(B0_3.cell (i := 0) rfl), (B0_3.cell (i := 1) rfl), (show Dr w2.drew (w.heap.size + 1) 27 d1 from B1_3).range, B2_3.range49⟩ fun hS3 => ?_
  refine wpAnyH_take (i := 0) (v := .agg #[.int .i16 s0, .slice A0 l0.length c0]) rfl (by kernel_rfl) (by kernel_rfl) (by kernel_rfl) (fun _ _ _ h => h) (Or.inl ⟨by rfl, fun w' h => ?_⟩) hS3 ?_
  · have c0 := h.1
    have c1 := h.2.1
    clear h
    go_simp
  simp only [Act.put, List.setIfInBounds_toArray, List.set_cons_zero, List.set_cons_succ]
  refine wpAnyH_take (i := 2) rfl (by kernel_rfl) (by kernel_rfl) (by kernel_rfl) (fun _ _ _ h => h) (yieldsIf_load_mid (by rfl) _ _ rfl (w.heap.size + 1) 0 rfl (dv d1) _ (fun _ h => h.2.2.1) Tryz.underlying27 rfl (infoLt d1)) hS3 ?_
  simp only [Act.put, List.setIfInBounds_toArray, List.set_cons_zero, List.set_cons_succ]
  refine wpAnyH_take (i := 4) rfl (by kernel_rfl) (by kernel_rfl) (by kernel_rfl) (fun _ _ _ h => h) (yieldsIf_load_pr (by rfl) _ _ rfl (w.heap.size + 1 + 1) 0 rfl (prL A2 l2.length c2 o2) _ (fun _ h => h.2.2.2) Tryz.underlying32 rfl (pInfoL _ _ _ _)) hS3 ?_
  simp only [Act.put, List.setIfInBounds_toArray, List.set_cons_zero, List.set_cons_succ]
  refine wpAnyH_take (i := 6) (v := .int .i64 x3) rfl (by kernel_rfl) (by kernel_rfl) (by kernel_rfl) (fun _ _ _ h => h) (Or.inl ⟨by rfl, fun w' _ => by go_simp⟩) hS3 ?_
  change wpAnyH _ _ _ _ _ _ _ (Act.put _ (some 38) _) _
  simp only [Act.put, List.setIfInBounds_toArray, List.set_cons_zero, List.set_cons_succ]
  refine wpAnyH_ready (rs := [1]) (by kernel_rfl) (by simp) (AllReadyH.cons rfl ?_ AllReadyH.nil)
  intro K hK
  rw [if_pos (by rfl)]
  go_simp
  refine (toFrame_any s0 A0 c0 l0 _ (hA0.below b3) hn0).mono ?_
  rintro e w4 ⟨g4, rfl, hg4, own4, hb4⟩
  have b4 := step_below hb4 b3
  have B0_4 := B0_3.keep hb4
  have B1_4 := B1_3.keep hb4
  have B2_4 := B2_3.keep hb4
  have gl4 : g4 < w4.heap.size := (own4.lt g4 rfl).2
  have q4_4 := own4
  refine hK.out _ _ ⟨(B0_4.cell (i := 0) rfl), (B0_4.cell (i := 1) rfl), (show Dr w4 (w.heap.size + 1) 27 d1 from B1_4).range, B2_4.range49⟩ (fun hS4 => ?_)
  clear hK K
  refine wpAnyH_ready (rs := [3]) (by kernel_rfl) (by simp) (AllReadyH.cons rfl ?_ AllReadyH.nil)
  intro K hK
  rw [if_pos (by rfl)]
  go_simp
  refine (toDrum_any d1 _).mono ?_
  rintro e w5 ⟨rfl, hb5⟩
  have b5 := step_below hb5 b4
  have B0_5 := B0_4.keep hb5
  have B1_5 := B1_4.keep hb5
  have B2_5 := B2_4.keep hb5
  have q4_5 := own_keep q4_4 hb5
  refine hK.out _ _ ⟨(B0_5.cell (i := 0) rfl), (B0_5.cell (i := 1) rfl), (show Dr w5 (w.heap.size + 1) 27 d1 from B1_5).range, B2_5.range49⟩ (fun hS5 => ?_)
  clear hK K
  refine wpAnyH_ready (rs := [5]) (by kernel_rfl) (by simp) (AllReadyH.cons rfl ?_ AllReadyH.nil)
  intro K hK
  rw [if_pos (by rfl)]
  go_simp
  refine (toProgramme_any A2 c2 l2 o2 _ (hA2.below b5) hn2).mono ?_
  rintro e w6 ⟨g6, rfl, hg6, own6, hb6⟩
  have b6 := step_below hb6 b5
  have B0_6 := B0_5.keep hb6
  have B1_6 := B1_5.keep hb6
  have B2_6 := B2_5.keep hb6
  have q4_6 := own_keep q4_5 hb6
  have gl6 : g6 < w6.heap.size := (own6.lt g6 rfl).2
  have q6_6 := own6
  refine hK.out _ _ ⟨(B0_6.cell (i := 0) rfl), (B0_6.cell (i := 1) rfl), (show Dr w6 (w.heap.size + 1) 27 d1 from B1_6).range, B2_6.range49⟩ (fun hS6 => ?_)
  clear hK K
  refine wpAnyH_ready (rs := [7]) (by kernel_rfl) (by simp) (AllReadyH.cons rfl ?_ AllReadyH.nil)
  intro K hK
  rw [if_pos (by rfl)]
  go_simp
  refine (KS _ _ _ (HA.of_own q4_6) (SecA.of_own q6_6) (hT.keep b6)).mono ?_
  rintro e w7 ⟨C7, e7, rfl, own7, hb7⟩
  have b7 := step_below hb7 b6
  have B0_7 := B0_6.keep hb7
  have B1_7 := B1_6.keep hb7
  have B2_7 := B2_6.keep hb7
  have v7_7 := own7
  have t7 : Below w7.heap.size w7 w7 := Below.refl _ _
  refine hK.out _ _ ⟨(B0_7.cell (i := 0) rfl), (B0_7.cell (i := 1) rfl), (show Dr w7 (w.heap.size + 1) 27 d1 from B1_7).range, B2_7.range49⟩ (fun hS7 => ?_)
  clear hK K
  refine wpAnyH_take (i := 8) (v := .tuple #[.slice C7 r0.length e7, .int .i64 r1]) rfl (by kernel_rfl) (by kernel_rfl) (by kernel_rfl) (fun _ _ _ h => h) (Or.inl ⟨by rfl, fun w' _ => by go_simp⟩) hS7 ?_
  change wpAnyH _ _ _ _ _ _ _ (Act.put _ (some 31) _) _
  simp only [Act.put, List.setIfInBounds_toArray, List.set_cons_zero, List.set_cons_succ]
  refine wpAnyH_take (i := 9) (v := .slice C7 r0.length e7) rfl (by kernel_rfl) (by kernel_rfl) (by kernel_rfl) (fun _ _ _ h => h) (Or.inl ⟨by rfl, fun w' _ => by go_simp⟩) hS7 ?_
  change wpAnyH _ _ _ _ _ _ _ (Act.put _ (some 40) _) _
  simp only [Act.put, List.setIfInBounds_toArray, List.set_cons_zero, List.set_cons_succ]
  refine wpAnyH_take (i := 10) (v := .int .i64 r1) rfl (by kernel_rfl) (by kernel_rfl) (by kernel_rfl) (fun _ _ _ h => h) (Or.inl ⟨by rfl, fun w' _ => by go_simp⟩) hS7 ?_
  change wpAnyH _ _ _ _ _ _ _ (Act.put _ (some 41) _) _
  simp only [Act.put, List.setIfInBounds_toArray, List.set_cons_zero, List.set_cons_succ]
  refine wpAnyH_take (i := 11) (v := .slice C7 r0.length e7) rfl (by kernel_rfl) (by kernel_rfl) (by kernel_rfl) (fun _ _ _ h => h) (Or.inl ⟨by rfl, fun w' _ => by go_simp⟩) hS7 ?_
  change wpAnyH _ _ _ _ _ _ _ (Act.put _ (some 10) _) _
  simp only [Act.put, List.setIfInBounds_toArray, List.set_cons_zero, List.set_cons_succ]
  refine wpAnyH_take (i := 12) (v := .int .i64 r1) rfl (by kernel_rfl) (by kernel_rfl) (by kernel_rfl) (fun _ _ _ h => h) (Or.inl ⟨by rfl, fun w' _ => by go_simp⟩) hS7 ?_
  change wpAnyH _ _ _ _ _ _ _ (Act.put _ (some 11) _) _
  simp only [Act.put, List.setIfInBounds_toArray, List.set_cons_zero, List.set_cons_succ]
  refine wpAnyH_done (by kernel_rfl) ?_ _
  have pf42_0 := B0_7.cell (i := 0) rfl
  have pf42_1 := B0_7.cell (i := 1) rfl
  go_wp2_with fail
  clear pf42_0 pf42_1
  refine (toFrame_any s0 A0 c0 l0 _ (hA0.below b7) hn0).mono ?_
  rintro e w8 ⟨g8, rfl, hg8, own8, hb8⟩
  have b8 := step_below hb8 b7
  have B0_8 := B0_7.keep hb8
  have B1_8 := B1_7.keep hb8
  have B2_8 := B2_7.keep hb8
  have v7_8 := own_keep v7_7 hb8
  have t8 := step_below hb8 t7
  have gl8 : g8 < w8.heap.size := (own8.lt g8 rfl).2
  have q8_8 := own8
  go_upto_region 10 with fail
  obtain ⟨w9, hX9⟩ : ∃ X, X = w8.alloc (.cells #[.int .i16 s0, .slice (some ⟨g8, 0, none⟩) l0.length l0.length] 41) := ⟨_, rfl⟩
  have hb9 : Below w8.heap.size w8 w9 := by rw [hX9]; exact (Below.refl _ _).alloc (Nat.le_refl _) _
  have K9 : Bk w9 w8.heap.size 41 #[.int .i16 s0, .slice (some ⟨g8, 0, none⟩) l0.length l0.length] := by rw [hX9]; exact Bk.new _ _ _ rfl
  rw [← hX9]
  clear hX9
  have b9 := step_below hb9 b8
  have B0_9 := B0_8.keep hb9
  have B1_9 := B1_8.keep hb9
  have B2_9 := B2_8.keep hb9
  have v7_9 := own_keep v7_8 hb9
  have q8_9 := own_keep q8_8 hb9
  have t9 := step_below hb9 t8
  have Y0_9 := K9
  have yw0 : w8.heap.size < w9.heap.size := K9.lt
  go_wp2_with (first | (with_reducible refine wpList_load_pr rfl 32 (.tmp 6) rfl (w.heap.size + 1 + 1) 0 rfl _ _ _ _ _ B2_9.range49 Tryz.underlying32 rfl (pInfoL _ _ _ _) ?_))
  refine (toProgramme_any A2 c2 l2 o2 _ (hA2.below b9) hn2).mono ?_
  rintro e w10 ⟨g10, rfl, hg10, own10, hb10⟩
  have b10 := step_below hb10 b9
  have B0_10 := B0_9.keep hb10
  have B1_10 := B1_9.keep hb10
  have B2_10 := B2_9.keep hb10
  have Y0_10 := Y0_9.keep hb10
  have v7_10 := own_keep v7_9 hb10
  have q8_10 := own_keep q8_9 hb10
  have t10 := step_below hb10 t9
  have gl10 : g10 < w10.heap.size := (own10.lt g10 rfl).2
  have q10_10 := own10
  have hz := zeroPrg
  go_upto_region 11 with (with_reducible refine wpList_store_newG rfl 47 (.tmp 13) (.tmp 45) rfl (prA (some ⟨g10, 0, none⟩) l2.length l2.length o2) rfl rfl 47 _ (pInfo _ _ _ _) (by rw [zp_eq, prA_size, prA_size]) (prA_one _ _ _ _) ?_)
  clear hz
  obtain ⟨w11, hX11⟩ : ∃ X, X = w10.alloc (.cells (prA (some ⟨g10, 0, none⟩) l2.length l2.length o2) 47) := ⟨_, rfl⟩
  have hb11 : Below w10.heap.size w10 w11 := by rw [hX11]; exact (Below.refl _ _).alloc (Nat.le_refl _) _
  have K11 : Bk w11 w10.heap.size 47 (prA (some ⟨g10, 0, none⟩) l2.length l2.length o2) := by rw [hX11]; exact Bk.new _ _ _ rfl
  rw [← hX11]
  clear hX11
  have b11 := step_below hb11 b10
  have B0_11 := B0_10.keep hb11
  have B1_11 := B1_10.keep hb11
  have B2_11 := B2_10.keep hb11
  have Y0_11 := Y0_10.keep hb11
  have v7_11 := own_keep v7_10 hb11
  have q8_11 := own_keep q8_10 hb11
  have q10_11 := own_keep q10_10 hb11
  have t11 := step_below hb11 t10
  have Y2_11 := K11
  have yw2 : w10.heap.size < w11.heap.size := K11.lt
  go_wp2_with fail
  have hb12 : Below w11.heap.size w11 w11.drew := (Below.refl _ _).drew
  have b12 := step_below hb12 b11
  have B0_12 := B0_11.keep hb12
  have B1_12 := B1_11.keep hb12
  have B2_12 := B2_11.keep hb12
  have Y0_12 := Y0_11.keep hb12
  have Y2_12 := Y2_11.keep hb12
  have v7_12 := own_keep v7_11 hb12
  have q8_12 := own_keep q8_11 hb12
  have q10_12 := own_keep q10_11 hb12
  have t12 := step_below hb12 t11
  refine wp_region_held_drew (S := fun w' => w'.cell? ⟨w8.heap.size, 0, none⟩ = some (.int .i16 s0) ∧ w'.cell? ⟨w8.heap.size, 1, none⟩ = some (.slice (some ⟨g8, 0, none⟩) l0.length l0.length) ∧ w'.rangeAt (w.heap.size + 1) 0 (dv d1) ∧ w'.rangeAt (w10.heap.size) 0 (prL (some ⟨g10, 0, none⟩) l2.length l2.length o2)) (by kernel_rfl) ⟨(Y0_12.cell (i := 0) rfl), (Y0_12.cell (i := 1) rfl), (show Dr w11.drew (w.heap.size + 1) 27 d1 from B1_12).range, Y2_12.range49⟩ fun hS12 => ?_
  refine wpAnyH_take (i := 0) (v := .agg #[.int .i16 s0, .slice (some ⟨g8, 0, none⟩) l0.length l0.length]) rfl (by kernel_rfl) (by kernel_rfl) (by kernel_rfl) (fun _ _ _ h => h) (Or.inl ⟨by rfl, fun w' h => ?_⟩) hS12 ?_
  · have c0 := h.1
    have c1 := h.2.1
    clear h
    go_simp
  simp only [Act.put, List.setIfInBounds_toArray, List.set_cons_zero, List.set_cons_succ]
  refine wpAnyH_take (i := 1) rfl (by kernel_rfl) (by kernel_rfl) (by kernel_rfl) (fun _ _ _ h => h) (yieldsIf_load_mid (by rfl) _ _ rfl (w.heap.size + 1) 0 rfl (dv d1) _ (fun _ h => h.2.2.1) Tryz.underlying27 rfl (infoLt d1)) hS12 ?_
  simp only [Act.put, List.setIfInBounds_toArray, List.set_cons_zero, List.set_cons_succ]
  refine wpAnyH_take (i := 3) rfl (by kernel_rfl) (by kernel_rfl) (by kernel_rfl) (fun _ _ _ h => h) (yieldsIf_load_pr (by rfl) _ _ rfl (w10.heap.size) 0 rfl (prL (some ⟨g10, 0, none⟩) l2.length l2.length o2) _ (fun _ h => h.2.2.2) Tryz.underlying47 rfl (pInfo _ _ _ _)) hS12 ?_
  simp only [Act.put, List.setIfInBounds_toArray, List.set_cons_zero, List.set_cons_succ]
  refine wpAnyH_take (i := 4) (v := .int .i64 x3) rfl (by kernel_rfl) (by kernel_rfl) (by kernel_rfl) (fun _ _ _ h => h) (Or.inl ⟨by rfl, fun w' _ => by go_simp⟩) hS12 ?_
  change wpAnyH _ _ _ _ _ _ _ (Act.put _ (some 51) _) _
  simp only [Act.put, List.setIfInBounds_toArray, List.set_cons_zero, List.set_cons_succ]
  refine wpAnyH_ready (rs := [2]) (by kernel_rfl) (by simp) (AllReadyH.cons rfl ?_ AllReadyH.nil)
  intro K hK
  rw [if_pos (by rfl)]
  go_simp
  refine (toDrum_any d1 _).mono ?_
  rintro e w13 ⟨rfl, hb13⟩
  have b13 := step_below hb13 b12
  have B0_13 := B0_12.keep hb13
  have B1_13 := B1_12.keep hb13
  have B2_13 := B2_12.keep hb13
  have Y0_13 := Y0_12.keep hb13
  have Y2_13 := Y2_12.keep hb13
  have v7_13 := own_keep v7_12 hb13
  have q8_13 := own_keep q8_12 hb13
  have q10_13 := own_keep q10_12 hb13
  have t13 := step_below hb13 t12
  refine hK.out _ _ ⟨(Y0_13.cell (i := 0) rfl), (Y0_13.cell (i := 1) rfl), (show Dr w13 (w.heap.size + 1) 27 d1 from B1_13).range, Y2_13.range49⟩ (fun hS13 => ?_)
  clear hK K
  refine wpAnyH_ready (rs := [5]) (by kernel_rfl) (by simp) (AllReadyH.cons rfl ?_ AllReadyH.nil)
  intro K hK
  rw [if_pos (by rfl)]
  go_simp
  refine (KI _ _ _ (HA.of_own q8_13) (SecA.of_own q10_13) (hT.keep b13)).mono ?_
  rintro e w14 ⟨C14, e14, rfl, own14, hb14⟩
  have b14 := step_below hb14 b13
  have B0_14 := B0_13.keep hb14
  have B1_14 := B1_13.keep hb14
  have B2_14 := B2_13.keep hb14
  have Y0_14 := Y0_13.keep hb14
  have Y2_14 := Y2_13.keep hb14
  have v7_14 := own_keep v7_13 hb14
  have q8_14 := own_keep q8_13 hb14
  have q10_14 := own_keep q10_13 hb14
  have t14 := step_below hb14 t13
  have r14_14 := own14
  refine hK.out _ _ ⟨(Y0_14.cell (i := 0) rfl), (Y0_14.cell (i := 1) rfl), (show Dr w14 (w.heap.size + 1) 27 d1 from B1_14).range, Y2_14.range49⟩ (fun hS14 => ?_)
  clear hK K
  refine wpAnyH_take (i := 6) (v := .tuple #[.slice C14 r0.length e14, .int .i64 r1]) rfl (by kernel_rfl) (by kernel_rfl) (by kernel_rfl) (fun _ _ _ h => h) (Or.inl ⟨by rfl, fun w' _ => by go_simp⟩) hS14 ?_
  change wpAnyH _ _ _ _ _ _ _ (Act.put _ (some 46) _) _
  simp only [Act.put, List.setIfInBounds_toArray, List.set_cons_zero, List.set_cons_succ]
  refine wpAnyH_take (i := 7) (v := .slice C14 r0.length e14) rfl (by kernel_rfl) (by kernel_rfl) (by kernel_rfl) (fun _ _ _ h => h) (Or.inl ⟨by rfl, fun w' _ => by go_simp⟩) hS14 ?_
  change wpAnyH _ _ _ _ _ _ _ (Act.put _ (some 53) _) _
  simp only [Act.put, List.setIfInBounds_toArray, List.set_cons_zero, List.set_cons_succ]
  refine wpAnyH_take (i := 8) (v := .int .i64 r1) rfl (by kernel_rfl) (by kernel_rfl) (by kernel_rfl) (fun _ _ _ h => h) (Or.inl ⟨by rfl, fun w' _ => by go_simp⟩) hS14 ?_
  change wpAnyH _ _ _ _ _ _ _ (Act.put _ (some 54) _) _
  simp only [Act.put, List.setIfInBounds_toArray, List.set_cons_zero, List.set_cons_succ]
  refine wpAnyH_take (i := 9) (v := .slice C14 r0.length e14) rfl (by kernel_rfl) (by kernel_rfl) (by kernel_rfl) (fun _ _ _ h => h) (Or.inl ⟨by rfl, fun w' _ => by go_simp⟩) hS14 ?_
  change wpAnyH _ _ _ _ _ _ _ (Act.put _ (some 14) _) _
  simp only [Act.put, List.setIfInBounds_toArray, List.set_cons_zero, List.set_cons_succ]
  refine wpAnyH_take (i := 10) (v := .int .i64 r1) rfl (by kernel_rfl) (by kernel_rfl) (by kernel_rfl) (fun _ _ _ h => h) (Or.inl ⟨by rfl, fun w' _ => by go_simp⟩) hS14 ?_
  change wpAnyH _ _ _ _ _ _ _ (Act.put _ (some 15) _) _
  simp only [Act.put, List.setIfInBounds_toArray, List.set_cons_zero, List.set_cons_succ]
  refine wpAnyH_done (by kernel_rfl) ?_ _
  go_wp2_with fail
  refine (eqTune_self _ _ _ _ r0 _ (NA.of_own r14_14) (NA.of_own v7_14) hrl0).mono ?_
  rintro e w15 ⟨rfl, hb15⟩
  have b15 := step_below hb15 b14
  have B0_15 := B0_14.keep hb15
  have B1_15 := B1_14.keep hb15
  have B2_15 := B2_14.keep hb15
  have Y0_15 := Y0_14.keep hb15
  have Y2_15 := Y2_14.keep hb15
  have v7_15 := own_keep v7_14 hb15
  have q8_15 := own_keep q8_14 hb15
  have q10_15 := own_keep q10_14 hb15
  have r14_15 := own_keep r14_14 hb15
  have t15 := step_below hb15 t14
  go_wp2_with fail
  have hb16 : Below w15.heap.size w15 w15.drew := (Below.refl _ _).drew
  have b16 := step_below hb16 b15
  have B0_16 := B0_15.keep hb16
  have B1_16 := B1_15.keep hb16
  have B2_16 := B2_15.keep hb16
  have Y0_16 := Y0_15.keep hb16
  have Y2_16 := Y2_15.keep hb16
  have v7_16 := own_keep v7_15 hb16
  have q8_16 := own_keep q8_15 hb16
  have q10_16 := own_keep q10_15 hb16
  have r14_16 := own_keep r14_15 hb16
  have t16 := step_below hb16 t15
  refine wp_region_held_drew (S := fun w' => w'.cell? ⟨w8.heap.size, 0, none⟩ = some (.int .i16 s0) ∧ w'.cell? ⟨w8.heap.size, 1, none⟩ = some (.slice (some ⟨g8, 0, none⟩) l0.length l0.length) ∧ w'.cell? ⟨w.heap.size, 0, none⟩ = some (.int .i16 s0) ∧ w'.cell? ⟨w.heap.size, 1, none⟩ = some (.slice A0 l0.length c0)) (by kernel_rfl) ⟨(Y0_16.cell (i := 0) rfl), (Y0_16.cell (i := 1) rfl), (B0_16.cell (i := 0) rfl), (B0_16.cell (i := 1) rfl)⟩ fun hS16 => ?_
  refine wpAnyH_take (i := 0) (v := .agg #[.int .i16 s0, .slice (some ⟨g8, 0, none⟩) l0.length l0.length]) rfl (by kernel_rfl) (by kernel_rfl) (by kernel_rfl) (fun _ _ _ h => h) (Or.inl ⟨by rfl, fun w' h => ?_⟩) hS16 ?_
  · have c0 := h.1
    have c1 := h.2.1
    clear h
    go_simp
  simp only [Act.put, List.setIfInBounds_toArray, List.set_cons_zero, List.set_cons_succ]
  refine wpAnyH_take (i := 1) (v := .agg #[.int .i16 s0, .slice A0 l0.length c0]) rfl (by kernel_rfl) (by kernel_rfl) (by kernel_rfl) (fun _ _ _ h => h) (Or.inl ⟨by rfl, fun w' h => ?_⟩) hS16 ?_
  · have c0 := h.2.2.1
    have c1 := h.2.2.2
    clear h
    go_simp
  simp only [Act.put, List.setIfInBounds_toArray, List.set_cons_zero, List.set_cons_succ]
  refine wpAnyH_ready (rs := [2]) (by kernel_rfl) (by simp) (AllReadyH.cons rfl ?_ AllReadyH.nil)
  intro K hK
  rw [if_pos (by rfl)]
  go_simp
  refine (toFrame_any s0 A0 c0 l0 _ (hA0.below b16) hn0).mono ?_
  rintro e w17 ⟨g17, rfl, hg17, own17, hb17⟩
  have b17 := step_below hb17 b16
  have B0_17 := B0_16.keep hb17
  have B1_17 := B1_16.keep hb17
  have B2_17 := B2_16.keep hb17
  have Y0_17 := Y0_16.keep hb17
  have Y2_17 := Y2_16.keep hb17
  have v7_17 := own_keep v7_16 hb17
  have q8_17 := own_keep q8_16 hb17
  have q10_17 := own_keep q10_16 hb17
  have r14_17 := own_keep r14_16 hb17
  have t17 := step_below hb17 t16
  have gl17 : g17 < w17.heap.size := (own17.lt g17 rfl).2
  have q17_17 := own17
  refine hK.out _ _ ⟨(Y0_17.cell (i := 0) rfl), (Y0_17.cell (i := 1) rfl), (B0_17.cell (i := 0) rfl), (B0_17.cell (i := 1) rfl)⟩ (fun hS17 => ?_)
  clear hK K
  refine wpAnyH_ready (rs := [3]) (by kernel_rfl) (by simp) (AllReadyH.cons rfl ?_ AllReadyH.nil)
  intro K hK
  rw [if_pos (by rfl)]
  go_simp
  refine (eqFrame_any s0 _ _ _ _ l0 _ (HA.of_own q8_17) (HA.of_own q17_17) hn0).mono ?_
  rintro e w18 ⟨rfl, hb18⟩
  have b18 := step_below hb18 b17
  have B0_18 := B0_17.keep hb18
  have B1_18 := B1_17.keep hb18
  have B2_18 := B2_17.keep hb18
  have Y0_18 := Y0_17.keep hb18
  have Y2_18 := Y2_17.keep hb18
  have v7_18 := own_keep v7_17 hb18
  have q8_18 := own_keep q8_17 hb18
  have q10_18 := own_keep q10_17 hb18
  have r14_18 := own_keep r14_17 hb18
  have t18 := step_below hb18 t17
  refine hK.out _ _ ⟨(Y0_18.cell (i := 0) rfl), (Y0_18.cell (i := 1) rfl), (B0_18.cell (i := 0) rfl), (B0_18.cell (i := 1) rfl)⟩ (fun hS18 => ?_)
  clear hK K
  refine wpAnyH_take (i := 4) (v := .bool false) rfl (by kernel_rfl) (by kernel_rfl) (by kernel_rfl) (fun _ _ _ h => h) (Or.inl ⟨by rfl, fun w' _ => by go_simp⟩) hS18 ?_
  change wpAnyH _ _ _ _ _ _ _ (Act.put _ (some 68) _) _
  simp only [Act.put, List.setIfInBounds_toArray, List.set_cons_zero, List.set_cons_succ]
  refine wpAnyH_done (by kernel_rfl) ?_ _
  go_wp2_with fail
  have hb19 : Below w18.heap.size w18 w18.drew := (Below.refl _ _).drew
  have b19 := step_below hb19 b18
  have B0_19 := B0_18.keep hb19
  have B1_19 := B1_18.keep hb19
  have B2_19 := B2_18.keep hb19
  have Y0_19 := Y0_18.keep hb19
  have Y2_19 := Y2_18.keep hb19
  have v7_19 := own_keep v7_18 hb19
  have q8_19 := own_keep q8_18 hb19
  have q10_19 := own_keep q10_18 hb19
  have r14_19 := own_keep r14_18 hb19
  have t19 := step_below hb19 t18
  refine wp_region_held_drew (S := fun w' => w'.rangeAt (w10.heap.size) 0 (prL (some ⟨g10, 0, none⟩) l2.length l2.length o2) ∧ w'.rangeAt (w.heap.size + 1 + 1) 0 (prL A2 l2.length c2 o2)) (by kernel_rfl) ⟨Y2_19.range49, B2_19.range49⟩ fun hS19 => ?_
  refine wpAnyH_take (i := 0) rfl (by kernel_rfl) (by kernel_rfl) (by kernel_rfl) (fun _ _ _ h => h) (yieldsIf_load_pr (by rfl) _ _ rfl (w10.heap.size) 0 rfl (prL (some ⟨g10, 0, none⟩) l2.length l2.length o2) _ (fun _ h => h.1) Tryz.underlying47 rfl (pInfo _ _ _ _)) hS19 ?_
  simp only [Act.put, List.setIfInBounds_toArray, List.set_cons_zero, List.set_cons_succ]
  refine wpAnyH_take (i := 1) rfl (by kernel_rfl) (by kernel_rfl) (by kernel_rfl) (fun _ _ _ h => h) (yieldsIf_load_pr (by rfl) _ _ rfl (w.heap.size + 1 + 1) 0 rfl (prL A2 l2.length c2 o2) _ (fun _ h => h.2) Tryz.underlying32 rfl (pInfoL _ _ _ _)) hS19 ?_
  simp only [Act.put, List.setIfInBounds_toArray, List.set_cons_zero, List.set_cons_succ]
  refine wpAnyH_ready (rs := [2]) (by kernel_rfl) (by simp) (AllReadyH.cons rfl ?_ AllReadyH.nil)
  intro K hK
  rw [if_pos (by rfl)]
  go_simp
  refine (toProgramme_any A2 c2 l2 o2 _ (hA2.below b19) hn2).mono ?_
  rintro e w20 ⟨g20, rfl, hg20, own20, hb20⟩
  have b20 := step_below hb20 b19
  have B0_20 := B0_19.keep hb20
  have B1_20 := B1_19.keep hb20
  have B2_20 := B2_19.keep hb20
  have Y0_20 := Y0_19.keep hb20
  have Y2_20 := Y2_19.keep hb20
  have v7_20 := own_keep v7_19 hb20
  have q8_20 := own_keep q8_19 hb20
  have q10_20 := own_keep q10_19 hb20
  have r14_20 := own_keep r14_19 hb20
  have t20 := step_below hb20 t19
  have gl20 : g20 < w20.heap.size := (own20.lt g20 rfl).2
  have q20_20 := own20
  refine hK.out _ _ ⟨Y2_20.range49, B2_20.range49⟩ (fun hS20 => ?_)
  clear hK K
  refine wpAnyH_ready (rs := [3]) (by kernel_rfl) (by simp) (AllReadyH.cons rfl ?_ AllReadyH.nil)
  intro K hK
  rw [if_pos (by rfl)]
  go_simp
  refine (eqProgramme_any _ _ _ _ l2 o2 _ (SecA.of_own q10_20) (SecA.of_own q20_20) hn2).mono ?_
  rintro e w21 ⟨rfl, hb21⟩
  have b21 := step_below hb21 b20
  have B0_21 := B0_20.keep hb21
  have B1_21 := B1_20.keep hb21
  have B2_21 := B2_20.keep hb21
  have Y0_21 := Y0_20.keep hb21
  have Y2_21 := Y2_20.keep hb21
  have v7_21 := own_keep v7_20 hb21
  have q8_21 := own_keep q8_20 hb21
  have q10_21 := own_keep q10_20 hb21
  have r14_21 := own_keep r14_20 hb21
  have t21 := step_below hb21 t20
  refine hK.out _ _ ⟨Y2_21.range49, B2_21.range49⟩ (fun hS21 => ?_)
  clear hK K
  refine wpAnyH_take (i := 4) (v := .bool false) rfl (by kernel_rfl) (by kernel_rfl) (by kernel_rfl) (fun _ _ _ h => h) (Or.inl ⟨by rfl, fun w' _ => by go_simp⟩) hS21 ?_
  change wpAnyH _ _ _ _ _ _ _ (Act.put _ (some 73) _) _
  simp only [Act.put, List.setIfInBounds_toArray, List.set_cons_zero, List.set_cons_succ]
  refine wpAnyH_done (by kernel_rfl) ?_ _
  have pf74_0 := Y0_21.cell (i := 0) rfl
  have pf74_1 := Y0_21.cell (i := 1) rfl
  go_wp2_with fail
  clear pf74_0 pf74_1
  refine (markFrame_from s0 _ _ l0 _ (1) _ q8_21 hn0 ⟨by omega, by omega⟩).mono ?_
  rintro e w22 ⟨rfl, mo22, hgr22⟩
  have hbs22 := hgr22.size
  have t22 : Below w7.heap.size w7 w22 := t21.grown hgr22 t21.size (fun j hj => by cases hj; exact Nat.le_trans t7.size hg8)
  have b22 : Below w.heap.size w w22 := b7.trans (t22.mono b7.size)
  have B0_22 := B0_7.keep t22
  have B1_22 := B1_7.keep t22
  have B2_22 := B2_7.keep t22
  have Y0_22 := Y0_21.grown hgr22 (fun e => by have e' : g8 = w8.heap.size := Option.some.inj e; have gg := gl8; have gh := hg8; have h8_ := hb8.size; have h9_ := hb9.size; omega)
  have Y2_22 := Y2_21.grown hgr22 (fun e => by have e' : g8 = w10.heap.size := Option.some.inj e; have gg := gl8; have gh := hg8; have h8_ := hb8.size; have h9_ := hb9.size; have h10_ := hb10.size; have h11_ := hb11.size; omega)
  have v7_22 := own_keep v7_7 t22
  have q10_22 := q10_21.kept hgr22 (own_ne2 q10_21 q8_21 (by decide))
  have r14_22 := r14_21.kept hgr22 (own_ne2 r14_21 q8_21 (by decide))
  have hneg22 : decide (1 + 2 * (l0.length : Int) < 0) = false := by simp; omega
  go_wp2_with (first | (with_reducible refine wpList_load_pr rfl 47 (.tmp 13) rfl (w10.heap.size) 0 rfl _ _ _ _ _ Y2_22.range49 Tryz.underlying47 rfl (pInfo _ _ _ _) ?_))
  refine (markProgramme_from _ _ l2 o2 _ (1 + 2 * (l0.length : Int)) _ q10_22 hn2 ⟨by omega, by omega⟩).mono ?_
  rintro e w23 ⟨rfl, mo23, hgr23⟩
  have hbs23 := hgr23.size
  have t23 : Below w7.heap.size w7 w23 := t22.grown hgr23 t22.size (fun j hj => by cases hj; exact Nat.le_trans t9.size hg10)
  have b23 : Below w.heap.size w w23 := b7.trans (t23.mono b7.size)
  have B0_23 := B0_7.keep t23
  have B1_23 := B1_7.keep t23
  have B2_23 := B2_7.keep t23
  have Y0_23 := Y0_22.grown hgr23 (fun e => by have e' : g10 = w8.heap.size := Option.some.inj e; have gg := gl10; have gh := hg10; have h9_ := hb9.size; have h10_ := hb10.size; omega)
  have Y2_23 := Y2_22.grown hgr23 (fun e => by have e' : g10 = w10.heap.size := Option.some.inj e; have gg := gl10; have gh := hg10; have h10_ := hb10.size; have h11_ := hb11.size; omega)
  have v7_23 := own_keep v7_7 t23
  have r14_23 := r14_22.kept hgr23 (own_ne2 r14_22 q10_22 (by decide))
  have hneg23 : decide (1 + 2 * (l0.length : Int) + 2 * (l2.length : Int) < 0) = false := by simp; omega
  go_wp2_with fail
  refine (eqTune_self _ _ _ _ r0 _ (NA.of_own r14_23) (NA.of_own v7_23) hrl0).mono ?_
  rintro e w24 ⟨rfl, hb24⟩
  have b24 := step_below hb24 b23
  have B0_24 := B0_23.keep hb24
  have B1_24 := B1_23.keep hb24
  have B2_24 := B2_23.keep hb24
  have Y0_24 := Y0_23.keep hb24
  have Y2_24 := Y2_23.keep hb24
  have v7_24 := own_keep v7_23 hb24
  have r14_24 := own_keep r14_23 hb24
  have t24 := step_below hb24 t23
  go_wp2_with fail
  refine (markTune_from _ _ r0 _ (1) _ r14_24 hrl0 ⟨by omega, by omega⟩).mono ?_
  rintro e w25 ⟨rfl, mo25, hgr25⟩
  have hbs25 := hgr25.size
  have t25 : Below w7.heap.size w7 w25 := t24.grown hgr25 t24.size (fun j hj => Nat.le_trans t13.size ((r14_24).lt j hj).1)
  have b25 : Below w.heap.size w w25 := b7.trans (t25.mono b7.size)
  have B0_25 := B0_7.keep t25
  have B1_25 := B1_7.keep t25
  have B2_25 := B2_7.keep t25
  have v7_25 := own_keep v7_7 t25
  have k25_25 := mo25
  have hneg25 : decide (1 + 2 * (r0.length : Int) < 0) = false := by simp; omega
  have hneq25 : ((1 + 2 * (r0.length : Int)) != (1 + 2 * (r0.length : Int))) = false := by simp
  go_wp2_with fail
  refine (heldTune_from _ _ r0.length (1) _ (mkN_of_own k25_25) hrl0 ⟨by omega, by omega⟩).mono ?_
  rintro e w26' ⟨rfl, rfl⟩
  go_wp2_with fail
  have hb26 : Below w25.heap.size w25 w25.drew := (Below.refl _ _).drew
  have b26 := step_below hb26 b25
  have B0_26 := B0_25.keep hb26
  have B1_26 := B1_25.keep hb26
  have B2_26 := B2_25.keep hb26
  have v7_26 := own_keep v7_25 hb26
  have k25_26 := own_keep k25_25 hb26
  have t26 := step_below hb26 t25
  refine wp_region_held_drew (S := fun w' => w'.cell? ⟨w.heap.size, 0, none⟩ = some (.int .i16 s0) ∧ w'.cell? ⟨w.heap.size, 1, none⟩ = some (.slice A0 l0.length c0) ∧ w'.rangeAt (w.heap.size + 1) 0 (dv d1) ∧ w'.rangeAt (w.heap.size + 1 + 1) 0 (prL A2 l2.length c2 o2)) (by kernel_rfl) ⟨(B0_26.cell (i := 0) rfl), (B0_26.cell (i := 1) rfl), (show Dr w25.drew (w.heap.size + 1) 27 d1 from B1_26).range, B2_26.range49⟩ fun hS26 => ?_
  refine wpAnyH_take (i := 0) (v := .agg #[.int .i16 s0, .slice A0 l0.length c0]) rfl (by kernel_rfl) (by kernel_rfl) (by kernel_rfl) (fun _ _ _ h => h) (Or.inl ⟨by rfl, fun w' h => ?_⟩) hS26 ?_
  · have c0 := h.1
    have c1 := h.2.1
    clear h
    go_simp
  simp only [Act.put, List.setIfInBounds_toArray, List.set_cons_zero, List.set_cons_succ]
  refine wpAnyH_take (i := 2) rfl (by kernel_rfl) (by kernel_rfl) (by kernel_rfl) (fun _ _ _ h => h) (yieldsIf_load_mid (by rfl) _ _ rfl (w.heap.size + 1) 0 rfl (dv d1) _ (fun _ h => h.2.2.1) Tryz.underlying27 rfl (infoLt d1)) hS26 ?_
  simp only [Act.put, List.setIfInBounds_toArray, List.set_cons_zero, List.set_cons_succ]
  refine wpAnyH_take (i := 4) rfl (by kernel_rfl) (by kernel_rfl) (by kernel_rfl) (fun _ _ _ h => h) (yieldsIf_load_pr (by rfl) _ _ rfl (w.heap.size + 1 + 1) 0 rfl (prL A2 l2.length c2 o2) _ (fun _ h => h.2.2.2) Tryz.underlying32 rfl (pInfoL _ _ _ _)) hS26 ?_
  simp only [Act.put, List.setIfInBounds_toArray, List.set_cons_zero, List.set_cons_succ]
  refine wpAnyH_take (i := 6) (v := .int .i64 x3) rfl (by kernel_rfl) (by kernel_rfl) (by kernel_rfl) (fun _ _ _ h => h) (Or.inl ⟨by rfl, fun w' _ => by go_simp⟩) hS26 ?_
  change wpAnyH _ _ _ _ _ _ _ (Act.put _ (some 111) _) _
  simp only [Act.put, List.setIfInBounds_toArray, List.set_cons_zero, List.set_cons_succ]
  refine wpAnyH_ready (rs := [1]) (by kernel_rfl) (by simp) (AllReadyH.cons rfl ?_ AllReadyH.nil)
  intro K hK
  rw [if_pos (by rfl)]
  go_simp
  refine (toFrame_any s0 A0 c0 l0 _ (hA0.below b26) hn0).mono ?_
  rintro e w27 ⟨g27, rfl, hg27, own27, hb27⟩
  have b27 := step_below hb27 b26
  have B0_27 := B0_26.keep hb27
  have B1_27 := B1_26.keep hb27
  have B2_27 := B2_26.keep hb27
  have v7_27 := own_keep v7_26 hb27
  have k25_27 := own_keep k25_26 hb27
  have t27 := step_below hb27 t26
  have gl27 : g27 < w27.heap.size := (own27.lt g27 rfl).2
  have q27_27 := own27
  refine hK.out _ _ ⟨(B0_27.cell (i := 0) rfl), (B0_27.cell (i := 1) rfl), (show Dr w27 (w.heap.size + 1) 27 d1 from B1_27).range, B2_27.range49⟩ (fun hS27 => ?_)
  clear hK K
  refine wpAnyH_ready (rs := [3]) (by kernel_rfl) (by simp) (AllReadyH.cons rfl ?_ AllReadyH.nil)
  intro K hK
  rw [if_pos (by rfl)]
  go_simp
  refine (toDrum_any d1 _).mono ?_
  rintro e w28 ⟨rfl, hb28⟩
  have b28 := step_below hb28 b27
  have B0_28 := B0_27.keep hb28
  have B1_28 := B1_27.keep hb28
  have B2_28 := B2_27.keep hb28
  have v7_28 := own_keep v7_27 hb28
  have k25_28 := own_keep k25_27 hb28
  have q27_28 := own_keep q27_27 hb28
  have t28 := step_below hb28 t27
  refine hK.out _ _ ⟨(B0_28.cell (i := 0) rfl), (B0_28.cell (i := 1) rfl), (show Dr w28 (w.heap.size + 1) 27 d1 from B1_28).range, B2_28.range49⟩ (fun hS28 => ?_)
  clear hK K
  refine wpAnyH_ready (rs := [5]) (by kernel_rfl) (by simp) (AllReadyH.cons rfl ?_ AllReadyH.nil)
  intro K hK
  rw [if_pos (by rfl)]
  go_simp
  refine (toProgramme_any A2 c2 l2 o2 _ (hA2.below b28) hn2).mono ?_
  rintro e w29 ⟨g29, rfl, hg29, own29, hb29⟩
  have b29 := step_below hb29 b28
  have B0_29 := B0_28.keep hb29
  have B1_29 := B1_28.keep hb29
  have B2_29 := B2_28.keep hb29
  have v7_29 := own_keep v7_28 hb29
  have k25_29 := own_keep k25_28 hb29
  have q27_29 := own_keep q27_28 hb29
  have t29 := step_below hb29 t28
  have gl29 : g29 < w29.heap.size := (own29.lt g29 rfl).2
  have q29_29 := own29
  refine hK.out _ _ ⟨(B0_29.cell (i := 0) rfl), (B0_29.cell (i := 1) rfl), (show Dr w29 (w.heap.size + 1) 27 d1 from B1_29).range, B2_29.range49⟩ (fun hS29 => ?_)
  clear hK K
  refine wpAnyH_ready (rs := [7]) (by kernel_rfl) (by simp) (AllReadyH.cons rfl ?_ AllReadyH.nil)
  intro K hK
  rw [if_pos (by rfl)]
  go_simp
  refine (KI _ _ _ (HA.of_own q27_29) (SecA.of_own q29_29) (hT.keep b29)).mono ?_
  rintro e w30 ⟨C30, e30, rfl, own30, hb30⟩
  have b30 := step_below hb30 b29
  have B0_30 := B0_29.keep hb30
  have B1_30 := B1_29.keep hb30
  have B2_30 := B2_29.keep hb30
  have v7_30 := own_keep v7_29 hb30
  have k25_30 := own_keep k25_29 hb30
  have q27_30 := own_keep q27_29 hb30
  have q29_30 := own_keep q29_29 hb30
  have t30 := step_below hb30 t29
  have r30_30 := own30
  refine hK.out _ _ ⟨(B0_30.cell (i := 0) rfl), (B0_30.cell (i := 1) rfl), (show Dr w30 (w.heap.size + 1) 27 d1 from B1_30).range, B2_30.range49⟩ (fun hS30 => ?_)
  clear hK K
  refine wpAnyH_take (i := 8) (v := .tuple #[.slice C30 r0.length e30, .int .i64 r1]) rfl (by kernel_rfl) (by kernel_rfl) (by kernel_rfl) (fun _ _ _ h => h) (Or.inl ⟨by rfl, fun w' _ => by go_simp⟩) hS30 ?_
  change wpAnyH _ _ _ _ _ _ _ (Act.put _ (some 104) _) _
  simp only [Act.put, List.setIfInBounds_toArray, List.set_cons_zero, List.set_cons_succ]
  refine wpAnyH_take (i := 9) (v := .slice C30 r0.length e30) rfl (by kernel_rfl) (by kernel_rfl) (by kernel_rfl) (fun _ _ _ h => h) (Or.inl ⟨by rfl, fun w' _ => by go_simp⟩) hS30 ?_
  change wpAnyH _ _ _ _ _ _ _ (Act.put _ (some 113) _) _
  simp only [Act.put, List.setIfInBounds_toArray, List.set_cons_zero, List.set_cons_succ]
  refine wpAnyH_take (i := 10) (v := .int .i64 r1) rfl (by kernel_rfl) (by kernel_rfl) (by kernel_rfl) (fun _ _ _ h => h) (Or.inl ⟨by rfl, fun w' _ => by go_simp⟩) hS30 ?_
  change wpAnyH _ _ _ _ _ _ _ (Act.put _ (some 114) _) _
  simp only [Act.put, List.setIfInBounds_toArray, List.set_cons_zero, List.set_cons_succ]
  refine wpAnyH_take (i := 11) (v := .slice C30 r0.length e30) rfl (by kernel_rfl) (by kernel_rfl) (by kernel_rfl) (fun _ _ _ h => h) (Or.inl ⟨by rfl, fun w' _ => by go_simp⟩) hS30 ?_
  change wpAnyH _ _ _ _ _ _ _ (Act.put _ (some 19) _) _
  simp only [Act.put, List.setIfInBounds_toArray, List.set_cons_zero, List.set_cons_succ]
  refine wpAnyH_take (i := 12) (v := .int .i64 r1) rfl (by kernel_rfl) (by kernel_rfl) (by kernel_rfl) (fun _ _ _ h => h) (Or.inl ⟨by rfl, fun w' _ => by go_simp⟩) hS30 ?_
  change wpAnyH _ _ _ _ _ _ _ (Act.put _ (some 20) _) _
  simp only [Act.put, List.setIfInBounds_toArray, List.set_cons_zero, List.set_cons_succ]
  refine wpAnyH_done (by kernel_rfl) ?_ _
  go_wp2_with fail
  refine (eqTune_self _ _ _ _ r0 _ (NA.of_own r30_30) (NA.of_own v7_30) hrl0).mono ?_
  rintro e w31 ⟨rfl, hb31⟩
  have b31 := step_below hb31 b30
  have B0_31 := B0_30.keep hb31
  have B1_31 := B1_30.keep hb31
  have B2_31 := B2_30.keep hb31
  have v7_31 := own_keep v7_30 hb31
  have k25_31 := own_keep k25_30 hb31
  have q27_31 := own_keep q27_30 hb31
  have q29_31 := own_keep q29_30 hb31
  have t31 := step_below hb31 t30
  go_wp2_with fail
  refine (heldTune_from _ _ r0.length (1) _ (mkN_of_own k25_31) hrl0 ⟨by omega, by omega⟩).mono ?_
  rintro e w32' ⟨rfl, rfl⟩
  go_wp2
  go_ret
  exact ⟨rfl, b31⟩
theorem lawChimeAt_any (s0 : Int) (A0 : Option Addr) (c0 : Nat) (l0 : List (Int × Int)) (d1 : Nat → Int) (A2 : Option Addr) (c2 : Nat) (l2 : List (Int × Int)) (o2 : Nat → Int) (x3 : Int) (w : World) (hA0 : HA w A0 l0) (hwf0 : HWF l0) (hs0 : -32768 ≤ s0 ∧ s0 ≤ 32767) (hd1 : DWF d1) (hA2 : SecA w A2 l2) (hswf2 : SWF l2) (howf2 : OWF o2) (hT : TabW w) (hm0 : l0.length ≤ maxLen) (hm2 : l2.length ≤ maxLen) (_hx3 : -9223372036854775808 ≤ x3 ∧ x3 ≤ 9223372036854775807) :
    Calls Tryz.prog 4 #[.agg #[.int .i16 s0, .slice A0 l0.length c0], .agg (da d1), .agg (prA A2 l2.length c2 o2), .int .i64 x3] w (Says true w) := by
  rcases Nat.lt_or_ge 1048576 (l0.length) with h0 | h0
  · exact lawChimeAt_big0 s0 A0 c0 l0 d1 A2 c2 l2 o2 x3 w  h0 hm0 hm2
  rcases Nat.lt_or_ge 1048576 (l0.length + l2.length) with h1 | h1
  · exact lawChimeAt_big1 s0 A0 c0 l0 d1 A2 c2 l2 o2 x3 w h0 h1 hm0 hm2
  exact lawChimeAt_small s0 A0 c0 l0 d1 A2 c2 l2 o2 x3 w hA0 hwf0 hs0 hd1 hA2 hswf2 howf2 hT h0 h1 hm0 hm2 
end Go.Proofs.YtehmkablandefaaGreatDoor
