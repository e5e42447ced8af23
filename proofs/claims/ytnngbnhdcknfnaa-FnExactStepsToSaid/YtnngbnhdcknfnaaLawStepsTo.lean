import Derived.Test.YtnngbnhdcknfnaaLw
import Derived.Test.YtnngbnhdcknfnaaSto
import Derived.Deep.RegionHeld3
import Derived.Deep.CutRange
namespace Go.Proofs.Ytnngbnhdcknfnaa
open Go.RowKit

set_option maxRecDepth 20000 in
set_option maxHeartbeats 1000000 in
theorem lawStepsTo_big0 (s0 : Int) (A0 : Option Addr) (c0 : Nat) (l0 : List (Int × Int)) (A1 : Option Addr) (c1 : Nat) (l1 : List (Int × Int)) (o1 : Nat → Int) (x2 : Int) (x3 : Int) (w : World) (hsm : 0 ≤ 1048576) (hbg : 1048576 < l0.length) (hm0 : l0.length ≤ maxLen) (hm1 : l1.length ≤ maxLen) :
    Calls Try.prog 9 #[.agg #[.int .i16 s0, .slice A0 l0.length c0], .agg (prA A1 l1.length c1 o1), .int .i64 x2, .int .i64 x3] w (Says true w) := by
  obtain ⟨X0, hX0⟩ : ∃ X, X = ((w.alloc (.cells #[.int .i16 s0, .slice A0 l0.length c0] 25)).alloc (.cells (prA A1 l1.length c1 o1) 30)) := ⟨_, rfl⟩
  have b0 : Below w.heap.size w X0 := by rw [hX0]; exact (((Below.refl _ _).alloc (Nat.le_refl _) _).alloc (by simp) _)
  have K0 : Bk X0 w.heap.size 25 #[.int .i16 s0, .slice A0 l0.length c0] := by rw [hX0]; exact Bk.new _ _ _ rfl |>.old _
  have F0_0 : FP X0 w.heap.size s0 A0 l0.length c0 := ⟨K0.cell rfl, K0.cell rfl⟩
  have bw0 : w.heap.size < X0.heap.size := K0.lt
  have K1 : Bk X0 (w.heap.size + 1) 30 (prA A1 l1.length c1 o1) := by rw [hX0]; exact Bk.new _ _ _ (by simp)
  have R1_0 := K1
  have bw1 : (w.heap.size + 1) < X0.heap.size := K1.lt
  go_enter Try.func9, Try.ntmps9
  go_upto_region 1 with fail
  rw [← hX0]
  clear hX0 K0 K1
  have pf16_ := F0_0.1
  have qf16_ := F0_0.2
  go_wp2_with fail
  clear pf16_ qf16_
  refine (szFrame_at_big s0 A0 l0.length c0 (1048576) (by omega) (by omega) hm0 (by omega) _).mono ?_
  rintro e w1 ⟨rfl, hb1⟩
  have b1 := step_below hb1 b0
  go_wp2
  go_ret
  exact ⟨rfl, b1⟩
set_option maxRecDepth 20000 in
set_option maxHeartbeats 1000000 in
theorem lawStepsTo_big1 (s0 : Int) (A0 : Option Addr) (c0 : Nat) (l0 : List (Int × Int)) (A1 : Option Addr) (c1 : Nat) (l1 : List (Int × Int)) (o1 : Nat → Int) (x2 : Int) (x3 : Int) (w : World) (hsm : l0.length ≤ 1048576) (hbg : 1048576 < l0.length + l1.length) (hm0 : l0.length ≤ maxLen) (hm1 : l1.length ≤ maxLen) :
    Calls Try.prog 9 #[.agg #[.int .i16 s0, .slice A0 l0.length c0], .agg (prA A1 l1.length c1 o1), .int .i64 x2, .int .i64 x3] w (Says true w) := by
  obtain ⟨X0, hX0⟩ : ∃ X, X = ((w.alloc (.cells #[.int .i16 s0, .slice A0 l0.length c0] 25)).alloc (.cells (prA A1 l1.length c1 o1) 30)) := ⟨_, rfl⟩
  have b0 : Below w.heap.size w X0 := by rw [hX0]; exact (((Below.refl _ _).alloc (Nat.le_refl _) _).alloc (by simp) _)
  have K0 : Bk X0 w.heap.size 25 #[.int .i16 s0, .slice A0 l0.length c0] := by rw [hX0]; exact Bk.new _ _ _ rfl |>.old _
  have F0_0 : FP X0 w.heap.size s0 A0 l0.length c0 := ⟨K0.cell rfl, K0.cell rfl⟩
  have bw0 : w.heap.size < X0.heap.size := K0.lt
  have K1 : Bk X0 (w.heap.size + 1) 30 (prA A1 l1.length c1 o1) := by rw [hX0]; exact Bk.new _ _ _ (by simp)
  have R1_0 := K1
  have bw1 : (w.heap.size + 1) < X0.heap.size := K1.lt
  go_enter Try.func9, Try.ntmps9
  go_upto_region 1 with fail
  rw [← hX0]
  clear hX0 K0 K1
  have pf16_ := F0_0.1
  have qf16_ := F0_0.2
  go_wp2_with fail
  clear pf16_ qf16_
  refine (szFrame_at_small s0 A0 l0.length c0 (1048576) (by omega) (by omega) hm0 (by omega) _).mono ?_
  rintro e w1 ⟨rfl, hb1⟩
  have b1 := step_below hb1 b0
  have F0_1 := F0_0.keep hb1
  have R1_1 := R1_0.keep hb1
  go_wp2_with (first | (with_reducible refine wpList_load_pr rfl 30 (.tmp 5) rfl (w.heap.size + 1) 0 rfl _ _ _ _ _ R1_1.range49 Try.underlying30 rfl (pInfoL _ _ _ _) ?_))
  refine (szProgramme_big A1 l1.length c1 o1 (1048576 - (l0.length : Int)) (by omega) (by omega) hm1 (by omega) _).mono ?_
  rintro e w2 ⟨rfl, hb2⟩
  have b2 := step_below hb2 b1
  go_wp2
  go_ret
  exact ⟨rfl, b2⟩
set_option maxRecDepth 20000 in
set_option maxHeartbeats 4000000 in
theorem lawStepsTo_small (s0 : Int) (A0 : Option Addr) (c0 : Nat) (l0 : List (Int × Int)) (A1 : Option Addr) (c1 : Nat) (l1 : List (Int × Int)) (o1 : Nat → Int) (x2 : Int) (x3 : Int) (w : World) (hA0 : HA w A0 l0) (hwf0 : HWF l0) (hs0 : -32768 ≤ s0 ∧ s0 ≤ 32767) (hA1 : SecA w A1 l1) (hswf1 : SWF l1) (howf1 : OWF o1) (hsz : l0.length + l1.length ≤ 1048576) (hm0 : l0.length ≤ maxLen) (hm1 : l1.length ≤ maxLen) :
    Calls Try.prog 9 #[.agg #[.int .i16 s0, .slice A0 l0.length c0], .agg (prA A1 l1.length c1 o1), .int .i64 x2, .int .i64 x3] w (Says true w) := by
  have hn0 : l0.length ≤ 1048576 := by omega
  have hn1 : l1.length ≤ 1048576 := by omega
  obtain ⟨r0, hr0⟩ : ∃ r : Int, r = stV s0 l0 l1 o1 x2 x3 := ⟨_, rfl⟩
  obtain ⟨r1, hr1⟩ : ∃ r : Int, r = stC s0 l0 l1 o1 x2 x3 := ⟨_, rfl⟩
  have KS : ∀ (E0 E1 : Option Addr) (W : World), HA W E0 l0 → SecA W E1 l1 → Calls Try.prog 39 #[.agg #[.int .i16 s0, .slice E0 l0.length l0.length], .agg (prA E1 l1.length l1.length o1), .int .i64 x2, .int .i64 x3] W (fun e w' => e = .returned (.tuple #[.int .i64 r0, .int .i64 r1]) ∧ Below W.heap.size W w') := fun E0 E1 W h0 h1 => by rw [hr0, hr1]; exact specStepsTo_any s0 E0 l0.length l0 E1 l1.length l1 o1 x2 x3 W h0 hn0 hwf0 hs0 h1 hn1 hswf1 howf1  
  have KI : ∀ (E0 E1 : Option Addr) (W : World), HA W E0 l0 → SecA W E1 l1 → Calls Try.prog 40 #[.agg #[.int .i16 s0, .slice E0 l0.length l0.length], .agg (prA E1 l1.length l1.length o1), .int .i64 x2, .int .i64 x3] W (fun e w' => e = .returned (.tuple #[.int .i64 r0, .int .i64 r1]) ∧ Below W.heap.size W w') := fun E0 E1 W h0 h1 => by rw [hr0, hr1]; exact implStepsTo_any s0 E0 l0.length l0 E1 l1.length l1 o1 x2 x3 W h0 hn0 hwf0 hs0 h1 hn1 hswf1 howf1  
  clear hr0 hr1
  obtain ⟨X0, hX0⟩ : ∃ X, X = ((w.alloc (.cells #[.int .i16 s0, .slice A0 l0.length c0] 25)).alloc (.cells (prA A1 l1.length c1 o1) 30)) := ⟨_, rfl⟩
  have b0 : Below w.heap.size w X0 := by rw [hX0]; exact (((Below.refl _ _).alloc (Nat.le_refl _) _).alloc (by simp) _)
  have K0 : Bk X0 w.heap.size 25 #[.int .i16 s0, .slice A0 l0.length c0] := by rw [hX0]; exact Bk.new _ _ _ rfl |>.old _
  have F0_0 : FP X0 w.heap.size s0 A0 l0.length c0 := ⟨K0.cell rfl, K0.cell rfl⟩
  have bw0 : w.heap.size < X0.heap.size := K0.lt
  have K1 : Bk X0 (w.heap.size + 1) 30 (prA A1 l1.length c1 o1) := by rw [hX0]; exact Bk.new _ _ _ (by simp)
  have R1_0 := K1
  have bw1 : (w.heap.size + 1) < X0.heap.size := K1.lt
  go_enter Try.func9, Try.ntmps9
  go_upto_region 1 with fail
  rw [← hX0]
  clear hX0 K0 K1
  have pf16_ := F0_0.1
  have qf16_ := F0_0.2
  go_wp2_with fail
  clear pf16_ qf16_
  refine (szFrame_at_small s0 A0 l0.length c0 (1048576) (by omega) (by omega) hm0 (by omega) _).mono ?_
  rintro e w1 ⟨rfl, hb1⟩
  have b1 := step_below hb1 b0
  have F0_1 := F0_0.keep hb1
  have R1_1 := R1_0.keep hb1
  go_wp2_with (first | (with_reducible refine wpList_load_pr rfl 30 (.tmp 5) rfl (w.heap.size + 1) 0 rfl _ _ _ _ _ R1_1.range49 Try.underlying30 rfl (pInfoL _ _ _ _) ?_))
  refine (szProgramme_small A1 l1.length c1 o1 (1048576 - (l0.length : Int)) (by omega) (by omega) hm1 (by omega) _).mono ?_
  rintro e w2 ⟨rfl, hb2⟩
  have b2 := step_below hb2 b1
  have F0_2 := F0_1.keep hb2
  have R1_2 := R1_1.keep hb2
  go_wp2_with fail
  have hb3 : Below w2.heap.size w2 w2.drew := (Below.refl _ _).drew
  have b3 := step_below hb3 b2
  have F0_3 := F0_2.keep hb3
  have R1_3 := R1_2.keep hb3
  refine wp_region_held_drew (S := fun w' => w'.cell? ⟨w.heap.size, 0, none⟩ = some (.int .i16 s0) ∧ w'.cell? ⟨w.heap.size, 1, none⟩ = some (.slice A0 l0.length c0) ∧ w'.rangeAt (w.heap.size + 1) 0 (prL A1 l1.length c1 o1)) (by kernel_rfl) ⟨F0_3.1, F0_3.2, R1_3.range49⟩ fun hS3 => ?_
  refine wpAnyH_take (i := 0) (v := .agg #[.int .i16 s0, .slice A0 l0.length c0]) rfl (by kernel_rfl) (by kernel_rfl) (by kernel_rfl) (fun _ _ _ h => h) (Or.inl ⟨by rfl, fun w' h => ?_⟩) hS3 ?_
  · have c0 := h.1
    have c1 := h.2.1
    clear h
    go_simp
  simp only [Act.put, List.setIfInBounds_toArray, List.set_cons_zero, List.set_cons_succ]
  refine wpAnyH_take (i := 2) rfl (by kernel_rfl) (by kernel_rfl) (by kernel_rfl) (fun _ _ _ h => h) (yieldsIf_load_pr (by rfl) _ _ rfl (w.heap.size + 1) 0 rfl (prL A1 l1.length c1 o1) _ (fun _ h => h.2.2) Try.underlying30 rfl (pInfoL _ _ _ _)) hS3 ?_
  simp only [Act.put, List.setIfInBounds_toArray, List.set_cons_zero, List.set_cons_succ]
  refine wpAnyH_take (i := 4) (v := .int .i64 x2) rfl (by kernel_rfl) (by kernel_rfl) (by kernel_rfl) (fun _ _ _ h => h) (Or.inl ⟨by rfl, fun w' _ => by go_simp⟩) hS3 ?_
  change wpAnyH _ _ _ _ _ _ _ (Act.put _ (some 31) _) _
  simp only [Act.put, List.setIfInBounds_toArray, List.set_cons_zero, List.set_cons_succ]
  refine wpAnyH_take (i := 5) (v := .int .i64 x3) rfl (by kernel_rfl) (by kernel_rfl) (by kernel_rfl) (fun _ _ _ h => h) (Or.inl ⟨by rfl, fun w' _ => by go_simp⟩) hS3 ?_
  change wpAnyH _ _ _ _ _ _ _ (Act.put _ (some 32) _) _
  simp only [Act.put, List.setIfInBounds_toArray, List.set_cons_zero, List.set_cons_succ]
  refine wpAnyH_ready (rs := [1]) (by kernel_rfl) (by simp) (AllReadyH.cons rfl ?_ AllReadyH.nil)
  intro K hK
  rw [if_pos (by rfl)]
  go_simp
  refine (toFrame_any s0 A0 c0 l0 _ (hA0.below b3) hn0).mono ?_
  rintro e w4 ⟨g4, rfl, hg4, own4, hb4⟩
  have b4 := step_below hb4 b3
  have F0_4 := F0_3.keep hb4
  have R1_4 := R1_3.keep hb4
  have q4_4 := own4
  refine hK.out _ _ ⟨F0_4.1, F0_4.2, R1_4.range49⟩ (fun hS4 => ?_)
  clear hK K
  refine wpAnyH_ready (rs := [3]) (by kernel_rfl) (by simp) (AllReadyH.cons rfl ?_ AllReadyH.nil)
  intro K hK
  rw [if_pos (by rfl)]
  go_simp
  refine (toProgramme_any A1 c1 l1 o1 _ (hA1.below b4) hn1).mono ?_
  rintro e w5 ⟨g5, rfl, hg5, own5, hb5⟩
  have b5 := step_below hb5 b4
  have F0_5 := F0_4.keep hb5
  have R1_5 := R1_4.keep hb5
  have q4_5 := own_keep q4_4 hb5
  have q5_5 := own5
  refine hK.out _ _ ⟨F0_5.1, F0_5.2, R1_5.range49⟩ (fun hS5 => ?_)
  clear hK K
  refine wpAnyH_ready (rs := [6]) (by kernel_rfl) (by simp) (AllReadyH.cons rfl ?_ AllReadyH.nil)
  intro K hK
  rw [if_pos (by rfl)]
  go_simp
  refine (KS _ _ _ (HA.of_own q4_5) (SecA.of_own q5_5)).mono ?_
  rintro e w6 ⟨rfl, hb6⟩
  have b6 := step_below hb6 b5
  have F0_6 := F0_5.keep hb6
  have R1_6 := R1_5.keep hb6
  have q4_6 := own_keep q4_5 hb6
  have q5_6 := own_keep q5_5 hb6
  have t6 : Below w6.heap.size w6 w6 := Below.refl _ _
  refine hK.out _ _ ⟨F0_6.1, F0_6.2, R1_6.range49⟩ (fun hS6 => ?_)
  clear hK K
  refine wpAnyH_take (i := 7) (v := .tuple #[.int .i64 r0, .int .i64 r1]) rfl (by kernel_rfl) (by kernel_rfl) (by kernel_rfl) (fun _ _ _ h => h) (Or.inl ⟨by rfl, fun w' _ => by go_simp⟩) hS6 ?_
  change wpAnyH _ _ _ _ _ _ _ (Act.put _ (some 26) _) _
  simp only [Act.put, List.setIfInBounds_toArray, List.set_cons_zero, List.set_cons_succ]
  refine wpAnyH_take (i := 8) (v := .int .i64 r0) rfl (by kernel_rfl) (by kernel_rfl) (by kernel_rfl) (fun _ _ _ h => h) (Or.inl ⟨by rfl, fun w' _ => by go_simp⟩) hS6 ?_
  change wpAnyH _ _ _ _ _ _ _ (Act.put _ (some 34) _) _
  simp only [Act.put, List.setIfInBounds_toArray, List.set_cons_zero, List.set_cons_succ]
  refine wpAnyH_take (i := 9) (v := .int .i64 r1) rfl (by kernel_rfl) (by kernel_rfl) (by kernel_rfl) (fun _ _ _ h => h) (Or.inl ⟨by rfl, fun w' _ => by go_simp⟩) hS6 ?_
  change wpAnyH _ _ _ _ _ _ _ (Act.put _ (some 35) _) _
  simp only [Act.put, List.setIfInBounds_toArray, List.set_cons_zero, List.set_cons_succ]
  refine wpAnyH_take (i := 10) (v := .int .i64 r0) rfl (by kernel_rfl) (by kernel_rfl) (by kernel_rfl) (fun _ _ _ h => h) (Or.inl ⟨by rfl, fun w' _ => by go_simp⟩) hS6 ?_
  change wpAnyH _ _ _ _ _ _ _ (Act.put _ (some 10) _) _
  simp only [Act.put, List.setIfInBounds_toArray, List.set_cons_zero, List.set_cons_succ]
  refine wpAnyH_take (i := 11) (v := .int .i64 r1) rfl (by kernel_rfl) (by kernel_rfl) (by kernel_rfl) (fun _ _ _ h => h) (Or.inl ⟨by rfl, fun w' _ => by go_simp⟩) hS6 ?_
  change wpAnyH _ _ _ _ _ _ _ (Act.put _ (some 11) _) _
  simp only [Act.put, List.setIfInBounds_toArray, List.set_cons_zero, List.set_cons_succ]
  refine wpAnyH_done (by kernel_rfl) ?_ _
  have pf36_ := F0_6.1
  have qf36_ := F0_6.2
  go_wp2_with fail
  clear pf36_ qf36_
  refine (toFrame_any s0 A0 c0 l0 _ (hA0.below b6) hn0).mono ?_
  rintro e w7 ⟨g7, rfl, hg7, own7, hb7⟩
  have b7 := step_below hb7 b6
  have F0_7 := F0_6.keep hb7
  have R1_7 := R1_6.keep hb7
  have t7 := step_below hb7 t6
  have q7_7 := own7
  go_upto_region 10 with fail
  obtain ⟨w8, hX8⟩ : ∃ X, X = w7.alloc (.cells #[.int .i16 s0, .slice (some ⟨g7, 0, none⟩) l0.length l0.length] 36) := ⟨_, rfl⟩
  have hb8 : Below w7.heap.size w7 w8 := by rw [hX8]; exact (Below.refl _ _).alloc (Nat.le_refl _) _
  have K8 : Bk w8 w7.heap.size 36 #[.int .i16 s0, .slice (some ⟨g7, 0, none⟩) l0.length l0.length] := by rw [hX8]; exact Bk.new _ _ _ rfl
  rw [← hX8]
  clear hX8
  have b8 := step_below hb8 b7
  have F0_8 := F0_7.keep hb8
  have R1_8 := R1_7.keep hb8
  have q7_8 := own_keep q7_7 hb8
  have t8 := step_below hb8 t7
  have Y0_8 : FP w8 w7.heap.size s0 (some ⟨g7, 0, none⟩) l0.length l0.length := ⟨K8.cell rfl, K8.cell rfl⟩
  have yw0 : w7.heap.size < w8.heap.size := K8.lt
  go_wp2_with (first | (with_reducible refine wpList_load_pr rfl 30 (.tmp 5) rfl (w.heap.size + 1) 0 rfl _ _ _ _ _ R1_8.range49 Try.underlying30 rfl (pInfoL _ _ _ _) ?_))
  refine (toProgramme_any A1 c1 l1 o1 _ (hA1.below b8) hn1).mono ?_
  rintro e w9 ⟨g9, rfl, hg9, own9, hb9⟩
  have b9 := step_below hb9 b8
  have F0_9 := F0_8.keep hb9
  have R1_9 := R1_8.keep hb9
  have Y0_9 := Y0_8.keep hb9
  have q7_9 := own_keep q7_8 hb9
  have t9 := step_below hb9 t8
  have q9_9 := own9
  have hz := zeroPrg
  go_upto_region 11 with (with_reducible refine wpList_store_newG rfl 40 (.tmp 13) (.tmp 39) rfl (prA (some ⟨g9, 0, none⟩) l1.length l1.length o1) rfl rfl 40 _ (pInfo _ _ _ _) (by rw [zp_eq, prA_size, prA_size]) (prA_one _ _ _ _) ?_)
  clear hz
  obtain ⟨w10, hX10⟩ : ∃ X, X = w9.alloc (.cells (prA (some ⟨g9, 0, none⟩) l1.length l1.length o1) 40) := ⟨_, rfl⟩
  have hb10 : Below w9.heap.size w9 w10 := by rw [hX10]; exact (Below.refl _ _).alloc (Nat.le_refl _) _
  have K10 : Bk w10 w9.heap.size 40 (prA (some ⟨g9, 0, none⟩) l1.length l1.length o1) := by rw [hX10]; exact Bk.new _ _ _ rfl
  rw [← hX10]
  clear hX10
  have b10 := step_below hb10 b9
  have F0_10 := F0_9.keep hb10
  have R1_10 := R1_9.keep hb10
  have Y0_10 := Y0_9.keep hb10
  have q7_10 := own_keep q7_9 hb10
  have q9_10 := own_keep q9_9 hb10
  have t10 := step_below hb10 t9
  have Y1_10 := K10
  have yw1 : w9.heap.size < w10.heap.size := K10.lt
  have pf41_ := Y0_10.1
  have qf41_ := Y0_10.2
  go_wp2_with (first | (with_reducible refine wpList_load_pr rfl 40 (.tmp 13) rfl (w9.heap.size) 0 rfl _ _ _ _ _ Y1_10.range49 Try.underlying40 rfl (pInfo _ _ _ _) ?_))
  clear pf41_ qf41_
  refine (KI _ _ _ (HA.of_own q7_10) (SecA.of_own q9_10)).mono ?_
  rintro e w11 ⟨rfl, hb11⟩
  have b11 := step_below hb11 b10
  have F0_11 := F0_10.keep hb11
  have R1_11 := R1_10.keep hb11
  have Y0_11 := Y0_10.keep hb11
  have Y1_11 := Y1_10.keep hb11
  have q7_11 := own_keep q7_10 hb11
  have q9_11 := own_keep q9_10 hb11
  have t11 := step_below hb11 t10
  go_wp2_with fail
  have hb12 : Below w11.heap.size w11 w11.drew := (Below.refl _ _).drew
  have b12 := step_below hb12 b11
  have F0_12 := F0_11.keep hb12
  have R1_12 := R1_11.keep hb12
  have Y0_12 := Y0_11.keep hb12
  have Y1_12 := Y1_11.keep hb12
  have q7_12 := own_keep q7_11 hb12
  have q9_12 := own_keep q9_11 hb12
  have t12 := step_below hb12 t11
  refine wp_region_held_drew (S := fun w' => w'.cell? ⟨w7.heap.size, 0, none⟩ = some (.int .i16 s0) ∧ w'.cell? ⟨w7.heap.size, 1, none⟩ = some (.slice (some ⟨g7, 0, none⟩) l0.length l0.length) ∧ w'.cell? ⟨w.heap.size, 0, none⟩ = some (.int .i16 s0) ∧ w'.cell? ⟨w.heap.size, 1, none⟩ = some (.slice A0 l0.length c0)) (by kernel_rfl) ⟨Y0_12.1, Y0_12.2, F0_12.1, F0_12.2⟩ fun hS12 => ?_
  refine wpAnyH_take (i := 0) (v := .agg #[.int .i16 s0, .slice (some ⟨g7, 0, none⟩) l0.length l0.length]) rfl (by kernel_rfl) (by kernel_rfl) (by kernel_rfl) (fun _ _ _ h => h) (Or.inl ⟨by rfl, fun w' h => ?_⟩) hS12 ?_
  · have c0 := h.1
    have c1 := h.2.1
    clear h
    go_simp
  simp only [Act.put, List.setIfInBounds_toArray, List.set_cons_zero, List.set_cons_succ]
  refine wpAnyH_take (i := 1) (v := .agg #[.int .i16 s0, .slice A0 l0.length c0]) rfl (by kernel_rfl) (by kernel_rfl) (by kernel_rfl) (fun _ _ _ h => h) (Or.inl ⟨by rfl, fun w' h => ?_⟩) hS12 ?_
  · have c0 := h.2.2.1
    have c1 := h.2.2.2
    clear h
    go_simp
  simp only [Act.put, List.setIfInBounds_toArray, List.set_cons_zero, List.set_cons_succ]
  refine wpAnyH_ready (rs := [2]) (by kernel_rfl) (by simp) (AllReadyH.cons rfl ?_ AllReadyH.nil)
  intro K hK
  rw [if_pos (by rfl)]
  go_simp
  refine (toFrame_any s0 A0 c0 l0 _ (hA0.below b12) hn0).mono ?_
  rintro e w13 ⟨g13, rfl, hg13, own13, hb13⟩
  have b13 := step_below hb13 b12
  have F0_13 := F0_12.keep hb13
  have R1_13 := R1_12.keep hb13
  have Y0_13 := Y0_12.keep hb13
  have Y1_13 := Y1_12.keep hb13
  have q7_13 := own_keep q7_12 hb13
  have q9_13 := own_keep q9_12 hb13
  have t13 := step_below hb13 t12
  have q13_13 := own13
  refine hK.out _ _ ⟨Y0_13.1, Y0_13.2, F0_13.1, F0_13.2⟩ (fun hS13 => ?_)
  clear hK K
  refine wpAnyH_ready (rs := [3]) (by kernel_rfl) (by simp) (AllReadyH.cons rfl ?_ AllReadyH.nil)
  intro K hK
  rw [if_pos (by rfl)]
  go_simp
  refine (eqFrame_any s0 _ _ _ _ l0 _ (HA.of_own q7_13) (HA.of_own q13_13) hn0).mono ?_
  rintro e w14 ⟨rfl, hb14⟩
  have b14 := step_below hb14 b13
  have F0_14 := F0_13.keep hb14
  have R1_14 := R1_13.keep hb14
  have Y0_14 := Y0_13.keep hb14
  have Y1_14 := Y1_13.keep hb14
  have q7_14 := own_keep q7_13 hb14
  have q9_14 := own_keep q9_13 hb14
  have q13_14 := own_keep q13_13 hb14
  have t14 := step_below hb14 t13
  refine hK.out _ _ ⟨Y0_14.1, Y0_14.2, F0_14.1, F0_14.2⟩ (fun hS14 => ?_)
  clear hK K
  refine wpAnyH_take (i := 4) (v := .bool false) rfl (by kernel_rfl) (by kernel_rfl) (by kernel_rfl) (fun _ _ _ h => h) (Or.inl ⟨by rfl, fun w' _ => by go_simp⟩) hS14 ?_
  change wpAnyH _ _ _ _ _ _ _ (Act.put _ (some 60) _) _
  simp only [Act.put, List.setIfInBounds_toArray, List.set_cons_zero, List.set_cons_succ]
  refine wpAnyH_done (by kernel_rfl) ?_ _
  go_wp2_with fail
  have hb15 : Below w14.heap.size w14 w14.drew := (Below.refl _ _).drew
  have b15 := step_below hb15 b14
  have F0_15 := F0_14.keep hb15
  have R1_15 := R1_14.keep hb15
  have Y0_15 := Y0_14.keep hb15
  have Y1_15 := Y1_14.keep hb15
  have q7_15 := own_keep q7_14 hb15
  have q9_15 := own_keep q9_14 hb15
  have t15 := step_below hb15 t14
  refine wp_region_held_drew (S := fun w' => w'.rangeAt (w9.heap.size) 0 (prL (some ⟨g9, 0, none⟩) l1.length l1.length o1) ∧ w'.rangeAt (w.heap.size + 1) 0 (prL A1 l1.length c1 o1)) (by kernel_rfl) ⟨Y1_15.range49, R1_15.range49⟩ fun hS15 => ?_
  refine wpAnyH_take (i := 0) rfl (by kernel_rfl) (by kernel_rfl) (by kernel_rfl) (fun _ _ _ h => h) (yieldsIf_load_pr (by rfl) _ _ rfl (w9.heap.size) 0 rfl (prL (some ⟨g9, 0, none⟩) l1.length l1.length o1) _ (fun _ h => h.1) Try.underlying40 rfl (pInfo _ _ _ _)) hS15 ?_
  simp only [Act.put, List.setIfInBounds_toArray, List.set_cons_zero, List.set_cons_succ]
  refine wpAnyH_take (i := 1) rfl (by kernel_rfl) (by kernel_rfl) (by kernel_rfl) (fun _ _ _ h => h) (yieldsIf_load_pr (by rfl) _ _ rfl (w.heap.size + 1) 0 rfl (prL A1 l1.length c1 o1) _ (fun _ h => h.2) Try.underlying30 rfl (pInfoL _ _ _ _)) hS15 ?_
  simp only [Act.put, List.setIfInBounds_toArray, List.set_cons_zero, List.set_cons_succ]
  refine wpAnyH_ready (rs := [2]) (by kernel_rfl) (by simp) (AllReadyH.cons rfl ?_ AllReadyH.nil)
  intro K hK
  rw [if_pos (by rfl)]
  go_simp
  refine (toProgramme_any A1 c1 l1 o1 _ (hA1.below b15) hn1).mono ?_
  rintro e w16 ⟨g16, rfl, hg16, own16, hb16⟩
  have b16 := step_below hb16 b15
  have F0_16 := F0_15.keep hb16
  have R1_16 := R1_15.keep hb16
  have Y0_16 := Y0_15.keep hb16
  have Y1_16 := Y1_15.keep hb16
  have q7_16 := own_keep q7_15 hb16
  have q9_16 := own_keep q9_15 hb16
  have t16 := step_below hb16 t15
  have q16_16 := own16
  refine hK.out _ _ ⟨Y1_16.range49, R1_16.range49⟩ (fun hS16 => ?_)
  clear hK K
  refine wpAnyH_ready (rs := [3]) (by kernel_rfl) (by simp) (AllReadyH.cons rfl ?_ AllReadyH.nil)
  intro K hK
  rw [if_pos (by rfl)]
  go_simp
  refine (eqProgramme_any _ _ _ _ l1 o1 _ (SecA.of_own q9_16) (SecA.of_own q16_16) hn1).mono ?_
  rintro e w17 ⟨rfl, hb17⟩
  have b17 := step_below hb17 b16
  have F0_17 := F0_16.keep hb17
  have R1_17 := R1_16.keep hb17
  have Y0_17 := Y0_16.keep hb17
  have Y1_17 := Y1_16.keep hb17
  have q7_17 := own_keep q7_16 hb17
  have q9_17 := own_keep q9_16 hb17
  have q16_17 := own_keep q16_16 hb17
  have t17 := step_below hb17 t16
  refine hK.out _ _ ⟨Y1_17.range49, R1_17.range49⟩ (fun hS17 => ?_)
  clear hK K
  refine wpAnyH_take (i := 4) (v := .bool false) rfl (by kernel_rfl) (by kernel_rfl) (by kernel_rfl) (fun _ _ _ h => h) (Or.inl ⟨by rfl, fun w' _ => by go_simp⟩) hS17 ?_
  change wpAnyH _ _ _ _ _ _ _ (Act.put _ (some 65) _) _
  simp only [Act.put, List.setIfInBounds_toArray, List.set_cons_zero, List.set_cons_succ]
  refine wpAnyH_done (by kernel_rfl) ?_ _
  go_wp2
  go_ret
  exact ⟨rfl, b17⟩
theorem lawStepsTo_any (s0 : Int) (A0 : Option Addr) (c0 : Nat) (l0 : List (Int × Int)) (A1 : Option Addr) (c1 : Nat) (l1 : List (Int × Int)) (o1 : Nat → Int) (x2 : Int) (x3 : Int) (w : World) (hA0 : HA w A0 l0) (hwf0 : HWF l0) (hs0 : -32768 ≤ s0 ∧ s0 ≤ 32767) (hA1 : SecA w A1 l1) (hswf1 : SWF l1) (howf1 : OWF o1) (hm0 : l0.length ≤ maxLen) (hm1 : l1.length ≤ maxLen) (_hx2 : -9223372036854775808 ≤ x2 ∧ x2 ≤ 9223372036854775807) (_hx3 : -9223372036854775808 ≤ x3 ∧ x3 ≤ 9223372036854775807) :
    Calls Try.prog 9 #[.agg #[.int .i16 s0, .slice A0 l0.length c0], .agg (prA A1 l1.length c1 o1), .int .i64 x2, .int .i64 x3] w (Says true w) := by
  rcases Nat.lt_or_ge 1048576 (l0.length) with h0 | h0
  · exact lawStepsTo_big0 s0 A0 c0 l0 A1 c1 l1 o1 x2 x3 w (Nat.zero_le _) h0 hm0 hm1
  rcases Nat.lt_or_ge 1048576 (l0.length + l1.length) with h1 | h1
  · exact lawStepsTo_big1 s0 A0 c0 l0 A1 c1 l1 o1 x2 x3 w h0 h1 hm0 hm1
  exact lawStepsTo_small s0 A0 c0 l0 A1 c1 l1 o1 x2 x3 w hA0 hwf0 hs0 hA1 hswf1 howf1 h1 hm0 hm1 
end Go.Proofs.Ytnngbnhdcknfnaa
