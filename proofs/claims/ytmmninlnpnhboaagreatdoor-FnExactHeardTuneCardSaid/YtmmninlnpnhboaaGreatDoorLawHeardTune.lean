import Derived.Test.YtmmninlnpnhboaaGreatDoorGad
import Derived.Test.YtmmninlnpnhboaaGreatDoorMkf
import Derived.Test.YtmmninlnpnhboaaGreatDoorGae
import Derived.Test.YtmmninlnpnhboaaGreatDoorGah
import Derived.Test.YtmmninlnpnhboaaGreatDoorHt7
import Derived.Deep.RegionHeld3
import Derived.Deep.CutRange
namespace Go.Proofs.YtmmninlnpnhboaaGreatDoor
open Go.RowKit

set_option maxRecDepth 20000 in
set_option maxHeartbeats 1000000 in
theorem lawHeardTune_big0 (s0 : Int) (A0 : Option Addr) (c0 : Nat) (l0 : List (Int × Int)) (A1 : Option Addr) (c1 : Nat) (l1 : List (Int × Int)) (A2 : Option Addr) (c2 : Nat) (l2 : List (Bool × Int × Int × Int)) (w : World)  (hbg : 1048576 < l0.length) (hm0 : l0.length ≤ maxLen) (hm1 : l1.length ≤ maxLen) (hm2 : l2.length ≤ maxLen) :
    Calls Tryz.prog 7 #[.agg #[.int .i16 s0, .slice A0 l0.length c0], .slice A1 l1.length c1, .slice A2 l2.length c2] w (Says true w) := by
  obtain ⟨X0, hX0⟩ : ∃ X, X = (w.alloc (.cells #[.int .i16 s0, .slice A0 l0.length c0] 25)) := ⟨_, rfl⟩
  have b0 : Below w.heap.size w X0 := by rw [hX0]; exact ((Below.refl _ _).alloc (Nat.le_refl _) _)
  have B0_0 : Bk X0 (w.heap.size) 25 #[.int .i16 s0, .slice A0 l0.length c0] := by rw [hX0]; exact Bk.new _ _ _ rfl
  have bw0 : w.heap.size < X0.heap.size := B0_0.lt
  go_enter Tryz.func7, Tryz.ntmps7
  go_upto_region 1 with fail
  rw [← hX0]
  clear hX0
  have pf20_0 := B0_0.cell (i := 0) rfl
  have pf20_1 := B0_0.cell (i := 1) rfl
  go_wp2_with fail
  clear pf20_0 pf20_1
  refine (szFrame_at_big s0 A0 l0.length c0 (1048576) (by omega) (by omega) hm0 (by omega) _).mono ?_
  rintro e w1 ⟨rfl, hb1⟩
  have b1 := step_below hb1 b0
  go_wp2
  go_ret
  exact ⟨rfl, b1⟩
set_option maxRecDepth 20000 in
set_option maxHeartbeats 1000000 in
theorem lawHeardTune_big1 (s0 : Int) (A0 : Option Addr) (c0 : Nat) (l0 : List (Int × Int)) (A1 : Option Addr) (c1 : Nat) (l1 : List (Int × Int)) (A2 : Option Addr) (c2 : Nat) (l2 : List (Bool × Int × Int × Int)) (w : World) (hc0 : l0.length ≤ 1048576) (hbg : 1048576 < l0.length + l1.length) (hm0 : l0.length ≤ maxLen) (hm1 : l1.length ≤ maxLen) (hm2 : l2.length ≤ maxLen) :
    Calls Tryz.prog 7 #[.agg #[.int .i16 s0, .slice A0 l0.length c0], .slice A1 l1.length c1, .slice A2 l2.length c2] w (Says true w) := by
  obtain ⟨X0, hX0⟩ : ∃ X, X = (w.alloc (.cells #[.int .i16 s0, .slice A0 l0.length c0] 25)) := ⟨_, rfl⟩
  have b0 : Below w.heap.size w X0 := by rw [hX0]; exact ((Below.refl _ _).alloc (Nat.le_refl _) _)
  have B0_0 : Bk X0 (w.heap.size) 25 #[.int .i16 s0, .slice A0 l0.length c0] := by rw [hX0]; exact Bk.new _ _ _ rfl
  have bw0 : w.heap.size < X0.heap.size := B0_0.lt
  go_enter Tryz.func7, Tryz.ntmps7
  go_upto_region 1 with fail
  rw [← hX0]
  clear hX0
  have pf20_0 := B0_0.cell (i := 0) rfl
  have pf20_1 := B0_0.cell (i := 1) rfl
  go_wp2_with fail
  clear pf20_0 pf20_1
  refine (szFrame_at_small s0 A0 l0.length c0 (1048576) (by omega) (by omega) hm0 (by omega) _).mono ?_
  rintro e w1 ⟨rfl, hb1⟩
  have b1 := step_below hb1 b0
  have B0_1 := B0_0.keep hb1
  go_wp2_with fail
  refine (szTune_big A1 l1.length c1 (1048576 - (l0.length : Int)) (by omega) (by omega) hm1 (by omega) _).mono ?_
  rintro e w2 ⟨rfl, rfl⟩
  go_wp2
  go_ret
  exact ⟨rfl, b1⟩
set_option maxRecDepth 20000 in
set_option maxHeartbeats 1000000 in
theorem lawHeardTune_big2 (s0 : Int) (A0 : Option Addr) (c0 : Nat) (l0 : List (Int × Int)) (A1 : Option Addr) (c1 : Nat) (l1 : List (Int × Int)) (A2 : Option Addr) (c2 : Nat) (l2 : List (Bool × Int × Int × Int)) (w : World) (hc0 : l0.length ≤ 1048576) (hc1 : l0.length + l1.length ≤ 1048576) (hbg : 1048576 < l0.length + l1.length + l2.length) (hm0 : l0.length ≤ maxLen) (hm1 : l1.length ≤ maxLen) (hm2 : l2.length ≤ maxLen) :
    Calls Tryz.prog 7 #[.agg #[.int .i16 s0, .slice A0 l0.length c0], .slice A1 l1.length c1, .slice A2 l2.length c2] w (Says true w) := by
  obtain ⟨X0, hX0⟩ : ∃ X, X = (w.alloc (.cells #[.int .i16 s0, .slice A0 l0.length c0] 25)) := ⟨_, rfl⟩
  have b0 : Below w.heap.size w X0 := by rw [hX0]; exact ((Below.refl _ _).alloc (Nat.le_refl _) _)
  have B0_0 : Bk X0 (w.heap.size) 25 #[.int .i16 s0, .slice A0 l0.length c0] := by rw [hX0]; exact Bk.new _ _ _ rfl
  have bw0 : w.heap.size < X0.heap.size := B0_0.lt
  go_enter Tryz.func7, Tryz.ntmps7
  go_upto_region 1 with fail
  rw [← hX0]
  clear hX0
  have pf20_0 := B0_0.cell (i := 0) rfl
  have pf20_1 := B0_0.cell (i := 1) rfl
  go_wp2_with fail
  clear pf20_0 pf20_1
  refine (szFrame_at_small s0 A0 l0.length c0 (1048576) (by omega) (by omega) hm0 (by omega) _).mono ?_
  rintro e w1 ⟨rfl, hb1⟩
  have b1 := step_below hb1 b0
  have B0_1 := B0_0.keep hb1
  go_wp2_with fail
  refine (szTune_small A1 l1.length c1 (1048576 - (l0.length : Int)) (by omega) (by omega) hm1 (by omega) _).mono ?_
  rintro e w2' ⟨rfl, rfl⟩
  go_wp2_with fail
  refine (szChoiceS_big A2 l2.length c2 (1048576 - (l0.length : Int) - (l1.length : Int)) (by omega) (by omega) hm2 (by omega) _).mono ?_
  rintro e w2 ⟨rfl, rfl⟩
  go_wp2
  go_ret
  exact ⟨rfl, b1⟩
set_option maxRecDepth 20000 in
set_option maxHeartbeats 4000000 in
theorem lawHeardTune_small (s0 : Int) (A0 : Option Addr) (c0 : Nat) (l0 : List (Int × Int)) (A1 : Option Addr) (c1 : Nat) (l1 : List (Int × Int)) (A2 : Option Addr) (c2 : Nat) (l2 : List (Bool × Int × Int × Int)) (w : World) (hA0 : HA w A0 l0) (hwf0 : HWF l0) (hs0 : -32768 ≤ s0 ∧ s0 ≤ 32767) (hA1 : NA w A1 l1) (hwf1 : WF l1) (hA2 : ChA w A2 l2) (hwf2 : ChWF l2) (hT : TabE w) (hc0 : l0.length ≤ 1048576) (hc1 : l0.length + l1.length ≤ 1048576) (hc2 : l0.length + l1.length + l2.length ≤ 1048576) (hm0 : l0.length ≤ maxLen) (hm1 : l1.length ≤ maxLen) (hm2 : l2.length ≤ maxLen) :
    Calls Tryz.prog 7 #[.agg #[.int .i16 s0, .slice A0 l0.length c0], .slice A1 l1.length c1, .slice A2 l2.length c2] w (Says true w) := by
  have hn0 : l0.length ≤ 1048576 := by omega
  have hn1 : l1.length ≤ 1048576 := by omega
  have hn2 : l2.length ≤ 1048576 := by omega
  obtain ⟨r0, hr0⟩ : ∃ r : List (Int × Int), r = htV s0 l0 l1 l2 := ⟨_, rfl⟩
  obtain ⟨r1, hr1⟩ : ∃ r : Int, r = dfC s0 l0 l1 l2 := ⟨_, rfl⟩
  have hrl0 : r0.length ≤ 1048576 := by rw [hr0]; exact htV_len _ _ _ _
  have KS : ∀ (E0 : Option Addr) (E1 : Option Addr) (E2 : Option Addr) (W : World), HA W E0 l0 → NA W E1 l1 → ChA W E2 l2 → TabE W → Calls Tryz.prog 26 #[.agg #[.int .i16 s0, .slice E0 l0.length l0.length], .slice E1 l1.length l1.length, .slice E2 l2.length l2.length] W (fun e w' => ∃ (C : Option Addr) (q : Nat), e = .returned (.tuple #[.slice C r0.length q, .int .i64 r1]) ∧ w'.ownsRow W.heap.size 65 2 (.slice C r0.length q) r0.length (cellsOf r0) ∧ Below W.heap.size W w') := fun E0 E1 E2 W h0 h1 h2 hT' => by rw [hr0, hr1]; exact specHeardTune_any s0 E0 l0.length l0 E1 l1.length l1 E2 l2.length l2 W h0 hn0 hwf0 hs0 h1 hn1 hwf1 h2 hn2 hwf2
  have KI : ∀ (E0 : Option Addr) (E1 : Option Addr) (E2 : Option Addr) (W : World), HA W E0 l0 → NA W E1 l1 → ChA W E2 l2 → TabE W → Calls Tryz.prog 27 #[.agg #[.int .i16 s0, .slice E0 l0.length l0.length], .slice E1 l1.length l1.length, .slice E2 l2.length l2.length] W (fun e w' => ∃ (C : Option Addr) (q : Nat), e = .returned (.tuple #[.slice C r0.length q, .int .i64 r1]) ∧ w'.ownsRow W.heap.size 65 2 (.slice C r0.length q) r0.length (cellsOf r0) ∧ Below W.heap.size W w') := fun E0 E1 E2 W h0 h1 h2 hT' => by rw [hr0, hr1]; exact implHeardTune_e s0 E0 l0.length l0 E1 l1.length l1 E2 l2.length l2 W h0 hn0 hwf0 hs0 h1 hn1 hwf1 h2 hn2 hwf2 hT'
  clear hr0 hr1
  obtain ⟨X0, hX0⟩ : ∃ X, X = (w.alloc (.cells #[.int .i16 s0, .slice A0 l0.length c0] 25)) := ⟨_, rfl⟩
  have b0 : Below w.heap.size w X0 := by rw [hX0]; exact ((Below.refl _ _).alloc (Nat.le_refl _) _)
  have B0_0 : Bk X0 (w.heap.size) 25 #[.int .i16 s0, .slice A0 l0.length c0] := by rw [hX0]; exact Bk.new _ _ _ rfl
  have bw0 : w.heap.size < X0.heap.size := B0_0.lt
  go_enter Tryz.func7, Tryz.ntmps7
  go_upto_region 1 with fail
  rw [← hX0]
  clear hX0
  have pf20_0 := B0_0.cell (i := 0) rfl
  have pf20_1 := B0_0.cell (i := 1) rfl
  go_wp2_with fail
  clear pf20_0 pf20_1
  refine (szFrame_at_small s0 A0 l0.length c0 (1048576) (by omega) (by omega) hm0 (by omega) _).mono ?_
  rintro e w1 ⟨rfl, hb1⟩
  have b1 := step_below hb1 b0
  have B0_1 := B0_0.keep hb1
  go_wp2_with fail
  refine (szTune_small A1 l1.length c1 (1048576 - (l0.length : Int)) (by omega) (by omega) hm1 (by omega) _).mono ?_
  rintro e w2' ⟨rfl, rfl⟩
  go_wp2_with fail
  refine (szChoiceS_small A2 l2.length c2 (1048576 - (l0.length : Int) - (l1.length : Int)) (by omega) (by omega) hm2 (by omega) _).mono ?_
  rintro e w2' ⟨rfl, rfl⟩
  have pf36_0 := B0_1.cell (i := 0) rfl
  have pf36_1 := B0_1.cell (i := 1) rfl
  go_wp2_with fail
  clear pf36_0 pf36_1
  refine (toFrame_any s0 A0 c0 l0 _ (hA0.below b1) hn0).mono ?_
  rintro e w2 ⟨g2, rfl, hg2, own2, hb2⟩
  have b2 := step_below hb2 b1
  have B0_2 := B0_1.keep hb2
  have gl2 : g2 < w2.heap.size := (own2.lt g2 rfl).2
  have q2_2 := own2
  go_wp2_with fail
  refine (toTune_ex A1 c1 l1 _ (hA1.below b2) hn1).mono ?_
  rintro e w3 ⟨g3, rfl, hg3, own3, hb3⟩
  have b3 := step_below hb3 b2
  have B0_3 := B0_2.keep hb3
  have q2_3 := own_keep q2_2 hb3
  have gl3 : g3 < w3.heap.size := (own3.lt g3 rfl).2
  have q3_3 := own3
  go_wp2_with fail
  refine (toChoiceS_ex A2 c2 l2 _ (hA2.below b3) hn2).mono ?_
  rintro e w4 ⟨g4, rfl, hg4, own4, hb4⟩
  have b4 := step_below hb4 b3
  have B0_4 := B0_3.keep hb4
  have q2_4 := own_keep q2_3 hb4
  have q3_4 := own_keep q3_3 hb4
  have gl4 : g4 < w4.heap.size := (own4.lt g4 rfl).2
  have q4_4 := own4
  go_wp2_with fail
  refine (KS _ _ _ _ (HA.of_own q2_4) (NA.of_own q3_4) (ChA.of_own q4_4) (hT.keep b4)).mono ?_
  rintro e w5 ⟨C5, e5, rfl, own5, hb5⟩
  have b5 := step_below hb5 b4
  have B0_5 := B0_4.keep hb5
  have v5_5 := own5
  have t5 : Below w5.heap.size w5 w5 := Below.refl _ _
  have pf45_0 := B0_5.cell (i := 0) rfl
  have pf45_1 := B0_5.cell (i := 1) rfl
  go_wp2_with fail
  clear pf45_0 pf45_1
  refine (toFrame_any s0 A0 c0 l0 _ (hA0.below b5) hn0).mono ?_
  rintro e w6 ⟨g6, rfl, hg6, own6, hb6⟩
  have b6 := step_below hb6 b5
  have B0_6 := B0_5.keep hb6
  have v5_6 := own_keep v5_5 hb6
  have t6 := step_below hb6 t5
  have gl6 : g6 < w6.heap.size := (own6.lt g6 rfl).2
  have q6_6 := own6
  go_upto_region 13 with fail
  obtain ⟨w7, hX7⟩ : ∃ X, X = w6.alloc (.cells #[.int .i16 s0, .slice (some ⟨g6, 0, none⟩) l0.length l0.length] 38) := ⟨_, rfl⟩
  have hb7 : Below w6.heap.size w6 w7 := by rw [hX7]; exact (Below.refl _ _).alloc (Nat.le_refl _) _
  have K7 : Bk w7 w6.heap.size 38 #[.int .i16 s0, .slice (some ⟨g6, 0, none⟩) l0.length l0.length] := by rw [hX7]; exact Bk.new _ _ _ rfl
  rw [← hX7]
  clear hX7
  have b7 := step_below hb7 b6
  have B0_7 := B0_6.keep hb7
  have v5_7 := own_keep v5_6 hb7
  have q6_7 := own_keep q6_6 hb7
  have t7 := step_below hb7 t6
  have Y0_7 := K7
  have yw0 : w6.heap.size < w7.heap.size := K7.lt
  go_wp2_with fail
  refine (toTune_ex A1 c1 l1 _ (hA1.below b7) hn1).mono ?_
  rintro e w8 ⟨g8, rfl, hg8, own8, hb8⟩
  have b8 := step_below hb8 b7
  have B0_8 := B0_7.keep hb8
  have Y0_8 := Y0_7.keep hb8
  have v5_8 := own_keep v5_7 hb8
  have q6_8 := own_keep q6_7 hb8
  have t8 := step_below hb8 t7
  have gl8 : g8 < w8.heap.size := (own8.lt g8 rfl).2
  have q8_8 := own8
  go_wp2_with fail
  refine (toChoiceS_ex A2 c2 l2 _ (hA2.below b8) hn2).mono ?_
  rintro e w9 ⟨g9, rfl, hg9, own9, hb9⟩
  have b9 := step_below hb9 b8
  have B0_9 := B0_8.keep hb9
  have Y0_9 := Y0_8.keep hb9
  have v5_9 := own_keep v5_8 hb9
  have q6_9 := own_keep q6_8 hb9
  have q8_9 := own_keep q8_8 hb9
  have t9 := step_below hb9 t8
  have gl9 : g9 < w9.heap.size := (own9.lt g9 rfl).2
  have q9_9 := own9
  have pf52_0 := Y0_9.cell (i := 0) rfl
  have pf52_1 := Y0_9.cell (i := 1) rfl
  go_wp2_with fail
  clear pf52_0 pf52_1
  refine (KI _ _ _ _ (HA.of_own q6_9) (NA.of_own q8_9) (ChA.of_own q9_9) (hT.keep b9)).mono ?_
  rintro e w10 ⟨C10, e10, rfl, own10, hb10⟩
  have b10 := step_below hb10 b9
  have B0_10 := B0_9.keep hb10
  have Y0_10 := Y0_9.keep hb10
  have v5_10 := own_keep v5_9 hb10
  have q6_10 := own_keep q6_9 hb10
  have q8_10 := own_keep q8_9 hb10
  have q9_10 := own_keep q9_9 hb10
  have t10 := step_below hb10 t9
  have r10_10 := own10
  go_wp2_with fail
  refine (eqTune_self _ _ _ _ r0 _ (NA.of_own r10_10) (NA.of_own v5_10) hrl0).mono ?_
  rintro e w11 ⟨rfl, hb11⟩
  have b11 := step_below hb11 b10
  have B0_11 := B0_10.keep hb11
  have Y0_11 := Y0_10.keep hb11
  have v5_11 := own_keep v5_10 hb11
  have q6_11 := own_keep q6_10 hb11
  have q8_11 := own_keep q8_10 hb11
  have q9_11 := own_keep q9_10 hb11
  have r10_11 := own_keep r10_10 hb11
  have t11 := step_below hb11 t10
  go_wp2_with fail
  have hb12 : Below w11.heap.size w11 w11.drew := (Below.refl _ _).drew
  have b12 := step_below hb12 b11
  have B0_12 := B0_11.keep hb12
  have Y0_12 := Y0_11.keep hb12
  have v5_12 := own_keep v5_11 hb12
  have q6_12 := own_keep q6_11 hb12
  have q8_12 := own_keep q8_11 hb12
  have q9_12 := own_keep q9_11 hb12
  have r10_12 := own_keep r10_11 hb12
  have t12 := step_below hb12 t11
  refine wp_region_held_drew (S := fun w' => w'.cell? ⟨w6.heap.size, 0, none⟩ = some (.int .i16 s0) ∧ w'.cell? ⟨w6.heap.size, 1, none⟩ = some (.slice (some ⟨g6, 0, none⟩) l0.length l0.length) ∧ w'.cell? ⟨w.heap.size, 0, none⟩ = some (.int .i16 s0) ∧ w'.cell? ⟨w.heap.size, 1, none⟩ = some (.slice A0 l0.length c0)) (by kernel_rfl) ⟨(Y0_12.cell (i := 0) rfl), (Y0_12.cell (i := 1) rfl), (B0_12.cell (i := 0) rfl), (B0_12.cell (i := 1) rfl)⟩ fun hS12 => ?_
  refine wpAnyH_take (i := 0) (v := .agg #[.int .i16 s0, .slice (some ⟨g6, 0, none⟩) l0.length l0.length]) rfl (by kernel_rfl) (by kernel_rfl) (by kernel_rfl) (fun _ _ _ h => h) (Or.inl ⟨by rfl, fun w' h => ?_⟩) hS12 ?_
  · have c0 := h.1
    have c1 := h.2.1
    clear h
    go_simp
  simp only [Act.put, List.setIfInBounds_toArray, List.set_cons_zero, List.set_cons_succ]
  refine wpAnyH_take (i := 1) (v := .agg #[.int .i16 s0, .slice A0 l0.length c0]) rfl (by kernel_rfl) (by kernel_rfl) (by kernel_rfl) (fun _ _ _ h => h) (Or.inl ⟨by rfl, fun w' h => ?_⟩) hS12 ?_
  · have c0 := h.2.2.1
    have c1 := h.2.2.2
    clear h
    go_simp
  simp only [Act.put, List.setIfInBounds_toArray, List.set_cons_zero, List.set_cons_succ]
  refine wpAnyH_ready (rs := [2]) (by kernel_rfl) (by simp) (AllReadyH.cons rfl ?_ AllReadyH.nil)
  intro K hK
  rw [if_pos (by rfl)]
  go_simp
  refine (toFrame_any s0 A0 c0 l0 _ (hA0.below b12) hn0).mono ?_
  rintro e w13 ⟨g13, rfl, hg13, own13, hb13⟩
  have b13 := step_below hb13 b12
  have B0_13 := B0_12.keep hb13
  have Y0_13 := Y0_12.keep hb13
  have v5_13 := own_keep v5_12 hb13
  have q6_13 := own_keep q6_12 hb13
  have q8_13 := own_keep q8_12 hb13
  have q9_13 := own_keep q9_12 hb13
  have r10_13 := own_keep r10_12 hb13
  have t13 := step_below hb13 t12
  have gl13 : g13 < w13.heap.size := (own13.lt g13 rfl).2
  have q13_13 := own13
  refine hK.out _ _ ⟨(Y0_13.cell (i := 0) rfl), (Y0_13.cell (i := 1) rfl), (B0_13.cell (i := 0) rfl), (B0_13.cell (i := 1) rfl)⟩ (fun hS13 => ?_)
  clear hK K
  refine wpAnyH_ready (rs := [3]) (by kernel_rfl) (by simp) (AllReadyH.cons rfl ?_ AllReadyH.nil)
  intro K hK
  rw [if_pos (by rfl)]
  go_simp
  refine (eqFrame_any s0 _ _ _ _ l0 _ (HA.of_own q6_13) (HA.of_own q13_13) hn0).mono ?_
  rintro e w14 ⟨rfl, hb14⟩
  have b14 := step_below hb14 b13
  have B0_14 := B0_13.keep hb14
  have Y0_14 := Y0_13.keep hb14
  have v5_14 := own_keep v5_13 hb14
  have q6_14 := own_keep q6_13 hb14
  have q8_14 := own_keep q8_13 hb14
  have q9_14 := own_keep q9_13 hb14
  have r10_14 := own_keep r10_13 hb14
  have t14 := step_below hb14 t13
  refine hK.out _ _ ⟨(Y0_14.cell (i := 0) rfl), (Y0_14.cell (i := 1) rfl), (B0_14.cell (i := 0) rfl), (B0_14.cell (i := 1) rfl)⟩ (fun hS14 => ?_)
  clear hK K
  refine wpAnyH_take (i := 4) (v := .bool false) rfl (by kernel_rfl) (by kernel_rfl) (by kernel_rfl) (fun _ _ _ h => h) (Or.inl ⟨by rfl, fun w' _ => by go_simp⟩) hS14 ?_
  change wpAnyH _ _ _ _ _ _ _ (Act.put _ (some 71) _) _
  simp only [Act.put, List.setIfInBounds_toArray, List.set_cons_zero, List.set_cons_succ]
  refine wpAnyH_done (by kernel_rfl) ?_ _
  go_wp2_with fail
  refine (toTune_ex A1 c1 l1 _ (hA1.below b14) hn1).mono ?_
  rintro e w15 ⟨g15, rfl, hg15, own15, hb15⟩
  have b15 := step_below hb15 b14
  have B0_15 := B0_14.keep hb15
  have Y0_15 := Y0_14.keep hb15
  have v5_15 := own_keep v5_14 hb15
  have q6_15 := own_keep q6_14 hb15
  have q8_15 := own_keep q8_14 hb15
  have q9_15 := own_keep q9_14 hb15
  have r10_15 := own_keep r10_14 hb15
  have t15 := step_below hb15 t14
  have gl15 : g15 < w15.heap.size := (own15.lt g15 rfl).2
  have q15_15 := own15
  go_wp2_with fail
  refine (eqTune_self _ _ _ _ l1 _ (NA.of_own q8_15) (NA.of_own q15_15) hn1).mono ?_
  rintro e w16 ⟨rfl, hb16⟩
  have b16 := step_below hb16 b15
  have B0_16 := B0_15.keep hb16
  have Y0_16 := Y0_15.keep hb16
  have v5_16 := own_keep v5_15 hb16
  have q6_16 := own_keep q6_15 hb16
  have q8_16 := own_keep q8_15 hb16
  have q9_16 := own_keep q9_15 hb16
  have r10_16 := own_keep r10_15 hb16
  have t16 := step_below hb16 t15
  go_wp2_with fail
  refine (toChoiceS_ex A2 c2 l2 _ (hA2.below b16) hn2).mono ?_
  rintro e w17 ⟨g17, rfl, hg17, own17, hb17⟩
  have b17 := step_below hb17 b16
  have B0_17 := B0_16.keep hb17
  have Y0_17 := Y0_16.keep hb17
  have v5_17 := own_keep v5_16 hb17
  have q6_17 := own_keep q6_16 hb17
  have q8_17 := own_keep q8_16 hb17
  have q9_17 := own_keep q9_16 hb17
  have r10_17 := own_keep r10_16 hb17
  have t17 := step_below hb17 t16
  have gl17 : g17 < w17.heap.size := (own17.lt g17 rfl).2
  have q17_17 := own17
  go_wp2_with fail
  refine (eqChoiceS_self _ _ _ _ l2 _ (ChA.of_own q9_17) (ChA.of_own q17_17) hn2).mono ?_
  rintro e w18 ⟨rfl, hb18⟩
  have b18 := step_below hb18 b17
  have B0_18 := B0_17.keep hb18
  have Y0_18 := Y0_17.keep hb18
  have v5_18 := own_keep v5_17 hb18
  have q6_18 := own_keep q6_17 hb18
  have q8_18 := own_keep q8_17 hb18
  have q9_18 := own_keep q9_17 hb18
  have r10_18 := own_keep r10_17 hb18
  have t18 := step_below hb18 t17
  have pf82_0 := Y0_18.cell (i := 0) rfl
  have pf82_1 := Y0_18.cell (i := 1) rfl
  go_wp2_with fail
  clear pf82_0 pf82_1
  refine (markFrame_from s0 _ _ l0 _ (1) _ q6_18 hn0 ⟨by omega, by omega⟩).mono ?_
  rintro e w19 ⟨rfl, mo19, hgr19⟩
  have hbs19 := hgr19.size
  have t19 : Below w5.heap.size w5 w19 := t18.grown hgr19 t18.size (fun j hj => by cases hj; exact Nat.le_trans t5.size hg6)
  have b19 : Below w.heap.size w w19 := b5.trans (t19.mono b5.size)
  have B0_19 := B0_5.keep t19
  have Y0_19 := Y0_18.grown hgr19 (fun e => by have e' : g6 = w6.heap.size := Option.some.inj e; have gg := gl6; have gh := hg6; have h6_ := hb6.size; have h7_ := hb7.size; omega)
  have v5_19 := own_keep v5_5 t19
  have q8_19 := q8_18.kept hgr19 (own_ne2 q8_18 q6_18 (by decide))
  have q9_19 := q9_18.kept hgr19 (own_ne2 q9_18 q6_18 (by decide))
  have r10_19 := r10_18.kept hgr19 (own_ne2 r10_18 q6_18 (by decide))
  have hneg19 : decide (1 + 2 * (l0.length : Int) < 0) = false := by simp; omega
  go_wp2_with fail
  refine (markTune_from _ _ l1 _ (1 + 2 * (l0.length : Int)) _ q8_19 hn1 ⟨by omega, by omega⟩).mono ?_
  rintro e w20 ⟨rfl, mo20, hgr20⟩
  have hbs20 := hgr20.size
  have t20 : Below w5.heap.size w5 w20 := t19.grown hgr20 t19.size (fun j hj => by cases hj; exact Nat.le_trans t7.size hg8)
  have b20 : Below w.heap.size w w20 := b5.trans (t20.mono b5.size)
  have B0_20 := B0_5.keep t20
  have Y0_20 := Y0_19.grown hgr20 (fun e => by have e' : g8 = w6.heap.size := Option.some.inj e; have gg := gl8; have gh := hg8; have h7_ := hb7.size; have h8_ := hb8.size; omega)
  have v5_20 := own_keep v5_5 t20
  have q9_20 := q9_19.kept hgr20 (own_ne2 q9_19 q8_19 (by decide))
  have r10_20 := r10_19.kept hgr20 (Or.inr (fun e => by have h1 := r10_19.lt g8 (by rw [e]; rfl); have gg := gl8; have h9_ := hb9.size; omega))
  have hneg20 : decide (1 + 2 * (l0.length : Int) + 2 * (l1.length : Int) < 0) = false := by simp; omega
  go_wp2_with fail
  refine (markChoiceS_from _ _ l2 _ (1 + 2 * (l0.length : Int) + 2 * (l1.length : Int)) _ q9_20 hn2 ⟨by omega, by omega⟩).mono ?_
  rintro e w21 ⟨rfl, mo21, hgr21⟩
  have hbs21 := hgr21.size
  have t21 : Below w5.heap.size w5 w21 := t20.grown hgr21 t20.size (fun j hj => by cases hj; exact Nat.le_trans t8.size hg9)
  have b21 : Below w.heap.size w w21 := b5.trans (t21.mono b5.size)
  have B0_21 := B0_5.keep t21
  have Y0_21 := Y0_20.grown hgr21 (fun e => by have e' : g9 = w6.heap.size := Option.some.inj e; have gg := gl9; have gh := hg9; have h7_ := hb7.size; have h8_ := hb8.size; have h9_ := hb9.size; omega)
  have v5_21 := own_keep v5_5 t21
  have r10_21 := r10_20.kept hgr21 (own_ne2 r10_20 q9_20 (by decide))
  have hneg21 : decide (1 + 2 * (l0.length : Int) + 2 * (l1.length : Int) + 4 * (l2.length : Int) < 0) = false := by simp; omega
  go_wp2_with fail
  refine (eqTune_self _ _ _ _ r0 _ (NA.of_own r10_21) (NA.of_own v5_21) hrl0).mono ?_
  rintro e w22 ⟨rfl, hb22⟩
  have b22 := step_below hb22 b21
  have B0_22 := B0_21.keep hb22
  have Y0_22 := Y0_21.keep hb22
  have v5_22 := own_keep v5_21 hb22
  have r10_22 := own_keep r10_21 hb22
  have t22 := step_below hb22 t21
  go_wp2_with fail
  refine (markTune_from _ _ r0 _ (1) _ r10_22 hrl0 ⟨by omega, by omega⟩).mono ?_
  rintro e w23 ⟨rfl, mo23, hgr23⟩
  have hbs23 := hgr23.size
  have t23 : Below w5.heap.size w5 w23 := t22.grown hgr23 t22.size (fun j hj => Nat.le_trans t9.size ((r10_22).lt j hj).1)
  have b23 : Below w.heap.size w w23 := b5.trans (t23.mono b5.size)
  have B0_23 := B0_5.keep t23
  have v5_23 := own_keep v5_5 t23
  have k23_23 := mo23
  have hneg23 : decide (1 + 2 * (r0.length : Int) < 0) = false := by simp; omega
  have hneq23 : ((1 + 2 * (r0.length : Int)) != (1 + 2 * (r0.length : Int))) = false := by simp
  go_wp2_with fail
  refine (heldTune_from _ _ r0.length (1) _ (mkN_of_own k23_23) hrl0 ⟨by omega, by omega⟩).mono ?_
  rintro e w24' ⟨rfl, rfl⟩
  have pf116_0 := B0_23.cell (i := 0) rfl
  have pf116_1 := B0_23.cell (i := 1) rfl
  go_wp2_with fail
  clear pf116_0 pf116_1
  refine (toFrame_any s0 A0 c0 l0 _ (hA0.below b23) hn0).mono ?_
  rintro e w24 ⟨g24, rfl, hg24, own24, hb24⟩
  have b24 := step_below hb24 b23
  have B0_24 := B0_23.keep hb24
  have v5_24 := own_keep v5_23 hb24
  have k23_24 := own_keep k23_23 hb24
  have t24 := step_below hb24 t23
  have gl24 : g24 < w24.heap.size := (own24.lt g24 rfl).2
  have q24_24 := own24
  go_wp2_with fail
  refine (toTune_ex A1 c1 l1 _ (hA1.below b24) hn1).mono ?_
  rintro e w25 ⟨g25, rfl, hg25, own25, hb25⟩
  have b25 := step_below hb25 b24
  have B0_25 := B0_24.keep hb25
  have v5_25 := own_keep v5_24 hb25
  have k23_25 := own_keep k23_24 hb25
  have q24_25 := own_keep q24_24 hb25
  have t25 := step_below hb25 t24
  have gl25 : g25 < w25.heap.size := (own25.lt g25 rfl).2
  have q25_25 := own25
  go_wp2_with fail
  refine (toChoiceS_ex A2 c2 l2 _ (hA2.below b25) hn2).mono ?_
  rintro e w26 ⟨g26, rfl, hg26, own26, hb26⟩
  have b26 := step_below hb26 b25
  have B0_26 := B0_25.keep hb26
  have v5_26 := own_keep v5_25 hb26
  have k23_26 := own_keep k23_25 hb26
  have q24_26 := own_keep q24_25 hb26
  have q25_26 := own_keep q25_25 hb26
  have t26 := step_below hb26 t25
  have gl26 : g26 < w26.heap.size := (own26.lt g26 rfl).2
  have q26_26 := own26
  go_wp2_with fail
  refine (KI _ _ _ _ (HA.of_own q24_26) (NA.of_own q25_26) (ChA.of_own q26_26) (hT.keep b26)).mono ?_
  rintro e w27 ⟨C27, e27, rfl, own27, hb27⟩
  have b27 := step_below hb27 b26
  have B0_27 := B0_26.keep hb27
  have v5_27 := own_keep v5_26 hb27
  have k23_27 := own_keep k23_26 hb27
  have q24_27 := own_keep q24_26 hb27
  have q25_27 := own_keep q25_26 hb27
  have q26_27 := own_keep q26_26 hb27
  have t27 := step_below hb27 t26
  have r27_27 := own27
  go_wp2_with fail
  refine (eqTune_self _ _ _ _ r0 _ (NA.of_own r27_27) (NA.of_own v5_27) hrl0).mono ?_
  rintro e w28 ⟨rfl, hb28⟩
  have b28 := step_below hb28 b27
  have B0_28 := B0_27.keep hb28
  have v5_28 := own_keep v5_27 hb28
  have k23_28 := own_keep k23_27 hb28
  have q24_28 := own_keep q24_27 hb28
  have q25_28 := own_keep q25_27 hb28
  have q26_28 := own_keep q26_27 hb28
  have t28 := step_below hb28 t27
  go_wp2_with fail
  refine (heldTune_from _ _ r0.length (1) _ (mkN_of_own k23_28) hrl0 ⟨by omega, by omega⟩).mono ?_
  rintro e w29' ⟨rfl, rfl⟩
  go_wp2
  go_ret
  exact ⟨rfl, b28⟩
theorem lawHeardTune_any (s0 : Int) (A0 : Option Addr) (c0 : Nat) (l0 : List (Int × Int)) (A1 : Option Addr) (c1 : Nat) (l1 : List (Int × Int)) (A2 : Option Addr) (c2 : Nat) (l2 : List (Bool × Int × Int × Int)) (w : World) (hA0 : HA w A0 l0) (hwf0 : HWF l0) (hs0 : -32768 ≤ s0 ∧ s0 ≤ 32767) (hA1 : NA w A1 l1) (hwf1 : WF l1) (hA2 : ChA w A2 l2) (hwf2 : ChWF l2) (hT : TabE w) (hm0 : l0.length ≤ maxLen) (hm1 : l1.length ≤ maxLen) (hm2 : l2.length ≤ maxLen)  :
    Calls Tryz.prog 7 #[.agg #[.int .i16 s0, .slice A0 l0.length c0], .slice A1 l1.length c1, .slice A2 l2.length c2] w (Says true w) := by
  rcases Nat.lt_or_ge 1048576 (l0.length) with h0 | h0
  · exact lawHeardTune_big0 s0 A0 c0 l0 A1 c1 l1 A2 c2 l2 w  h0 hm0 hm1 hm2
  rcases Nat.lt_or_ge 1048576 (l0.length + l1.length) with h1 | h1
  · exact lawHeardTune_big1 s0 A0 c0 l0 A1 c1 l1 A2 c2 l2 w h0 h1 hm0 hm1 hm2
  rcases Nat.lt_or_ge 1048576 (l0.length + l1.length + l2.length) with h2 | h2
  · exact lawHeardTune_big2 s0 A0 c0 l0 A1 c1 l1 A2 c2 l2 w h0 h1 h2 hm0 hm1 hm2
  exact lawHeardTune_small s0 A0 c0 l0 A1 c1 l1 A2 c2 l2 w hA0 hwf0 hs0 hA1 hwf1 hA2 hwf2 hT h0 h1 h2 hm0 hm1 hm2 
end Go.Proofs.YtmmninlnpnhboaaGreatDoor
