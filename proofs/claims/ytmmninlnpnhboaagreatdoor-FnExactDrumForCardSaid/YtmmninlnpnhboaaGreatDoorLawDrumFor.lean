import Derived.Test.YtmmninlnpnhboaaGreatDoorGaf
import Derived.Test.YtmmninlnpnhboaaGreatDoorGag
import Derived.Test.YtmmninlnpnhboaaGreatDoorGbt
import Derived.Deep.RegionHeld3
import Derived.Deep.CutRange
namespace Go.Proofs.YtmmninlnpnhboaaGreatDoor
open Go.RowKit

set_option maxRecDepth 20000 in
set_option maxHeartbeats 1000000 in
theorem lawDrumFor_big0 (s0 : Int) (A0 : Option Addr) (c0 : Nat) (l0 : List (Int × Int)) (A1 : Option Addr) (c1 : Nat) (l1 : List (Int × Int)) (A2 : Option Addr) (c2 : Nat) (l2 : List (Bool × Int × Int × Int)) (w : World)  (hbg : 1048576 < l0.length) (hm0 : l0.length ≤ maxLen) (hm1 : l1.length ≤ maxLen) (hm2 : l2.length ≤ maxLen) :
    Calls Tryz.prog 3 #[.agg #[.int .i16 s0, .slice A0 l0.length c0], .slice A1 l1.length c1, .slice A2 l2.length c2] w (Says true w) := by
  obtain ⟨X0, hX0⟩ : ∃ X, X = (w.alloc (.cells #[.int .i16 s0, .slice A0 l0.length c0] 25)) := ⟨_, rfl⟩
  have b0 : Below w.heap.size w X0 := by rw [hX0]; exact ((Below.refl _ _).alloc (Nat.le_refl _) _)
  have B0_0 : Bk X0 (w.heap.size) 25 #[.int .i16 s0, .slice A0 l0.length c0] := by rw [hX0]; exact Bk.new _ _ _ rfl
  have bw0 : w.heap.size < X0.heap.size := B0_0.lt
  go_enter Tryz.func3, Tryz.ntmps3
  go_upto_region 1 with fail
  rw [← hX0]
  clear hX0
  have pf15_0 := B0_0.cell (i := 0) rfl
  have pf15_1 := B0_0.cell (i := 1) rfl
  go_wp2_with fail
  clear pf15_0 pf15_1
  refine (szFrame_at_big s0 A0 l0.length c0 (1048576) (by omega) (by omega) hm0 (by omega) _).mono ?_
  rintro e w1 ⟨rfl, hb1⟩
  have b1 := step_below hb1 b0
  go_wp2
  go_ret
  exact ⟨rfl, b1⟩
set_option maxRecDepth 20000 in
set_option maxHeartbeats 1000000 in
theorem lawDrumFor_big1 (s0 : Int) (A0 : Option Addr) (c0 : Nat) (l0 : List (Int × Int)) (A1 : Option Addr) (c1 : Nat) (l1 : List (Int × Int)) (A2 : Option Addr) (c2 : Nat) (l2 : List (Bool × Int × Int × Int)) (w : World) (hc0 : l0.length ≤ 1048576) (hbg : 1048576 < l0.length + l1.length) (hm0 : l0.length ≤ maxLen) (hm1 : l1.length ≤ maxLen) (hm2 : l2.length ≤ maxLen) :
    Calls Tryz.prog 3 #[.agg #[.int .i16 s0, .slice A0 l0.length c0], .slice A1 l1.length c1, .slice A2 l2.length c2] w (Says true w) := by
  obtain ⟨X0, hX0⟩ : ∃ X, X = (w.alloc (.cells #[.int .i16 s0, .slice A0 l0.length c0] 25)) := ⟨_, rfl⟩
  have b0 : Below w.heap.size w X0 := by rw [hX0]; exact ((Below.refl _ _).alloc (Nat.le_refl _) _)
  have B0_0 : Bk X0 (w.heap.size) 25 #[.int .i16 s0, .slice A0 l0.length c0] := by rw [hX0]; exact Bk.new _ _ _ rfl
  have bw0 : w.heap.size < X0.heap.size := B0_0.lt
  go_enter Tryz.func3, Tryz.ntmps3
  go_upto_region 1 with fail
  rw [← hX0]
  clear hX0
  have pf15_0 := B0_0.cell (i := 0) rfl
  have pf15_1 := B0_0.cell (i := 1) rfl
  go_wp2_with fail
  clear pf15_0 pf15_1
  refine (szFrame_at_small s0 A0 l0.length c0 (1048576) (by omega) (by omega) hm0 (by omega) _).mono ?_
  rintro e w1 ⟨rfl, hb1⟩
  have b1 := step_below hb1 b0
  have B0_1 := B0_0.keep hb1
  go_wp2_with fail
  refine (szTune_big A1 l1.length c1 (1048576 - (l0.length : Int)) (by omega) (by omega) hm1 (by omega) _).mono ?_
  rintro e w2 ⟨rfl, rfl⟩
  go_wp2
  go_ret
  exact ⟨rfl, b1⟩
set_option maxRecDepth 20000 in
set_option maxHeartbeats 1000000 in
theorem lawDrumFor_big2 (s0 : Int) (A0 : Option Addr) (c0 : Nat) (l0 : List (Int × Int)) (A1 : Option Addr) (c1 : Nat) (l1 : List (Int × Int)) (A2 : Option Addr) (c2 : Nat) (l2 : List (Bool × Int × Int × Int)) (w : World) (hc0 : l0.length ≤ 1048576) (hc1 : l0.length + l1.length ≤ 1048576) (hbg : 1048576 < l0.length + l1.length + l2.length) (hm0 : l0.length ≤ maxLen) (hm1 : l1.length ≤ maxLen) (hm2 : l2.length ≤ maxLen) :
    Calls Tryz.prog 3 #[.agg #[.int .i16 s0, .slice A0 l0.length c0], .slice A1 l1.length c1, .slice A2 l2.length c2] w (Says true w) := by
  obtain ⟨X0, hX0⟩ : ∃ X, X = (w.alloc (.cells #[.int .i16 s0, .slice A0 l0.length c0] 25)) := ⟨_, rfl⟩
  have b0 : Below w.heap.size w X0 := by rw [hX0]; exact ((Below.refl _ _).alloc (Nat.le_refl _) _)
  have B0_0 : Bk X0 (w.heap.size) 25 #[.int .i16 s0, .slice A0 l0.length c0] := by rw [hX0]; exact Bk.new _ _ _ rfl
  have bw0 : w.heap.size < X0.heap.size := B0_0.lt
  go_enter Tryz.func3, Tryz.ntmps3
  go_upto_region 1 with fail
  rw [← hX0]
  clear hX0
  have pf15_0 := B0_0.cell (i := 0) rfl
  have pf15_1 := B0_0.cell (i := 1) rfl
  go_wp2_with fail
  clear pf15_0 pf15_1
  refine (szFrame_at_small s0 A0 l0.length c0 (1048576) (by omega) (by omega) hm0 (by omega) _).mono ?_
  rintro e w1 ⟨rfl, hb1⟩
  have b1 := step_below hb1 b0
  have B0_1 := B0_0.keep hb1
  go_wp2_with fail
  refine (szTune_small A1 l1.length c1 (1048576 - (l0.length : Int)) (by omega) (by omega) hm1 (by omega) _).mono ?_
  rintro e w2' ⟨rfl, rfl⟩
  go_wp2_with fail
  refine (szChoiceS_big A2 l2.length c2 (1048576 - (l0.length : Int) - (l1.length : Int)) (by omega) (by omega) hm2 (by omega) _).mono ?_
  rintro e w2 ⟨rfl, rfl⟩
  go_wp2
  go_ret
  exact ⟨rfl, b1⟩
set_option maxRecDepth 20000 in
set_option maxHeartbeats 4000000 in
theorem lawDrumFor_small (s0 : Int) (A0 : Option Addr) (c0 : Nat) (l0 : List (Int × Int)) (A1 : Option Addr) (c1 : Nat) (l1 : List (Int × Int)) (A2 : Option Addr) (c2 : Nat) (l2 : List (Bool × Int × Int × Int)) (w : World) (hA0 : HA w A0 l0) (hwf0 : HWF l0) (hs0 : -32768 ≤ s0 ∧ s0 ≤ 32767) (hA1 : NA w A1 l1) (hwf1 : WF l1) (hA2 : ChA w A2 l2) (hwf2 : ChWF l2) (hT : ErrW w) (hc0 : l0.length ≤ 1048576) (hc1 : l0.length + l1.length ≤ 1048576) (hc2 : l0.length + l1.length + l2.length ≤ 1048576) (hm0 : l0.length ≤ maxLen) (hm1 : l1.length ≤ maxLen) (hm2 : l2.length ≤ maxLen) :
    Calls Tryz.prog 3 #[.agg #[.int .i16 s0, .slice A0 l0.length c0], .slice A1 l1.length c1, .slice A2 l2.length c2] w (Says true w) := by
  have hn0 : l0.length ≤ 1048576 := by omega
  have hn1 : l1.length ≤ 1048576 := by omega
  have hn2 : l2.length ≤ 1048576 := by omega
  obtain ⟨r0, hr0⟩ : ∃ r : Nat → Int, r = dfD s0 l0 l1 l2 := ⟨_, rfl⟩
  obtain ⟨r1, hr1⟩ : ∃ r : Int, r = dfC s0 l0 l1 l2 := ⟨_, rfl⟩
  have KS : ∀ (E0 : Option Addr) (E1 : Option Addr) (E2 : Option Addr) (W : World), HA W E0 l0 → NA W E1 l1 → ChA W E2 l2 → ErrW W → Calls Tryz.prog 11 #[.agg #[.int .i16 s0, .slice E0 l0.length l0.length], .slice E1 l1.length l1.length, .slice E2 l2.length l2.length] W (fun e w' => e = .returned (.tuple #[.agg (da r0), .int .i64 r1]) ∧ Below W.heap.size W w') := fun E0 E1 E2 W h0 h1 h2 hT' => by rw [hr0, hr1]; exact specDrumFor_any s0 E0 l0.length l0 E1 l1.length l1 E2 l2.length l2 W h0 hn0 hwf0 hs0 h1 hn1 hwf1 h2 hn2 hwf2
  have KI : ∀ (E0 : Option Addr) (E1 : Option Addr) (E2 : Option Addr) (W : World), HA W E0 l0 → NA W E1 l1 → ChA W E2 l2 → ErrW W → Calls Tryz.prog 15 #[.agg #[.int .i16 s0, .slice E0 l0.length l0.length], .slice E1 l1.length l1.length, .slice E2 l2.length l2.length] W (fun e w' => e = .returned (.tuple #[.agg (da r0), .int .i64 r1]) ∧ Below W.heap.size W w') := fun E0 E1 E2 W h0 h1 h2 hT' => by rw [hr0, hr1]; exact implDrumFor_e s0 E0 l0.length l0 E1 l1.length l1 E2 l2.length l2 W h0 hn0 hwf0 hs0 h1 hn1 hwf1 h2 hn2 hwf2 hT'
  clear hr0 hr1
  obtain ⟨X0, hX0⟩ : ∃ X, X = (w.alloc (.cells #[.int .i16 s0, .slice A0 l0.length c0] 25)) := ⟨_, rfl⟩
  have b0 : Below w.heap.size w X0 := by rw [hX0]; exact ((Below.refl _ _).alloc (Nat.le_refl _) _)
  have B0_0 : Bk X0 (w.heap.size) 25 #[.int .i16 s0, .slice A0 l0.length c0] := by rw [hX0]; exact Bk.new _ _ _ rfl
  have bw0 : w.heap.size < X0.heap.size := B0_0.lt
  go_enter Tryz.func3, Tryz.ntmps3
  go_upto_region 1 with fail
  rw [← hX0]
  clear hX0
  have pf15_0 := B0_0.cell (i := 0) rfl
  have pf15_1 := B0_0.cell (i := 1) rfl
  go_wp2_with fail
  clear pf15_0 pf15_1
  refine (szFrame_at_small s0 A0 l0.length c0 (1048576) (by omega) (by omega) hm0 (by omega) _).mono ?_
  rintro e w1 ⟨rfl, hb1⟩
  have b1 := step_below hb1 b0
  have B0_1 := B0_0.keep hb1
  go_wp2_with fail
  refine (szTune_small A1 l1.length c1 (1048576 - (l0.length : Int)) (by omega) (by omega) hm1 (by omega) _).mono ?_
  rintro e w2' ⟨rfl, rfl⟩
  go_wp2_with fail
  refine (szChoiceS_small A2 l2.length c2 (1048576 - (l0.length : Int) - (l1.length : Int)) (by omega) (by omega) hm2 (by omega) _).mono ?_
  rintro e w2' ⟨rfl, rfl⟩
  have pf31_0 := B0_1.cell (i := 0) rfl
  have pf31_1 := B0_1.cell (i := 1) rfl
  go_wp2_with fail
  clear pf31_0 pf31_1
  refine (toFrame_any s0 A0 c0 l0 _ (hA0.below b1) hn0).mono ?_
  rintro e w2 ⟨g2, rfl, hg2, own2, hb2⟩
  have b2 := step_below hb2 b1
  have B0_2 := B0_1.keep hb2
  have gl2 : g2 < w2.heap.size := (own2.lt g2 rfl).2
  have q2_2 := own2
  go_wp2_with fail
  refine (toTune_ex A1 c1 l1 _ (hA1.below b2) hn1).mono ?_
  rintro e w3 ⟨g3, rfl, hg3, own3, hb3⟩
  have b3 := step_below hb3 b2
  have B0_3 := B0_2.keep hb3
  have q2_3 := own_keep q2_2 hb3
  have gl3 : g3 < w3.heap.size := (own3.lt g3 rfl).2
  have q3_3 := own3
  go_wp2_with fail
  refine (toChoiceS_ex A2 c2 l2 _ (hA2.below b3) hn2).mono ?_
  rintro e w4 ⟨g4, rfl, hg4, own4, hb4⟩
  have b4 := step_below hb4 b3
  have B0_4 := B0_3.keep hb4
  have q2_4 := own_keep q2_3 hb4
  have q3_4 := own_keep q3_3 hb4
  have gl4 : g4 < w4.heap.size := (own4.lt g4 rfl).2
  have q4_4 := own4
  go_wp2_with fail
  refine (KS _ _ _ _ (HA.of_own q2_4) (NA.of_own q3_4) (ChA.of_own q4_4) (hT.keep b4)).mono ?_
  rintro e w5 ⟨rfl, hb5⟩
  have b5 := step_below hb5 b4
  have B0_5 := B0_4.keep hb5
  have t5 : Below w5.heap.size w5 w5 := Below.refl _ _
  have hz := zeroDrum
  have hza : za.size = (da r0).size := by rw [da_size]; rfl
  go_upto_region 12 with (with_reducible refine wpList_store_new rfl 33 (.tmp 8) (.tmp 38) rfl r0 rfl rfl 33 _ (dInfo r0) hza ?_)
  clear hz hza
  obtain ⟨w6, hX6⟩ : ∃ X, X = w5.alloc (.cells (da r0) 33) := ⟨_, rfl⟩
  have hb6 : Below w5.heap.size w5 w6 := by rw [hX6]; exact (Below.refl _ _).alloc (Nat.le_refl _) _
  have K6 : Bk w6 w5.heap.size 33 (da r0) := by rw [hX6]; exact Bk.new _ _ _ rfl
  rw [← hX6]
  clear hX6
  have b6 := step_below hb6 b5
  have B0_6 := B0_5.keep hb6
  have t6 := step_below hb6 t5
  have R6_6 := K6
  have pf40_0 := B0_6.cell (i := 0) rfl
  have pf40_1 := B0_6.cell (i := 1) rfl
  go_wp2_with fail
  clear pf40_0 pf40_1
  refine (toFrame_any s0 A0 c0 l0 _ (hA0.below b6) hn0).mono ?_
  rintro e w7 ⟨g7, rfl, hg7, own7, hb7⟩
  have b7 := step_below hb7 b6
  have B0_7 := B0_6.keep hb7
  have R6_7 := R6_6.keep hb7
  have t7 := step_below hb7 t6
  have gl7 : g7 < w7.heap.size := (own7.lt g7 rfl).2
  have q7_7 := own7
  go_upto_region 13 with fail
  obtain ⟨w8, hX8⟩ : ∃ X, X = w7.alloc (.cells #[.int .i16 s0, .slice (some ⟨g7, 0, none⟩) l0.length l0.length] 38) := ⟨_, rfl⟩
  have hb8 : Below w7.heap.size w7 w8 := by rw [hX8]; exact (Below.refl _ _).alloc (Nat.le_refl _) _
  have K8 : Bk w8 w7.heap.size 38 #[.int .i16 s0, .slice (some ⟨g7, 0, none⟩) l0.length l0.length] := by rw [hX8]; exact Bk.new _ _ _ rfl
  rw [← hX8]
  clear hX8
  have b8 := step_below hb8 b7
  have B0_8 := B0_7.keep hb8
  have R6_8 := R6_7.keep hb8
  have q7_8 := own_keep q7_7 hb8
  have t8 := step_below hb8 t7
  have Y0_8 := K8
  have yw0 : w7.heap.size < w8.heap.size := K8.lt
  go_wp2_with fail
  refine (toTune_ex A1 c1 l1 _ (hA1.below b8) hn1).mono ?_
  rintro e w9 ⟨g9, rfl, hg9, own9, hb9⟩
  have b9 := step_below hb9 b8
  have B0_9 := B0_8.keep hb9
  have R6_9 := R6_8.keep hb9
  have Y0_9 := Y0_8.keep hb9
  have q7_9 := own_keep q7_8 hb9
  have t9 := step_below hb9 t8
  have gl9 : g9 < w9.heap.size := (own9.lt g9 rfl).2
  have q9_9 := own9
  go_wp2_with fail
  refine (toChoiceS_ex A2 c2 l2 _ (hA2.below b9) hn2).mono ?_
  rintro e w10 ⟨g10, rfl, hg10, own10, hb10⟩
  have b10 := step_below hb10 b9
  have B0_10 := B0_9.keep hb10
  have R6_10 := R6_9.keep hb10
  have Y0_10 := Y0_9.keep hb10
  have q7_10 := own_keep q7_9 hb10
  have q9_10 := own_keep q9_9 hb10
  have t10 := step_below hb10 t9
  have gl10 : g10 < w10.heap.size := (own10.lt g10 rfl).2
  have q10_10 := own10
  have pf47_0 := Y0_10.cell (i := 0) rfl
  have pf47_1 := Y0_10.cell (i := 1) rfl
  go_wp2_with fail
  clear pf47_0 pf47_1
  refine (KI _ _ _ _ (HA.of_own q7_10) (NA.of_own q9_10) (ChA.of_own q10_10) (hT.keep b10)).mono ?_
  rintro e w11 ⟨rfl, hb11⟩
  have b11 := step_below hb11 b10
  have B0_11 := B0_10.keep hb11
  have R6_11 := R6_10.keep hb11
  have Y0_11 := Y0_10.keep hb11
  have q7_11 := own_keep q7_10 hb11
  have q9_11 := own_keep q9_10 hb11
  have q10_11 := own_keep q10_10 hb11
  have t11 := step_below hb11 t10
  have hz := zeroDrum
  have hza : za.size = (da r0).size := by rw [da_size]; rfl
  go_upto_region 16 with (with_reducible refine wpList_store_new rfl 33 (.tmp 13) (.tmp 51) rfl r0 rfl rfl 33 _ (dInfo r0) hza ?_)
  clear hz hza
  obtain ⟨w12, hX12⟩ : ∃ X, X = w11.alloc (.cells (da r0) 33) := ⟨_, rfl⟩
  have hb12 : Below w11.heap.size w11 w12 := by rw [hX12]; exact (Below.refl _ _).alloc (Nat.le_refl _) _
  have K12 : Bk w12 w11.heap.size 33 (da r0) := by rw [hX12]; exact Bk.new _ _ _ rfl
  rw [← hX12]
  clear hX12
  have b12 := step_below hb12 b11
  have B0_12 := B0_11.keep hb12
  have R6_12 := R6_11.keep hb12
  have Y0_12 := Y0_11.keep hb12
  have q7_12 := own_keep q7_11 hb12
  have q9_12 := own_keep q9_11 hb12
  have q10_12 := own_keep q10_11 hb12
  have t12 := step_below hb12 t11
  have R12_12 := K12
  have HD53_ := hide (show Dr w12 (w11.heap.size) 33 r0 from R12_12).range
  have HD54_ := hide (show Dr w12 (w5.heap.size) 33 r0 from R6_12).range
  go_wp2_with (first | (with_reducible refine wpList_load_da rfl 33 (.tmp 13) rfl (w11.heap.size) 0 rfl r0 _ HD53_.out Tryz.underlying33 rfl (dInfo r0) ?_) | (with_reducible refine wpList_load_da rfl 33 (.tmp 8) rfl (w5.heap.size) 0 rfl r0 _ HD54_.out Tryz.underlying33 rfl (dInfo r0) ?_))
  clear HD53_ HD54_
  refine (eqDrum_any r0 _).mono ?_
  rintro e w13 ⟨rfl, hb13⟩
  have b13 := step_below hb13 b12
  have B0_13 := B0_12.keep hb13
  have R6_13 := R6_12.keep hb13
  have Y0_13 := Y0_12.keep hb13
  have R12_13 := R12_12.keep hb13
  have q7_13 := own_keep q7_12 hb13
  have q9_13 := own_keep q9_12 hb13
  have q10_13 := own_keep q10_12 hb13
  have t13 := step_below hb13 t12
  go_wp2_with fail
  have hb14 : Below w13.heap.size w13 w13.drew := (Below.refl _ _).drew
  have b14 := step_below hb14 b13
  have B0_14 := B0_13.keep hb14
  have R6_14 := R6_13.keep hb14
  have Y0_14 := Y0_13.keep hb14
  have R12_14 := R12_13.keep hb14
  have q7_14 := own_keep q7_13 hb14
  have q9_14 := own_keep q9_13 hb14
  have q10_14 := own_keep q10_13 hb14
  have t14 := step_below hb14 t13
  refine wp_region_held_drew (S := fun w' => w'.cell? ⟨w7.heap.size, 0, none⟩ = some (.int .i16 s0) ∧ w'.cell? ⟨w7.heap.size, 1, none⟩ = some (.slice (some ⟨g7, 0, none⟩) l0.length l0.length) ∧ w'.cell? ⟨w.heap.size, 0, none⟩ = some (.int .i16 s0) ∧ w'.cell? ⟨w.heap.size, 1, none⟩ = some (.slice A0 l0.length c0)) (by kernel_rfl) ⟨(Y0_14.cell (i := 0) rfl), (Y0_14.cell (i := 1) rfl), (B0_14.cell (i := 0) rfl), (B0_14.cell (i := 1) rfl)⟩ fun hS14 => ?_
  refine wpAnyH_take (i := 0) (v := .agg #[.int .i16 s0, .slice (some ⟨g7, 0, none⟩) l0.length l0.length]) rfl (by kernel_rfl) (by kernel_rfl) (by kernel_rfl) (fun _ _ _ h => h) (Or.inl ⟨by rfl, fun w' h => ?_⟩) hS14 ?_
  · have c0 := h.1
    have c1 := h.2.1
    clear h
    go_simp
  simp only [Act.put, List.setIfInBounds_toArray, List.set_cons_zero, List.set_cons_succ]
  refine wpAnyH_take (i := 1) (v := .agg #[.int .i16 s0, .slice A0 l0.length c0]) rfl (by kernel_rfl) (by kernel_rfl) (by kernel_rfl) (fun _ _ _ h => h) (Or.inl ⟨by rfl, fun w' h => ?_⟩) hS14 ?_
  · have c0 := h.2.2.1
    have c1 := h.2.2.2
    clear h
    go_simp
  simp only [Act.put, List.setIfInBounds_toArray, List.set_cons_zero, List.set_cons_succ]
  refine wpAnyH_ready (rs := [2]) (by kernel_rfl) (by simp) (AllReadyH.cons rfl ?_ AllReadyH.nil)
  intro K hK
  rw [if_pos (by rfl)]
  go_simp
  refine (toFrame_any s0 A0 c0 l0 _ (hA0.below b14) hn0).mono ?_
  rintro e w15 ⟨g15, rfl, hg15, own15, hb15⟩
  have b15 := step_below hb15 b14
  have B0_15 := B0_14.keep hb15
  have R6_15 := R6_14.keep hb15
  have Y0_15 := Y0_14.keep hb15
  have R12_15 := R12_14.keep hb15
  have q7_15 := own_keep q7_14 hb15
  have q9_15 := own_keep q9_14 hb15
  have q10_15 := own_keep q10_14 hb15
  have t15 := step_below hb15 t14
  have gl15 : g15 < w15.heap.size := (own15.lt g15 rfl).2
  have q15_15 := own15
  refine hK.out _ _ ⟨(Y0_15.cell (i := 0) rfl), (Y0_15.cell (i := 1) rfl), (B0_15.cell (i := 0) rfl), (B0_15.cell (i := 1) rfl)⟩ (fun hS15 => ?_)
  clear hK K
  refine wpAnyH_ready (rs := [3]) (by kernel_rfl) (by simp) (AllReadyH.cons rfl ?_ AllReadyH.nil)
  intro K hK
  rw [if_pos (by rfl)]
  go_simp
  refine (eqFrame_any s0 _ _ _ _ l0 _ (HA.of_own q7_15) (HA.of_own q15_15) hn0).mono ?_
  rintro e w16 ⟨rfl, hb16⟩
  have b16 := step_below hb16 b15
  have B0_16 := B0_15.keep hb16
  have R6_16 := R6_15.keep hb16
  have Y0_16 := Y0_15.keep hb16
  have R12_16 := R12_15.keep hb16
  have q7_16 := own_keep q7_15 hb16
  have q9_16 := own_keep q9_15 hb16
  have q10_16 := own_keep q10_15 hb16
  have t16 := step_below hb16 t15
  refine hK.out _ _ ⟨(Y0_16.cell (i := 0) rfl), (Y0_16.cell (i := 1) rfl), (B0_16.cell (i := 0) rfl), (B0_16.cell (i := 1) rfl)⟩ (fun hS16 => ?_)
  clear hK K
  refine wpAnyH_take (i := 4) (v := .bool false) rfl (by kernel_rfl) (by kernel_rfl) (by kernel_rfl) (fun _ _ _ h => h) (Or.inl ⟨by rfl, fun w' _ => by go_simp⟩) hS16 ?_
  change wpAnyH _ _ _ _ _ _ _ (Act.put _ (some 66) _) _
  simp only [Act.put, List.setIfInBounds_toArray, List.set_cons_zero, List.set_cons_succ]
  refine wpAnyH_done (by kernel_rfl) ?_ _
  go_wp2_with fail
  refine (toTune_ex A1 c1 l1 _ (hA1.below b16) hn1).mono ?_
  rintro e w17 ⟨g17, rfl, hg17, own17, hb17⟩
  have b17 := step_below hb17 b16
  have B0_17 := B0_16.keep hb17
  have R6_17 := R6_16.keep hb17
  have Y0_17 := Y0_16.keep hb17
  have R12_17 := R12_16.keep hb17
  have q7_17 := own_keep q7_16 hb17
  have q9_17 := own_keep q9_16 hb17
  have q10_17 := own_keep q10_16 hb17
  have t17 := step_below hb17 t16
  have gl17 : g17 < w17.heap.size := (own17.lt g17 rfl).2
  have q17_17 := own17
  go_wp2_with fail
  refine (eqTune_self _ _ _ _ l1 _ (NA.of_own q9_17) (NA.of_own q17_17) hn1).mono ?_
  rintro e w18 ⟨rfl, hb18⟩
  have b18 := step_below hb18 b17
  have B0_18 := B0_17.keep hb18
  have R6_18 := R6_17.keep hb18
  have Y0_18 := Y0_17.keep hb18
  have R12_18 := R12_17.keep hb18
  have q7_18 := own_keep q7_17 hb18
  have q9_18 := own_keep q9_17 hb18
  have q10_18 := own_keep q10_17 hb18
  have t18 := step_below hb18 t17
  go_wp2_with fail
  refine (toChoiceS_ex A2 c2 l2 _ (hA2.below b18) hn2).mono ?_
  rintro e w19 ⟨g19, rfl, hg19, own19, hb19⟩
  have b19 := step_below hb19 b18
  have B0_19 := B0_18.keep hb19
  have R6_19 := R6_18.keep hb19
  have Y0_19 := Y0_18.keep hb19
  have R12_19 := R12_18.keep hb19
  have q7_19 := own_keep q7_18 hb19
  have q9_19 := own_keep q9_18 hb19
  have q10_19 := own_keep q10_18 hb19
  have t19 := step_below hb19 t18
  have gl19 : g19 < w19.heap.size := (own19.lt g19 rfl).2
  have q19_19 := own19
  go_wp2_with fail
  refine (eqChoiceS_self _ _ _ _ l2 _ (ChA.of_own q10_19) (ChA.of_own q19_19) hn2).mono ?_
  rintro e w20 ⟨rfl, hb20⟩
  have b20 := step_below hb20 b19
  have B0_20 := B0_19.keep hb20
  have R6_20 := R6_19.keep hb20
  have Y0_20 := Y0_19.keep hb20
  have R12_20 := R12_19.keep hb20
  have q7_20 := own_keep q7_19 hb20
  have q9_20 := own_keep q9_19 hb20
  have q10_20 := own_keep q10_19 hb20
  have t20 := step_below hb20 t19
  go_wp2
  go_ret
  exact ⟨rfl, b20⟩
theorem lawDrumFor_any (s0 : Int) (A0 : Option Addr) (c0 : Nat) (l0 : List (Int × Int)) (A1 : Option Addr) (c1 : Nat) (l1 : List (Int × Int)) (A2 : Option Addr) (c2 : Nat) (l2 : List (Bool × Int × Int × Int)) (w : World) (hA0 : HA w A0 l0) (hwf0 : HWF l0) (hs0 : -32768 ≤ s0 ∧ s0 ≤ 32767) (hA1 : NA w A1 l1) (hwf1 : WF l1) (hA2 : ChA w A2 l2) (hwf2 : ChWF l2) (hT : ErrW w) (hm0 : l0.length ≤ maxLen) (hm1 : l1.length ≤ maxLen) (hm2 : l2.length ≤ maxLen)  :
    Calls Tryz.prog 3 #[.agg #[.int .i16 s0, .slice A0 l0.length c0], .slice A1 l1.length c1, .slice A2 l2.length c2] w (Says true w) := by
  rcases Nat.lt_or_ge 1048576 (l0.length) with h0 | h0
  · exact lawDrumFor_big0 s0 A0 c0 l0 A1 c1 l1 A2 c2 l2 w  h0 hm0 hm1 hm2
  rcases Nat.lt_or_ge 1048576 (l0.length + l1.length) with h1 | h1
  · exact lawDrumFor_big1 s0 A0 c0 l0 A1 c1 l1 A2 c2 l2 w h0 h1 hm0 hm1 hm2
  rcases Nat.lt_or_ge 1048576 (l0.length + l1.length + l2.length) with h2 | h2
  · exact lawDrumFor_big2 s0 A0 c0 l0 A1 c1 l1 A2 c2 l2 w h0 h1 h2 hm0 hm1 hm2
  exact lawDrumFor_small s0 A0 c0 l0 A1 c1 l1 A2 c2 l2 w hA0 hwf0 hs0 hA1 hwf1 hA2 hwf2 hT h0 h1 h2 hm0 hm1 hm2 
end Go.Proofs.YtmmninlnpnhboaaGreatDoor
