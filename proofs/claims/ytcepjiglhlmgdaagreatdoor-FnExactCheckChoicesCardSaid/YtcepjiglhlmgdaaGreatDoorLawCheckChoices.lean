import Derived.Test.YtcepjiglhlmgdaaGreatDoorGaf
import Derived.Test.YtcepjiglhlmgdaaGreatDoorGag
import Derived.Test.YtcepjiglhlmgdaaGreatDoorFu7
import Derived.Deep.RegionHeld3
import Derived.Deep.CutRange
namespace Go.Proofs.YtcepjiglhlmgdaaGreatDoor
open Go.RowKit

set_option maxRecDepth 20000 in
set_option maxHeartbeats 1000000 in
theorem lawCheckChoices_big0 (s0 : Int) (A0 : Option Addr) (c0 : Nat) (l0 : List (Int × Int)) (A1 : Option Addr) (c1 : Nat) (l1 : List (Int × Int)) (A2 : Option Addr) (c2 : Nat) (l2 : List (Bool × Int × Int × Int)) (w : World)  (hbg : 1048576 < l0.length) (hm0 : l0.length ≤ maxLen) (hm1 : l1.length ≤ maxLen) (hm2 : l2.length ≤ maxLen) :
    Calls Tryz.prog 4 #[.agg #[.int .i16 s0, .slice A0 l0.length c0], .slice A1 l1.length c1, .slice A2 l2.length c2] w (Says true w) := by
  obtain ⟨X0, hX0⟩ : ∃ X, X = (w.alloc (.cells #[.int .i16 s0, .slice A0 l0.length c0] 25)) := ⟨_, rfl⟩
  have b0 : Below w.heap.size w X0 := by rw [hX0]; exact ((Below.refl _ _).alloc (Nat.le_refl _) _)
  have B0_0 : Bk X0 (w.heap.size) 25 #[.int .i16 s0, .slice A0 l0.length c0] := by rw [hX0]; exact Bk.new _ _ _ rfl
  have bw0 : w.heap.size < X0.heap.size := B0_0.lt
  go_enter Tryz.func4, Tryz.ntmps4
  go_upto_region 1 with fail
  rw [← hX0]
  clear hX0
  have pf15_0 := B0_0.cell (i := 0) rfl
  have pf15_1 := B0_0.cell (i := 1) rfl
  go_wp2_with fail
  clear pf15_0 pf15_1
  refine (szFrame_at_big s0 A0 l0.length c0 (1048576) (by omega) (by omega) hm0 (by omega) _).mono ?_
  rintro e w1 ⟨rfl, hb1⟩
  have b1 := step_below hb1 b0
  go_wp2
  go_ret
  exact ⟨rfl, b1⟩
set_option maxRecDepth 20000 in
set_option maxHeartbeats 1000000 in
theorem lawCheckChoices_big1 (s0 : Int) (A0 : Option Addr) (c0 : Nat) (l0 : List (Int × Int)) (A1 : Option Addr) (c1 : Nat) (l1 : List (Int × Int)) (A2 : Option Addr) (c2 : Nat) (l2 : List (Bool × Int × Int × Int)) (w : World) (hc0 : l0.length ≤ 1048576) (hbg : 1048576 < l0.length + l1.length) (hm0 : l0.length ≤ maxLen) (hm1 : l1.length ≤ maxLen) (hm2 : l2.length ≤ maxLen) :
    Calls Tryz.prog 4 #[.agg #[.int .i16 s0, .slice A0 l0.length c0], .slice A1 l1.length c1, .slice A2 l2.length c2] w (Says true w) := by
  obtain ⟨X0, hX0⟩ : ∃ X, X = (w.alloc (.cells #[.int .i16 s0, .slice A0 l0.length c0] 25)) := ⟨_, rfl⟩
  have b0 : Below w.heap.size w X0 := by rw [hX0]; exact ((Below.refl _ _).alloc (Nat.le_refl _) _)
  have B0_0 : Bk X0 (w.heap.size) 25 #[.int .i16 s0, .slice A0 l0.length c0] := by rw [hX0]; exact Bk.new _ _ _ rfl
  have bw0 : w.heap.size < X0.heap.size := B0_0.lt
  go_enter Tryz.func4, Tryz.ntmps4
  go_upto_region 1 with fail
  rw [← hX0]
  clear hX0
  have pf15_0 := B0_0.cell (i := 0) rfl
  have pf15_1 := B0_0.cell (i := 1) rfl
  go_wp2_with fail
  clear pf15_0 pf15_1
  refine (szFrame_at_small s0 A0 l0.length c0 (1048576) (by omega) (by omega) hm0 (by omega) _).mono ?_
  rintro e w1 ⟨rfl, hb1⟩
  have b1 := step_below hb1 b0
  have B0_1 := B0_0.keep hb1
  go_wp2_with fail
  refine (szTune_big A1 l1.length c1 (1048576 - (l0.length : Int)) (by omega) (by omega) hm1 (by omega) _).mono ?_
  rintro e w2 ⟨rfl, rfl⟩
  go_wp2
  go_ret
  exact ⟨rfl, b1⟩
set_option maxRecDepth 20000 in
set_option maxHeartbeats 1000000 in
theorem lawCheckChoices_big2 (s0 : Int) (A0 : Option Addr) (c0 : Nat) (l0 : List (Int × Int)) (A1 : Option Addr) (c1 : Nat) (l1 : List (Int × Int)) (A2 : Option Addr) (c2 : Nat) (l2 : List (Bool × Int × Int × Int)) (w : World) (hc0 : l0.length ≤ 1048576) (hc1 : l0.length + l1.length ≤ 1048576) (hbg : 1048576 < l0.length + l1.length + l2.length) (hm0 : l0.length ≤ maxLen) (hm1 : l1.length ≤ maxLen) (hm2 : l2.length ≤ maxLen) :
    Calls Tryz.prog 4 #[.agg #[.int .i16 s0, .slice A0 l0.length c0], .slice A1 l1.length c1, .slice A2 l2.length c2] w (Says true w) := by
  obtain ⟨X0, hX0⟩ : ∃ X, X = (w.alloc (.cells #[.int .i16 s0, .slice A0 l0.length c0] 25)) := ⟨_, rfl⟩
  have b0 : Below w.heap.size w X0 := by rw [hX0]; exact ((Below.refl _ _).alloc (Nat.le_refl _) _)
  have B0_0 : Bk X0 (w.heap.size) 25 #[.int .i16 s0, .slice A0 l0.length c0] := by rw [hX0]; exact Bk.new _ _ _ rfl
  have bw0 : w.heap.size < X0.heap.size := B0_0.lt
  go_enter Tryz.func4, Tryz.ntmps4
  go_upto_region 1 with fail
  rw [← hX0]
  clear hX0
  have pf15_0 := B0_0.cell (i := 0) rfl
  have pf15_1 := B0_0.cell (i := 1) rfl
  go_wp2_with fail
  clear pf15_0 pf15_1
  refine (szFrame_at_small s0 A0 l0.length c0 (1048576) (by omega) (by omega) hm0 (by omega) _).mono ?_
  rintro e w1 ⟨rfl, hb1⟩
  have b1 := step_below hb1 b0
  have B0_1 := B0_0.keep hb1
  go_wp2_with fail
  refine (szTune_small A1 l1.length c1 (1048576 - (l0.length : Int)) (by omega) (by omega) hm1 (by omega) _).mono ?_
  rintro e w2' ⟨rfl, rfl⟩
  go_wp2_with fail
  refine (szChoiceS_big A2 l2.length c2 (1048576 - (l0.length : Int) - (l1.length : Int)) (by omega) (by omega) hm2 (by omega) _).mono ?_
  rintro e w2 ⟨rfl, rfl⟩
  go_wp2
  go_ret
  exact ⟨rfl, b1⟩
set_option maxRecDepth 20000 in
set_option maxHeartbeats 4000000 in
theorem lawCheckChoices_small (s0 : Int) (A0 : Option Addr) (c0 : Nat) (l0 : List (Int × Int)) (A1 : Option Addr) (c1 : Nat) (l1 : List (Int × Int)) (A2 : Option Addr) (c2 : Nat) (l2 : List (Bool × Int × Int × Int)) (w : World) (hA0 : HA w A0 l0) (hwf0 : HWF l0) (hs0 : -32768 ≤ s0 ∧ s0 ≤ 32767) (hA1 : NA w A1 l1) (hwf1 : WF l1) (hA2 : ChA w A2 l2) (hwf2 : ChWF l2) (hT : ErtW w) (hc0 : l0.length ≤ 1048576) (hc1 : l0.length + l1.length ≤ 1048576) (hc2 : l0.length + l1.length + l2.length ≤ 1048576) (hm0 : l0.length ≤ maxLen) (hm1 : l1.length ≤ maxLen) (hm2 : l2.length ≤ maxLen) :
    Calls Tryz.prog 4 #[.agg #[.int .i16 s0, .slice A0 l0.length c0], .slice A1 l1.length c1, .slice A2 l2.length c2] w (Says true w) := by
  have hn0 : l0.length ≤ 1048576 := by omega
  have hn1 : l1.length ≤ 1048576 := by omega
  have hn2 : l2.length ≤ 1048576 := by omega
  obtain ⟨r0, hr0⟩ : ∃ r : Bool, r = ccB s0 l0 l1 l2 := ⟨_, rfl⟩
  obtain ⟨r1, hr1⟩ : ∃ r : Int, r = ccC s0 l0 l1 l2 := ⟨_, rfl⟩
  have KS : ∀ (E0 : Option Addr) (E1 : Option Addr) (E2 : Option Addr) (W : World), HA W E0 l0 → NA W E1 l1 → ChA W E2 l2 → ErtW W → Calls Tryz.prog 16 #[.agg #[.int .i16 s0, .slice E0 l0.length l0.length], .slice E1 l1.length l1.length, .slice E2 l2.length l2.length] W (fun e w' => e = .returned (.tuple #[.bool r0, .int .i64 r1]) ∧ Below W.heap.size W w') := fun E0 E1 E2 W h0 h1 h2 hT' => by rw [hr0, hr1]; exact specCheckChoices_any s0 E0 l0.length l0 E1 l1.length l1 E2 l2.length l2 W h0 hn0 hwf0 hs0 h1 hn1 hwf1 h2 hn2 hwf2
  have KI : ∀ (E0 : Option Addr) (E1 : Option Addr) (E2 : Option Addr) (W : World), HA W E0 l0 → NA W E1 l1 → ChA W E2 l2 → ErtW W → Calls Tryz.prog 17 #[.agg #[.int .i16 s0, .slice E0 l0.length l0.length], .slice E1 l1.length l1.length, .slice E2 l2.length l2.length] W (fun e w' => e = .returned (.tuple #[.bool r0, .int .i64 r1]) ∧ Below W.heap.size W w') := fun E0 E1 E2 W h0 h1 h2 hT' => by rw [hr0, hr1]; exact implCheckChoices_e s0 E0 l0.length l0 E1 l1.length l1 E2 l2.length l2 W h0 hn0 hwf0 hs0 h1 hn1 hwf1 h2 hn2 hwf2 hT'
  clear hr0 hr1
  obtain ⟨X0, hX0⟩ : ∃ X, X = (w.alloc (.cells #[.int .i16 s0, .slice A0 l0.length c0] 25)) := ⟨_, rfl⟩
  have b0 : Below w.heap.size w X0 := by rw [hX0]; exact ((Below.refl _ _).alloc (Nat.le_refl _) _)
  have B0_0 : Bk X0 (w.heap.size) 25 #[.int .i16 s0, .slice A0 l0.length c0] := by rw [hX0]; exact Bk.new _ _ _ rfl
  have bw0 : w.heap.size < X0.heap.size := B0_0.lt
  go_enter Tryz.func4, Tryz.ntmps4
  go_upto_region 1 with fail
  rw [← hX0]
  clear hX0
  have pf15_0 := B0_0.cell (i := 0) rfl
  have pf15_1 := B0_0.cell (i := 1) rfl
  go_wp2_with fail
  clear pf15_0 pf15_1
  refine (szFrame_at_small s0 A0 l0.length c0 (1048576) (by omega) (by omega) hm0 (by omega) _).mono ?_
  rintro e w1 ⟨rfl, hb1⟩
  have b1 := step_below hb1 b0
  have B0_1 := B0_0.keep hb1
  go_wp2_with fail
  refine (szTune_small A1 l1.length c1 (1048576 - (l0.length : Int)) (by omega) (by omega) hm1 (by omega) _).mono ?_
  rintro e w2' ⟨rfl, rfl⟩
  go_wp2_with fail
  refine (szChoiceS_small A2 l2.length c2 (1048576 - (l0.length : Int) - (l1.length : Int)) (by omega) (by omega) hm2 (by omega) _).mono ?_
  rintro e w2' ⟨rfl, rfl⟩
  have pf31_0 := B0_1.cell (i := 0) rfl
  have pf31_1 := B0_1.cell (i := 1) rfl
  go_wp2_with fail
  clear pf31_0 pf31_1
  refine (toFrame_any s0 A0 c0 l0 _ (hA0.below b1) hn0).mono ?_
  rintro e w2 ⟨g2, rfl, hg2, own2, hb2⟩
  have b2 := step_below hb2 b1
  have B0_2 := B0_1.keep hb2
  have gl2 : g2 < w2.heap.size := (own2.lt g2 rfl).2
  have q2_2 := own2
  go_wp2_with fail
  refine (toTune_ex A1 c1 l1 _ (hA1.below b2) hn1).mono ?_
  rintro e w3 ⟨g3, rfl, hg3, own3, hb3⟩
  have b3 := step_below hb3 b2
  have B0_3 := B0_2.keep hb3
  have q2_3 := own_keep q2_2 hb3
  have gl3 : g3 < w3.heap.size := (own3.lt g3 rfl).2
  have q3_3 := own3
  go_wp2_with fail
  refine (toChoiceS_ex A2 c2 l2 _ (hA2.below b3) hn2).mono ?_
  rintro e w4 ⟨g4, rfl, hg4, own4, hb4⟩
  have b4 := step_below hb4 b3
  have B0_4 := B0_3.keep hb4
  have q2_4 := own_keep q2_3 hb4
  have q3_4 := own_keep q3_3 hb4
  have gl4 : g4 < w4.heap.size := (own4.lt g4 rfl).2
  have q4_4 := own4
  go_wp2_with fail
  refine (KS _ _ _ _ (HA.of_own q2_4) (NA.of_own q3_4) (ChA.of_own q4_4) (hT.keep b4)).mono ?_
  rintro e w5 ⟨rfl, hb5⟩
  have b5 := step_below hb5 b4
  have B0_5 := B0_4.keep hb5
  have t5 : Below w5.heap.size w5 w5 := Below.refl _ _
  have pf40_0 := B0_5.cell (i := 0) rfl
  have pf40_1 := B0_5.cell (i := 1) rfl
  go_wp2_with fail
  clear pf40_0 pf40_1
  refine (toFrame_any s0 A0 c0 l0 _ (hA0.below b5) hn0).mono ?_
  rintro e w6 ⟨g6, rfl, hg6, own6, hb6⟩
  have b6 := step_below hb6 b5
  have B0_6 := B0_5.keep hb6
  have t6 := step_below hb6 t5
  have gl6 : g6 < w6.heap.size := (own6.lt g6 rfl).2
  have q6_6 := own6
  go_upto_region 13 with fail
  obtain ⟨w7, hX7⟩ : ∃ X, X = w6.alloc (.cells #[.int .i16 s0, .slice (some ⟨g6, 0, none⟩) l0.length l0.length] 35) := ⟨_, rfl⟩
  have hb7 : Below w6.heap.size w6 w7 := by rw [hX7]; exact (Below.refl _ _).alloc (Nat.le_refl _) _
  have K7 : Bk w7 w6.heap.size 35 #[.int .i16 s0, .slice (some ⟨g6, 0, none⟩) l0.length l0.length] := by rw [hX7]; exact Bk.new _ _ _ rfl
  rw [← hX7]
  clear hX7
  have b7 := step_below hb7 b6
  have B0_7 := B0_6.keep hb7
  have q6_7 := own_keep q6_6 hb7
  have t7 := step_below hb7 t6
  have Y0_7 := K7
  have yw0 : w6.heap.size < w7.heap.size := K7.lt
  go_wp2_with fail
  refine (toTune_ex A1 c1 l1 _ (hA1.below b7) hn1).mono ?_
  rintro e w8 ⟨g8, rfl, hg8, own8, hb8⟩
  have b8 := step_below hb8 b7
  have B0_8 := B0_7.keep hb8
  have Y0_8 := Y0_7.keep hb8
  have q6_8 := own_keep q6_7 hb8
  have t8 := step_below hb8 t7
  have gl8 : g8 < w8.heap.size := (own8.lt g8 rfl).2
  have q8_8 := own8
  go_wp2_with fail
  refine (toChoiceS_ex A2 c2 l2 _ (hA2.below b8) hn2).mono ?_
  rintro e w9 ⟨g9, rfl, hg9, own9, hb9⟩
  have b9 := step_below hb9 b8
  have B0_9 := B0_8.keep hb9
  have Y0_9 := Y0_8.keep hb9
  have q6_9 := own_keep q6_8 hb9
  have q8_9 := own_keep q8_8 hb9
  have t9 := step_below hb9 t8
  have gl9 : g9 < w9.heap.size := (own9.lt g9 rfl).2
  have q9_9 := own9
  have pf47_0 := Y0_9.cell (i := 0) rfl
  have pf47_1 := Y0_9.cell (i := 1) rfl
  go_wp2_with fail
  clear pf47_0 pf47_1
  refine (KI _ _ _ _ (HA.of_own q6_9) (NA.of_own q8_9) (ChA.of_own q9_9) (hT.keep b9)).mono ?_
  rintro e w10 ⟨rfl, hb10⟩
  have b10 := step_below hb10 b9
  have B0_10 := B0_9.keep hb10
  have Y0_10 := Y0_9.keep hb10
  have q6_10 := own_keep q6_9 hb10
  have q8_10 := own_keep q8_9 hb10
  have q9_10 := own_keep q9_9 hb10
  have t10 := step_below hb10 t9
  go_wp2_with fail
  have hb11 : Below w10.heap.size w10 w10.drew := (Below.refl _ _).drew
  have b11 := step_below hb11 b10
  have B0_11 := B0_10.keep hb11
  have Y0_11 := Y0_10.keep hb11
  have q6_11 := own_keep q6_10 hb11
  have q8_11 := own_keep q8_10 hb11
  have q9_11 := own_keep q9_10 hb11
  have t11 := step_below hb11 t10
  refine wp_region_held_drew (S := fun w' => w'.cell? ⟨w6.heap.size, 0, none⟩ = some (.int .i16 s0) ∧ w'.cell? ⟨w6.heap.size, 1, none⟩ = some (.slice (some ⟨g6, 0, none⟩) l0.length l0.length) ∧ w'.cell? ⟨w.heap.size, 0, none⟩ = some (.int .i16 s0) ∧ w'.cell? ⟨w.heap.size, 1, none⟩ = some (.slice A0 l0.length c0)) (by kernel_rfl) ⟨(Y0_11.cell (i := 0) rfl), (Y0_11.cell (i := 1) rfl), (B0_11.cell (i := 0) rfl), (B0_11.cell (i := 1) rfl)⟩ fun hS11 => ?_
  refine wpAnyH_take (i := 0) (v := .agg #[.int .i16 s0, .slice (some ⟨g6, 0, none⟩) l0.length l0.length]) rfl (by kernel_rfl) (by kernel_rfl) (by kernel_rfl) (fun _ _ _ h => h) (Or.inl ⟨by rfl, fun w' h => ?_⟩) hS11 ?_
  · have c0 := h.1
    have c1 := h.2.1
    clear h
    go_simp
  simp only [Act.put, List.setIfInBounds_toArray, List.set_cons_zero, List.set_cons_succ]
  refine wpAnyH_take (i := 1) (v := .agg #[.int .i16 s0, .slice A0 l0.length c0]) rfl (by kernel_rfl) (by kernel_rfl) (by kernel_rfl) (fun _ _ _ h => h) (Or.inl ⟨by rfl, fun w' h => ?_⟩) hS11 ?_
  · have c0 := h.2.2.1
    have c1 := h.2.2.2
    clear h
    go_simp
  simp only [Act.put, List.setIfInBounds_toArray, List.set_cons_zero, List.set_cons_succ]
  refine wpAnyH_ready (rs := [2]) (by kernel_rfl) (by simp) (AllReadyH.cons rfl ?_ AllReadyH.nil)
  intro K hK
  rw [if_pos (by rfl)]
  go_simp
  refine (toFrame_any s0 A0 c0 l0 _ (hA0.below b11) hn0).mono ?_
  rintro e w12 ⟨g12, rfl, hg12, own12, hb12⟩
  have b12 := step_below hb12 b11
  have B0_12 := B0_11.keep hb12
  have Y0_12 := Y0_11.keep hb12
  have q6_12 := own_keep q6_11 hb12
  have q8_12 := own_keep q8_11 hb12
  have q9_12 := own_keep q9_11 hb12
  have t12 := step_below hb12 t11
  have gl12 : g12 < w12.heap.size := (own12.lt g12 rfl).2
  have q12_12 := own12
  refine hK.out _ _ ⟨(Y0_12.cell (i := 0) rfl), (Y0_12.cell (i := 1) rfl), (B0_12.cell (i := 0) rfl), (B0_12.cell (i := 1) rfl)⟩ (fun hS12 => ?_)
  clear hK K
  refine wpAnyH_ready (rs := [3]) (by kernel_rfl) (by simp) (AllReadyH.cons rfl ?_ AllReadyH.nil)
  intro K hK
  rw [if_pos (by rfl)]
  go_simp
  refine (eqFrame_any s0 _ _ _ _ l0 _ (HA.of_own q6_12) (HA.of_own q12_12) hn0).mono ?_
  rintro e w13 ⟨rfl, hb13⟩
  have b13 := step_below hb13 b12
  have B0_13 := B0_12.keep hb13
  have Y0_13 := Y0_12.keep hb13
  have q6_13 := own_keep q6_12 hb13
  have q8_13 := own_keep q8_12 hb13
  have q9_13 := own_keep q9_12 hb13
  have t13 := step_below hb13 t12
  refine hK.out _ _ ⟨(Y0_13.cell (i := 0) rfl), (Y0_13.cell (i := 1) rfl), (B0_13.cell (i := 0) rfl), (B0_13.cell (i := 1) rfl)⟩ (fun hS13 => ?_)
  clear hK K
  refine wpAnyH_take (i := 4) (v := .bool false) rfl (by kernel_rfl) (by kernel_rfl) (by kernel_rfl) (fun _ _ _ h => h) (Or.inl ⟨by rfl, fun w' _ => by go_simp⟩) hS13 ?_
  change wpAnyH _ _ _ _ _ _ _ (Act.put _ (some 65) _) _
  simp only [Act.put, List.setIfInBounds_toArray, List.set_cons_zero, List.set_cons_succ]
  refine wpAnyH_done (by kernel_rfl) ?_ _
  go_wp2_with fail
  refine (toTune_ex A1 c1 l1 _ (hA1.below b13) hn1).mono ?_
  rintro e w14 ⟨g14, rfl, hg14, own14, hb14⟩
  have b14 := step_below hb14 b13
  have B0_14 := B0_13.keep hb14
  have Y0_14 := Y0_13.keep hb14
  have q6_14 := own_keep q6_13 hb14
  have q8_14 := own_keep q8_13 hb14
  have q9_14 := own_keep q9_13 hb14
  have t14 := step_below hb14 t13
  have gl14 : g14 < w14.heap.size := (own14.lt g14 rfl).2
  have q14_14 := own14
  go_wp2_with fail
  refine (eqTune_self _ _ _ _ l1 _ (NA.of_own q8_14) (NA.of_own q14_14) hn1).mono ?_
  rintro e w15 ⟨rfl, hb15⟩
  have b15 := step_below hb15 b14
  have B0_15 := B0_14.keep hb15
  have Y0_15 := Y0_14.keep hb15
  have q6_15 := own_keep q6_14 hb15
  have q8_15 := own_keep q8_14 hb15
  have q9_15 := own_keep q9_14 hb15
  have t15 := step_below hb15 t14
  go_wp2_with fail
  refine (toChoiceS_ex A2 c2 l2 _ (hA2.below b15) hn2).mono ?_
  rintro e w16 ⟨g16, rfl, hg16, own16, hb16⟩
  have b16 := step_below hb16 b15
  have B0_16 := B0_15.keep hb16
  have Y0_16 := Y0_15.keep hb16
  have q6_16 := own_keep q6_15 hb16
  have q8_16 := own_keep q8_15 hb16
  have q9_16 := own_keep q9_15 hb16
  have t16 := step_below hb16 t15
  have gl16 : g16 < w16.heap.size := (own16.lt g16 rfl).2
  have q16_16 := own16
  go_wp2_with fail
  refine (eqChoiceS_self _ _ _ _ l2 _ (ChA.of_own q9_16) (ChA.of_own q16_16) hn2).mono ?_
  rintro e w17 ⟨rfl, hb17⟩
  have b17 := step_below hb17 b16
  have B0_17 := B0_16.keep hb17
  have Y0_17 := Y0_16.keep hb17
  have q6_17 := own_keep q6_16 hb17
  have q8_17 := own_keep q8_16 hb17
  have q9_17 := own_keep q9_16 hb17
  have t17 := step_below hb17 t16
  go_wp2
  go_ret
  exact ⟨rfl, b17⟩
theorem lawCheckChoices_any (s0 : Int) (A0 : Option Addr) (c0 : Nat) (l0 : List (Int × Int)) (A1 : Option Addr) (c1 : Nat) (l1 : List (Int × Int)) (A2 : Option Addr) (c2 : Nat) (l2 : List (Bool × Int × Int × Int)) (w : World) (hA0 : HA w A0 l0) (hwf0 : HWF l0) (hs0 : -32768 ≤ s0 ∧ s0 ≤ 32767) (hA1 : NA w A1 l1) (hwf1 : WF l1) (hA2 : ChA w A2 l2) (hwf2 : ChWF l2) (hT : ErtW w) (hm0 : l0.length ≤ maxLen) (hm1 : l1.length ≤ maxLen) (hm2 : l2.length ≤ maxLen)  :
    Calls Tryz.prog 4 #[.agg #[.int .i16 s0, .slice A0 l0.length c0], .slice A1 l1.length c1, .slice A2 l2.length c2] w (Says true w) := by
  rcases Nat.lt_or_ge 1048576 (l0.length) with h0 | h0
  · exact lawCheckChoices_big0 s0 A0 c0 l0 A1 c1 l1 A2 c2 l2 w  h0 hm0 hm1 hm2
  rcases Nat.lt_or_ge 1048576 (l0.length + l1.length) with h1 | h1
  · exact lawCheckChoices_big1 s0 A0 c0 l0 A1 c1 l1 A2 c2 l2 w h0 h1 hm0 hm1 hm2
  rcases Nat.lt_or_ge 1048576 (l0.length + l1.length + l2.length) with h2 | h2
  · exact lawCheckChoices_big2 s0 A0 c0 l0 A1 c1 l1 A2 c2 l2 w h0 h1 h2 hm0 hm1 hm2
  exact lawCheckChoices_small s0 A0 c0 l0 A1 c1 l1 A2 c2 l2 w hA0 hwf0 hs0 hA1 hwf1 hA2 hwf2 hT h0 h1 h2 hm0 hm1 hm2 
end Go.Proofs.YtcepjiglhlmgdaaGreatDoor
