import Derived.Test.YtnngbnhdcknfnaaLw
import Derived.Test.YtnngbnhdcknfnaaMks
import Derived.Test.YtnngbnhdcknfnaaMkf
import Derived.Test.YtnngbnhdcknfnaaSzi
import Derived.Test.YtnngbnhdcknfnaaPki
import Derived.Deep.RegionHeld3
import Derived.Deep.CutRange
namespace Go.Proofs.Ytnngbnhdcknfnaa
open Go.RowKit

set_option maxRecDepth 20000 in
set_option maxHeartbeats 1000000 in
theorem lawPackSections_big0 (s0 : Int) (A0 : Option Addr) (c0 : Nat) (l0 : List (Int × Int)) (A1 : Option Addr) (c1 : Nat) (z1 : List Int) (x2 : Int) (w : World)  (hbg : 1048576 < z1.length) (hm0 : l0.length ≤ maxLen) (hm1 : z1.length ≤ maxLen) :
    Calls Try.prog 12 #[.agg #[.int .i16 s0, .slice A0 l0.length c0], .slice A1 z1.length c1, .int .i64 x2] w (Says true w) := by
  obtain ⟨X0, hX0⟩ : ∃ X, X = (w.alloc (.cells #[.int .i16 s0, .slice A0 l0.length c0] 25)) := ⟨_, rfl⟩
  have b0 : Below w.heap.size w X0 := by rw [hX0]; exact ((Below.refl _ _).alloc (Nat.le_refl _) _)
  have B0_0 : Bk X0 (w.heap.size) 25 #[.int .i16 s0, .slice A0 l0.length c0] := by rw [hX0]; exact Bk.new _ _ _ rfl
  have bw0 : w.heap.size < X0.heap.size := B0_0.lt
  go_enter Try.func12, Try.ntmps12
  go_upto_region 1 with fail
  rw [← hX0]
  clear hX0
  go_wp2
  go_ret
  exact ⟨rfl, b0⟩
set_option maxRecDepth 20000 in
set_option maxHeartbeats 1000000 in
theorem lawPackSections_big1 (s0 : Int) (A0 : Option Addr) (c0 : Nat) (l0 : List (Int × Int)) (A1 : Option Addr) (c1 : Nat) (z1 : List Int) (x2 : Int) (w : World) (hc0 : z1.length ≤ 1048576) (hbg : 1048576 < l0.length) (hm0 : l0.length ≤ maxLen) (hm1 : z1.length ≤ maxLen) :
    Calls Try.prog 12 #[.agg #[.int .i16 s0, .slice A0 l0.length c0], .slice A1 z1.length c1, .int .i64 x2] w (Says true w) := by
  obtain ⟨X0, hX0⟩ : ∃ X, X = (w.alloc (.cells #[.int .i16 s0, .slice A0 l0.length c0] 25)) := ⟨_, rfl⟩
  have b0 : Below w.heap.size w X0 := by rw [hX0]; exact ((Below.refl _ _).alloc (Nat.le_refl _) _)
  have B0_0 : Bk X0 (w.heap.size) 25 #[.int .i16 s0, .slice A0 l0.length c0] := by rw [hX0]; exact Bk.new _ _ _ rfl
  have bw0 : w.heap.size < X0.heap.size := B0_0.lt
  go_enter Try.func12, Try.ntmps12
  go_upto_region 1 with fail
  rw [← hX0]
  clear hX0
  have pf22_ := B0_0.cell (i := 0) rfl
  have qf22_ := B0_0.cell (i := 1) rfl
  go_wp2_with fail
  clear pf22_ qf22_
  refine (szFrame_at_big s0 A0 l0.length c0 (1048576) (by omega) (by omega) hm0 (by omega) _).mono ?_
  rintro e w1 ⟨rfl, hb1⟩
  have b1 := step_below hb1 b0
  go_wp2
  go_ret
  exact ⟨rfl, b1⟩
set_option maxRecDepth 20000 in
set_option maxHeartbeats 4000000 in
theorem lawPackSections_small (s0 : Int) (A0 : Option Addr) (c0 : Nat) (l0 : List (Int × Int)) (A1 : Option Addr) (c1 : Nat) (z1 : List Int) (x2 : Int) (w : World) (hA0 : HA w A0 l0) (hwf0 : HWF l0) (hs0 : -32768 ≤ s0 ∧ s0 ≤ 32767) (hA1 : SZ w A1 z1) (hzwf1 : ZWF z1) (hc0 : z1.length ≤ 1048576) (hc1 : l0.length ≤ 1048576) (hm0 : l0.length ≤ maxLen) (hm1 : z1.length ≤ maxLen) :
    Calls Try.prog 12 #[.agg #[.int .i16 s0, .slice A0 l0.length c0], .slice A1 z1.length c1, .int .i64 x2] w (Says true w) := by
  have hn0 : l0.length ≤ 1048576 := by omega
  have hn1 : z1.length ≤ 1048576 := by omega
  obtain ⟨r0, hr0⟩ : ∃ r : List (Int × Int), r = pkV s0 l0 z1 x2 := ⟨_, rfl⟩
  obtain ⟨r1, hr1⟩ : ∃ r : Int, r = pkC s0 l0 z1 x2 := ⟨_, rfl⟩
  have hrl0 : r0.length ≤ 1048576 := by rw [hr0]; exact pkV_len _ _ _ _ hn1
  have KS : ∀ (E0 E1 : Option Addr) (W : World), HA W E0 l0 → SZ W E1 z1 → Calls Try.prog 45 #[.agg #[.int .i16 s0, .slice E0 l0.length l0.length], .slice E1 z1.length z1.length, .int .i64 x2] W (fun e w' => ∃ (C : Option Addr) (q : Nat), e = .returned (.tuple #[.slice C r0.length q, .int .i64 r1]) ∧ w'.ownsRow W.heap.size 90 2 (.slice C r0.length q) r0.length (secC r0) ∧ Below W.heap.size W w') := fun E0 E1 W h0 h1 => by rw [hr0, hr1]; exact specPackSections_any s0 E0 l0.length l0 E1 z1.length z1 x2 W h0 hn0 hwf0 hs0 h1 hn1 hzwf1 
  have KI : ∀ (E0 E1 : Option Addr) (W : World), HA W E0 l0 → SZ W E1 z1 → Calls Try.prog 47 #[.agg #[.int .i16 s0, .slice E0 l0.length l0.length], .slice E1 z1.length z1.length, .int .i64 x2] W (fun e w' => ∃ (C : Option Addr) (q : Nat), e = .returned (.tuple #[.slice C r0.length q, .int .i64 r1]) ∧ w'.ownsRow W.heap.size 90 2 (.slice C r0.length q) r0.length (secC r0) ∧ Below W.heap.size W w') := fun E0 E1 W h0 h1 => by rw [hr0, hr1]; exact implPackSections_any s0 E0 l0.length l0 E1 z1.length z1 x2 W h0 hn0 hwf0 hs0 h1 hn1 hzwf1 
  clear hr0 hr1
  obtain ⟨X0, hX0⟩ : ∃ X, X = (w.alloc (.cells #[.int .i16 s0, .slice A0 l0.length c0] 25)) := ⟨_, rfl⟩
  have b0 : Below w.heap.size w X0 := by rw [hX0]; exact ((Below.refl _ _).alloc (Nat.le_refl _) _)
  have B0_0 : Bk X0 (w.heap.size) 25 #[.int .i16 s0, .slice A0 l0.length c0] := by rw [hX0]; exact Bk.new _ _ _ rfl
  have bw0 : w.heap.size < X0.heap.size := B0_0.lt
  go_enter Try.func12, Try.ntmps12
  go_upto_region 1 with fail
  rw [← hX0]
  clear hX0
  have pf22_ := B0_0.cell (i := 0) rfl
  have qf22_ := B0_0.cell (i := 1) rfl
  go_wp2_with fail
  clear pf22_ qf22_
  refine (szFrame_at_small s0 A0 l0.length c0 (1048576) (by omega) (by omega) hm0 (by omega) _).mono ?_
  rintro e w1 ⟨rfl, hb1⟩
  have b1 := step_below hb1 b0
  have B0_1 := B0_0.keep hb1
  have pf28_ := B0_1.cell (i := 0) rfl
  have qf28_ := B0_1.cell (i := 1) rfl
  go_wp2_with fail
  clear pf28_ qf28_
  refine (toFrame_any s0 A0 c0 l0 _ (hA0.below b1) hn0).mono ?_
  rintro e w2 ⟨g2, rfl, hg2, own2, hb2⟩
  have b2 := step_below hb2 b1
  have B0_2 := B0_1.keep hb2
  have gl2 : g2 < w2.heap.size := (own2.lt g2 rfl).2
  have q2_2 := own2
  go_wp2_with fail
  refine (toInt64S_ex A1 c1 z1 _ (hA1.below b2) hn1).mono ?_
  rintro e w3 ⟨g3, rfl, hg3, own3, hb3⟩
  have b3 := step_below hb3 b2
  have B0_3 := B0_2.keep hb3
  have q2_3 := own_keep q2_2 hb3
  have gl3 : g3 < w3.heap.size := (own3.lt g3 rfl).2
  have q3_3 := own3
  go_wp2_with fail
  refine (KS _ _ _ (HA.of_own q2_3) (SZ.of_own q3_3) ).mono ?_
  rintro e w4 ⟨C4, e4, rfl, own4, hb4⟩
  have b4 := step_below hb4 b3
  have B0_4 := B0_3.keep hb4
  have v4_4 := own4
  have t4 : Below w4.heap.size w4 w4 := Below.refl _ _
  have pf36_ := B0_4.cell (i := 0) rfl
  have qf36_ := B0_4.cell (i := 1) rfl
  go_wp2_with fail
  clear pf36_ qf36_
  refine (toFrame_any s0 A0 c0 l0 _ (hA0.below b4) hn0).mono ?_
  rintro e w5 ⟨g5, rfl, hg5, own5, hb5⟩
  have b5 := step_below hb5 b4
  have B0_5 := B0_4.keep hb5
  have v4_5 := own_keep v4_4 hb5
  have t5 := step_below hb5 t4
  have gl5 : g5 < w5.heap.size := (own5.lt g5 rfl).2
  have q5_5 := own5
  go_upto_region 9 with fail
  obtain ⟨w6, hX6⟩ : ∃ X, X = w5.alloc (.cells #[.int .i16 s0, .slice (some ⟨g5, 0, none⟩) l0.length l0.length] 36) := ⟨_, rfl⟩
  have hb6 : Below w5.heap.size w5 w6 := by rw [hX6]; exact (Below.refl _ _).alloc (Nat.le_refl _) _
  have K6 : Bk w6 w5.heap.size 36 #[.int .i16 s0, .slice (some ⟨g5, 0, none⟩) l0.length l0.length] := by rw [hX6]; exact Bk.new _ _ _ rfl
  rw [← hX6]
  clear hX6
  have b6 := step_below hb6 b5
  have B0_6 := B0_5.keep hb6
  have v4_6 := own_keep v4_5 hb6
  have q5_6 := own_keep q5_5 hb6
  have t6 := step_below hb6 t5
  have Y0_6 := K6
  have yw0 : w5.heap.size < w6.heap.size := K6.lt
  go_wp2_with fail
  refine (toInt64S_ex A1 c1 z1 _ (hA1.below b6) hn1).mono ?_
  rintro e w7 ⟨g7, rfl, hg7, own7, hb7⟩
  have b7 := step_below hb7 b6
  have B0_7 := B0_6.keep hb7
  have Y0_7 := Y0_6.keep hb7
  have v4_7 := own_keep v4_6 hb7
  have q5_7 := own_keep q5_6 hb7
  have t7 := step_below hb7 t6
  have gl7 : g7 < w7.heap.size := (own7.lt g7 rfl).2
  have q7_7 := own7
  have pf41_ := Y0_7.cell (i := 0) rfl
  have qf41_ := Y0_7.cell (i := 1) rfl
  go_wp2_with fail
  clear pf41_ qf41_
  refine (KI _ _ _ (HA.of_own q5_7) (SZ.of_own q7_7) ).mono ?_
  rintro e w8 ⟨C8, e8, rfl, own8, hb8⟩
  have b8 := step_below hb8 b7
  have B0_8 := B0_7.keep hb8
  have Y0_8 := Y0_7.keep hb8
  have v4_8 := own_keep v4_7 hb8
  have q5_8 := own_keep q5_7 hb8
  have q7_8 := own_keep q7_7 hb8
  have t8 := step_below hb8 t7
  have r8_8 := own8
  go_wp2_with fail
  refine (eqSectionS_self _ _ _ _ r0 _ (SecA.of_own r8_8) (SecA.of_own v4_8) hrl0).mono ?_
  rintro e w9 ⟨rfl, hb9⟩
  have b9 := step_below hb9 b8
  have B0_9 := B0_8.keep hb9
  have Y0_9 := Y0_8.keep hb9
  have v4_9 := own_keep v4_8 hb9
  have q5_9 := own_keep q5_8 hb9
  have q7_9 := own_keep q7_8 hb9
  have r8_9 := own_keep r8_8 hb9
  have t9 := step_below hb9 t8
  go_wp2_with fail
  have hb10 : Below w9.heap.size w9 w9.drew := (Below.refl _ _).drew
  have b10 := step_below hb10 b9
  have B0_10 := B0_9.keep hb10
  have Y0_10 := Y0_9.keep hb10
  have v4_10 := own_keep v4_9 hb10
  have q5_10 := own_keep q5_9 hb10
  have q7_10 := own_keep q7_9 hb10
  have r8_10 := own_keep r8_9 hb10
  have t10 := step_below hb10 t9
  refine wp_region_held_drew (S := fun w' => w'.cell? ⟨w5.heap.size, 0, none⟩ = some (.int .i16 s0) ∧ w'.cell? ⟨w5.heap.size, 1, none⟩ = some (.slice (some ⟨g5, 0, none⟩) l0.length l0.length) ∧ w'.cell? ⟨w.heap.size, 0, none⟩ = some (.int .i16 s0) ∧ w'.cell? ⟨w.heap.size, 1, none⟩ = some (.slice A0 l0.length c0)) (by kernel_rfl) ⟨(Y0_10.cell (i := 0) rfl), (Y0_10.cell (i := 1) rfl), (B0_10.cell (i := 0) rfl), (B0_10.cell (i := 1) rfl)⟩ fun hS10 => ?_
  refine wpAnyH_take (i := 0) (v := .agg #[.int .i16 s0, .slice (some ⟨g5, 0, none⟩) l0.length l0.length]) rfl (by kernel_rfl) (by kernel_rfl) (by kernel_rfl) (fun _ _ _ h => h) (Or.inl ⟨by rfl, fun w' h => ?_⟩) hS10 ?_
  · have c0 := h.1
    have c1 := h.2.1
    clear h
    go_simp
  simp only [Act.put, List.setIfInBounds_toArray, List.set_cons_zero, List.set_cons_succ]
  refine wpAnyH_take (i := 1) (v := .agg #[.int .i16 s0, .slice A0 l0.length c0]) rfl (by kernel_rfl) (by kernel_rfl) (by kernel_rfl) (fun _ _ _ h => h) (Or.inl ⟨by rfl, fun w' h => ?_⟩) hS10 ?_
  · have c0 := h.2.2.1
    have c1 := h.2.2.2
    clear h
    go_simp
  simp only [Act.put, List.setIfInBounds_toArray, List.set_cons_zero, List.set_cons_succ]
  refine wpAnyH_ready (rs := [2]) (by kernel_rfl) (by simp) (AllReadyH.cons rfl ?_ AllReadyH.nil)
  intro K hK
  rw [if_pos (by rfl)]
  go_simp
  refine (toFrame_any s0 A0 c0 l0 _ (hA0.below b10) hn0).mono ?_
  rintro e w11 ⟨g11, rfl, hg11, own11, hb11⟩
  have b11 := step_below hb11 b10
  have B0_11 := B0_10.keep hb11
  have Y0_11 := Y0_10.keep hb11
  have v4_11 := own_keep v4_10 hb11
  have q5_11 := own_keep q5_10 hb11
  have q7_11 := own_keep q7_10 hb11
  have r8_11 := own_keep r8_10 hb11
  have t11 := step_below hb11 t10
  have gl11 : g11 < w11.heap.size := (own11.lt g11 rfl).2
  have q11_11 := own11
  refine hK.out _ _ ⟨(Y0_11.cell (i := 0) rfl), (Y0_11.cell (i := 1) rfl), (B0_11.cell (i := 0) rfl), (B0_11.cell (i := 1) rfl)⟩ (fun hS11 => ?_)
  clear hK K
  refine wpAnyH_ready (rs := [3]) (by kernel_rfl) (by simp) (AllReadyH.cons rfl ?_ AllReadyH.nil)
  intro K hK
  rw [if_pos (by rfl)]
  go_simp
  refine (eqFrame_any s0 _ _ _ _ l0 _ (HA.of_own q5_11) (HA.of_own q11_11) hn0).mono ?_
  rintro e w12 ⟨rfl, hb12⟩
  have b12 := step_below hb12 b11
  have B0_12 := B0_11.keep hb12
  have Y0_12 := Y0_11.keep hb12
  have v4_12 := own_keep v4_11 hb12
  have q5_12 := own_keep q5_11 hb12
  have q7_12 := own_keep q7_11 hb12
  have r8_12 := own_keep r8_11 hb12
  have t12 := step_below hb12 t11
  refine hK.out _ _ ⟨(Y0_12.cell (i := 0) rfl), (Y0_12.cell (i := 1) rfl), (B0_12.cell (i := 0) rfl), (B0_12.cell (i := 1) rfl)⟩ (fun hS12 => ?_)
  clear hK K
  refine wpAnyH_take (i := 4) (v := .bool false) rfl (by kernel_rfl) (by kernel_rfl) (by kernel_rfl) (fun _ _ _ h => h) (Or.inl ⟨by rfl, fun w' _ => by go_simp⟩) hS12 ?_
  change wpAnyH _ _ _ _ _ _ _ (Act.put _ (some 60) _) _
  simp only [Act.put, List.setIfInBounds_toArray, List.set_cons_zero, List.set_cons_succ]
  refine wpAnyH_done (by kernel_rfl) ?_ _
  go_wp2_with fail
  refine (toInt64S_ex A1 c1 z1 _ (hA1.below b12) hn1).mono ?_
  rintro e w13 ⟨g13, rfl, hg13, own13, hb13⟩
  have b13 := step_below hb13 b12
  have B0_13 := B0_12.keep hb13
  have Y0_13 := Y0_12.keep hb13
  have v4_13 := own_keep v4_12 hb13
  have q5_13 := own_keep q5_12 hb13
  have q7_13 := own_keep q7_12 hb13
  have r8_13 := own_keep r8_12 hb13
  have t13 := step_below hb13 t12
  have gl13 : g13 < w13.heap.size := (own13.lt g13 rfl).2
  have q13_13 := own13
  go_wp2_with fail
  refine (eqInt64S_self _ _ _ _ z1 _ (SI.of_own q7_13) (SI.of_own q13_13) hn1).mono ?_
  rintro e w14 ⟨rfl, hb14⟩
  have b14 := step_below hb14 b13
  have B0_14 := B0_13.keep hb14
  have Y0_14 := Y0_13.keep hb14
  have v4_14 := own_keep v4_13 hb14
  have q5_14 := own_keep q5_13 hb14
  have q7_14 := own_keep q7_13 hb14
  have r8_14 := own_keep r8_13 hb14
  have t14 := step_below hb14 t13
  have pf66_ := Y0_14.cell (i := 0) rfl
  have qf66_ := Y0_14.cell (i := 1) rfl
  go_wp2_with fail
  clear pf66_ qf66_
  refine (markFrame_from s0 _ _ l0 _ (1) _ q5_14 hn0 ⟨by omega, by omega⟩).mono ?_
  rintro e w15 ⟨rfl, mo15, hgr15⟩
  have hbs15 := hgr15.size
  have t15 : Below w4.heap.size w4 w15 := t14.grown hgr15 t14.size (fun j hj => by cases hj; exact Nat.le_trans t4.size hg5)
  have b15 : Below w.heap.size w w15 := b4.trans (t15.mono b4.size)
  have B0_15 := B0_4.keep t15
  have Y0_15 := Y0_14.grown hgr15 (fun e => by have e' : g5 = w5.heap.size := Option.some.inj e; have gg := gl5; have gh := hg5; have h5_ := hb5.size; have h6_ := hb6.size; omega)
  have v4_15 := own_keep v4_4 t15
  have q7_15 := q7_14.kept hgr15 (Or.inr (fun e => by have h1 := q7_14.lt g5 (by rw [e]; rfl); have gg := gl5; have h6_ := hb6.size; omega))
  have r8_15 := r8_14.kept hgr15 (Or.inr (fun e => by have h1 := r8_14.lt g5 (by rw [e]; rfl); have gg := gl5; have h6_ := hb6.size; have h7_ := hb7.size; omega))
  have hneg15 : decide (1 + 2 * (l0.length : Int) < 0) = false := by simp; omega
  go_wp2_with fail
  refine (markInt64S_from _ _ z1 _ (1 + 2 * (l0.length : Int)) _ q7_15 hn1 ⟨by omega, by omega⟩).mono ?_
  rintro e w16 ⟨rfl, mo16, hgr16⟩
  have hbs16 := hgr16.size
  have t16 : Below w4.heap.size w4 w16 := t15.grown hgr16 t15.size (fun j hj => by cases hj; exact Nat.le_trans t6.size hg7)
  have b16 : Below w.heap.size w w16 := b4.trans (t16.mono b4.size)
  have B0_16 := B0_4.keep t16
  have Y0_16 := Y0_15.grown hgr16 (fun e => by have e' : g7 = w5.heap.size := Option.some.inj e; have gg := gl7; have gh := hg7; have h6_ := hb6.size; have h7_ := hb7.size; omega)
  have v4_16 := own_keep v4_4 t16
  have r8_16 := r8_15.kept hgr16 (Or.inr (fun e => by have h1 := r8_15.lt g7 (by rw [e]; rfl); have gg := gl7; skip; omega))
  have hneg16 : decide (1 + 2 * (l0.length : Int) + (z1.length : Int) < 0) = false := by simp; omega
  go_wp2_with fail
  refine (eqSectionS_self _ _ _ _ r0 _ (SecA.of_own r8_16) (SecA.of_own v4_16) hrl0).mono ?_
  rintro e w17 ⟨rfl, hb17⟩
  have b17 := step_below hb17 b16
  have B0_17 := B0_16.keep hb17
  have Y0_17 := Y0_16.keep hb17
  have v4_17 := own_keep v4_16 hb17
  have r8_17 := own_keep r8_16 hb17
  have t17 := step_below hb17 t16
  go_wp2_with fail
  refine (markSectionS_from _ _ r0 _ (1) _ r8_17 hrl0 ⟨by omega, by omega⟩).mono ?_
  rintro e w18 ⟨rfl, mo18, hgr18⟩
  have hbs18 := hgr18.size
  have t18 : Below w4.heap.size w4 w18 := t17.grown hgr18 t17.size (fun j hj => Nat.le_trans t7.size ((r8_17).lt j hj).1)
  have b18 : Below w.heap.size w w18 := b4.trans (t18.mono b4.size)
  have B0_18 := B0_4.keep t18
  have v4_18 := own_keep v4_4 t18
  have k18_18 := mo18
  have hneg18 : decide (1 + 2 * (r0.length : Int) < 0) = false := by simp; omega
  have hneq18 : ((1 + 2 * (r0.length : Int)) != (1 + 2 * (r0.length : Int))) = false := by simp
  go_wp2_with fail
  refine (heldSectionS_from _ _ r0.length (1) _ (mkS_of_own k18_18) hrl0 ⟨by omega, by omega⟩).mono ?_
  rintro e w19' ⟨rfl, rfl⟩
  have pf97_ := B0_18.cell (i := 0) rfl
  have qf97_ := B0_18.cell (i := 1) rfl
  go_wp2_with fail
  clear pf97_ qf97_
  refine (toFrame_any s0 A0 c0 l0 _ (hA0.below b18) hn0).mono ?_
  rintro e w19 ⟨g19, rfl, hg19, own19, hb19⟩
  have b19 := step_below hb19 b18
  have B0_19 := B0_18.keep hb19
  have v4_19 := own_keep v4_18 hb19
  have k18_19 := own_keep k18_18 hb19
  have t19 := step_below hb19 t18
  have gl19 : g19 < w19.heap.size := (own19.lt g19 rfl).2
  have q19_19 := own19
  go_wp2_with fail
  refine (toInt64S_ex A1 c1 z1 _ (hA1.below b19) hn1).mono ?_
  rintro e w20 ⟨g20, rfl, hg20, own20, hb20⟩
  have b20 := step_below hb20 b19
  have B0_20 := B0_19.keep hb20
  have v4_20 := own_keep v4_19 hb20
  have k18_20 := own_keep k18_19 hb20
  have q19_20 := own_keep q19_19 hb20
  have t20 := step_below hb20 t19
  have gl20 : g20 < w20.heap.size := (own20.lt g20 rfl).2
  have q20_20 := own20
  go_wp2_with fail
  refine (KI _ _ _ (HA.of_own q19_20) (SZ.of_own q20_20) ).mono ?_
  rintro e w21 ⟨C21, e21, rfl, own21, hb21⟩
  have b21 := step_below hb21 b20
  have B0_21 := B0_20.keep hb21
  have v4_21 := own_keep v4_20 hb21
  have k18_21 := own_keep k18_20 hb21
  have q19_21 := own_keep q19_20 hb21
  have q20_21 := own_keep q20_20 hb21
  have t21 := step_below hb21 t20
  have r21_21 := own21
  go_wp2_with fail
  refine (eqSectionS_self _ _ _ _ r0 _ (SecA.of_own r21_21) (SecA.of_own v4_21) hrl0).mono ?_
  rintro e w22 ⟨rfl, hb22⟩
  have b22 := step_below hb22 b21
  have B0_22 := B0_21.keep hb22
  have v4_22 := own_keep v4_21 hb22
  have k18_22 := own_keep k18_21 hb22
  have q19_22 := own_keep q19_21 hb22
  have q20_22 := own_keep q20_21 hb22
  have t22 := step_below hb22 t21
  go_wp2_with fail
  refine (heldSectionS_from _ _ r0.length (1) _ (mkS_of_own k18_22) hrl0 ⟨by omega, by omega⟩).mono ?_
  rintro e w23' ⟨rfl, rfl⟩
  go_wp2
  go_ret
  exact ⟨rfl, b22⟩
theorem lawPackSections_any (s0 : Int) (A0 : Option Addr) (c0 : Nat) (l0 : List (Int × Int)) (A1 : Option Addr) (c1 : Nat) (z1 : List Int) (x2 : Int) (w : World) (hA0 : HA w A0 l0) (hwf0 : HWF l0) (hs0 : -32768 ≤ s0 ∧ s0 ≤ 32767) (hA1 : SZ w A1 z1) (hzwf1 : ZWF z1) (hm0 : l0.length ≤ maxLen) (hm1 : z1.length ≤ maxLen) (_hx2 : -9223372036854775808 ≤ x2 ∧ x2 ≤ 9223372036854775807) :
    Calls Try.prog 12 #[.agg #[.int .i16 s0, .slice A0 l0.length c0], .slice A1 z1.length c1, .int .i64 x2] w (Says true w) := by
  rcases Nat.lt_or_ge 1048576 (z1.length) with h0 | h0
  · exact lawPackSections_big0 s0 A0 c0 l0 A1 c1 z1 x2 w  h0 hm0 hm1
  rcases Nat.lt_or_ge 1048576 (l0.length) with h1 | h1
  · exact lawPackSections_big1 s0 A0 c0 l0 A1 c1 z1 x2 w h0 h1 hm0 hm1
  exact lawPackSections_small s0 A0 c0 l0 A1 c1 z1 x2 w hA0 hwf0 hs0 hA1 hzwf1 h0 h1 hm0 hm1 
end Go.Proofs.Ytnngbnhdcknfnaa
