import Derived.Test.YtfjcomemgbmohaaMkn
import Derived.Test.YtfjcomemgbmohaaJi
import Derived.Test.YtfjcomemgbmohaaJs
import Derived.Deep.RegionHeld3
import Derived.Deep.CutRange
namespace Go.Proofs.Ytfjcomemgbmohaa
open Go.RowKit

set_option maxRecDepth 20000 in
set_option maxHeartbeats 1000000 in
theorem lawJoinTunes_big0 (A0 : Option Addr) (c0 : Nat) (l0 : List (Int × Int)) (A1 : Option Addr) (c1 : Nat) (l1 : List (Int × Int)) (w : World)  (hbg : 1048576 < l0.length) (hm0 : l0.length ≤ maxLen) (hm1 : l1.length ≤ maxLen) :
    Calls Try.prog 9 #[.slice A0 l0.length c0, .slice A1 l1.length c1] w (Says true w) := by
  have b0 : Below w.heap.size w w := Below.refl _ _
  go_enter Try.func9, Try.ntmps9
  go_wp2_with fail
  refine (szTune_big A0 l0.length c0 (1048576) (by omega) (by omega) hm0 (by omega) _).mono ?_
  rintro e w1 ⟨rfl, rfl⟩
  go_wp2
  go_ret
  exact ⟨rfl, b0⟩
set_option maxRecDepth 20000 in
set_option maxHeartbeats 1000000 in
theorem lawJoinTunes_big1 (A0 : Option Addr) (c0 : Nat) (l0 : List (Int × Int)) (A1 : Option Addr) (c1 : Nat) (l1 : List (Int × Int)) (w : World) (hc0 : l0.length ≤ 1048576) (hbg : 1048576 < l0.length + l1.length) (hm0 : l0.length ≤ maxLen) (hm1 : l1.length ≤ maxLen) :
    Calls Try.prog 9 #[.slice A0 l0.length c0, .slice A1 l1.length c1] w (Says true w) := by
  have b0 : Below w.heap.size w w := Below.refl _ _
  go_enter Try.func9, Try.ntmps9
  go_wp2_with fail
  refine (szTune_small A0 l0.length c0 (1048576) (by omega) (by omega) hm0 (by omega) _).mono ?_
  rintro e w1' ⟨rfl, rfl⟩
  go_wp2_with fail
  refine (szTune_big A1 l1.length c1 (1048576 - (l0.length : Int)) (by omega) (by omega) hm1 (by omega) _).mono ?_
  rintro e w1 ⟨rfl, rfl⟩
  go_wp2
  go_ret
  exact ⟨rfl, b0⟩
set_option maxRecDepth 20000 in
set_option maxHeartbeats 4000000 in
theorem lawJoinTunes_small (A0 : Option Addr) (c0 : Nat) (l0 : List (Int × Int)) (A1 : Option Addr) (c1 : Nat) (l1 : List (Int × Int)) (w : World) (hA0 : NA w A0 l0) (hwf0 : WF l0) (hA1 : NA w A1 l1) (hwf1 : WF l1) (hc0 : l0.length ≤ 1048576) (hc1 : l0.length + l1.length ≤ 1048576) (hm0 : l0.length ≤ maxLen) (hm1 : l1.length ≤ maxLen) :
    Calls Try.prog 9 #[.slice A0 l0.length c0, .slice A1 l1.length c1] w (Says true w) := by
  have hn0 : l0.length ≤ 1048576 := by omega
  have hn1 : l1.length ≤ 1048576 := by omega
  obtain ⟨r0, hr0⟩ : ∃ r : List (Int × Int), r = joV l0 l1 := ⟨_, rfl⟩
  obtain ⟨r1, hr1⟩ : ∃ r : Int, r = joC l0 l1 := ⟨_, rfl⟩
  have hrl0 : r0.length ≤ 1048576 := by rw [hr0]; exact joV_le _ _
  have KS : ∀ (E0 E1 : Option Addr) (W : World), NA W E0 l0 → NA W E1 l1 → Calls Try.prog 32 #[.slice E0 l0.length l0.length, .slice E1 l1.length l1.length] W (fun e w' => ∃ (C : Option Addr) (q : Nat), e = .returned (.tuple #[.slice C r0.length q, .int .i64 r1]) ∧ w'.ownsRow W.heap.size 46 2 (.slice C r0.length q) r0.length (cellsOf r0) ∧ Below W.heap.size W w') := fun E0 E1 W h0 h1 => by rw [hr0, hr1]; exact specJoinTunes_any E0 l0.length l0 E1 l1.length l1 W h0 hn0 hwf0 h1 hn1 hwf1
  have KI : ∀ (E0 E1 : Option Addr) (W : World), NA W E0 l0 → NA W E1 l1 → Calls Try.prog 33 #[.slice E0 l0.length l0.length, .slice E1 l1.length l1.length] W (fun e w' => ∃ (C : Option Addr) (q : Nat), e = .returned (.tuple #[.slice C r0.length q, .int .i64 r1]) ∧ w'.ownsRow W.heap.size 46 2 (.slice C r0.length q) r0.length (cellsOf r0) ∧ Below W.heap.size W w') := fun E0 E1 W h0 h1 => by rw [hr0, hr1]; exact implJoinTunes_any E0 l0.length l0 E1 l1.length l1 W h0 hn0 hwf0 h1 hn1 hwf1
  clear hr0 hr1
  have b0 : Below w.heap.size w w := Below.refl _ _
  go_enter Try.func9, Try.ntmps9
  go_wp2_with fail
  refine (szTune_small A0 l0.length c0 (1048576) (by omega) (by omega) hm0 (by omega) _).mono ?_
  rintro e w1' ⟨rfl, rfl⟩
  go_wp2_with fail
  refine (szTune_small A1 l1.length c1 (1048576 - (l0.length : Int)) (by omega) (by omega) hm1 (by omega) _).mono ?_
  rintro e w1' ⟨rfl, rfl⟩
  go_wp2_with fail
  refine (toTune_ex A0 c0 l0 _ (hA0.below b0) hn0).mono ?_
  rintro e w1 ⟨g1, rfl, hg1, own1, hb1⟩
  have b1 := step_below hb1 b0
  have gl1 : g1 < w1.heap.size := (own1.lt g1 rfl).2
  have q1_1 := own1
  go_wp2_with fail
  refine (toTune_ex A1 c1 l1 _ (hA1.below b1) hn1).mono ?_
  rintro e w2 ⟨g2, rfl, hg2, own2, hb2⟩
  have b2 := step_below hb2 b1
  have q1_2 := own_keep q1_1 hb2
  have gl2 : g2 < w2.heap.size := (own2.lt g2 rfl).2
  have q2_2 := own2
  go_wp2_with fail
  refine (KS _ _ _ (NA.of_own q1_2) (NA.of_own q2_2) ).mono ?_
  rintro e w3 ⟨C3, e3, rfl, own3, hb3⟩
  have b3 := step_below hb3 b2
  have v3_3 := own3
  have t3 : Below w3.heap.size w3 w3 := Below.refl _ _
  go_wp2_with fail
  refine (toTune_ex A0 c0 l0 _ (hA0.below b3) hn0).mono ?_
  rintro e w4 ⟨g4, rfl, hg4, own4, hb4⟩
  have b4 := step_below hb4 b3
  have v3_4 := own_keep v3_3 hb4
  have t4 := step_below hb4 t3
  have gl4 : g4 < w4.heap.size := (own4.lt g4 rfl).2
  have q4_4 := own4
  go_wp2_with fail
  refine (toTune_ex A1 c1 l1 _ (hA1.below b4) hn1).mono ?_
  rintro e w5 ⟨g5, rfl, hg5, own5, hb5⟩
  have b5 := step_below hb5 b4
  have v3_5 := own_keep v3_4 hb5
  have q4_5 := own_keep q4_4 hb5
  have t5 := step_below hb5 t4
  have gl5 : g5 < w5.heap.size := (own5.lt g5 rfl).2
  have q5_5 := own5
  go_wp2_with fail
  refine (KI _ _ _ (NA.of_own q4_5) (NA.of_own q5_5) ).mono ?_
  rintro e w6 ⟨C6, e6, rfl, own6, hb6⟩
  have b6 := step_below hb6 b5
  have v3_6 := own_keep v3_5 hb6
  have q4_6 := own_keep q4_5 hb6
  have q5_6 := own_keep q5_5 hb6
  have t6 := step_below hb6 t5
  have r6_6 := own6
  go_wp2_with fail
  refine (eqTune_self _ _ _ _ r0 _ (NA.of_own r6_6) (NA.of_own v3_6) hrl0).mono ?_
  rintro e w7 ⟨rfl, hb7⟩
  have b7 := step_below hb7 b6
  have v3_7 := own_keep v3_6 hb7
  have q4_7 := own_keep q4_6 hb7
  have q5_7 := own_keep q5_6 hb7
  have r6_7 := own_keep r6_6 hb7
  have t7 := step_below hb7 t6
  go_wp2_with fail
  refine (toTune_ex A0 c0 l0 _ (hA0.below b7) hn0).mono ?_
  rintro e w8 ⟨g8, rfl, hg8, own8, hb8⟩
  have b8 := step_below hb8 b7
  have v3_8 := own_keep v3_7 hb8
  have q4_8 := own_keep q4_7 hb8
  have q5_8 := own_keep q5_7 hb8
  have r6_8 := own_keep r6_7 hb8
  have t8 := step_below hb8 t7
  have gl8 : g8 < w8.heap.size := (own8.lt g8 rfl).2
  have q8_8 := own8
  go_wp2_with fail
  refine (eqTune_self _ _ _ _ l0 _ (NA.of_own q4_8) (NA.of_own q8_8) hn0).mono ?_
  rintro e w9 ⟨rfl, hb9⟩
  have b9 := step_below hb9 b8
  have v3_9 := own_keep v3_8 hb9
  have q4_9 := own_keep q4_8 hb9
  have q5_9 := own_keep q5_8 hb9
  have r6_9 := own_keep r6_8 hb9
  have t9 := step_below hb9 t8
  go_wp2_with fail
  refine (toTune_ex A1 c1 l1 _ (hA1.below b9) hn1).mono ?_
  rintro e w10 ⟨g10, rfl, hg10, own10, hb10⟩
  have b10 := step_below hb10 b9
  have v3_10 := own_keep v3_9 hb10
  have q4_10 := own_keep q4_9 hb10
  have q5_10 := own_keep q5_9 hb10
  have r6_10 := own_keep r6_9 hb10
  have t10 := step_below hb10 t9
  have gl10 : g10 < w10.heap.size := (own10.lt g10 rfl).2
  have q10_10 := own10
  go_wp2_with fail
  refine (eqTune_self _ _ _ _ l1 _ (NA.of_own q5_10) (NA.of_own q10_10) hn1).mono ?_
  rintro e w11 ⟨rfl, hb11⟩
  have b11 := step_below hb11 b10
  have v3_11 := own_keep v3_10 hb11
  have q4_11 := own_keep q4_10 hb11
  have q5_11 := own_keep q5_10 hb11
  have r6_11 := own_keep r6_10 hb11
  have t11 := step_below hb11 t10
  go_wp2_with fail
  refine (markTune_from _ _ l0 _ (1) _ q4_11 hn0 ⟨by omega, by omega⟩).mono ?_
  rintro e w12 ⟨rfl, mo12, hgr12⟩
  have hbs12 := hgr12.size
  have t12 : Below w3.heap.size w3 w12 := t11.grown hgr12 t11.size (fun j hj => by cases hj; exact Nat.le_trans t3.size hg4)
  have b12 : Below w.heap.size w w12 := b3.trans (t12.mono b3.size)
  have v3_12 := own_keep v3_3 t12
  have q5_12 := q5_11.kept hgr12 (Or.inr (fun e => by have h1 := q5_11.lt g4 (by rw [e]; rfl); have gg := gl4; skip; omega))
  have r6_12 := r6_11.kept hgr12 (Or.inr (fun e => by have h1 := r6_11.lt g4 (by rw [e]; rfl); have gg := gl4; have h5_ := hb5.size; omega))
  have hneg12 : decide (1 + 2 * (l0.length : Int) < 0) = false := by simp; omega
  go_wp2_with fail
  refine (markTune_from _ _ l1 _ (1 + 2 * (l0.length : Int)) _ q5_12 hn1 ⟨by omega, by omega⟩).mono ?_
  rintro e w13 ⟨rfl, mo13, hgr13⟩
  have hbs13 := hgr13.size
  have t13 : Below w3.heap.size w3 w13 := t12.grown hgr13 t12.size (fun j hj => by cases hj; exact Nat.le_trans t4.size hg5)
  have b13 : Below w.heap.size w w13 := b3.trans (t13.mono b3.size)
  have v3_13 := own_keep v3_3 t13
  have r6_13 := r6_12.kept hgr13 (Or.inr (fun e => by have h1 := r6_12.lt g5 (by rw [e]; rfl); have gg := gl5; skip; omega))
  have hneg13 : decide (1 + 2 * (l0.length : Int) + 2 * (l1.length : Int) < 0) = false := by simp; omega
  go_wp2_with fail
  refine (eqTune_self _ _ _ _ r0 _ (NA.of_own r6_13) (NA.of_own v3_13) hrl0).mono ?_
  rintro e w14 ⟨rfl, hb14⟩
  have b14 := step_below hb14 b13
  have v3_14 := own_keep v3_13 hb14
  have r6_14 := own_keep r6_13 hb14
  have t14 := step_below hb14 t13
  go_wp2_with fail
  refine (markTune_from _ _ r0 _ (1) _ r6_14 hrl0 ⟨by omega, by omega⟩).mono ?_
  rintro e w15 ⟨rfl, mo15, hgr15⟩
  have hbs15 := hgr15.size
  have t15 : Below w3.heap.size w3 w15 := t14.grown hgr15 t14.size (fun j hj => Nat.le_trans t5.size ((r6_14).lt j hj).1)
  have b15 : Below w.heap.size w w15 := b3.trans (t15.mono b3.size)
  have v3_15 := own_keep v3_3 t15
  have k15_15 := mo15
  have hneg15 : decide (1 + 2 * (r0.length : Int) < 0) = false := by simp; omega
  have hneq15 : ((1 + 2 * (r0.length : Int)) != (1 + 2 * (r0.length : Int))) = false := by simp
  go_wp2_with fail
  refine (heldTune_from _ _ r0.length (1) _ (mkN_of_own k15_15) hrl0 ⟨by omega, by omega⟩).mono ?_
  rintro e w16' ⟨rfl, rfl⟩
  go_wp2_with fail
  refine (toTune_ex A0 c0 l0 _ (hA0.below b15) hn0).mono ?_
  rintro e w16 ⟨g16, rfl, hg16, own16, hb16⟩
  have b16 := step_below hb16 b15
  have v3_16 := own_keep v3_15 hb16
  have k15_16 := own_keep k15_15 hb16
  have t16 := step_below hb16 t15
  have gl16 : g16 < w16.heap.size := (own16.lt g16 rfl).2
  have q16_16 := own16
  go_wp2_with fail
  refine (toTune_ex A1 c1 l1 _ (hA1.below b16) hn1).mono ?_
  rintro e w17 ⟨g17, rfl, hg17, own17, hb17⟩
  have b17 := step_below hb17 b16
  have v3_17 := own_keep v3_16 hb17
  have k15_17 := own_keep k15_16 hb17
  have q16_17 := own_keep q16_16 hb17
  have t17 := step_below hb17 t16
  have gl17 : g17 < w17.heap.size := (own17.lt g17 rfl).2
  have q17_17 := own17
  go_wp2_with fail
  refine (KI _ _ _ (NA.of_own q16_17) (NA.of_own q17_17) ).mono ?_
  rintro e w18 ⟨C18, e18, rfl, own18, hb18⟩
  have b18 := step_below hb18 b17
  have v3_18 := own_keep v3_17 hb18
  have k15_18 := own_keep k15_17 hb18
  have q16_18 := own_keep q16_17 hb18
  have q17_18 := own_keep q17_17 hb18
  have t18 := step_below hb18 t17
  have r18_18 := own18
  go_wp2_with fail
  refine (eqTune_self _ _ _ _ r0 _ (NA.of_own r18_18) (NA.of_own v3_18) hrl0).mono ?_
  rintro e w19 ⟨rfl, hb19⟩
  have b19 := step_below hb19 b18
  have v3_19 := own_keep v3_18 hb19
  have k15_19 := own_keep k15_18 hb19
  have q16_19 := own_keep q16_18 hb19
  have q17_19 := own_keep q17_18 hb19
  have t19 := step_below hb19 t18
  go_wp2_with fail
  refine (heldTune_from _ _ r0.length (1) _ (mkN_of_own k15_19) hrl0 ⟨by omega, by omega⟩).mono ?_
  rintro e w20' ⟨rfl, rfl⟩
  go_wp2
  go_ret
  exact ⟨rfl, b19⟩
theorem lawJoinTunes_any (A0 : Option Addr) (c0 : Nat) (l0 : List (Int × Int)) (A1 : Option Addr) (c1 : Nat) (l1 : List (Int × Int)) (w : World) (hA0 : NA w A0 l0) (hwf0 : WF l0) (hA1 : NA w A1 l1) (hwf1 : WF l1) (hm0 : l0.length ≤ maxLen) (hm1 : l1.length ≤ maxLen)  :
    Calls Try.prog 9 #[.slice A0 l0.length c0, .slice A1 l1.length c1] w (Says true w) := by
  rcases Nat.lt_or_ge 1048576 (l0.length) with h0 | h0
  · exact lawJoinTunes_big0 A0 c0 l0 A1 c1 l1 w  h0 hm0 hm1
  rcases Nat.lt_or_ge 1048576 (l0.length + l1.length) with h1 | h1
  · exact lawJoinTunes_big1 A0 c0 l0 A1 c1 l1 w h0 h1 hm0 hm1
  exact lawJoinTunes_small A0 c0 l0 A1 c1 l1 w hA0 hwf0 hA1 hwf1 h0 h1 hm0 hm1 
end Go.Proofs.Ytfjcomemgbmohaa
