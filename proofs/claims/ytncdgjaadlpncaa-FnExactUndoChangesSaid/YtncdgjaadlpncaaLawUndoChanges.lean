import Derived.Test.YtncdgjaadlpncaaUnd
import Derived.Test.YtncdgjaadlpncaaMkc
import Derived.Deep.RegionHeld3
import Derived.Deep.CutRange
namespace Go.Proofs.Ytncdgjaadlpncaa
open Go.RowKit

set_option maxRecDepth 20000 in
set_option maxHeartbeats 1000000 in
theorem lawUndoChanges_big0 (A0 : Option Addr) (c0 : Nat) (l0 : List (Int × Int × Bool)) (w : World)  (hbg : 1048576 < l0.length) (hm0 : l0.length ≤ maxLen) :
    Calls Try.prog 6 #[.slice A0 l0.length c0] w (Says true w) := by
  have b0 : Below w.heap.size w w := Below.refl _ _
  go_enter Try.func6, Try.ntmps6
  go_wp2_with fail
  refine (szChangeS_big A0 l0.length c0 (1048576) (by omega) (by omega) hm0 (by omega) _).mono ?_
  rintro e w1 ⟨rfl, rfl⟩
  go_wp2
  go_ret
  exact ⟨rfl, b0⟩
set_option maxRecDepth 20000 in
set_option maxHeartbeats 4000000 in
theorem lawUndoChanges_small (A0 : Option Addr) (c0 : Nat) (l0 : List (Int × Int × Bool)) (w : World) (hA0 : CgA w A0 l0) (hwf0 : CgWF l0) (hc0 : l0.length ≤ 1048576) (hm0 : l0.length ≤ maxLen) :
    Calls Try.prog 6 #[.slice A0 l0.length c0] w (Says true w) := by
  have hn0 : l0.length ≤ 1048576 := by omega
  obtain ⟨r0, hr0⟩ : ∃ r : List (Int × Int × Bool), r = unL l0 := ⟨_, rfl⟩
  obtain ⟨r1, hr1⟩ : ∃ r : Int, r = unLC l0 := ⟨_, rfl⟩
  have hrl0 : r0.length ≤ 1048576 := by rw [hr0]; exact unL_len l0
  have KS : ∀ (E0 : Option Addr) (W : World), CgA W E0 l0 → Calls Try.prog 28 #[.slice E0 l0.length l0.length] W (fun e w' => ∃ (C : Option Addr) (q : Nat), e = .returned (.tuple #[.slice C r0.length q, .int .i64 r1]) ∧ w'.ownsRow W.heap.size 99 3 (.slice C r0.length q) r0.length (cgC r0) ∧ Below W.heap.size W w') := fun E0 W h0 => by rw [hr0, hr1]; exact specUndoChanges_any E0 l0.length l0 W h0 hn0 hwf0
  have KI : ∀ (E0 : Option Addr) (W : World), CgA W E0 l0 → Calls Try.prog 30 #[.slice E0 l0.length l0.length] W (fun e w' => ∃ (C : Option Addr) (q : Nat), e = .returned (.tuple #[.slice C r0.length q, .int .i64 r1]) ∧ w'.ownsRow W.heap.size 99 3 (.slice C r0.length q) r0.length (cgC r0) ∧ Below W.heap.size W w') := fun E0 W h0 => by rw [hr0, hr1]; exact implUndoChanges_any E0 l0.length l0 W h0 hn0 hwf0
  clear hr0 hr1
  have b0 : Below w.heap.size w w := Below.refl _ _
  go_enter Try.func6, Try.ntmps6
  go_wp2_with fail
  refine (szChangeS_small A0 l0.length c0 (1048576) (by omega) (by omega) hm0 (by omega) _).mono ?_
  rintro e w1' ⟨rfl, rfl⟩
  go_wp2_with fail
  refine (toChangeS_ex A0 c0 l0 _ (hA0.below b0) hn0).mono ?_
  rintro e w1 ⟨g1, rfl, hg1, own1, hb1⟩
  have b1 := step_below hb1 b0
  have gl1 : g1 < w1.heap.size := (own1.lt g1 rfl).2
  have q1_1 := own1
  go_wp2_with fail
  refine (KS _ _ (CgA.of_own q1_1) ).mono ?_
  rintro e w2 ⟨C2, e2, rfl, own2, hb2⟩
  have b2 := step_below hb2 b1
  have v2_2 := own2
  have t2 : Below w2.heap.size w2 w2 := Below.refl _ _
  go_wp2_with fail
  refine (toChangeS_ex A0 c0 l0 _ (hA0.below b2) hn0).mono ?_
  rintro e w3 ⟨g3, rfl, hg3, own3, hb3⟩
  have b3 := step_below hb3 b2
  have v2_3 := own_keep v2_2 hb3
  have t3 := step_below hb3 t2
  have gl3 : g3 < w3.heap.size := (own3.lt g3 rfl).2
  have q3_3 := own3
  go_wp2_with fail
  refine (KI _ _ (CgA.of_own q3_3) ).mono ?_
  rintro e w4 ⟨C4, e4, rfl, own4, hb4⟩
  have b4 := step_below hb4 b3
  have v2_4 := own_keep v2_3 hb4
  have q3_4 := own_keep q3_3 hb4
  have t4 := step_below hb4 t3
  have r4_4 := own4
  go_wp2_with fail
  refine (eqChangeS_self _ _ _ _ r0 _ (CgA.of_own r4_4) (CgA.of_own v2_4) hrl0).mono ?_
  rintro e w5 ⟨rfl, hb5⟩
  have b5 := step_below hb5 b4
  have v2_5 := own_keep v2_4 hb5
  have q3_5 := own_keep q3_4 hb5
  have r4_5 := own_keep r4_4 hb5
  have t5 := step_below hb5 t4
  go_wp2_with fail
  refine (toChangeS_ex A0 c0 l0 _ (hA0.below b5) hn0).mono ?_
  rintro e w6 ⟨g6, rfl, hg6, own6, hb6⟩
  have b6 := step_below hb6 b5
  have v2_6 := own_keep v2_5 hb6
  have q3_6 := own_keep q3_5 hb6
  have r4_6 := own_keep r4_5 hb6
  have t6 := step_below hb6 t5
  have gl6 : g6 < w6.heap.size := (own6.lt g6 rfl).2
  have q6_6 := own6
  go_wp2_with fail
  refine (eqChangeS_self _ _ _ _ l0 _ (CgA.of_own q3_6) (CgA.of_own q6_6) hn0).mono ?_
  rintro e w7 ⟨rfl, hb7⟩
  have b7 := step_below hb7 b6
  have v2_7 := own_keep v2_6 hb7
  have q3_7 := own_keep q3_6 hb7
  have r4_7 := own_keep r4_6 hb7
  have t7 := step_below hb7 t6
  go_wp2_with fail
  refine (markChangeS_from _ _ l0 _ (1) _ q3_7 hn0 ⟨by omega, by omega⟩).mono ?_
  rintro e w8 ⟨rfl, mo8, hgr8⟩
  have hbs8 := hgr8.size
  have t8 : Below w2.heap.size w2 w8 := t7.grown hgr8 t7.size (fun j hj => by cases hj; exact Nat.le_trans t2.size hg3)
  have b8 : Below w.heap.size w w8 := b2.trans (t8.mono b2.size)
  have v2_8 := own_keep v2_2 t8
  have r4_8 := r4_7.kept hgr8 (Or.inr (fun e => by have h1 := r4_7.lt g3 (by rw [e]; rfl); have gg := gl3; skip; omega))
  have hneg8 : decide (1 + 3 * (l0.length : Int) < 0) = false := by simp; omega
  go_wp2_with fail
  refine (eqChangeS_self _ _ _ _ r0 _ (CgA.of_own r4_8) (CgA.of_own v2_8) hrl0).mono ?_
  rintro e w9 ⟨rfl, hb9⟩
  have b9 := step_below hb9 b8
  have v2_9 := own_keep v2_8 hb9
  have r4_9 := own_keep r4_8 hb9
  have t9 := step_below hb9 t8
  go_wp2_with fail
  refine (markChangeS_from _ _ r0 _ (1) _ r4_9 hrl0 ⟨by omega, by omega⟩).mono ?_
  rintro e w10 ⟨rfl, mo10, hgr10⟩
  have hbs10 := hgr10.size
  have t10 : Below w2.heap.size w2 w10 := t9.grown hgr10 t9.size (fun j hj => Nat.le_trans t3.size ((r4_9).lt j hj).1)
  have b10 : Below w.heap.size w w10 := b2.trans (t10.mono b2.size)
  have v2_10 := own_keep v2_2 t10
  have k10_10 := mo10
  have hneg10 : decide (1 + 3 * (r0.length : Int) < 0) = false := by simp; omega
  have hneq10 : ((1 + 3 * (r0.length : Int)) != (1 + 3 * (r0.length : Int))) = false := by simp
  go_wp2_with fail
  refine (heldChangeS_from _ _ r0.length (1) _ (mkCg_of_own k10_10) hrl0 ⟨by omega, by omega⟩).mono ?_
  rintro e w11' ⟨rfl, rfl⟩
  go_wp2_with fail
  refine (toChangeS_ex A0 c0 l0 _ (hA0.below b10) hn0).mono ?_
  rintro e w11 ⟨g11, rfl, hg11, own11, hb11⟩
  have b11 := step_below hb11 b10
  have v2_11 := own_keep v2_10 hb11
  have k10_11 := own_keep k10_10 hb11
  have t11 := step_below hb11 t10
  have gl11 : g11 < w11.heap.size := (own11.lt g11 rfl).2
  have q11_11 := own11
  go_wp2_with fail
  refine (KI _ _ (CgA.of_own q11_11) ).mono ?_
  rintro e w12 ⟨C12, e12, rfl, own12, hb12⟩
  have b12 := step_below hb12 b11
  have v2_12 := own_keep v2_11 hb12
  have k10_12 := own_keep k10_11 hb12
  have q11_12 := own_keep q11_11 hb12
  have t12 := step_below hb12 t11
  have r12_12 := own12
  go_wp2_with fail
  refine (eqChangeS_self _ _ _ _ r0 _ (CgA.of_own r12_12) (CgA.of_own v2_12) hrl0).mono ?_
  rintro e w13 ⟨rfl, hb13⟩
  have b13 := step_below hb13 b12
  have v2_13 := own_keep v2_12 hb13
  have k10_13 := own_keep k10_12 hb13
  have q11_13 := own_keep q11_12 hb13
  have t13 := step_below hb13 t12
  go_wp2_with fail
  refine (heldChangeS_from _ _ r0.length (1) _ (mkCg_of_own k10_13) hrl0 ⟨by omega, by omega⟩).mono ?_
  rintro e w14' ⟨rfl, rfl⟩
  go_wp2
  go_ret
  exact ⟨rfl, b13⟩
theorem lawUndoChanges_any (A0 : Option Addr) (c0 : Nat) (l0 : List (Int × Int × Bool)) (w : World) (hA0 : CgA w A0 l0) (hwf0 : CgWF l0) (hm0 : l0.length ≤ maxLen)  :
    Calls Try.prog 6 #[.slice A0 l0.length c0] w (Says true w) := by
  rcases Nat.lt_or_ge 1048576 (l0.length) with h0 | h0
  · exact lawUndoChanges_big0 A0 c0 l0 w  h0 hm0
  exact lawUndoChanges_small A0 c0 l0 w hA0 hwf0 h0 hm0 
end Go.Proofs.Ytncdgjaadlpncaa
