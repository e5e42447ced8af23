import Derived.Test.YtmjpecneaenlpaaDoorRxr
import Derived.Test.YtmjpecneaenlpaaDoorRxq
import Derived.Test.YtmjpecneaenlpaaDoorChm
import Derived.Test.YtmjpecneaenlpaaDoorGbd
import Derived.Deep.RegionHeld3
import Derived.Deep.CutRange
namespace Go.Proofs.YtmjpecneaenlpaaDoor
open Go.RowKit

set_option maxRecDepth 20000 in
set_option maxHeartbeats 1000000 in
theorem lawReadChoices_big0 (tx0 : ByteArray) (w : World)  (hbg : 1048576 < tx0.size) (hm0 : tx0.size ≤ maxLen) :
    Calls Tryd.prog 5 #[.string tx0] w (Says true w) := by
  have b0 : Below w.heap.size w w := Below.refl _ _
  go_enter Tryd.func5, Tryd.ntmps5
  go_wp2
  go_ret
  exact ⟨rfl, b0⟩
set_option maxRecDepth 20000 in
set_option maxHeartbeats 4000000 in
theorem lawReadChoices_small (tx0 : ByteArray) (w : World) (hT : RxW w) (hc0 : tx0.size ≤ 1048576) (hm0 : tx0.size ≤ maxLen) :
    Calls Tryd.prog 5 #[.string tx0] w (Says true w) := by
  have hn0 : tx0.size ≤ 1048576 := by omega
  obtain ⟨r0, hr0⟩ : ∃ r : List (Bool × Int × Int × Int), r = rxT tx0 := ⟨_, rfl⟩
  obtain ⟨r1, hr1⟩ : ∃ r : Int, r = rxC tx0 := ⟨_, rfl⟩
  have hrl0 : r0.length ≤ 1048576 := by rw [hr0]; exact rxT_len _
  have KS : ∀ (W : World), RxW W → Calls Tryd.prog 17 #[.string tx0] W (fun e w' => ∃ (C : Option Addr) (q : Nat), e = .returned (.tuple #[.slice C r0.length q, .int .i64 r1]) ∧ w'.ownsRow W.heap.size 75 4 (.slice C r0.length q) r0.length (chC r0) ∧ Below W.heap.size W w') := fun  W hT' => by rw [hr0, hr1]; exact specReadChoices_any tx0 W hn0
  have KI : ∀ (W : World), RxW W → Calls Tryd.prog 18 #[.string tx0] W (fun e w' => ∃ (C : Option Addr) (q : Nat), e = .returned (.tuple #[.slice C r0.length q, .int .i64 r1]) ∧ w'.ownsRow W.heap.size 75 4 (.slice C r0.length q) r0.length (chC r0) ∧ Below W.heap.size W w') := fun  W hT' => by rw [hr0, hr1]; exact implReadChoices_any tx0 W hn0 hT'
  clear hr0 hr1
  have b0 : Below w.heap.size w w := Below.refl _ _
  go_enter Tryd.func5, Tryd.ntmps5
  go_wp2_with fail
  refine (KS _  (hT.keep b0)).mono ?_
  rintro e w1 ⟨C1, e1, rfl, own1, hb1⟩
  have b1 := step_below hb1 b0
  have v1_1 := own1
  have t1 : Below w1.heap.size w1 w1 := Below.refl _ _
  go_wp2_with fail
  refine (KI _  (hT.keep b1)).mono ?_
  rintro e w2 ⟨C2, e2, rfl, own2, hb2⟩
  have b2 := step_below hb2 b1
  have v1_2 := own_keep v1_1 hb2
  have t2 := step_below hb2 t1
  have r2_2 := own2
  go_wp2_with fail
  refine (eqChoiceS_self _ _ _ _ r0 _ (ChA.of_own r2_2) (ChA.of_own v1_2) hrl0).mono ?_
  rintro e w3 ⟨rfl, hb3⟩
  have b3 := step_below hb3 b2
  have v1_3 := own_keep v1_2 hb3
  have r2_3 := own_keep r2_2 hb3
  have t3 := step_below hb3 t2
  go_wp2_with fail
  refine (markChoiceS_from _ _ r0 _ (1) _ r2_3 hrl0 ⟨by omega, by omega⟩).mono ?_
  rintro e w4 ⟨rfl, mo4, hgr4⟩
  have hbs4 := hgr4.size
  have t4 : Below w1.heap.size w1 w4 := t3.grown hgr4 t3.size (fun j hj => Nat.le_trans t1.size ((r2_3).lt j hj).1)
  have b4 : Below w.heap.size w w4 := b1.trans (t4.mono b1.size)
  have v1_4 := own_keep v1_1 t4
  have k4_4 := mo4
  have hneg4 : decide (1 + 4 * (r0.length : Int) < 0) = false := by simp; omega
  have hneq4 : ((1 + 4 * (r0.length : Int)) != (1 + 4 * (r0.length : Int))) = false := by simp
  go_wp2_with fail
  refine (heldChoiceS_from _ _ r0.length (1) _ (mkCh_of_own k4_4) hrl0 ⟨by omega, by omega⟩).mono ?_
  rintro e w5' ⟨rfl, rfl⟩
  go_wp2_with fail
  refine (KI _  (hT.keep b4)).mono ?_
  rintro e w5 ⟨C5, e5, rfl, own5, hb5⟩
  have b5 := step_below hb5 b4
  have v1_5 := own_keep v1_4 hb5
  have k4_5 := own_keep k4_4 hb5
  have t5 := step_below hb5 t4
  have r5_5 := own5
  go_wp2_with fail
  refine (eqChoiceS_self _ _ _ _ r0 _ (ChA.of_own r5_5) (ChA.of_own v1_5) hrl0).mono ?_
  rintro e w6 ⟨rfl, hb6⟩
  have b6 := step_below hb6 b5
  have v1_6 := own_keep v1_5 hb6
  have k4_6 := own_keep k4_5 hb6
  have t6 := step_below hb6 t5
  go_wp2_with fail
  refine (heldChoiceS_from _ _ r0.length (1) _ (mkCh_of_own k4_6) hrl0 ⟨by omega, by omega⟩).mono ?_
  rintro e w7' ⟨rfl, rfl⟩
  go_wp2
  go_ret
  exact ⟨rfl, b6⟩
theorem lawReadChoices_any (tx0 : ByteArray) (w : World) (hT : RxW w) (hm0 : tx0.size ≤ maxLen)  :
    Calls Tryd.prog 5 #[.string tx0] w (Says true w) := by
  rcases Nat.lt_or_ge 1048576 (tx0.size) with h0 | h0
  · exact lawReadChoices_big0 tx0 w  h0 hm0
  exact lawReadChoices_small tx0 w hT h0 hm0 
end Go.Proofs.YtmjpecneaenlpaaDoor
