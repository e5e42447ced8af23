import Derived.Test.YtfoofggaieniaaaDoorCtsp
namespace Go.Proofs.YtfoofggaieniaaaDoor
open Go.RowKit
set_option maxRecDepth 20000 in
set_option maxHeartbeats 1000000 in
theorem lawChangesText_big0 (A0 : Option Addr) (c0 : Nat) (l0 : List (Int × Int × Bool)) (w : World)  (hbg : 1048576 < l0.length) (hm0 : l0.length ≤ maxLen) :
    Calls Tryd.prog 3 #[.slice A0 l0.length c0] w (Says true w) := by
  have b0 : Below w.heap.size w w := Below.refl _ _
  go_enter Tryd.func3, Tryd.ntmps3
  go_wp2_with fail
  refine (szChangeS_big A0 l0.length c0 (1048576) (by omega) (by omega) hm0 (by omega) _).mono ?_
  rintro e w1 ⟨rfl, rfl⟩
  go_wp2
  go_ret
  exact ⟨rfl, b0⟩
set_option maxRecDepth 20000 in
set_option maxHeartbeats 4000000 in
theorem lawChangesText_small (A0 : Option Addr) (c0 : Nat) (l0 : List (Int × Int × Bool)) (w : World) (hA0 : CgA w A0 l0) (hwf0 : CgWF l0) (hc0 : l0.length ≤ 1048576) (hm0 : l0.length ≤ maxLen) :
    Calls Tryd.prog 3 #[.slice A0 l0.length c0] w (Says true w) := by
  have hn0 : l0.length ≤ 1048576 := by omega
  obtain ⟨z, hz⟩ : ∃ z : ByteArray, z = csV l0 := ⟨_, rfl⟩
  have KS : ∀ (E0 : Option Addr) (W : World), CgA W E0 l0 → Calls Tryd.prog 5 #[.slice E0 l0.length l0.length] W (fun e w' => e = .returned (.string z) ∧ Below W.heap.size W w') := fun E0 W h0 => by rw [hz]; exact specChangesText_any E0 l0.length l0 W h0 hn0 hwf0
  have KI : ∀ (E0 : Option Addr) (W : World), CgA W E0 l0 → Calls Tryd.prog 7 #[.slice E0 l0.length l0.length] W (fun e w' => e = .returned (.string z) ∧ Below W.heap.size W w') := fun E0 W h0 => by rw [hz]; exact implChangesText_any E0 l0.length l0 W h0 hn0 hwf0
  clear hz
  have b0 : Below w.heap.size w w := Below.refl _ _
  go_enter Tryd.func3, Tryd.ntmps3
  go_wp2_with fail
  refine (szChangeS_small A0 l0.length c0 (1048576) (by omega) (by omega) hm0 (by omega) _).mono ?_
  rintro e w1' ⟨rfl, rfl⟩
  go_wp2_with fail
  refine (toChangeS_ex A0 c0 l0 _ (hA0.below b0) hn0).mono ?_
  rintro e w1 ⟨g1, rfl, hg1, own1, hb1⟩
  have b1 := step_below hb1 b0
  go_wp2_with fail
  refine (KS _ _ (CgA.of_own own1)).mono ?_
  rintro e w2 ⟨rfl, hb2⟩
  have b2 := step_below hb2 b1
  go_wp2_with fail
  refine (toChangeS_ex A0 c0 l0 _ (hA0.below b2) hn0).mono ?_
  rintro e w3 ⟨g3, rfl, hg3, own3, hb3⟩
  have b3 := step_below hb3 b2
  go_wp2_with fail
  refine (KI _ _ (CgA.of_own own3)).mono ?_
  rintro e w4 ⟨rfl, hb4⟩
  have b4 := step_below hb4 b3
  have q4 := own_keep own3 hb4
  go_wp2_with fail
  refine (toChangeS_ex A0 c0 l0 _ (hA0.below b4) hn0).mono ?_
  rintro e w6 ⟨g6, rfl, hg6, own6, hb6⟩
  have b6 := step_below hb6 b4
  have q6 := own_keep q4 hb6
  go_wp2_with fail
  refine (eqChangeS_self _ _ _ _ l0 _ (CgA.of_own q6) (CgA.of_own own6) hn0).mono ?_
  rintro e w7 ⟨rfl, hb7⟩
  have b7 := step_below hb7 b6
  go_wp2
  go_ret
  exact ⟨rfl, b7⟩
theorem lawChangesText_any (A0 : Option Addr) (c0 : Nat) (l0 : List (Int × Int × Bool)) (w : World) (hA0 : CgA w A0 l0) (hwf0 : CgWF l0) (_hT : True) (hm0 : l0.length ≤ maxLen) :
    Calls Tryd.prog 3 #[.slice A0 l0.length c0] w (Says true w) := by
  by_cases hbg : 1048576 < l0.length
  · exact lawChangesText_big0 A0 c0 l0 w hbg hm0
  · exact lawChangesText_small A0 c0 l0 w hA0 hwf0 (by omega) hm0
end Go.Proofs.YtfoofggaieniaaaDoor
