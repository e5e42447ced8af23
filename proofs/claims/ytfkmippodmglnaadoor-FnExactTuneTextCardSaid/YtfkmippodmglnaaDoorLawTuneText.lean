import Derived.Test.YtfkmippodmglnaaDoorTts
import Derived.Test.YtfkmippodmglnaaDoorGan
import Derived.Test.YtfkmippodmglnaaDoorGat
import Derived.Deep.RegionHeld3
import Derived.Deep.CutRange
namespace Go.Proofs.YtfkmippodmglnaaDoor
open Go.RowKit

set_option maxRecDepth 20000 in
set_option maxHeartbeats 1000000 in
theorem lawTuneText_big0 (A0 : Option Addr) (c0 : Nat) (l0 : List (Int × Int)) (w : World)  (hbg : 1048576 < l0.length) (hm0 : l0.length ≤ maxLen) :
    Calls Tryd.prog 5 #[.slice A0 l0.length c0] w (Says true w) := by
  have b0 : Below w.heap.size w w := Below.refl _ _
  go_enter Tryd.func5, Tryd.ntmps5
  go_wp2_with fail
  refine (szTune_big A0 l0.length c0 (1048576) (by omega) (by omega) hm0 (by omega) _).mono ?_
  rintro e w1 ⟨rfl, rfl⟩
  go_wp2
  go_ret
  exact ⟨rfl, b0⟩
set_option maxRecDepth 20000 in
set_option maxHeartbeats 4000000 in
theorem lawTuneText_small (A0 : Option Addr) (c0 : Nat) (l0 : List (Int × Int)) (w : World) (hA0 : NA w A0 l0) (hwf0 : WF l0) (hT : PsW w) (hc0 : l0.length ≤ 1048576) (hm0 : l0.length ≤ maxLen) :
    Calls Tryd.prog 5 #[.slice A0 l0.length c0] w (Says true w) := by
  have hn0 : l0.length ≤ 1048576 := by omega
  obtain ⟨r0, hr0⟩ : ∃ r : ByteArray, r = ttV l0 := ⟨_, rfl⟩
  have KS : ∀ (E0 : Option Addr) (W : World), NA W E0 l0 → PsW W → Calls Tryd.prog 18 #[.slice E0 l0.length l0.length] W (fun e w' => e = .returned (.string r0) ∧ Below W.heap.size W w') := fun E0 W h0 hT' => by rw [hr0]; exact specTuneText_any E0 l0.length l0 W h0 hn0 hwf0
  have KI : ∀ (E0 : Option Addr) (W : World), NA W E0 l0 → PsW W → Calls Tryd.prog 20 #[.slice E0 l0.length l0.length] W (fun e w' => e = .returned (.string r0) ∧ Below W.heap.size W w') := fun E0 W h0 hT' => by rw [hr0]; exact implTuneText_any E0 l0.length l0 W h0 hn0 hwf0 hT'
  clear hr0
  have b0 : Below w.heap.size w w := Below.refl _ _
  go_enter Tryd.func5, Tryd.ntmps5
  go_wp2_with fail
  refine (szTune_small A0 l0.length c0 (1048576) (by omega) (by omega) hm0 (by omega) _).mono ?_
  rintro e w1' ⟨rfl, rfl⟩
  go_wp2_with fail
  refine (toTune_ex A0 c0 l0 _ (hA0.below b0) hn0).mono ?_
  rintro e w1 ⟨g1, rfl, hg1, own1, hb1⟩
  have b1 := step_below hb1 b0
  have gl1 : g1 < w1.heap.size := (own1.lt g1 rfl).2
  have q1_1 := own1
  go_wp2_with fail
  refine (KS _ _ (NA.of_own q1_1) (hT.keep b1)).mono ?_
  rintro e w2 ⟨rfl, hb2⟩
  have b2 := step_below hb2 b1
  have t2 : Below w2.heap.size w2 w2 := Below.refl _ _
  go_wp2_with fail
  refine (toTune_ex A0 c0 l0 _ (hA0.below b2) hn0).mono ?_
  rintro e w3 ⟨g3, rfl, hg3, own3, hb3⟩
  have b3 := step_below hb3 b2
  have t3 := step_below hb3 t2
  have gl3 : g3 < w3.heap.size := (own3.lt g3 rfl).2
  have q3_3 := own3
  go_wp2_with fail
  refine (KI _ _ (NA.of_own q3_3) (hT.keep b3)).mono ?_
  rintro e w4 ⟨rfl, hb4⟩
  have b4 := step_below hb4 b3
  have q3_4 := own_keep q3_3 hb4
  have t4 := step_below hb4 t3
  go_wp2_with fail
  refine (toTune_ex A0 c0 l0 _ (hA0.below b4) hn0).mono ?_
  rintro e w5 ⟨g5, rfl, hg5, own5, hb5⟩
  have b5 := step_below hb5 b4
  have q3_5 := own_keep q3_4 hb5
  have t5 := step_below hb5 t4
  have gl5 : g5 < w5.heap.size := (own5.lt g5 rfl).2
  have q5_5 := own5
  go_wp2_with fail
  refine (eqTune_self _ _ _ _ l0 _ (NA.of_own q3_5) (NA.of_own q5_5) hn0).mono ?_
  rintro e w6 ⟨rfl, hb6⟩
  have b6 := step_below hb6 b5
  have q3_6 := own_keep q3_5 hb6
  have t6 := step_below hb6 t5
  go_wp2
  go_ret
  exact ⟨rfl, b6⟩
theorem lawTuneText_any (A0 : Option Addr) (c0 : Nat) (l0 : List (Int × Int)) (w : World) (hA0 : NA w A0 l0) (hwf0 : WF l0) (hT : PsW w) (hm0 : l0.length ≤ maxLen)  :
    Calls Tryd.prog 5 #[.slice A0 l0.length c0] w (Says true w) := by
  rcases Nat.lt_or_ge 1048576 (l0.length) with h0 | h0
  · exact lawTuneText_big0 A0 c0 l0 w  h0 hm0
  exact lawTuneText_small A0 c0 l0 w hA0 hwf0 hT h0 hm0 
end Go.Proofs.YtfkmippodmglnaaDoor
