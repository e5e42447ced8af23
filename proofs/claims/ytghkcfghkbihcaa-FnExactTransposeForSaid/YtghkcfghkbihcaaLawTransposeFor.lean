import Derived.Test.YtghkcfghkbihcaaGaf
import Derived.Test.YtghkcfghkbihcaaGag
import Derived.Test.YtghkcfghkbihcaaTfi
import Derived.Test.YtghkcfghkbihcaaTfs
import Derived.Deep.RegionHeld3
import Derived.Deep.CutRange
namespace Go.Proofs.Ytghkcfghkbihcaa
open Go.RowKit

set_option maxRecDepth 20000 in
set_option maxHeartbeats 1000000 in
theorem lawTransposeFor_big0 (x0 : Int) (A1 : Option Addr) (c1 : Nat) (l1 : List (Int × Int)) (w : World)  (hbg : 1048576 < l1.length) (hm1 : l1.length ≤ maxLen) :
    Calls Try.prog 3 #[.int .u64 x0, .slice A1 l1.length c1] w (Says true w) := by
  have b0 : Below w.heap.size w w := Below.refl _ _
  go_enter Try.func3, Try.ntmps3
  go_wp2_with fail
  refine (szTune_big A1 l1.length c1 (1048576) (by omega) (by omega) hm1 (by omega) _).mono ?_
  rintro e w1 ⟨rfl, rfl⟩
  go_wp2
  go_ret
  exact ⟨rfl, b0⟩
set_option maxRecDepth 20000 in
set_option maxHeartbeats 16000000 in
theorem lawTransposeFor_small (x0 : Int) (A1 : Option Addr) (c1 : Nat) (l1 : List (Int × Int)) (w : World) (hA1 : NA w A1 l1) (hwf1 : WF l1) (hc0 : l1.length ≤ 1048576) (hm1 : l1.length ≤ maxLen) :
    Calls Try.prog 3 #[.int .u64 x0, .slice A1 l1.length c1] w (Says true w) := by
  have hn1 : l1.length ≤ 1048576 := by omega
  obtain ⟨r0, hr0⟩ : ∃ r : Int, r = tfV x0 l1 := ⟨_, rfl⟩
  obtain ⟨r1, hr1⟩ : ∃ r : Int, r = tfC x0 l1 := ⟨_, rfl⟩
  have KS : ∀ (E1 : Option Addr) (W : World), NA W E1 l1 → Calls Try.prog 6 #[.int .u64 x0, .slice E1 l1.length l1.length] W (fun e w' => e = .returned (.tuple #[.int .i64 r0, .int .i64 r1]) ∧ Below W.heap.size W w') := fun E1 W h1 => by rw [hr0, hr1]; exact specTransposeFor_any x0 E1 l1.length l1 W  h1 hn1 hwf1
  have KI : ∀ (E1 : Option Addr) (W : World), NA W E1 l1 → Calls Try.prog 8 #[.int .u64 x0, .slice E1 l1.length l1.length] W (fun e w' => e = .returned (.tuple #[.int .i64 r0, .int .i64 r1]) ∧ Below W.heap.size W w') := fun E1 W h1 => by rw [hr0, hr1]; exact implTransposeFor_any x0 E1 l1.length l1 W  h1 hn1 hwf1
  clear hr0 hr1
  have b0 : Below w.heap.size w w := Below.refl _ _
  go_enter Try.func3, Try.ntmps3
  go_wp2_with fail
  refine (szTune_small A1 l1.length c1 (1048576) (by omega) (by omega) hm1 (by omega) _).mono ?_
  rintro e w1' ⟨rfl, rfl⟩
  go_wp2_with fail
  refine (toTune_ex A1 c1 l1 _ (hA1.below b0) hn1).mono ?_
  rintro e w1 ⟨g1, rfl, hg1, own1, hb1⟩
  have b1 := step_below hb1 b0
  have gl1 : g1 < w1.heap.size := (own1.lt g1 rfl).2
  have q1_1 := own1
  go_wp2_with fail
  refine (KS _ _ (NA.of_own q1_1) ).mono ?_
  rintro e w2 ⟨rfl, hb2⟩
  have b2 := step_below hb2 b1
  have t2 : Below w2.heap.size w2 w2 := Below.refl _ _
  go_wp2_with fail
  refine (toTune_ex A1 c1 l1 _ (hA1.below b2) hn1).mono ?_
  rintro e w3 ⟨g3, rfl, hg3, own3, hb3⟩
  have b3 := step_below hb3 b2
  have t3 := step_below hb3 t2
  have gl3 : g3 < w3.heap.size := (own3.lt g3 rfl).2
  have q3_3 := own3
  go_wp2_with fail
  refine (KI _ _ (NA.of_own q3_3) ).mono ?_
  rintro e w4 ⟨rfl, hb4⟩
  have b4 := step_below hb4 b3
  have q3_4 := own_keep q3_3 hb4
  have t4 := step_below hb4 t3
  go_wp2_with fail
  refine (toTune_ex A1 c1 l1 _ (hA1.below b4) hn1).mono ?_
  rintro e w5 ⟨g5, rfl, hg5, own5, hb5⟩
  have b5 := step_below hb5 b4
  have q3_5 := own_keep q3_4 hb5
  have t5 := step_below hb5 t4
  have gl5 : g5 < w5.heap.size := (own5.lt g5 rfl).2
  have q5_5 := own5
  go_wp2_with fail
  refine (eqTune_self _ _ _ _ l1 _ (NA.of_own q3_5) (NA.of_own q5_5) hn1).mono ?_
  rintro e w6 ⟨rfl, hb6⟩
  have b6 := step_below hb6 b5
  have q3_6 := own_keep q3_5 hb6
  have t6 := step_below hb6 t5
  go_wp2
  go_ret
  exact ⟨rfl, b6⟩
theorem lawTransposeFor_any (x0 : Int) (A1 : Option Addr) (c1 : Nat) (l1 : List (Int × Int)) (w : World) (hA1 : NA w A1 l1) (hwf1 : WF l1) (hm1 : l1.length ≤ maxLen) (_hx0 : 0 ≤ x0 ∧ x0 ≤ 18446744073709551615) :
    Calls Try.prog 3 #[.int .u64 x0, .slice A1 l1.length c1] w (Says true w) := by
  rcases Nat.lt_or_ge 1048576 (l1.length) with h0 | h0
  · exact lawTransposeFor_big0 x0 A1 c1 l1 w  h0 hm1
  exact lawTransposeFor_small x0 A1 c1 l1 w hA1 hwf1 h0 hm1 
end Go.Proofs.Ytghkcfghkbihcaa
