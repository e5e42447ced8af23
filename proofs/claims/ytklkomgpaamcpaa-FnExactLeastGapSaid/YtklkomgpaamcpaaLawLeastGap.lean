import Derived.Test.YtklkomgpaamcpaaGapAll
import Derived.Test.YtklkomgpaamcpaaLawValid
namespace Go.Proofs.Ytklkomgpaamcpaa
open Go.RowKit

theorem lawLeastGap_big (A : Option Addr) (c : Nat) (l : List (Int × Int)) (w : World) (hn : 1048576 < l.length) (hm : l.length ≤ maxLen) :
    Calls Try.prog 9 #[.slice A l.length c] w (Says true w) := by
  go_enter Try.func9, Try.ntmps9
  go_wp2_with (go_at_call 13; refine (szTune_big A l.length c _ (by omega) (by omega) hm (by omega) _).mono ?_; rintro e w' ⟨rfl, rfl⟩)
  go_ret
  exact ⟨rfl, Below.refl _ _⟩

set_option maxHeartbeats 400000 in
theorem lawLeastGap_small (A : Option Addr) (c : Nat) (l : List (Int × Int)) (w : World) (hA : NA w A l) (hn : l.length ≤ 1048576) (hwf : WF l) :
    Calls Try.prog 9 #[.slice A l.length c] w (Says true w) := by
  have hm : l.length ≤ maxLen := by unfold maxLen; omega
  obtain ⟨g, p, cc, hG⟩ := gap_exists l
  have HG := hide hG
  clear hG
  go_enter Try.func9, Try.ntmps9
  go_wp2_with (go_at_call 13; refine (szTune_small A l.length c _ (by omega) (by omega) hm (by omega) _).mono ?_; rintro e w' ⟨rfl, rfl⟩)
  refine (toTune_any A c l _ hA hn).mono ?_
  rintro e w1 ⟨rfl, own1, hb1⟩
  go_wp2_with fail
  refine (specLeastGap_any _ _ l g p cc _ (NA.of_own own1) hn hwf HG.out).mono ?_
  rintro e w2 ⟨rfl, hb2⟩
  have b2 := step_below hb2 hb1
  go_wp2_with fail
  refine (toTune_any A c l _ (hA.below b2) hn).mono ?_
  rintro e w3 ⟨rfl, own3, hb3⟩
  have b3 := step_below hb3 b2
  go_wp2_with fail
  refine (implLeastGap_any _ _ l g p cc _ (NA.of_own own3) hn hwf HG.out).mono ?_
  rintro e w4 ⟨rfl, hb4⟩
  have b4 := step_below hb4 b3
  have own4 := own_keep own3 hb4
  go_wp2_with fail
  refine (toTune_any A c l _ (hA.below b4) hn).mono ?_
  rintro e w5 ⟨rfl, own5, hb5⟩
  have b5 := step_below hb5 b4
  have own6 := own_keep own4 hb5
  go_wp2_with fail
  refine (eqTune_any _ _ _ _ l l _ (NA.of_own own6) (NA.of_own own5) hn hn).mono ?_
  rintro e w6 ⟨rfl, hb6⟩
  have b6 := step_below hb6 b5
  have hs := sameB_refl l
  go_wp2
  go_ret
  exact ⟨rfl, b6⟩
theorem lawLeastGap_any (A : Option Addr) (c : Nat) (l : List (Int × Int)) (w : World) (hA : NA w A l) (hm : l.length ≤ maxLen) (hwf : WF l) :
    Calls Try.prog 9 #[.slice A l.length c] w (Says true w) := by
  rcases Nat.lt_or_ge 1048576 l.length with h | h
  · exact lawLeastGap_big A c l w h hm
  · exact lawLeastGap_small A c l w hA h hwf
end Go.Proofs.Ytklkomgpaamcpaa
