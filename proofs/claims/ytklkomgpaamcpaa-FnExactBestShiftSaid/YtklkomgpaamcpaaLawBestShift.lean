import Derived.Test.YtklkomgpaamcpaaBsAll
import Derived.Test.YtklkomgpaamcpaaLawValid
namespace Go.Proofs.Ytklkomgpaamcpaa
open Go.RowKit

theorem lawBestShift_big (A B : Option Addr) (c d : Nat) (l m : List (Int × Int)) (w : World) (hn : 1048576 < l.length) (hl : l.length ≤ maxLen) :
    Calls Try.prog 12 #[.slice A l.length c, .slice B m.length d] w (Says true w) := by
  go_enter Try.func12, Try.ntmps12
  go_wp2_with (go_at_call 13; refine (szTune_big A l.length c _ (by omega) (by omega) hl (by omega) _).mono ?_; rintro e w' ⟨rfl, rfl⟩)
  go_ret
  exact ⟨rfl, Below.refl _ _⟩
theorem lawBestShift_big2 (A B : Option Addr) (c d : Nat) (l m : List (Int × Int)) (w : World) (hn : l.length ≤ 1048576) (hs : 1048576 < l.length + m.length) (hm : m.length ≤ maxLen) :
    Calls Try.prog 12 #[.slice A l.length c, .slice B m.length d] w (Says true w) := by
  have hl : l.length ≤ maxLen := by unfold maxLen; omega
  go_enter Try.func12, Try.ntmps12
  go_wp2_with fail
  refine (szTune_small A l.length c _ (by omega) (by omega) hl (by omega) _).mono ?_
  rintro e w' ⟨rfl, rfl⟩
  go_wp2_with fail
  refine (szTune_big B m.length d _ (by omega) (by omega) hm (by omega) _).mono ?_
  rintro e w' ⟨rfl, rfl⟩
  go_wp2
  go_ret
  exact ⟨rfl, Below.refl _ _⟩

set_option maxHeartbeats 1000000 in
theorem lawBestShift_small (A B : Option Addr) (c d : Nat) (l m : List (Int × Int)) (w : World) (hA : NA w A l) (hB : NA w B m) (hs : l.length + m.length ≤ 1048576) (hwf : WF l) (hwg : WF m) :
    Calls Try.prog 12 #[.slice A l.length c, .slice B m.length d] w (Says true w) := by
  have hl : l.length ≤ maxLen := by unfold maxLen; omega
  have hm : m.length ≤ maxLen := by unfold maxLen; omega
  have hn : l.length ≤ 1048576 := by omega
  have hn' : m.length ≤ 1048576 := by omega
  go_enter Try.func12, Try.ntmps12
  go_wp2_with fail
  refine (szTune_small A l.length c _ (by omega) (by omega) hl (by omega) _).mono ?_
  rintro e w' ⟨rfl, rfl⟩
  go_wp2_with fail
  refine (szTune_small B m.length d _ (by omega) (by omega) hm (by omega) _).mono ?_
  rintro e w' ⟨rfl, rfl⟩
  go_wp2_with fail
  refine (toTune_any A c l _ hA hn).mono ?_
  rintro e w1 ⟨rfl, own1, hb1⟩
  go_wp2_with fail
  refine (toTune_any B d m _ (hB.below hb1) hn').mono ?_
  rintro e w2 ⟨rfl, own2, hb2⟩
  have b2 := step_below hb2 hb1
  have own1' := own_keep own1 hb2
  go_wp2_with fail
  refine (specBestShift_any _ _ _ _ l m _ (NA.of_own own1') (NA.of_own own2) hn hn' hwf hwg).mono ?_
  rintro e w3 ⟨rfl, hb3⟩
  have b3 := step_below hb3 b2
  go_wp2_with fail
  refine (toTune_any A c l _ (hA.below b3) hn).mono ?_
  rintro e w4 ⟨rfl, own4, hb4⟩
  have b4 := step_below hb4 b3
  go_wp2_with fail
  refine (toTune_any B d m _ (hB.below b4) hn').mono ?_
  rintro e w5 ⟨rfl, own5, hb5⟩
  have b5 := step_below hb5 b4
  have own4' := own_keep own4 hb5
  go_wp2_with fail
  refine (implBestShift_any _ _ _ _ l m _ (NA.of_own own4') (NA.of_own own5) hn hn' hwf hwg).mono ?_
  rintro e w6 ⟨rfl, hb6⟩
  have b6 := step_below hb6 b5
  have own4'' := own_keep own4' hb6
  have own5' := own_keep own5 hb6
  go_wp2_with fail
  refine (toTune_any A c l _ (hA.below b6) hn).mono ?_
  rintro e w7 ⟨rfl, own7, hb7⟩
  have b7 := step_below hb7 b6
  have own4x := own_keep own4'' hb7
  have own5'' := own_keep own5' hb7
  go_wp2_with fail
  refine (eqTune_any _ _ _ _ l l _ (NA.of_own own4x) (NA.of_own own7) hn hn).mono ?_
  rintro e w8 ⟨rfl, hb8⟩
  have b8 := step_below hb8 b7
  have own5x := own_keep own5'' hb8
  have hs1 := sameB_refl l
  have hs2 := sameB_refl m
  go_wp2_with fail
  refine (toTune_any B d m _ (hB.below b8) hn').mono ?_
  rintro e w9 ⟨rfl, own9, hb9⟩
  have b9 := step_below hb9 b8
  have own5y := own_keep own5x hb9
  go_wp2_with fail
  refine (eqTune_any _ _ _ _ m m _ (NA.of_own own5y) (NA.of_own own9) hn' hn').mono ?_
  rintro e wa ⟨rfl, hba⟩
  have ba := step_below hba b9
  go_wp2
  go_ret
  exact ⟨rfl, ba⟩
theorem lawBestShift_any (A : Option Addr) (c : Nat) (l : List (Int × Int)) (B : Option Addr) (d : Nat) (m : List (Int × Int)) (w : World) (hA : NA w A l) (hl : l.length ≤ maxLen) (hwf : WF l) (hB : NA w B m) (hm : m.length ≤ maxLen) (hwg : WF m) :
    Calls Try.prog 12 #[.slice A l.length c, .slice B m.length d] w (Says true w) := by
  rcases Nat.lt_or_ge 1048576 l.length with h | h
  · exact lawBestShift_big A B c d l m w h hl
  · rcases Nat.lt_or_ge 1048576 (l.length + m.length) with h' | h'
    · exact lawBestShift_big2 A B c d l m w h h' hm
    · exact lawBestShift_small A B c d l m w hA hB h' hwf hwg
end Go.Proofs.Ytklkomgpaamcpaa
