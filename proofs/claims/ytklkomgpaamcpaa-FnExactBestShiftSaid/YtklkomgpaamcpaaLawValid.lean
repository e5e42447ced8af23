import Derived.Test.YtklkomgpaamcpaaValid
namespace Go.Proofs.Ytklkomgpaamcpaa
open Go.RowKit

theorem szTune_small (A : Option Addr) (n c : Nat) (l : Int) (h0 : 0 ≤ l) (h1 : l ≤ 1048576) (hn : n ≤ maxLen) (hs : (n : Int) ≤ l) (w : World) :
    Calls Try.prog 13 #[.slice A n c, .int .i64 l] w fun e w' => e = .returned (.int .i64 (l - n)) ∧ w = w' := by
  unfold maxLen at hn
  go_enter Try.func13, Try.ntmps13
  go_wp2
  all_goals go_ret
  all_goals exact ⟨ret_int (by omega), rfl⟩
theorem szTune_big (A : Option Addr) (n c : Nat) (l : Int) (h0 : 0 ≤ l) (h1 : l ≤ 1048576) (hn : n ≤ maxLen) (hs : l < (n : Int)) (w : World) :
    Calls Try.prog 13 #[.slice A n c, .int .i64 l] w fun e w' => e = .returned (.int .i64 (-1)) ∧ w = w' := by
  unfold maxLen at hn
  go_enter Try.func13, Try.ntmps13
  go_wp2
  all_goals go_ret
  all_goals exact ⟨ret_int (by omega), rfl⟩

theorem sameB_refl (l : List (Int × Int)) : sameB l l = true := decide_eq_true rfl

theorem law3_big (A : Option Addr) (c : Nat) (l : List (Int × Int)) (w : World) (hn : 1048576 < l.length) (hm : l.length ≤ maxLen) :
    Calls Try.prog 3 #[.slice A l.length c] w (Says true w) := by
  go_enter Try.func3, Try.ntmps3
  go_wp2_with (go_at_call 13; refine (szTune_big A l.length c _ (by omega) (by omega) hm (by omega) _).mono ?_; rintro e w' ⟨rfl, rfl⟩)
  go_ret
  exact ⟨rfl, Below.refl _ _⟩

set_option maxHeartbeats 400000 in
theorem law3_small (A : Option Addr) (c : Nat) (l : List (Int × Int)) (w : World) (hA : NA w A l) (hn : l.length ≤ 1048576) (hwf : WF l) :
    Calls Try.prog 3 #[.slice A l.length c] w (Says true w) := by
  have hm : l.length ≤ maxLen := by unfold maxLen; omega
  go_enter Try.func3, Try.ntmps3
  go_wp2_with (go_at_call 13; refine (szTune_small A l.length c _ (by omega) (by omega) hm (by omega) _).mono ?_; rintro e w' ⟨rfl, rfl⟩)
  refine (toTune_any A c l _ hA hn).mono ?_
  rintro e w1 ⟨rfl, own1, hb1⟩
  go_wp2_with fail
  refine (specValid_any _ _ l _ (NA.of_own own1) hn hwf).mono ?_
  rintro e w2 ⟨rfl, hb2⟩
  have b2 := step_below hb2 hb1
  go_wp2_with fail
  refine (toTune_any A c l _ (hA.below b2) hn).mono ?_
  rintro e w3 ⟨rfl, own3, hb3⟩
  have b3 := step_below hb3 b2
  go_wp2_with fail
  refine (implValid_any _ _ l _ (NA.of_own own3) hn hwf).mono ?_
  rintro e w4 ⟨rfl, hb4⟩
  have b4 := step_below hb4 b3
  have own4 := own_keep own3 hb4
  go_wp2_with fail
  refine (toTune_any A c l _ (hA.below b4) hn).mono ?_
  rintro e w5 ⟨rfl, own5, hb5⟩
  have b5 := step_below hb5 b4
  have own6 := own_keep own4 hb5
  go_wp2_with fail
  refine (eqTune_any _ _ _ _ l l _ (NA.of_own own6) (NA.of_own own5) hn hn).mono ?_
  rintro e w6 ⟨rfl, hb6⟩
  have b6 := step_below hb6 b5
  have hs := sameB_refl l
  go_wp2
  go_ret
  exact ⟨rfl, b6⟩
end Go.Proofs.Ytklkomgpaamcpaa
