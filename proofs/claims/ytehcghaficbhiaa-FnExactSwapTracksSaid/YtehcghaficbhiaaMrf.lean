import Derived.Test.YtehcghaficbhiaaMrk
namespace Go.Proofs.Ytehcghaficbhiaa
open Go.RowKit

set_option maxHeartbeats 1000000 in
theorem markHammerS_any (A : Option Addr) (c : Nat) (l : List (Int × Int)) (base : Nat) (w : World) (h : w.ownsRow base 49 2 (.slice A l.length c) l.length (hcells l)) (hn : l.length ≤ 1048576) :
    Calls Try.prog 25 #[.slice A l.length c, .int .i64 1] w fun e w' => e = .returned (.int .i64 (2 * (l.length : Int) + 1)) ∧ w.grownBy w' (Value.slice A l.length c).ownBlock := by
  go_enter Try.func25, Try.ntmps25
  go_wp2_with fail
  go_loopw [1, 5] (fun m i wr => ∃ (k : Nat) (l' : List (Int × Int)), k ≤ l.length ∧ i = .int .i64 k ∧ m = .int .i64 (2 * (k : Int) + 1) ∧ l'.length = l.length ∧ wr.ownsRow base 49 2 (.slice A l.length c) l.length (hcells l') ∧ w.grownBy wr (Value.slice A l.length c).ownBlock)
    (fun _ i _ => l.length - (intOf i).toNat)
  case atStart => exact ⟨0, l, Nat.zero_le _, rfl, rfl, rfl, h, grown_refl _ _⟩
  case round =>
    obtain ⟨k, l', hk, rfl, rfl, hl', hown, hb⟩ := hrel
    by_cases hlt : k < l.length
    · rcases hown.2 with ⟨h', h0⟩ | ⟨g, cap, cur, h', hgb, hg, _⟩
      · omega
      · simp only [Value.slice.injEq, true_and] at h'
        obtain ⟨rfl, rfl⟩ := h'
        have f1 := (hown.cellAt (k * 2) (by omega)).trans (hcells_even l' k (by omega))
        have f2 := (hown.cellAt (k * 2 + 1) (by omega)).trans (hcells_odd l' k (by omega))
        have f3 := hown.frozenAt (k * 2)
        have f4 := hown.frozenAt (k * 2 + 1)
        clear hg h
        go_wp2
        exact ⟨⟨k + 1, l'.set k (_, _), hlt, ret_int' (by omega), ret_int' (by omega), by simp [hl'], hown_set2 hown k _ _, grown_set (grown_set hb)⟩, by simp [intOf]; omega⟩
    · obtain rfl : k = l.length := by omega
      go_wp2
      go_ret
      exact ⟨rfl, hb⟩
theorem markFrame_any (s : Int) (A : Option Addr) (c : Nat) (l : List (Int × Int)) (base : Nat) (w : World) (h : w.ownsRow base 49 2 (.slice A l.length c) l.length (hcells l)) (hn : l.length ≤ 1048576) :
    Calls Try.prog 12 #[.agg #[.int .i16 s, .slice A l.length c], .int .i64 1] w fun e w' => e = .returned (.int .i64 (2 * (l.length : Int) + 1)) ∧ w.grownBy w' (Value.slice A l.length c).ownBlock := by
  have h1 := h.alloc (.cells #[.int .i16 s, .slice A l.length c] 31)
  go_enter Try.func12, Try.ntmps12
  go_wp2_with (go_at_call 25; refine (markHammerS_any A c l base _ h1 hn).mono ?_; rintro e w' ⟨rfl, hb⟩)
  go_ret
  exact ⟨rfl, (World.grownBy_alloc w _ _).trans hb⟩
end Go.Proofs.Ytehcghaficbhiaa
