import Derived.Test.YtmjpecneaenlpaaDoorGan
namespace Go.Proofs.YtmjpecneaenlpaaDoor
open Go.RowKit

def noteB (a p : Int) : Bool := decide ((0 ≤ a ∧ a ≤ 199) ∧ (0 ≤ p ∧ p ≤ 47))
def befB (a p b q : Int) : Bool := decide (a < b ∨ (a = b ∧ p < q))

theorem l01Note_any (a p : Int) (ha : -32768 ≤ a ∧ a ≤ 32767) (hp : -128 ≤ p ∧ p ≤ 127) (w : World) :
    Calls Tryd.prog 52 #[.agg #[.int .i16 a, .int .i8 p]] w fun e w' => e = .returned (.bool (noteB a p)) ∧ Below w.heap.size w w' := by
  obtain ⟨ha1, ha2⟩ := ha
  obtain ⟨hp1, hp2⟩ := hp
  go_enter Tryd.func52, Tryd.ntmps52
  go_wp2_with (go_at_call 61; refine (l00In_any _ _ _ _).mono ?_; rintro e w' ⟨rfl, rfl⟩)
  all_goals go_ret
  all_goals exact ⟨ret_bool (by simp_all [inB, noteB] <;> omega), by repeat (first | exact Below.refl _ _ | refine Below.alloc ?_ (by simp <;> omega) _)⟩
theorem l01Before_any (a p b q : Int) (w : World) :
    Calls Tryd.prog 53 #[.agg #[.int .i16 a, .int .i8 p], .agg #[.int .i16 b, .int .i8 q]] w fun e w' => e = .returned (.bool (befB a p b q)) ∧ Below w.heap.size w w' := by
  go_enter Tryd.func53, Tryd.ntmps53
  go_wp2
  all_goals go_ret
  all_goals exact ⟨ret_bool (by simp_all [befB] <;> omega), by repeat (first | exact Below.refl _ _ | refine Below.alloc ?_ (by simp <;> omega) _)⟩

def WF (l : List (Int × Int)) : Prop := ∀ k, k < l.length → (-32768 ≤ nAt l k ∧ nAt l k ≤ 32767) ∧ (-128 ≤ nPi l k ∧ nPi l k ≤ 127)
/-- the note at j is in range, and behind the one before -/
def good (l : List (Int × Int)) (j : Nat) : Bool := noteB (nAt l j) (nPi l j) && (decide (j = 0) || befB (nAt l (j - 1)) (nPi l (j - 1)) (nAt l j) (nPi l j))
def Good (l : List (Int × Int)) (k : Nat) : Prop := ∀ j, j < k → good l j = true
def okB (l : List (Int × Int)) : Bool := (List.range l.length).all (good l) && decide (l.length ≤ 120)
theorem okB_yes (l : List (Int × Int)) (h : Good l l.length) : okB l = decide (l.length ≤ 120) := by
  have : (List.range l.length).all (good l) = true := by simp only [List.all_eq_true, List.mem_range]; exact h
  simp [okB, this]
theorem okB_no (l : List (Int × Int)) (k : Nat) (hk : k < l.length) (h : good l k = false) : okB l = false := by
  have : (List.range l.length).all (good l) = false := by
    rw [List.all_eq_false]
    exact ⟨k, List.mem_range.2 hk, by simp [h]⟩
  simp [okB, this]
theorem Good_succ (l : List (Int × Int)) (k : Nat) (h : Good l k) (h' : good l k = true) : Good l (k + 1) := fun j hj => by
  rcases Nat.lt_or_ge j k with h1 | h1
  · exact h j h1
  · rw [show j = k by omega]; exact h'

set_option maxHeartbeats 1000000 in
theorem l01Ok_any (A : Option Addr) (c : Nat) (l : List (Int × Int)) (w : World) (hA : NA w A l) (hn : l.length ≤ 1048576) (hwf : WF l) :
    Calls Tryd.prog 30 #[.slice A l.length c] w (Says (okB l) w) := by
  go_enter Tryd.func30, Tryd.ntmps30
  go_wp2_with fail
  go_loopw [3] (fun i wr => ∃ k : Nat, k ≤ l.length ∧ i = .int .i64 k ∧ Good l k ∧ Below w.heap.size w wr)
    (fun i _ => l.length - (intOf i).toNat)
  case atStart =>
    exact ⟨0, Nat.zero_le _, rfl, fun j hj => absurd hj (Nat.not_lt_zero _), Below.refl _ _⟩
  case round =>
    obtain ⟨k, hk, rfl, hG, hb⟩ := hrel
    have HG := hide hG
    clear hG
    by_cases hlt : k < l.length
    · obtain ⟨b, o, rfl, hbb, c1, c2⟩ := hA k hlt
      have d1 := Later.cell ((hb.cell (p := ⟨b, o + k * 2, none⟩) hbb).trans c1)
      have d2 := Later.cell ((hb.cell (p := ⟨b, o + k * 2 + 1, none⟩) hbb).trans c2)
      have hs := hb.size
      have hw1 := hwf k hlt
      by_cases hk0 : 0 < k
      · obtain ⟨b', o', e', hbb', c3, c4⟩ := hA (k - 1) (by omega)
        obtain ⟨rfl, rfl⟩ : b' = b ∧ o' = o := by simpa [eq_comm] using e'
        have d3 := Later.cell ((hb.cell (p := ⟨b', o' + (k - 1) * 2, none⟩) hbb').trans c3)
        have d4 := Later.cell ((hb.cell (p := ⟨b', o' + (k - 1) * 2 + 1, none⟩) hbb').trans c4)
        clear c1 c2 c3 c4 e' hA
        cases h0 : noteB (nAt l k) (nPi l k)
        · have Hg1 := hide (show good l k = false by simp [good, h0])
          have Hh0 := hide h0
          clear h0
          go_wp2_with fail
          refine wp_region_later (by kernel_rfl) (by kernel_rfl) ?_
          repeat (go_big_quiet_step ((go_at_call 52; exact Later.call (Hh0.out ▸ l01Note_any _ _ hw1.1 hw1.2 _))))
          refine wpQuiet_nil ?_
          rintro _ ⟨⟨wq, hq⟩, rfl⟩
          go_wp2
          go_ret
          exact ⟨ret_bool (okB_no l k hlt Hg1.out).symm, hb.trans (hq.mono hs)⟩
        · cases h1 : befB (nAt l (k - 1)) (nPi l (k - 1)) (nAt l k) (nPi l k)
          · have Hg1 := hide (show good l k = false by simp [good, h1, show ¬ k = 0 by omega])
            have Hh0 := hide h0
            have Hh1 := hide h1
            clear h0 h1
            go_wp2_with fail
            refine wp_region_later (by kernel_rfl) (by kernel_rfl) ?_
            repeat (go_big_quiet_step ((first | (go_at_call 52; exact Later.call (Hh0.out ▸ l01Note_any _ _ hw1.1 hw1.2 _)) | (go_at_call 53; exact Later.call (Hh1.out ▸ l01Before_any _ _ _ _ _)))))
            refine wpQuiet_nil ?_
            rintro _ ⟨⟨wq, hq⟩, rfl⟩
            go_wp2
            go_ret
            exact ⟨ret_bool (okB_no l k hlt Hg1.out).symm, hb.trans (hq.mono hs)⟩
          · have Hg1 := hide (show good l k = true by simp [good, h0, h1])
            have Hh0 := hide h0
            have Hh1 := hide h1
            clear h0 h1
            go_wp2_with fail
            refine wp_region_later (by kernel_rfl) (by kernel_rfl) ?_
            repeat (go_big_quiet_step ((first | (go_at_call 52; exact Later.call (Hh0.out ▸ l01Note_any _ _ hw1.1 hw1.2 _)) | (go_at_call 53; exact Later.call (Hh1.out ▸ l01Before_any _ _ _ _ _)))))
            refine wpQuiet_nil ?_
            rintro _ ⟨⟨wq, hq⟩, rfl⟩
            go_wp2
            go_roundw
            case rel => exact ⟨k + 1, hlt, by go_num, Good_succ l k HG.out Hg1.out, hb.trans (hq.mono hs)⟩
            case measure => simp [intOf]; omega
      · obtain rfl : k = 0 := by omega
        simp only [Nat.zero_mul, Nat.add_zero] at d1 d2
        clear c1 c2 hA hk0
        cases h0 : noteB (nAt l 0) (nPi l 0)
        · have Hg1 := hide (show good l 0 = false by simp [good, h0])
          have Hh0 := hide h0
          clear h0
          go_wp2_with fail
          refine wp_region_later (by kernel_rfl) (by kernel_rfl) ?_
          repeat (go_big_quiet_step ((go_at_call 52; exact Later.call (Hh0.out ▸ l01Note_any _ _ hw1.1 hw1.2 _))))
          refine wpQuiet_nil ?_
          rintro _ ⟨⟨wq, hq⟩, rfl⟩
          go_wp2
          go_ret
          exact ⟨ret_bool (okB_no l 0 hlt Hg1.out).symm, hb.trans (hq.mono hs)⟩
        · have Hg1 := hide (show good l 0 = true by simp [good, h0])
          have Hh0 := hide h0
          clear h0
          go_wp2_with fail
          refine wp_region_later (by kernel_rfl) (by kernel_rfl) ?_
          repeat (go_big_quiet_step ((go_at_call 52; exact Later.call (Hh0.out ▸ l01Note_any _ _ hw1.1 hw1.2 _))))
          refine wpQuiet_nil ?_
          rintro _ ⟨⟨wq, hq⟩, rfl⟩
          go_wp2
          go_roundw
          case rel => exact ⟨1, hlt, by go_num, Good_succ l 0 HG.out Hg1.out, hb.trans (hq.mono hs)⟩
          case measure => simp [intOf]; omega
    · obtain rfl : k = l.length := by omega
      go_wp2
      go_ret
      exact ⟨ret_bool (by rw [okB_yes l HG.out]; exact decide_eq_decide.2 (by omega)), hb⟩
end Go.Proofs.YtmjpecneaenlpaaDoor
