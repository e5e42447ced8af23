import Derived.Test.YtklkomgpaamcpaaValid
namespace Go.Proofs.Ytklkomgpaamcpaa
open Go.RowKit

theorem run_neq_note (a p b q : Int) (w : World) : (Go.binOp .neq 49 (.agg #[.int .i16 a, .int .i8 p]) (.agg #[.int .i16 b, .int .i8 q])).run Try.prog w = .ok (.bool (!decide (a = b ∧ p = q))) w := by
  simp [go_sem]
  by_cases h : a = b <;> by_cases h' : p = q <;> simp [h, h']

set_option maxHeartbeats 400000 in
theorem l01Same_any (A B : Option Addr) (c d : Nat) (l m : List (Int × Int)) (w : World) (hA : NA w A l) (hB : NA w B m) (hn : l.length ≤ 1048576) (_hm : m.length ≤ 1048576) :
    Calls Try.prog 42 #[.slice A l.length c, .slice B m.length d] w (Says (sameB l m) w) := by
  by_cases hlm : l.length = m.length
  · have HL := hide hlm
    have H1 : ((l.length : Int) != (m.length : Int)) = false := by simp [hlm]
    have H2 : (l.length != m.length) = false := by simp [hlm]
    clear hlm
    go_enter Try.func42, Try.ntmps42
    go_wp2_with fail
    go_loopw [5] (fun i wr => ∃ k : Nat, k ≤ l.length ∧ i = .int .i64 k ∧ (∀ j, j < k → nAt l j = nAt m j ∧ nPi l j = nPi m j) ∧ Below w.heap.size w wr)
      (fun i _ => l.length - (intOf i).toNat)
    case atStart =>
      exact ⟨0, Nat.zero_le _, rfl, fun j hj => absurd hj (Nat.not_lt_zero _), Below.refl _ _⟩
    case round =>
      obtain ⟨k, hk, rfl, hG, hb⟩ := hrel
      have HG := hide hG
      clear hG
      by_cases hlt : k < l.length
      · have hlt2 : k < m.length := by rw [← HL.out]; exact hlt
        obtain ⟨b, o, rfl, hbb, c1, c2⟩ := hA k hlt
        obtain ⟨b', o', rfl, hbb', c3, c4⟩ := hB k hlt2
        have d1 := Later.cell ((hb.cell (p := ⟨b, o + k * 2, none⟩) hbb).trans c1)
        have d2 := Later.cell ((hb.cell (p := ⟨b, o + k * 2 + 1, none⟩) hbb).trans c2)
        have d3 := Later.cell ((hb.cell (p := ⟨b', o' + k * 2, none⟩) hbb').trans c3)
        have d4 := Later.cell ((hb.cell (p := ⟨b', o' + k * 2 + 1, none⟩) hbb').trans c4)
        have hs := hb.size
        have hne := fun v => run_neq_note (nAt l k) (nPi l k) (nAt m k) (nPi m k) v
        clear c1 c2 c3 c4 hA hB
        by_cases he : nAt l k = nAt m k ∧ nPi l k = nPi m k
        · have HE := hide he
          rw [decide_eq_true he, Bool.not_true] at hne
          clear he
          go_wp2_with fail
          refine wp_region_later (by kernel_rfl) (by kernel_rfl) ?_
          repeat (go_big_quiet_step (fail))
          refine wpQuiet_nil ?_
          rintro _ ⟨⟨wq, hq⟩, rfl⟩
          go_wp2
          go_roundw
          case rel => exact ⟨k + 1, by omega, by go_num, fun j hj => by
            rcases Nat.lt_or_ge j k with h1 | h1
            · exact HG.out j h1
            · rw [show j = k by omega]; exact HE.out, hb.trans (hq.mono hs)⟩
          case measure => simp [intOf]; omega
        · have HE := hide he
          rw [decide_eq_false he, Bool.not_false] at hne
          clear he
          go_wp2_with fail
          refine wp_region_later (by kernel_rfl) (by kernel_rfl) ?_
          repeat (go_big_quiet_step (fail))
          refine wpQuiet_nil ?_
          rintro _ ⟨⟨wq, hq⟩, rfl⟩
          go_wp2
          go_ret
          exact ⟨ret_bool (same_not l m k HE.out).symm, hb.trans (hq.mono hs)⟩
      · obtain rfl : k = l.length := by omega
        go_wp2
        go_ret
        exact ⟨ret_bool (same_of l m HL.out HG.out).symm, hb⟩
  · have H1 : ((l.length : Int) != (m.length : Int)) = true := by simp; omega
    have H2 : (l.length != m.length) = true := by simpa using hlm
    have HL := hide hlm
    clear hlm
    go_enter Try.func42, Try.ntmps42
    go_wp2
    go_ret
    exact ⟨ret_bool (decide_eq_false fun e => HL.out (by rw [e])).symm, Below.refl _ _⟩

set_option maxHeartbeats 400000 in
theorem slicesEqual_any (A B : Option Addr) (c d : Nat) (l m : List (Int × Int)) (w : World) (hA : NA w A l) (hB : NA w B m) (hn : l.length ≤ 1048576) (_hm : m.length ≤ 1048576) :
    Calls Try.prog 43 #[.slice A l.length c, .slice B m.length d] w (Says (sameB l m) w) := by
  by_cases hlm : l.length = m.length
  · have HL := hide hlm
    have H1 : ((l.length : Int) != (m.length : Int)) = false := by simp [hlm]
    have H2 : (l.length != m.length) = false := by simp [hlm]
    clear hlm
    go_enter Try.func43, Try.ntmps43
    go_wp2_with fail
    go_loopw [13] (fun i wr => ∃ k : Nat, k ≤ l.length ∧ i = .int .i64 k ∧ (∀ j, j < k → nAt l j = nAt m j ∧ nPi l j = nPi m j) ∧ Below w.heap.size w wr)
      (fun i _ => l.length - (intOf i).toNat)
    case atStart =>
      exact ⟨0, Nat.zero_le _, rfl, fun j hj => absurd hj (Nat.not_lt_zero _), Below.refl _ _⟩
    case round =>
      obtain ⟨k, hk, rfl, hG, hb⟩ := hrel
      have HG := hide hG
      clear hG
      by_cases hlt : k < l.length
      · have hlt2 : k < m.length := by rw [← HL.out]; exact hlt
        obtain ⟨b, o, rfl, hbb, c1, c2⟩ := hA k hlt
        obtain ⟨b', o', rfl, hbb', c3, c4⟩ := hB k hlt2
        have d1 := Later.cell ((hb.cell (p := ⟨b, o + k * 2, none⟩) hbb).trans c1)
        have d2 := Later.cell ((hb.cell (p := ⟨b, o + k * 2 + 1, none⟩) hbb).trans c2)
        have d3 := Later.cell ((hb.cell (p := ⟨b', o' + k * 2, none⟩) hbb').trans c3)
        have d4 := Later.cell ((hb.cell (p := ⟨b', o' + k * 2 + 1, none⟩) hbb').trans c4)
        have hs := hb.size
        have hne := fun v => run_neq_note (nAt l k) (nPi l k) (nAt m k) (nPi m k) v
        clear c1 c2 c3 c4 hA hB
        by_cases he : nAt l k = nAt m k ∧ nPi l k = nPi m k
        · have HE := hide he
          rw [decide_eq_true he, Bool.not_true] at hne
          clear he
          go_wp2_with fail
          refine wp_region_later (by kernel_rfl) (by kernel_rfl) ?_
          repeat (go_big_quiet_step (fail))
          refine wpQuiet_nil ?_
          rintro _ ⟨⟨wq, hq⟩, rfl⟩
          go_wp2
          go_roundw
          case rel => exact ⟨k + 1, by omega, by go_num, fun j hj => by
            rcases Nat.lt_or_ge j k with h1 | h1
            · exact HG.out j h1
            · rw [show j = k by omega]; exact HE.out, hb.trans (hq.mono hs)⟩
          case measure => simp [intOf]; omega
        · have HE := hide he
          rw [decide_eq_false he, Bool.not_false] at hne
          clear he
          go_wp2_with fail
          refine wp_region_later (by kernel_rfl) (by kernel_rfl) ?_
          repeat (go_big_quiet_step (fail))
          refine wpQuiet_nil ?_
          rintro _ ⟨⟨wq, hq⟩, rfl⟩
          go_wp2
          go_ret
          exact ⟨ret_bool (same_not l m k HE.out).symm, hb.trans (hq.mono hs)⟩
      · obtain rfl : k = l.length := by omega
        go_wp2
        go_ret
        exact ⟨ret_bool (same_of l m HL.out HG.out).symm, hb⟩
  · have H1 : ((l.length : Int) != (m.length : Int)) = true := by simp; omega
    have H2 : (l.length != m.length) = true := by simpa using hlm
    have HL := hide hlm
    clear hlm
    go_enter Try.func43, Try.ntmps43
    go_wp2
    go_ret
    exact ⟨ret_bool (decide_eq_false fun e => HL.out (by rw [e])).symm, Below.refl _ _⟩

theorem specSameTune_any (A B : Option Addr) (c d : Nat) (l m : List (Int × Int)) (w : World) (hA : NA w A l) (hB : NA w B m) (hn : l.length ≤ 1048576) (hm : m.length ≤ 1048576) (_ : WF l) (_ : WF m) :
    Calls Try.prog 18 #[.slice A l.length c, .slice B m.length d] w (Says (sameB l m) w) := by
  go_enter Try.func18, Try.ntmps18
  go_wp2_with (go_at_call 42; refine (l01Same_any A B c d l m _ hA hB hn hm).mono ?_; rintro e w' ⟨rfl, hb⟩)
  go_ret
  exact ⟨rfl, hb⟩
theorem implSameTune_any (A B : Option Addr) (c d : Nat) (l m : List (Int × Int)) (w : World) (hA : NA w A l) (hB : NA w B m) (hn : l.length ≤ 1048576) (hm : m.length ≤ 1048576) (_ : WF l) (_ : WF m) :
    Calls Try.prog 19 #[.slice A l.length c, .slice B m.length d] w (Says (sameB l m) w) := by
  go_enter Try.func19, Try.ntmps19
  go_wp2_with (go_at_call 43; refine (slicesEqual_any A B c d l m _ hA hB hn hm).mono ?_; rintro e w' ⟨rfl, hb⟩)
  go_ret
  exact ⟨rfl, hb⟩
end Go.Proofs.Ytklkomgpaamcpaa
