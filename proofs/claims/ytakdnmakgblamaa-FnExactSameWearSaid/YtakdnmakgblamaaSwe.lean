import Derived.Test.YtakdnmakgblamaaWea
namespace Go.Proofs.Ytakdnmakgblamaa
open Go.RowKit
def sameW (l m : List (Int × Int × Int)) : Bool := decide (l = m)
def sameZ (l m : List Int) : Bool := decide (l = m)
theorem wnsame_of (l m : List (Int × Int × Int)) (hl : l.length = m.length) (h : ∀ k, k < l.length → wnS l k = wnS m k ∧ wnT l k = wnT m k ∧ wnP l k = wnP m k) : sameW l m = true := by
  refine decide_eq_true (List.ext_getElem hl fun k h1 h2 => ?_)
  have := h k h1
  simp only [wnS, wnT, wnP, List.getD, List.getElem?_eq_getElem h1, List.getElem?_eq_getElem h2, Option.getD_some] at this
  exact Prod.ext this.1 (Prod.ext this.2.1 this.2.2)
theorem wnsame_not (l m : List (Int × Int × Int)) (k : Nat) (h : ¬ (wnS l k = wnS m k ∧ wnT l k = wnT m k ∧ wnP l k = wnP m k)) : sameW l m = false := by
  refine decide_eq_false fun e => h ?_
  rw [e]
  exact ⟨rfl, rfl, rfl⟩
theorem zsame_of (l m : List Int) (hl : l.length = m.length) (h : ∀ k, k < l.length → zAt l k = zAt m k) : sameZ l m = true := by
  refine decide_eq_true (List.ext_getElem hl fun k h1 h2 => ?_)
  have := h k h1
  simpa only [zAt, List.getD, List.getElem?_eq_getElem h1, List.getElem?_eq_getElem h2, Option.getD_some] using this
theorem zsame_not (l m : List Int) (k : Nat) (h : ¬ (zAt l k = zAt m k)) : sameZ l m = false := by
  refine decide_eq_false fun e => h ?_
  rw [e]
theorem run_neq_wn (a p q b p' q' : Int) (w : World) : (Go.binOp .neq 102 (.agg #[.int .i8 a, .int .i8 p, .int .i64 q]) (.agg #[.int .i8 b, .int .i8 p', .int .i64 q'])).run Try.prog w = .ok (.bool (!decide (a = b ∧ p = p' ∧ q = q'))) w := by
  simp [go_sem]
  by_cases h : a = b <;> by_cases h' : p = p' <;> by_cases h'' : q = q' <;> simp [h, h', h'']
set_option maxHeartbeats 400000 in
theorem slicesEqualW_any (A B : Option Addr) (c d : Nat) (l m : List (Int × Int × Int)) (w : World) (hA : WnA w A l) (hB : WnA w B m) (hn : l.length ≤ 1048576) (_hm : m.length ≤ 1048576) :
    Calls Try.prog 59 #[.slice A l.length c, .slice B m.length d] w (Says (sameW l m) w) := by
  by_cases hlm : l.length = m.length
  · have HL := hide hlm
    have H1 : ((l.length : Int) != (m.length : Int)) = false := by simp [hlm]
    have H2 : (l.length != m.length) = false := by simp [hlm]
    clear hlm
    go_enter Try.func59, Try.ntmps59
    go_wp2_with fail
    go_loopw [13] (fun i wr => ∃ k : Nat, k ≤ l.length ∧ i = .int .i64 k ∧ (∀ j, j < k → wnS l j = wnS m j ∧ wnT l j = wnT m j ∧ wnP l j = wnP m j) ∧ Below w.heap.size w wr)
      (fun i _ => l.length - (intOf i).toNat)
    case atStart =>
      exact ⟨0, Nat.zero_le _, rfl, fun j hj => absurd hj (Nat.not_lt_zero _), Below.refl _ _⟩
    case round =>
      obtain ⟨k, hk, rfl, hG, hb⟩ := hrel
      have HG := hide hG
      clear hG
      by_cases hlt : k < l.length
      · have hlt2 : k < m.length := by rw [← HL.out]; exact hlt
        obtain ⟨b, o, rfl, hbb, c1, c2, c5⟩ := hA k hlt
        obtain ⟨b', o', rfl, hbb', c3, c4, c6⟩ := hB k hlt2
        have d1 := Later.cell ((hb.cell (p := ⟨b, o + k * 3, none⟩) hbb).trans c1)
        have d2 := Later.cell ((hb.cell (p := ⟨b, o + k * 3 + 1, none⟩) hbb).trans c2)
        have d3 := Later.cell ((hb.cell (p := ⟨b', o' + k * 3, none⟩) hbb').trans c3)
        have d4 := Later.cell ((hb.cell (p := ⟨b', o' + k * 3 + 1, none⟩) hbb').trans c4)
        have d5 := Later.cell ((hb.cell (p := ⟨b, o + k * 3 + 2, none⟩) hbb).trans c5)
        have d6 := Later.cell ((hb.cell (p := ⟨b', o' + k * 3 + 2, none⟩) hbb').trans c6)
        have hs := hb.size
        have hne := fun v => run_neq_wn (wnS l k) (wnT l k) (wnP l k) (wnS m k) (wnT m k) (wnP m k) v
        clear c1 c2 c3 c4 c5 c6 hA hB
        by_cases he : wnS l k = wnS m k ∧ wnT l k = wnT m k ∧ wnP l k = wnP m k
        · have HE := hide he
          rw [decide_eq_true he, Bool.not_true] at hne
          clear he
          go_wp2_with fail
          refine wp_region_later (by kernel_rfl) (by kernel_rfl) ?_
          repeat (go_big_quiet_step (fail))
          refine wpQuiet_nil ?_
          rintro _ ⟨⟨wq, hq⟩, rfl⟩
          go_wp2
          go_roundw
          case rel => exact ⟨k + 1, by omega, by go_num, fun j hj => by
            rcases Nat.lt_or_ge j k with h1 | h1
            · exact HG.out j h1
            · rw [show j = k by omega]; exact HE.out, hb.trans (hq.mono hs)⟩
          case measure => simp [intOf]; omega
        · have HE := hide he
          rw [decide_eq_false he, Bool.not_false] at hne
          clear he
          go_wp2_with fail
          refine wp_region_later (by kernel_rfl) (by kernel_rfl) ?_
          repeat (go_big_quiet_step (fail))
          refine wpQuiet_nil ?_
          rintro _ ⟨⟨wq, hq⟩, rfl⟩
          go_wp2
          go_ret
          exact ⟨ret_bool (wnsame_not l m k HE.out).symm, hb.trans (hq.mono hs)⟩
      · obtain rfl : k = l.length := by omega
        go_wp2
        go_ret
        exact ⟨ret_bool (wnsame_of l m HL.out HG.out).symm, hb⟩
  · have H1 : ((l.length : Int) != (m.length : Int)) = true := by simp; omega
    have H2 : (l.length != m.length) = true := by simpa using hlm
    have HL := hide hlm
    clear hlm
    go_enter Try.func59, Try.ntmps59
    go_wp2
    go_ret
    exact ⟨ret_bool (decide_eq_false fun e => HL.out (by rw [e])).symm, Below.refl _ _⟩

set_option maxHeartbeats 400000 in
theorem slicesEqualZ_any (A B : Option Addr) (c d : Nat) (l m : List Int) (w : World) (hA : SZ w A l) (hB : SZ w B m) (hn : l.length ≤ 1048576) (_hm : m.length ≤ 1048576) :
    Calls Try.prog 60 #[.slice A l.length c, .slice B m.length d] w (Says (sameZ l m) w) := by
  by_cases hlm : l.length = m.length
  · have HL := hide hlm
    have H1 : ((l.length : Int) != (m.length : Int)) = false := by simp [hlm]
    have H2 : (l.length != m.length) = false := by simp [hlm]
    clear hlm
    go_enter Try.func60, Try.ntmps60
    go_wp2_with fail
    go_loopw [13] (fun i wr => ∃ k : Nat, k ≤ l.length ∧ i = .int .i64 k ∧ (∀ j, j < k → zAt l j = zAt m j) ∧ Below w.heap.size w wr)
      (fun i _ => l.length - (intOf i).toNat)
    case atStart =>
      exact ⟨0, Nat.zero_le _, rfl, fun j hj => absurd hj (Nat.not_lt_zero _), Below.refl _ _⟩
    case round =>
      obtain ⟨k, hk, rfl, hG, hb⟩ := hrel
      have HG := hide hG
      clear hG
      by_cases hlt : k < l.length
      · have hlt2 : k < m.length := by rw [← HL.out]; exact hlt
        obtain ⟨b, o, rfl, hbb, c1⟩ := hA k hlt
        obtain ⟨b', o', rfl, hbb', c3⟩ := hB k hlt2
        have d1 := Later.cell ((hb.cell (p := ⟨b, o + k, none⟩) hbb).trans c1)
        have d3 := Later.cell ((hb.cell (p := ⟨b', o' + k, none⟩) hbb').trans c3)
        have hs := hb.size
        clear c1 c3 hA hB
        by_cases he : zAt l k = zAt m k
        · have HE := hide he
          have hx1 : (zAt l k != zAt m k) = false := by simp [he]
          clear he
          go_wp2_with fail
          refine wp_region_later (by kernel_rfl) (by kernel_rfl) ?_
          repeat (go_big_quiet_step (fail))
          refine wpQuiet_nil ?_
          rintro _ ⟨⟨wq, hq⟩, rfl⟩
          go_wp2
          go_roundw
          case rel => exact ⟨k + 1, by omega, by go_num, fun j hj => by
            rcases Nat.lt_or_ge j k with h1 | h1
            · exact HG.out j h1
            · rw [show j = k by omega]; exact HE.out, hb.trans (hq.mono hs)⟩
          case measure => simp [intOf]; omega
        · have HE := hide he
          have hx1 : (zAt l k != zAt m k) = true := by simp [he]
          clear he
          go_wp2_with fail
          refine wp_region_later (by kernel_rfl) (by kernel_rfl) ?_
          repeat (go_big_quiet_step (fail))
          refine wpQuiet_nil ?_
          rintro _ ⟨⟨wq, hq⟩, rfl⟩
          go_wp2
          go_ret
          exact ⟨ret_bool (zsame_not l m k HE.out).symm, hb.trans (hq.mono hs)⟩
      · obtain rfl : k = l.length := by omega
        go_wp2
        go_ret
        exact ⟨ret_bool (zsame_of l m HL.out HG.out).symm, hb⟩
  · have H1 : ((l.length : Int) != (m.length : Int)) = true := by simp; omega
    have H2 : (l.length != m.length) = true := by simpa using hlm
    have HL := hide hlm
    clear hlm
    go_enter Try.func60, Try.ntmps60
    go_wp2
    go_ret
    exact ⟨ret_bool (decide_eq_false fun e => HL.out (by rw [e])).symm, Below.refl _ _⟩

set_option maxHeartbeats 400000 in
theorem l00Same_any (A B : Option Addr) (c d : Nat) (l m : List Int) (w : World) (hA : SZ w A l) (hB : SZ w B m) (hn : l.length ≤ 1048576) (_hm : m.length ≤ 1048576) :
    Calls Try.prog 58 #[.slice A l.length c, .slice B m.length d] w (Says (sameZ l m) w) := by
  by_cases hlm : l.length = m.length
  · have HL := hide hlm
    have H1 : ((l.length : Int) != (m.length : Int)) = false := by simp [hlm]
    have H2 : (l.length != m.length) = false := by simp [hlm]
    clear hlm
    go_enter Try.func58, Try.ntmps58
    go_wp2_with fail
    go_loopw [5] (fun i wr => ∃ k : Nat, k ≤ l.length ∧ i = .int .i64 k ∧ (∀ j, j < k → zAt l j = zAt m j) ∧ Below w.heap.size w wr)
      (fun i _ => l.length - (intOf i).toNat)
    case atStart =>
      exact ⟨0, Nat.zero_le _, rfl, fun j hj => absurd hj (Nat.not_lt_zero _), Below.refl _ _⟩
    case round =>
      obtain ⟨k, hk, rfl, hG, hb⟩ := hrel
      have HG := hide hG
      clear hG
      by_cases hlt : k < l.length
      · have hlt2 : k < m.length := by rw [← HL.out]; exact hlt
        obtain ⟨b, o, rfl, hbb, c1⟩ := hA k hlt
        obtain ⟨b', o', rfl, hbb', c3⟩ := hB k hlt2
        have d1 := Later.cell ((hb.cell (p := ⟨b, o + k, none⟩) hbb).trans c1)
        have d3 := Later.cell ((hb.cell (p := ⟨b', o' + k, none⟩) hbb').trans c3)
        have hs := hb.size
        clear c1 c3 hA hB
        by_cases he : zAt l k = zAt m k
        · have HE := hide he
          have hx1 : (zAt l k != zAt m k) = false := by simp [he]
          clear he
          go_wp2_with fail
          refine wp_region_later (by kernel_rfl) (by kernel_rfl) ?_
          repeat (go_big_quiet_step (fail))
          refine wpQuiet_nil ?_
          rintro _ ⟨⟨wq, hq⟩, rfl⟩
          go_wp2
          go_roundw
          case rel => exact ⟨k + 1, by omega, by go_num, fun j hj => by
            rcases Nat.lt_or_ge j k with h1 | h1
            · exact HG.out j h1
            · rw [show j = k by omega]; exact HE.out, hb.trans (hq.mono hs)⟩
          case measure => simp [intOf]; omega
        · have HE := hide he
          have hx1 : (zAt l k != zAt m k) = true := by simp [he]
          clear he
          go_wp2_with fail
          refine wp_region_later (by kernel_rfl) (by kernel_rfl) ?_
          repeat (go_big_quiet_step (fail))
          refine wpQuiet_nil ?_
          rintro _ ⟨⟨wq, hq⟩, rfl⟩
          go_wp2
          go_ret
          exact ⟨ret_bool (zsame_not l m k HE.out).symm, hb.trans (hq.mono hs)⟩
      · obtain rfl : k = l.length := by omega
        go_wp2
        go_ret
        exact ⟨ret_bool (zsame_of l m HL.out HG.out).symm, hb⟩
  · have H1 : ((l.length : Int) != (m.length : Int)) = true := by simp; omega
    have H2 : (l.length != m.length) = true := by simpa using hlm
    have HL := hide hlm
    clear hlm
    go_enter Try.func58, Try.ntmps58
    go_wp2
    go_ret
    exact ⟨ret_bool (decide_eq_false fun e => HL.out (by rw [e])).symm, Below.refl _ _⟩


def sameWe (l m : List (Int × Int × Int)) (z y : List Int) : Bool := sameW l m && sameZ z y
end Go.Proofs.Ytakdnmakgblamaa
