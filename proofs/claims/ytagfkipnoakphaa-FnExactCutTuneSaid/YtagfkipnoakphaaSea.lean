import Derived.Test.YtagfkipnoakphaaShf
namespace Go.Proofs.Ytagfkipnoakphaa
open Go.RowKit
/-- the boundary of a test -/
def Bound (p : Nat → Bool) (n c : Nat) : Prop := c ≤ n ∧ (∀ t, t < c → p t = false) ∧ ∀ t, c ≤ t → t < n → p t = true
theorem bound_le {p p' : Nat → Bool} {n c c' : Nat} (h : Bound p n c) (h' : Bound p' n c') (hp : ∀ t, t < n → p' t = true → p t = true) : c ≤ c' := by
  rcases Nat.lt_or_ge c' c with h1 | h1
  · have h2 := h.2.1 c' h1
    have h3 := hp c' (by have := h.1; omega) (h'.2.2 c' (Nat.le_refl _) (by have := h.1; omega))
    rw [h2] at h3
    cases h3
  · exact h1
theorem bound_ex (p : Nat → Bool) (n : Nat) (hm : ∀ a b, a ≤ b → b < n → p a = true → p b = true) : ∃ c, Bound p n c := by
  induction n with
  | zero => exact ⟨0, Nat.le_refl _, fun t ht => absurd ht (Nat.not_lt_zero _), fun t _ ht => absurd ht (Nat.not_lt_zero _)⟩
  | succ n ih =>
    obtain ⟨c, h1, h2, h3⟩ := ih fun a b hab hb => hm a b hab (by omega)
    rcases Nat.lt_or_ge c n with hc | hc
    · refine ⟨c, by omega, h2, fun t ht htn => ?_⟩
      rcases Nat.lt_or_ge t n with h4 | h4
      · exact h3 t ht h4
      · obtain rfl : t = n := by omega
        exact hm c t (by omega) (by omega) (h3 c (Nat.le_refl _) hc)
    · obtain rfl : c = n := by omega
      cases hp : p c
      · exact ⟨c + 1, Nat.le_refl _, fun t ht => (Nat.lt_or_ge t c).elim (h2 t) fun h4 => by obtain rfl : t = c := by omega
                                                                                             exact hp, fun t h4 h5 => by omega⟩
      · exact ⟨c, by omega, h2, fun t h4 h5 => by obtain rfl : t = c := by omega
                                                  exact hp⟩
set_option maxRecDepth 20000 in
set_option maxHeartbeats 2000000 in
theorem search_any (g : Nat) (cb : Array Value) (n c : Nat) (p : Nat → Bool) (w : World) (hn : n ≤ 1048576) (eg : ∀ args w, (callFunc g args).run Try.prog w = .ok (.enter g args) w)
    (hf : ∀ W, Below w.heap.size w W → ∀ i, i < n → Calls Try.prog g (#[.int .i64 i] ++ cb) W fun e w' => e = .returned (.bool (p i)) ∧ Below W.heap.size W w') (hb : Bound p n c) :
    Calls Try.prog 67 #[.int .i64 n, .func (.func g) #[] cb] w fun e w' => e = .returned (.int .i64 c) ∧ Below w.heap.size w w' := by
  have HF := hide hf
  have HB := hide hb
  clear hf hb
  go_enter Try.func67, Try.ntmps67
  go_wp2_with fail
  go_loopw [5, 6] (fun i j wr => ∃ lo hi : Nat, i = .int .i64 lo ∧ j = .int .i64 hi ∧ lo ≤ c ∧ c ≤ hi ∧ hi ≤ n ∧ Below w.heap.size w wr)
    (fun i j _ => (intOf j).toNat - (intOf i).toNat)
  case atStart => exact ⟨0, n, rfl, rfl, Nat.zero_le _, HB.out.1, Nat.le_refl _, Below.refl _ _⟩
  case round =>
    obtain ⟨lo, hi, rfl, rfl, h1, h2, h3, hb⟩ := hrel
    by_cases hlt : lo < hi
    · have KF := HF.out wr hb ((lo + hi) / 2) (by omega)
      rw [show (((lo + hi) / 2 : Nat) : Int) = ((lo : Int) + (hi : Int)) / 2 by omega] at KF
      by_cases hm : (lo + hi) / 2 < c
      · rw [HB.out.2.1 _ hm] at KF
        go_wp2_with fail
        refine KF.mono ?_
        rintro e w1 ⟨rfl, hb1⟩
        have b1 := step_below hb1 hb
        go_wp2_with fail
        go_roundw
        case rel => exact ⟨(lo + hi) / 2 + 1, hi, by rw [show ((lo : Int) + (hi : Int)) / 2 + 1 = (((lo + hi) / 2 + 1 : Nat) : Int) by omega], rfl, by omega, h2, h3, b1⟩
        case measure => simp [intOf]; omega
      · rw [HB.out.2.2 _ (by omega) (by omega)] at KF
        go_wp2_with fail
        refine KF.mono ?_
        rintro e w1 ⟨rfl, hb1⟩
        have b1 := step_below hb1 hb
        go_wp2_with fail
        go_roundw
        case rel => exact ⟨lo, (lo + hi) / 2, rfl, by rw [show ((lo : Int) + (hi : Int)) / 2 = (((lo + hi) / 2 : Nat) : Int) by omega], h1, by omega, by omega, b1⟩
        case measure => simp [intOf]; omega
    · obtain rfl : lo = c := by omega
      go_wp2
      go_ret
      exact ⟨rfl, hb⟩
set_option maxRecDepth 20000 in
theorem first1_any (g h : Nat) (A : Option Addr) (c : Nat) (l : List (Int × Int)) (s : Int) (k : Nat) (w : World) (h1 : w.cell? ⟨g, 0, none⟩ = some (.slice A l.length c)) (h2 : Nb w h s) (hA : NA w A l) (hn : l.length ≤ 1048576) (hwf : WF l) (hk : k < l.length) :
    Calls Try.prog 68 #[.int .i64 k, .pointer (some ⟨g, 0, none⟩), .pointer (some ⟨h, 0, none⟩)] w fun e w' => e = .returned (.bool (decide (s ≤ nAt l k))) ∧ Below w.heap.size w w' := by
  obtain ⟨b, o, rfl, hbb, c1, c2⟩ := hA k hk
  obtain ⟨⟨n1, n2⟩, _, _⟩ := hwf k hk
  have e1 := Later.cell h1
  have e2 := Later.cell h2.1
  have e3 := Later.cell c1
  clear h1 h2 c1 c2 hA
  obtain ⟨x, hx⟩ : ∃ x, x = nAt l k := ⟨_, rfl⟩
  rw [← hx] at e3 n1 n2 ⊢
  clear hx
  go_enter Try.func68, Try.ntmps68
  go_wp2_with fail
  refine wp_region_later (by kernel_rfl) (by kernel_rfl) ?_
  repeat (go_big_quiet_step (fail))
  refine wpQuiet_nil ?_
  rintro wz ⟨⟨_, hq'⟩, rfl⟩
  go_wp2
  go_ret
  exact ⟨rfl, hq'⟩
set_option maxRecDepth 20000 in
set_option maxHeartbeats 1000000 in
theorem firstFrom_any (A : Option Addr) (c : Nat) (l : List (Int × Int)) (s : Int) (c0 : Nat) (w : World) (hA : NA w A l) (hn : l.length ≤ 1048576) (hwf : WF l) (hB : Bound (fun t => decide (s ≤ nAt l t)) l.length c0) :
    Calls Try.prog 55 #[.slice A l.length c, .int .i64 s] w fun e w' => e = .returned (.int .i64 c0) ∧ Below w.heap.size w w' := by
  have hmf : ∀ (fn : Fn) (first cap : Array Value) (w : World), (Instr.makeFunc fn first cap).run Try.prog w = .ok (.func fn first cap) w := fun _ _ _ _ => rfl
  have eg : ∀ args w, (callFunc 68 args).run Try.prog w = .ok (.enter 68 args) w := fun _ _ => by kernel_rfl
  obtain ⟨X, hX⟩ : ∃ X, X = (w.alloc (.cells #[.slice A l.length c] 25)).alloc (.cells #[.int .i64 s] 2) := ⟨_, rfl⟩
  have hb0 : Below w.heap.size w X := by rw [hX]; exact ((Below.refl _ _).alloc (Nat.le_refl _) _).alloc (by simp) _
  have S1 : X.cell? ⟨w.heap.size, 0, none⟩ = some (.slice A l.length c) ∧ w.heap.size < X.heap.size := by rw [hX]; exact ⟨by simp [go_sem, World.cell?_alloc_past], by simp; omega⟩
  have N2 : Nb X (w.heap.size + 1) s := by rw [hX]; exact ⟨by simp [go_sem], by simp⟩
  have KS := search_any 68 #[.pointer (some ⟨w.heap.size, 0, none⟩), .pointer (some ⟨w.heap.size + 1, 0, none⟩)] l.length c0 (fun t => decide (s ≤ nAt l t)) X hn eg (fun W hW k hk =>
    first1_any w.heap.size (w.heap.size + 1) A c l s k W ((hW.cell (p := ⟨w.heap.size, 0, none⟩) S1.2).trans S1.1) (N2.keep hW) (hA.below (step_below hW hb0)) hn hwf hk) hB
  clear hB eg
  go_enter Try.func55, Try.ntmps55
  go_upto_region 1 with fail
  rw [← hX]
  clear hX
  go_wp2_with fail
  refine KS.mono ?_
  rintro e w1 ⟨rfl, hb1⟩
  go_wp2
  go_ret
  exact ⟨rfl, step_below hb1 hb0⟩
theorem NA.part {w : World} {b o : Nat} {l : List (Int × Int)} (h : NA w (some ⟨b, o, none⟩) l) (f m : Nat) : NA w (some ⟨b, o + f * 2, none⟩) ((l.drop f).take m) := by
  intro k hk
  rw [List.length_take, List.length_drop] at hk
  obtain ⟨b', o', e, hb, c1, c2⟩ := h (f + k) (by omega)
  simp only [Option.some.injEq, Addr.mk.injEq, and_true] at e
  obtain ⟨rfl, rfl⟩ := e
  have e0 : ((l.drop f).take m).getD k (0, 0) = l.getD (f + k) (0, 0) := by simp [List.getD, List.getElem?_take, show k < m by omega]
  refine ⟨b, o + f * 2, rfl, hb, ?_, ?_⟩
  · rw [show o + f * 2 + k * 2 = o + (f + k) * 2 by omega, c1]
    simp only [nAt, e0]
  · rw [show o + f * 2 + k * 2 + 1 = o + (f + k) * 2 + 1 by omega, c2]
    simp only [nPi, e0]
end Go.Proofs.Ytagfkipnoakphaa
