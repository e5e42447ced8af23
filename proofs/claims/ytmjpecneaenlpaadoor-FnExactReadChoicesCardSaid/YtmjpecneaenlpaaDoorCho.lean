import Derived.Test.YtmjpecneaenlpaaDoorFre
import Derived.IntWalk
namespace Go.Proofs.YtmjpecneaenlpaaDoor
open Go.RowKit
def chC (l : List (Bool × Int × Int × Int)) : List Value := l.flatMap fun n => [.bool n.1, .int .i8 n.2.1, .int .i8 n.2.2.1, .int .i8 n.2.2.2]
def chA (l : List (Bool × Int × Int × Int)) (k : Nat) : Bool := (l.getD k (false, 0, 0, 0)).1
def chL (l : List (Bool × Int × Int × Int)) (k : Nat) : Int := (l.getD k (false, 0, 0, 0)).2.1
def chO (l : List (Bool × Int × Int × Int)) (k : Nat) : Int := (l.getD k (false, 0, 0, 0)).2.2.1
def chT (l : List (Bool × Int × Int × Int)) (k : Nat) : Int := (l.getD k (false, 0, 0, 0)).2.2.2
def ChWF (l : List (Bool × Int × Int × Int)) : Prop := ∀ k, k < l.length → (-128 ≤ chL l k ∧ chL l k ≤ 127) ∧ (-128 ≤ chO l k ∧ chO l k ≤ 127) ∧ (-128 ≤ chT l k ∧ chT l k ≤ 127)
theorem chC_nil : chC [] = [] := rfl
theorem chC_cons (n : Bool × Int × Int × Int) (l : List (Bool × Int × Int × Int)) : chC (n :: l) = .bool n.1 :: .int .i8 n.2.1 :: .int .i8 n.2.2.1 :: .int .i8 n.2.2.2 :: chC l := rfl
theorem chC_append (l m : List (Bool × Int × Int × Int)) : chC (l ++ m) = chC l ++ chC m := by simp [chC]
theorem chC_length (l : List (Bool × Int × Int × Int)) : (chC l).length = l.length * 4 := by
  induction l with
  | nil => rfl
  | cons n l ih => simp [chC_cons, ih]; omega
theorem chC_at (l : List (Bool × Int × Int × Int)) : ∀ k, k < l.length → (chC l)[k * 4]? = some (.bool (chA l k)) ∧ (chC l)[k * 4 + 1]? = some (.int .i8 (chL l k)) ∧ (chC l)[k * 4 + 2]? = some (.int .i8 (chO l k)) ∧ (chC l)[k * 4 + 3]? = some (.int .i8 (chT l k)) := by
  induction l with
  | nil => intro k h; simp at h
  | cons n l ih =>
    intro k h
    cases k with
    | zero => simp [chC_cons, chA, chL, chO, chT]
    | succ k =>
      have := ih k (by simpa using h)
      rw [show (k + 1) * 4 = k * 4 + 1 + 1 + 1 + 1 from by omega, show k * 4 + 1 + 1 + 1 + 1 + 1 = (k * 4 + 1) + 1 + 1 + 1 + 1 from rfl, show k * 4 + 1 + 1 + 1 + 1 + 2 = (k * 4 + 2) + 1 + 1 + 1 + 1 from rfl, show k * 4 + 1 + 1 + 1 + 1 + 3 = (k * 4 + 3) + 1 + 1 + 1 + 1 from rfl]
      simpa [chC_cons, chA, chL, chO, chT] using this
theorem chC_set (l : List (Bool × Int × Int × Int)) : ∀ (k : Nat) (a0 : Bool) (a1 : Int) (a2 : Int) (a3 : Int), chC (l.set k (a0, a1, a2, a3)) = (((((chC l).set (k * 4) (.bool a0)).set (k * 4 + 1) (.int .i8 a1)).set (k * 4 + 2) (.int .i8 a2)).set (k * 4 + 3) (.int .i8 a3)) := by
  induction l with
  | nil => intro k a0 a1 a2 a3; simp [chC_nil]
  | cons n l ih =>
    intro k a0 a1 a2 a3
    cases k with
    | zero => simp [chC_cons]
    | succ k =>
      rw [show (k + 1) * 4 = k * 4 + 1 + 1 + 1 + 1 from by omega, show k * 4 + 1 + 1 + 1 + 1 + 1 = (k * 4 + 1) + 1 + 1 + 1 + 1 from rfl, show k * 4 + 1 + 1 + 1 + 1 + 2 = (k * 4 + 2) + 1 + 1 + 1 + 1 from rfl, show k * 4 + 1 + 1 + 1 + 1 + 3 = (k * 4 + 3) + 1 + 1 + 1 + 1 from rfl]
      simp [chC_cons, ih]
theorem chC_replicate (n : Nat) : chC (List.replicate n (false, 0, 0, 0)) = (madeCells #[.bool false, .int .i8 0, .int .i8 0, .int .i8 0] (n * 4)).toList := by
  apply List.ext_getElem?
  intro j
  by_cases hj : j < n * 4
  · have hk : j / 4 < (List.replicate n (false, (0 : Int), (0 : Int), (0 : Int))).length := by simp; omega
    obtain ⟨h0, h1, h2, h3⟩ := chC_at (List.replicate n (false, 0, 0, 0)) (j / 4) hk
    have hm : j % 4 = 0 ∨ j % 4 = 1 ∨ j % 4 = 2 ∨ j % 4 = 3 := by omega
    rcases hm with h | h | h | h
    · rw [show j = j / 4 * 4 by omega, h0]
      simp [madeCells, chA, List.getD, List.getElem?_replicate, show j / 4 < n by omega, show j / 4 * 4 < n * 4 by omega]
    · rw [show j = j / 4 * 4 + 1 by omega, h1]
      simp [madeCells, chL, List.getD, List.getElem?_replicate, show j / 4 < n by omega, show j / 4 * 4 + 1 < n * 4 by omega, show (j / 4 * 4 + 1) % 4 = 1 by omega]
    · rw [show j = j / 4 * 4 + 2 by omega, h2]
      simp [madeCells, chO, List.getD, List.getElem?_replicate, show j / 4 < n by omega, show j / 4 * 4 + 2 < n * 4 by omega, show (j / 4 * 4 + 2) % 4 = 2 by omega]
    · rw [show j = j / 4 * 4 + 3 by omega, h3]
      simp [madeCells, chT, List.getD, List.getElem?_replicate, show j / 4 < n by omega, show j / 4 * 4 + 3 < n * 4 by omega, show (j / 4 * 4 + 3) % 4 = 3 by omega]
  · rw [List.getElem?_eq_none (by rw [chC_length]; simp; omega), List.getElem?_eq_none (by simp [madeCells]; omega)]
def ChA (w : World) (A : Option Addr) (l : List (Bool × Int × Int × Int)) : Prop :=
  ∀ k, k < l.length → ∃ b o, A = some ⟨b, o, none⟩ ∧ b < w.heap.size ∧ w.cell? ⟨b, o + k * 4, none⟩ = some (.bool (chA l k)) ∧ w.cell? ⟨b, o + k * 4 + 1, none⟩ = some (.int .i8 (chL l k)) ∧ w.cell? ⟨b, o + k * 4 + 2, none⟩ = some (.int .i8 (chO l k)) ∧ w.cell? ⟨b, o + k * 4 + 3, none⟩ = some (.int .i8 (chT l k))
theorem ChA.below {w w' : World} {A : Option Addr} {l : List (Bool × Int × Int × Int)} (h : ChA w A l) (hb : Below w.heap.size w w') : ChA w' A l := by
  intro k hk
  obtain ⟨b, o, rfl, hlt, h0, h1, h2, h3⟩ := h k hk
  exact ⟨b, o, rfl, Nat.lt_of_lt_of_le hlt hb.size, (hb.cell (p := ⟨b, _, none⟩) hlt).trans h0, (hb.cell (p := ⟨b, _, none⟩) hlt).trans h1, (hb.cell (p := ⟨b, _, none⟩) hlt).trans h2, (hb.cell (p := ⟨b, _, none⟩) hlt).trans h3⟩
theorem ChA.of_own {w : World} {base : Nat} {e : TypeId} {A : Option Addr} {c : Nat} {l : List (Bool × Int × Int × Int)} (h : w.ownsRow base e 4 (.slice A l.length c) l.length (chC l)) : ChA w A l := by
  intro k hk
  rcases h.2 with ⟨h', h0⟩ | ⟨g, cap, cur, h', hb, hg, _⟩
  · omega
  · simp only [Value.slice.injEq, true_and] at h'
    obtain ⟨rfl, rfl⟩ := h'
    obtain ⟨h0, h1, h2, h3⟩ := chC_at l k hk
    refine ⟨g, 0, rfl, (Array.getElem?_eq_some_iff.1 hg).1, ?_, ?_, ?_, ?_⟩
    · rw [Nat.zero_add, h.cellAt (k * 4) (by omega), h0]
    · rw [Nat.zero_add, h.cellAt (k * 4 + 1) (by omega), h1]
    · rw [Nat.zero_add, h.cellAt (k * 4 + 2) (by omega), h2]
    · rw [Nat.zero_add, h.cellAt (k * 4 + 3) (by omega), h3]
theorem chown_set {w : World} {base : Nat} {e : TypeId} {g n c : Nat} {l : List (Bool × Int × Int × Int)} (h : w.ownsRow base e 4 (.slice (some ⟨g, 0, none⟩) n c) n (chC l)) (k : Nat) (a0 : Bool) (a1 : Int) (a2 : Int) (a3 : Int) :
    ((((w.setCell ⟨g, k * 4, none⟩ (.bool a0)).setCell ⟨g, k * 4 + 1, none⟩ (.int .i8 a1)).setCell ⟨g, k * 4 + 2, none⟩ (.int .i8 a2)).setCell ⟨g, k * 4 + 3, none⟩ (.int .i8 a3)).ownsRow base e 4 (.slice (some ⟨g, 0, none⟩) n c) n (chC (l.set k (a0, a1, a2, a3))) := by
  rw [chC_set]
  exact ((((h.stored (k * 4) (.bool a0)).1.stored (k * 4 + 1) (.int .i8 a1)).1.stored (k * 4 + 2) (.int .i8 a2)).1.stored (k * 4 + 3) (.int .i8 a3)).1
def chup (l : List (Bool × Int × Int × Int)) (k : Nat) : List (Bool × Int × Int × Int) := l.take k ++ List.replicate (l.length - k) (false, 0, 0, 0)
theorem chup_length (l : List (Bool × Int × Int × Int)) (k : Nat) (h : k ≤ l.length) : (chup l k).length = l.length := by simp [chup]; omega
theorem ch_get (l : List (Bool × Int × Int × Int)) (k : Nat) (h : k < l.length) : (chA l k, chL l k, chO l k, chT l k) = l[k] := by simp [chA, chL, chO, chT, List.getD, h]
theorem chup_set (l : List (Bool × Int × Int × Int)) (k : Nat) (h : k < l.length) : (chup l k).set k (chA l k, chL l k, chO l k, chT l k) = chup l (k + 1) := by
  have e1 : l.length - k = (l.length - (k + 1)) + 1 := by omega
  have e2 : (chA l k, chL l k, chO l k, chT l k) = l[k] := ch_get l k h
  rw [chup, chup, e1, List.replicate_succ, e2, List.take_succ_eq_append_getElem h, List.set_append_right _ _ (by simp; omega)]
  simp only [List.length_take, show k - min k l.length = 0 by omega, List.set_cons_zero, List.append_assoc, List.cons_append, List.nil_append]
theorem chup_zero (l : List (Bool × Int × Int × Int)) : chup l 0 = List.replicate l.length (false, 0, 0, 0) := by simp [chup]
theorem chup_all (l : List (Bool × Int × Int × Int)) : chup l l.length = l := by simp [chup]
theorem info75 : (Tryd.prog.info? 75).map (fun i => (i.zero, i.size, i.bytes)) = some (some (.agg #[.bool false, .int .i8 0, .int .i8 0, .int .i8 0]), 4, 4) := by kernel_rfl
theorem eqChoice_self (a0 : Bool) (a1 : Int) (a2 : Int) (a3 : Int) (w : World) :
    Calls Tryd.prog 46 #[.agg #[.bool a0, .int .i8 a1, .int .i8 a2, .int .i8 a3], .agg #[.bool a0, .int .i8 a1, .int .i8 a2, .int .i8 a3]] w fun e w' => e = .returned (.bool true) ∧ Below w.heap.size w w' := by
  go_enter Tryd.func46, Tryd.ntmps46
  cases a0 <;> go_wp2
  all_goals go_ret
  all_goals exact ⟨rfl, by repeat (first | exact Below.refl _ _ | refine Below.alloc ?_ (by simp <;> omega) _)⟩
set_option maxHeartbeats 1000000 in
theorem eqChoiceS_self (A B : Option Addr) (c d : Nat) (l : List (Bool × Int × Int × Int)) (w : World) (hA : ChA w A l) (hB : ChA w B l) (hn : l.length ≤ 1048576) :
    Calls Tryd.prog 19 #[.slice A l.length c, .slice B l.length d] w (Says true w) := by
  go_enter Tryd.func19, Tryd.ntmps19
  go_wp2_with fail
  go_loopw [5] (fun i wr => ∃ k : Nat, k ≤ l.length ∧ i = .int .i64 k ∧ Below w.heap.size w wr)
    (fun i _ => l.length - (intOf i).toNat)
  case atStart => exact ⟨0, Nat.zero_le _, rfl, Below.refl _ _⟩
  case round =>
    obtain ⟨k, hk, rfl, hb⟩ := hrel
    by_cases hlt : k < l.length
    · obtain ⟨b, o, rfl, hbb, c1, c2, c3, c4⟩ := hA k hlt
      obtain ⟨b', o', rfl, hbb', e1, e2, e3, e4⟩ := hB k hlt
      have d1 := Later.cell ((hb.cell (p := ⟨b, o + k * 4, none⟩) hbb).trans c1)
      have h1 := Later.cell ((hb.cell (p := ⟨b', o' + k * 4, none⟩) hbb').trans e1)
      have d2 := Later.cell ((hb.cell (p := ⟨b, o + k * 4 + 1, none⟩) hbb).trans c2)
      have h2 := Later.cell ((hb.cell (p := ⟨b', o' + k * 4 + 1, none⟩) hbb').trans e2)
      have d3 := Later.cell ((hb.cell (p := ⟨b, o + k * 4 + 2, none⟩) hbb).trans c3)
      have h3 := Later.cell ((hb.cell (p := ⟨b', o' + k * 4 + 2, none⟩) hbb').trans e3)
      have d4 := Later.cell ((hb.cell (p := ⟨b, o + k * 4 + 3, none⟩) hbb).trans c4)
      have h4 := Later.cell ((hb.cell (p := ⟨b', o' + k * 4 + 3, none⟩) hbb').trans e4)
      have hs := hb.size
      clear c1 c2 c3 c4 e1 e2 e3 e4 hA hB
      go_wp2_with fail
      refine wp_region_later (by kernel_rfl) (by kernel_rfl) ?_
      repeat (go_big_quiet_step ((go_at_call 46; exact Later.call (eqChoice_self _ _ _ _ _))))
      refine wpQuiet_nil ?_
      rintro _ ⟨⟨wq, hq⟩, rfl⟩
      go_wp2
      go_roundw
      case rel => exact ⟨k + 1, by omega, by go_num, hb.trans (hq.mono hs)⟩
      case measure => simp [intOf]; omega
    · obtain rfl : k = l.length := by omega
      go_wp2
      go_ret
      exact ⟨rfl, hb⟩
end Go.Proofs.YtmjpecneaenlpaaDoor
