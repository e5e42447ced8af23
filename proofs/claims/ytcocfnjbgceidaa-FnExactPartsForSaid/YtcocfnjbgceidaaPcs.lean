import Derived.Test.YtcocfnjbgceidaaGad
import Derived.IntWalk
namespace Go.Proofs.Ytcocfnjbgceidaa
open Go.RowKit
def pcC (l : List (Int × Int × Int × Int × Int)) : List Value := l.flatMap fun n => [.int .i64 n.1, .int .i64 n.2.1, .int .i64 n.2.2.1, .int .i64 n.2.2.2.1, .int .i64 n.2.2.2.2]
def pcA (l : List (Int × Int × Int × Int × Int)) (k : Nat) : Int := (l.getD k (0, 0, 0, 0, 0)).1
def pcB (l : List (Int × Int × Int × Int × Int)) (k : Nat) : Int := (l.getD k (0, 0, 0, 0, 0)).2.1
def pcU (l : List (Int × Int × Int × Int × Int)) (k : Nat) : Int := (l.getD k (0, 0, 0, 0, 0)).2.2.1
def pcM (l : List (Int × Int × Int × Int × Int)) (k : Nat) : Int := (l.getD k (0, 0, 0, 0, 0)).2.2.2.1
def pcL (l : List (Int × Int × Int × Int × Int)) (k : Nat) : Int := (l.getD k (0, 0, 0, 0, 0)).2.2.2.2
def PcWF (l : List (Int × Int × Int × Int × Int)) : Prop := ∀ k, k < l.length → (-9223372036854775808 ≤ pcA l k ∧ pcA l k ≤ 9223372036854775807) ∧ (-9223372036854775808 ≤ pcB l k ∧ pcB l k ≤ 9223372036854775807) ∧ (-9223372036854775808 ≤ pcU l k ∧ pcU l k ≤ 9223372036854775807) ∧ (-9223372036854775808 ≤ pcM l k ∧ pcM l k ≤ 9223372036854775807) ∧ (-9223372036854775808 ≤ pcL l k ∧ pcL l k ≤ 9223372036854775807)
theorem pcC_nil : pcC [] = [] := rfl
theorem pcC_cons (n : Int × Int × Int × Int × Int) (l : List (Int × Int × Int × Int × Int)) : pcC (n :: l) = .int .i64 n.1 :: .int .i64 n.2.1 :: .int .i64 n.2.2.1 :: .int .i64 n.2.2.2.1 :: .int .i64 n.2.2.2.2 :: pcC l := rfl
theorem pcC_append (l m : List (Int × Int × Int × Int × Int)) : pcC (l ++ m) = pcC l ++ pcC m := by simp [pcC]
theorem pcC_length (l : List (Int × Int × Int × Int × Int)) : (pcC l).length = l.length * 5 := by
  induction l with
  | nil => rfl
  | cons n l ih => simp [pcC_cons, ih]; omega
theorem pcC_at (l : List (Int × Int × Int × Int × Int)) : ∀ k, k < l.length → (pcC l)[k * 5]? = some (.int .i64 (pcA l k)) ∧ (pcC l)[k * 5 + 1]? = some (.int .i64 (pcB l k)) ∧ (pcC l)[k * 5 + 2]? = some (.int .i64 (pcU l k)) ∧ (pcC l)[k * 5 + 3]? = some (.int .i64 (pcM l k)) ∧ (pcC l)[k * 5 + 4]? = some (.int .i64 (pcL l k)) := by
  induction l with
  | nil => intro k h; simp at h
  | cons n l ih =>
    intro k h
    cases k with
    | zero => simp [pcC_cons, pcA, pcB, pcU, pcM, pcL]
    | succ k =>
      have := ih k (by simpa using h)
      rw [show (k + 1) * 5 = k * 5 + 1 + 1 + 1 + 1 + 1 from by omega, show k * 5 + 1 + 1 + 1 + 1 + 1 + 1 = (k * 5 + 1) + 1 + 1 + 1 + 1 + 1 from rfl, show k * 5 + 1 + 1 + 1 + 1 + 1 + 2 = (k * 5 + 2) + 1 + 1 + 1 + 1 + 1 from rfl, show k * 5 + 1 + 1 + 1 + 1 + 1 + 3 = (k * 5 + 3) + 1 + 1 + 1 + 1 + 1 from rfl, show k * 5 + 1 + 1 + 1 + 1 + 1 + 4 = (k * 5 + 4) + 1 + 1 + 1 + 1 + 1 from rfl]
      simpa [pcC_cons, pcA, pcB, pcU, pcM, pcL] using this
theorem pcC_set (l : List (Int × Int × Int × Int × Int)) : ∀ (k : Nat) (a0 : Int) (a1 : Int) (a2 : Int) (a3 : Int) (a4 : Int), pcC (l.set k (a0, a1, a2, a3, a4)) = ((((((pcC l).set (k * 5) (.int .i64 a0)).set (k * 5 + 1) (.int .i64 a1)).set (k * 5 + 2) (.int .i64 a2)).set (k * 5 + 3) (.int .i64 a3)).set (k * 5 + 4) (.int .i64 a4)) := by
  induction l with
  | nil => intro k a0 a1 a2 a3 a4; simp [pcC_nil]
  | cons n l ih =>
    intro k a0 a1 a2 a3 a4
    cases k with
    | zero => simp [pcC_cons]
    | succ k =>
      rw [show (k + 1) * 5 = k * 5 + 1 + 1 + 1 + 1 + 1 from by omega, show k * 5 + 1 + 1 + 1 + 1 + 1 + 1 = (k * 5 + 1) + 1 + 1 + 1 + 1 + 1 from rfl, show k * 5 + 1 + 1 + 1 + 1 + 1 + 2 = (k * 5 + 2) + 1 + 1 + 1 + 1 + 1 from rfl, show k * 5 + 1 + 1 + 1 + 1 + 1 + 3 = (k * 5 + 3) + 1 + 1 + 1 + 1 + 1 from rfl, show k * 5 + 1 + 1 + 1 + 1 + 1 + 4 = (k * 5 + 4) + 1 + 1 + 1 + 1 + 1 from rfl]
      simp [pcC_cons, ih]
theorem pcC_replicate (n : Nat) : pcC (List.replicate n (0, 0, 0, 0, 0)) = (madeCells #[.int .i64 0, .int .i64 0, .int .i64 0, .int .i64 0, .int .i64 0] (n * 5)).toList := by
  apply List.ext_getElem?
  intro j
  by_cases hj : j < n * 5
  · have hk : j / 5 < (List.replicate n ((0 : Int), (0 : Int), (0 : Int), (0 : Int), (0 : Int))).length := by simp; omega
    obtain ⟨h0, h1, h2, h3, h4⟩ := pcC_at (List.replicate n (0, 0, 0, 0, 0)) (j / 5) hk
    have hm : j % 5 = 0 ∨ j % 5 = 1 ∨ j % 5 = 2 ∨ j % 5 = 3 ∨ j % 5 = 4 := by omega
    rcases hm with h | h | h | h | h
    · rw [show j = j / 5 * 5 by omega, h0]
      simp [madeCells, pcA, List.getD, List.getElem?_replicate, show j / 5 < n by omega, show j / 5 * 5 < n * 5 by omega]
    · rw [show j = j / 5 * 5 + 1 by omega, h1]
      simp [madeCells, pcB, List.getD, List.getElem?_replicate, show j / 5 < n by omega, show j / 5 * 5 + 1 < n * 5 by omega, show (j / 5 * 5 + 1) % 5 = 1 by omega]
    · rw [show j = j / 5 * 5 + 2 by omega, h2]
      simp [madeCells, pcU, List.getD, List.getElem?_replicate, show j / 5 < n by omega, show j / 5 * 5 + 2 < n * 5 by omega, show (j / 5 * 5 + 2) % 5 = 2 by omega]
    · rw [show j = j / 5 * 5 + 3 by omega, h3]
      simp [madeCells, pcM, List.getD, List.getElem?_replicate, show j / 5 < n by omega, show j / 5 * 5 + 3 < n * 5 by omega, show (j / 5 * 5 + 3) % 5 = 3 by omega]
    · rw [show j = j / 5 * 5 + 4 by omega, h4]
      simp [madeCells, pcL, List.getD, List.getElem?_replicate, show j / 5 < n by omega, show j / 5 * 5 + 4 < n * 5 by omega, show (j / 5 * 5 + 4) % 5 = 4 by omega]
  · rw [List.getElem?_eq_none (by rw [pcC_length]; simp; omega), List.getElem?_eq_none (by simp [madeCells]; omega)]
def PcA (w : World) (A : Option Addr) (l : List (Int × Int × Int × Int × Int)) : Prop :=
  ∀ k, k < l.length → ∃ b o, A = some ⟨b, o, none⟩ ∧ b < w.heap.size ∧ w.cell? ⟨b, o + k * 5, none⟩ = some (.int .i64 (pcA l k)) ∧ w.cell? ⟨b, o + k * 5 + 1, none⟩ = some (.int .i64 (pcB l k)) ∧ w.cell? ⟨b, o + k * 5 + 2, none⟩ = some (.int .i64 (pcU l k)) ∧ w.cell? ⟨b, o + k * 5 + 3, none⟩ = some (.int .i64 (pcM l k)) ∧ w.cell? ⟨b, o + k * 5 + 4, none⟩ = some (.int .i64 (pcL l k))
theorem PcA.below {w w' : World} {A : Option Addr} {l : List (Int × Int × Int × Int × Int)} (h : PcA w A l) (hb : Below w.heap.size w w') : PcA w' A l := by
  intro k hk
  obtain ⟨b, o, rfl, hlt, h0, h1, h2, h3, h4⟩ := h k hk
  exact ⟨b, o, rfl, Nat.lt_of_lt_of_le hlt hb.size, (hb.cell (p := ⟨b, _, none⟩) hlt).trans h0, (hb.cell (p := ⟨b, _, none⟩) hlt).trans h1, (hb.cell (p := ⟨b, _, none⟩) hlt).trans h2, (hb.cell (p := ⟨b, _, none⟩) hlt).trans h3, (hb.cell (p := ⟨b, _, none⟩) hlt).trans h4⟩
theorem PcA.of_own {w : World} {base : Nat} {e : TypeId} {A : Option Addr} {c : Nat} {l : List (Int × Int × Int × Int × Int)} (h : w.ownsRow base e 5 (.slice A l.length c) l.length (pcC l)) : PcA w A l := by
  intro k hk
  rcases h.2 with ⟨h', h0⟩ | ⟨g, cap, cur, h', hb, hg, _⟩
  · omega
  · simp only [Value.slice.injEq, true_and] at h'
    obtain ⟨rfl, rfl⟩ := h'
    obtain ⟨h0, h1, h2, h3, h4⟩ := pcC_at l k hk
    refine ⟨g, 0, rfl, (Array.getElem?_eq_some_iff.1 hg).1, ?_, ?_, ?_, ?_, ?_⟩
    · rw [Nat.zero_add, h.cellAt (k * 5) (by omega), h0]
    · rw [Nat.zero_add, h.cellAt (k * 5 + 1) (by omega), h1]
    · rw [Nat.zero_add, h.cellAt (k * 5 + 2) (by omega), h2]
    · rw [Nat.zero_add, h.cellAt (k * 5 + 3) (by omega), h3]
    · rw [Nat.zero_add, h.cellAt (k * 5 + 4) (by omega), h4]
theorem pcown_set {w : World} {base : Nat} {e : TypeId} {g n c : Nat} {l : List (Int × Int × Int × Int × Int)} (h : w.ownsRow base e 5 (.slice (some ⟨g, 0, none⟩) n c) n (pcC l)) (k : Nat) (a0 : Int) (a1 : Int) (a2 : Int) (a3 : Int) (a4 : Int) :
    (((((w.setCell ⟨g, k * 5, none⟩ (.int .i64 a0)).setCell ⟨g, k * 5 + 1, none⟩ (.int .i64 a1)).setCell ⟨g, k * 5 + 2, none⟩ (.int .i64 a2)).setCell ⟨g, k * 5 + 3, none⟩ (.int .i64 a3)).setCell ⟨g, k * 5 + 4, none⟩ (.int .i64 a4)).ownsRow base e 5 (.slice (some ⟨g, 0, none⟩) n c) n (pcC (l.set k (a0, a1, a2, a3, a4))) := by
  rw [pcC_set]
  exact (((((h.stored (k * 5) (.int .i64 a0)).1.stored (k * 5 + 1) (.int .i64 a1)).1.stored (k * 5 + 2) (.int .i64 a2)).1.stored (k * 5 + 3) (.int .i64 a3)).1.stored (k * 5 + 4) (.int .i64 a4)).1
def pcup (l : List (Int × Int × Int × Int × Int)) (k : Nat) : List (Int × Int × Int × Int × Int) := l.take k ++ List.replicate (l.length - k) (0, 0, 0, 0, 0)
theorem pcup_length (l : List (Int × Int × Int × Int × Int)) (k : Nat) (h : k ≤ l.length) : (pcup l k).length = l.length := by simp [pcup]; omega
theorem pc_get (l : List (Int × Int × Int × Int × Int)) (k : Nat) (h : k < l.length) : (pcA l k, pcB l k, pcU l k, pcM l k, pcL l k) = l[k] := by simp [pcA, pcB, pcU, pcM, pcL, List.getD, h]
theorem pcup_set (l : List (Int × Int × Int × Int × Int)) (k : Nat) (h : k < l.length) : (pcup l k).set k (pcA l k, pcB l k, pcU l k, pcM l k, pcL l k) = pcup l (k + 1) := by
  have e1 : l.length - k = (l.length - (k + 1)) + 1 := by omega
  have e2 : (pcA l k, pcB l k, pcU l k, pcM l k, pcL l k) = l[k] := pc_get l k h
  rw [pcup, pcup, e1, List.replicate_succ, e2, List.take_succ_eq_append_getElem h, List.set_append_right _ _ (by simp; omega)]
  simp only [List.length_take, show k - min k l.length = 0 by omega, List.set_cons_zero, List.append_assoc, List.cons_append, List.nil_append]
theorem pcup_zero (l : List (Int × Int × Int × Int × Int)) : pcup l 0 = List.replicate l.length (0, 0, 0, 0, 0) := by simp [pcup]
theorem pcup_all (l : List (Int × Int × Int × Int × Int)) : pcup l l.length = l := by simp [pcup]
theorem info194 : (Try.prog.info? 194).map (fun i => (i.zero, i.size, i.bytes)) = some (some (.agg #[.int .i64 0, .int .i64 0, .int .i64 0, .int .i64 0, .int .i64 0]), 5, 40) := by kernel_rfl
end Go.Proofs.Ytcocfnjbgceidaa
