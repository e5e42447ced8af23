import Derived.Test.YtmjpecneaenlpaaDoorGan
import Derived.Deep.MidRow
import Derived.Great.Ranges
import Derived.Great.BuildSlice
namespace Go.Proofs.YtmjpecneaenlpaaDoor
open Go.RowKit

/-- the sections as cells -/
def secC (l : List (Int × Int)) : List Value := l.flatMap fun n => [.int .i16 n.1, .int .i16 n.2]
def secF (l : List (Int × Int)) (k : Nat) : Int := (l.getD k (0, 0)).1
def secS (l : List (Int × Int)) (k : Nat) : Int := (l.getD k (0, 0)).2

theorem secC_nil : secC [] = [] := rfl
theorem secC_cons (n : Int × Int) (l : List (Int × Int)) : secC (n :: l) = .int .i16 n.1 :: .int .i16 n.2 :: secC l := rfl
theorem secC_append (l m : List (Int × Int)) : secC (l ++ m) = secC l ++ secC m := by simp [secC]
theorem secC_length (l : List (Int × Int)) : (secC l).length = l.length * 2 := by
  induction l with
  | nil => rfl
  | cons n l ih => simp [secC_cons, ih]; omega
theorem secC_even (l : List (Int × Int)) : ∀ k, k < l.length → (secC l)[k * 2]? = some (.int .i16 (secF l k)) := by
  induction l with
  | nil => intro k h; simp at h
  | cons n l ih =>
    intro k h
    cases k with
    | zero => simp [secC_cons, secF]
    | succ k =>
      have := ih k (by simpa using h)
      rw [show (k + 1) * 2 = k * 2 + 1 + 1 from by omega]
      simpa [secC_cons, secF] using this
theorem secC_odd (l : List (Int × Int)) : ∀ k, k < l.length → (secC l)[k * 2 + 1]? = some (.int .i16 (secS l k)) := by
  induction l with
  | nil => intro k h; simp at h
  | cons n l ih =>
    intro k h
    cases k with
    | zero => simp [secC_cons, secS]
    | succ k =>
      have := ih k (by simpa using h)
      rw [show (k + 1) * 2 + 1 = k * 2 + 1 + 1 + 1 from by omega]
      simpa [secC_cons, secS] using this
theorem secC_set (l : List (Int × Int)) : ∀ (k : Nat) (a p : Int), secC (l.set k (a, p)) = ((secC l).set (k * 2) (.int .i16 a)).set (k * 2 + 1) (.int .i16 p) := by
  induction l with
  | nil => intro k a p; simp [secC_nil]
  | cons n l ih =>
    intro k a p
    cases k with
    | zero => simp [secC_cons]
    | succ k =>
      rw [show (k + 1) * 2 = k * 2 + 1 + 1 from by omega, show k * 2 + 1 + 1 + 1 = k * 2 + 1 + 1 + 1 from rfl]
      simp [secC_cons, ih]
theorem secC_replicate (n : Nat) : secC (List.replicate n (0, 0)) = (madeCells #[.int .i16 0, .int .i16 0] (n * 2)).toList := by
  apply List.ext_getElem?
  intro j
  by_cases hj : j < n * 2
  · rcases Nat.mod_two_eq_zero_or_one j with h | h
    · obtain ⟨k, rfl⟩ : ∃ k, j = k * 2 := ⟨j / 2, by omega⟩
      rw [secC_even _ k (by simp; omega)]
      simp only [madeCells, secF, List.getD, List.getElem?_replicate]
      rw [if_pos (by omega)]
      simp [hj]
    · obtain ⟨k, rfl⟩ : ∃ k, j = k * 2 + 1 := ⟨j / 2, by omega⟩
      rw [secC_odd _ k (by simp; omega)]
      simp only [madeCells, secS, List.getD, List.getElem?_replicate]
      rw [if_pos (by omega)]
      simp [hj]
  · rw [List.getElem?_eq_none (by rw [secC_length]; simp; omega), List.getElem?_eq_none (by simp [madeCells]; omega)]

/-- a slice's address under which the sections lie -/
def SecA (w : World) (A : Option Addr) (l : List (Int × Int)) : Prop :=
  ∀ k, k < l.length → ∃ b o, A = some ⟨b, o, none⟩ ∧ b < w.heap.size ∧ w.cell? ⟨b, o + k * 2, none⟩ = some (.int .i16 (secF l k)) ∧ w.cell? ⟨b, o + k * 2 + 1, none⟩ = some (.int .i16 (secS l k))

theorem SecA.below {w w' : World} {A : Option Addr} {l : List (Int × Int)} (h : SecA w A l) (hb : Below w.heap.size w w') : SecA w' A l := by
  intro k hk
  obtain ⟨b, o, rfl, hlt, h1, h2⟩ := h k hk
  exact ⟨b, o, rfl, Nat.lt_of_lt_of_le hlt hb.size, (hb.cell (p := ⟨b, _, none⟩) hlt).trans h1, (hb.cell (p := ⟨b, _, none⟩) hlt).trans h2⟩

theorem SecA.of_own {w : World} {base : Nat} {e : TypeId} {A : Option Addr} {c : Nat} {l : List (Int × Int)} (h : w.ownsRow base e 2 (.slice A l.length c) l.length (secC l)) : SecA w A l := by
  intro k hk
  rcases h.2 with ⟨h', h0⟩ | ⟨g, cap, cur, h', hb, hg, _⟩
  · omega
  · simp only [Value.slice.injEq, true_and] at h'
    obtain ⟨rfl, rfl⟩ := h'
    refine ⟨g, 0, rfl, (Array.getElem?_eq_some_iff.1 hg).1, ?_, ?_⟩
    · rw [Nat.zero_add, h.cellAt (k * 2) (by omega), secC_even l k hk]
    · rw [Nat.zero_add, h.cellAt (k * 2 + 1) (by omega), secC_odd l k hk]

theorem secown_set2 {w : World} {base : Nat} {e : TypeId} {g n c : Nat} {l : List (Int × Int)} (h : w.ownsRow base e 2 (.slice (some ⟨g, 0, none⟩) n c) n (secC l)) (k : Nat) (a p : Int) :
    ((w.setCell ⟨g, k * 2, none⟩ (.int .i16 a)).setCell ⟨g, k * 2 + 1, none⟩ (.int .i16 p)).ownsRow base e 2 (.slice (some ⟨g, 0, none⟩) n c) n (secC (l.set k (a, p))) := by
  rw [secC_set]
  exact ((h.stored (k * 2) (.int .i16 a)).1.stored (k * 2 + 1) (.int .i16 p)).1

def secupto (l : List (Int × Int)) (k : Nat) : List (Int × Int) := l.take k ++ List.replicate (l.length - k) (0, 0)
theorem secupto_length (l : List (Int × Int)) (k : Nat) (h : k ≤ l.length) : (secupto l k).length = l.length := by simp [secupto]; omega
theorem secupto_set (l : List (Int × Int)) (k : Nat) (h : k < l.length) : (secupto l k).set k (secF l k, secS l k) = secupto l (k + 1) := by
  have e1 : l.length - k = (l.length - (k + 1)) + 1 := by omega
  have e2 : (secF l k, secS l k) = l[k] := by simp [secF, secS, List.getD, h]
  rw [secupto, secupto, e1, List.replicate_succ, e2, List.take_succ_eq_append_getElem h, List.set_append_right _ _ (by simp; omega)]
  simp only [List.length_take, show k - min k l.length = 0 by omega, List.set_cons_zero, List.append_assoc, List.cons_append, List.nil_append]
theorem secupto_zero (l : List (Int × Int)) : secupto l 0 = List.replicate l.length (0, 0) := by simp [secupto]
theorem secupto_all (l : List (Int × Int)) : secupto l l.length = l := by simp [secupto]

theorem secsame_of (l m : List (Int × Int)) (hl : l.length = m.length) (h : ∀ k, k < l.length → secF l k = secF m k ∧ secS l k = secS m k) : sameB l m = true := by
  refine decide_eq_true (List.ext_getElem hl fun k h1 h2 => ?_)
  have := h k h1
  simp only [secF, secS, List.getD, List.getElem?_eq_getElem h1, List.getElem?_eq_getElem h2, Option.getD_some] at this
  exact Prod.ext this.1 this.2
theorem secsame_not (l m : List (Int × Int)) (k : Nat) (h : ¬ (secF l k = secF m k ∧ secS l k = secS m k)) : sameB l m = false := by
  refine decide_eq_false fun e => h ?_
  rw [e]
  exact ⟨rfl, rfl⟩

end Go.Proofs.YtmjpecneaenlpaaDoor
namespace Go.Proofs.YtmjpecneaenlpaaDoor
open Go.RowKit

/-- block g holds these cells -/
def Bk (w : World) (g : Nat) (t : TypeId) (cs : Array Value) : Prop := w.heap[g]? = some (.cells cs t (0, 0))
theorem Bk.lt {w : World} {g : Nat} {t : TypeId} {cs : Array Value} (h : Bk w g t cs) : g < w.heap.size := (Array.getElem?_eq_some_iff.1 h).1
theorem Bk.cell {w : World} {g : Nat} {t : TypeId} {cs : Array Value} (h : Bk w g t cs) {i : Nat} {v : Value} (hv : cs[i]? = some v) : w.cell? ⟨g, i, none⟩ = some v := (cell_of_row w g i _ _ _ h).trans hv
theorem Bk.frozen {w : World} {g : Nat} {t : TypeId} {cs : Array Value} (h : Bk w g t cs) (i : Nat) : w.frozen? ⟨g, i, none⟩ = false := frozen_of_row w g i _ _ h
theorem Bk.grown {w w' : World} {g : Nat} {t : TypeId} {cs : Array Value} {row : Option Nat} (h : Bk w g t cs) (hg : w.grownBy w' row) (hne : row ≠ some g) : Bk w' g t cs := (hg.block g h.lt (fun e => hne e.symm)).trans h
theorem Bk.keep {w w' : World} {g : Nat} {t : TypeId} {cs : Array Value} (h : Bk w g t cs) (hb : Below w.heap.size w w') : Bk w' g t cs := (hb.block g h.lt).trans h
theorem Bk.other {w : World} {g b k : Nat} {t : TypeId} {cs : Array Value} (h : Bk w g t cs) (hne : g ≠ b) (v : Value) : Bk (w.setCell ⟨b, k, none⟩ v) g t cs := by
  unfold Bk at h ⊢
  rw [← h]
  exact heap_setCell_other w ⟨b, k, none⟩ g v hne
theorem Bk.new (w : World) (t : TypeId) (cs : Array Value) {k : Nat} (h : k = w.heap.size) : Bk (w.alloc (.cells cs t)) k t cs := heap_new' _ _ _ h
theorem Bk.old {w : World} {g : Nat} {t : TypeId} {cs : Array Value} (h : Bk w g t cs) (o : Obj) : Bk (w.alloc o) g t cs := heap_old' h
theorem Bk.range {w : World} {g : Nat} {t : TypeId} {cs : Array Value} (h : Bk w g t cs) (o : Nat) (l : List Value) (hl : ∀ j v, l[j]? = some v → cs[o + j]? = some v) : w.rangeAt g o l := fun j v hv => h.cell (hl j v hv)
theorem Bk.whole {w : World} {g : Nat} {t : TypeId} {cs : Array Value} (h : Bk w g t cs) : w.rangeAt g 0 cs.toList := h.range 0 _ (fun j v hv => by rw [Nat.zero_add]; simpa using hv)
theorem Bk.setRow {w : World} {g : Nat} {t : TypeId} {cs : Array Value} (h : Bk w g t cs) (cs' : Array Value) : Bk (w.setRow g cs') g t cs' := setRow_heap _ _ _ _ _ _ h
theorem below_setRow' {B g : Nat} {w w' : World} {cs : Array Value} (h : Below B w w') (hg : B ≤ g) : Below B w (w'.setRow g cs) :=
  h.trans ⟨rfl, rfl, rfl, by simp, fun k hk => setRow_other _ _ _ _ (by omega)⟩
theorem below_setCells' {B g : Nat} {w w' : World} (h : Below B w w') (hg : B ≤ g) (o : Nat) (cs : List Value) : Below B w (w'.setCells g o cs) := by
  induction cs generalizing w' o with
  | nil => exact h
  | cons v r ih => exact ih (h.setCell (p := ⟨g, o, none⟩) hg v) (o + 1)
theorem range_keep' {w w' : World} {b o : Nat} {cs : List Value} (h : w.rangeAt b o cs) (hb : Below w.heap.size w w') : w'.rangeAt b o cs := fun j v hv =>
  (hb.cell (p := ⟨b, o + j, none⟩) (World.block_lt_of_cell? w _ (h j v hv))).trans (h j v hv)
theorem range_lt' {w : World} {b o : Nat} {v : Value} {cs : List Value} (h : w.rangeAt b o (v :: cs)) : b < w.heap.size := World.block_lt_of_cell? w _ (h 0 v rfl)
end Go.Proofs.YtmjpecneaenlpaaDoor
