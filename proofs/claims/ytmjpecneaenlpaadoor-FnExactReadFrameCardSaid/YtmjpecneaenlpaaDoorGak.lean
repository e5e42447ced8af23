import Derived.Test.YtmjpecneaenlpaaDoorBase
import Derived.Test.YtmjpecneaenlpaaDoorGah
import Derived.Test.YtmjpecneaenlpaaDoorProg
namespace Go.Proofs.YtmjpecneaenlpaaDoor
open Go.RowKit

/-- the hammers as cells -/
def hcells (l : List (Int × Int)) : List Value := l.flatMap fun n => [.int .i8 n.1, .int .i8 n.2]
def hPi (l : List (Int × Int)) (k : Nat) : Int := (l.getD k (0, 0)).1
def hRe (l : List (Int × Int)) (k : Nat) : Int := (l.getD k (0, 0)).2

theorem hcells_nil : hcells [] = [] := rfl
theorem hcells_cons (n : Int × Int) (l : List (Int × Int)) : hcells (n :: l) = .int .i8 n.1 :: .int .i8 n.2 :: hcells l := rfl
theorem hcells_append (l m : List (Int × Int)) : hcells (l ++ m) = hcells l ++ hcells m := by simp [hcells]
theorem hcells_length (l : List (Int × Int)) : (hcells l).length = l.length * 2 := by
  induction l with
  | nil => rfl
  | cons n l ih => simp [hcells_cons, ih]; omega
theorem hcells_even (l : List (Int × Int)) : ∀ k, k < l.length → (hcells l)[k * 2]? = some (.int .i8 (hPi l k)) := by
  induction l with
  | nil => intro k h; simp at h
  | cons n l ih =>
    intro k h
    cases k with
    | zero => simp [hcells_cons, hPi]
    | succ k =>
      have := ih k (by simpa using h)
      rw [show (k + 1) * 2 = k * 2 + 1 + 1 from by omega]
      simpa [hcells_cons, hPi] using this
theorem hcells_odd (l : List (Int × Int)) : ∀ k, k < l.length → (hcells l)[k * 2 + 1]? = some (.int .i8 (hRe l k)) := by
  induction l with
  | nil => intro k h; simp at h
  | cons n l ih =>
    intro k h
    cases k with
    | zero => simp [hcells_cons, hRe]
    | succ k =>
      have := ih k (by simpa using h)
      rw [show (k + 1) * 2 + 1 = k * 2 + 1 + 1 + 1 from by omega]
      simpa [hcells_cons, hRe] using this
theorem hcells_set (l : List (Int × Int)) : ∀ (k : Nat) (a p : Int), hcells (l.set k (a, p)) = ((hcells l).set (k * 2) (.int .i8 a)).set (k * 2 + 1) (.int .i8 p) := by
  induction l with
  | nil => intro k a p; simp [hcells_nil]
  | cons n l ih =>
    intro k a p
    cases k with
    | zero => simp [hcells_cons]
    | succ k =>
      rw [show (k + 1) * 2 = k * 2 + 1 + 1 from by omega, show k * 2 + 1 + 1 + 1 = k * 2 + 1 + 1 + 1 from rfl]
      simp [hcells_cons, ih]
theorem hcells_replicate (n : Nat) : hcells (List.replicate n (0, 0)) = (madeCells #[.int .i8 0, .int .i8 0] (n * 2)).toList := by
  apply List.ext_getElem?
  intro j
  by_cases hj : j < n * 2
  · rcases Nat.mod_two_eq_zero_or_one j with h | h
    · obtain ⟨k, rfl⟩ : ∃ k, j = k * 2 := ⟨j / 2, by omega⟩
      rw [hcells_even _ k (by simp; omega)]
      simp only [madeCells, hPi, List.getD, List.getElem?_replicate]
      rw [if_pos (by omega)]
      simp [hj]
    · obtain ⟨k, rfl⟩ : ∃ k, j = k * 2 + 1 := ⟨j / 2, by omega⟩
      rw [hcells_odd _ k (by simp; omega)]
      simp only [madeCells, hRe, List.getD, List.getElem?_replicate]
      rw [if_pos (by omega)]
      simp [hj]
  · rw [List.getElem?_eq_none (by rw [hcells_length]; simp; omega), List.getElem?_eq_none (by simp [madeCells]; omega)]

/-- a slice's address under which the hammers lie -/
def HA (w : World) (A : Option Addr) (l : List (Int × Int)) : Prop :=
  ∀ k, k < l.length → ∃ b o, A = some ⟨b, o, none⟩ ∧ b < w.heap.size ∧ w.cell? ⟨b, o + k * 2, none⟩ = some (.int .i8 (hPi l k)) ∧ w.cell? ⟨b, o + k * 2 + 1, none⟩ = some (.int .i8 (hRe l k))

theorem HA.below {w w' : World} {A : Option Addr} {l : List (Int × Int)} (h : HA w A l) (hb : Below w.heap.size w w') : HA w' A l := by
  intro k hk
  obtain ⟨b, o, rfl, hlt, h1, h2⟩ := h k hk
  exact ⟨b, o, rfl, Nat.lt_of_lt_of_le hlt hb.size, (hb.cell (p := ⟨b, _, none⟩) hlt).trans h1, (hb.cell (p := ⟨b, _, none⟩) hlt).trans h2⟩

theorem HA.of_own {w : World} {base : Nat} {e : TypeId} {A : Option Addr} {c : Nat} {l : List (Int × Int)} (h : w.ownsRow base e 2 (.slice A l.length c) l.length (hcells l)) : HA w A l := by
  intro k hk
  rcases h.2 with ⟨h', h0⟩ | ⟨g, cap, cur, h', hb, hg, _⟩
  · omega
  · simp only [Value.slice.injEq, true_and] at h'
    obtain ⟨rfl, rfl⟩ := h'
    refine ⟨g, 0, rfl, (Array.getElem?_eq_some_iff.1 hg).1, ?_, ?_⟩
    · rw [Nat.zero_add, h.cellAt (k * 2) (by omega), hcells_even l k hk]
    · rw [Nat.zero_add, h.cellAt (k * 2 + 1) (by omega), hcells_odd l k hk]

theorem hown_set2 {w : World} {base : Nat} {e : TypeId} {g n c : Nat} {l : List (Int × Int)} (h : w.ownsRow base e 2 (.slice (some ⟨g, 0, none⟩) n c) n (hcells l)) (k : Nat) (a p : Int) :
    ((w.setCell ⟨g, k * 2, none⟩ (.int .i8 a)).setCell ⟨g, k * 2 + 1, none⟩ (.int .i8 p)).ownsRow base e 2 (.slice (some ⟨g, 0, none⟩) n c) n (hcells (l.set k (a, p))) := by
  rw [hcells_set]
  exact ((h.stored (k * 2) (.int .i8 a)).1.stored (k * 2 + 1) (.int .i8 p)).1

def hupto (l : List (Int × Int)) (k : Nat) : List (Int × Int) := l.take k ++ List.replicate (l.length - k) (0, 0)
theorem hupto_length (l : List (Int × Int)) (k : Nat) (h : k ≤ l.length) : (hupto l k).length = l.length := by simp [hupto]; omega
theorem hupto_set (l : List (Int × Int)) (k : Nat) (h : k < l.length) : (hupto l k).set k (hPi l k, hRe l k) = hupto l (k + 1) := by
  have e1 : l.length - k = (l.length - (k + 1)) + 1 := by omega
  have e2 : (hPi l k, hRe l k) = l[k] := by simp [hPi, hRe, List.getD, h]
  rw [hupto, hupto, e1, List.replicate_succ, e2, List.take_succ_eq_append_getElem h, List.set_append_right _ _ (by simp; omega)]
  simp only [List.length_take, show k - min k l.length = 0 by omega, List.set_cons_zero, List.append_assoc, List.cons_append, List.nil_append]
theorem hupto_zero (l : List (Int × Int)) : hupto l 0 = List.replicate l.length (0, 0) := by simp [hupto]
theorem hupto_all (l : List (Int × Int)) : hupto l l.length = l := by simp [hupto]

end Go.Proofs.YtmjpecneaenlpaaDoor
namespace Go.Proofs.YtmjpecneaenlpaaDoor
open Go.RowKit
theorem info62 : (Tryd.prog.info? 62).map (fun i => (i.zero, i.size, i.bytes)) = some (some (.agg #[.int .i8 0, .int .i8 0]), 2, 2) := by kernel_rfl

/-- what toHammerS leaves -/
def MadeH (w : World) (l : List (Int × Int)) (e : Ending) (w' : World) : Prop :=
  e = .returned (.slice (some ⟨w.heap.size, 0, none⟩) l.length l.length) ∧ w'.ownsRow w.heap.size 62 2 (.slice (some ⟨w.heap.size, 0, none⟩) l.length l.length) l.length (hcells l) ∧ Below w.heap.size w w'

theorem heap_new' (w : World) (o : Obj) (k : Nat) (h : k = w.heap.size) : (w.alloc o).heap[k]? = some o := by subst h; exact heap_alloc_new w o
theorem heap_old' {w : World} {o x : Obj} {k : Nat} (h : w.heap[k]? = some x) : (w.alloc o).heap[k]? = some x := by
  rw [heap_alloc_old w o (Array.getElem?_eq_some_iff.1 h).1]; exact h

theorem own_other {w w' : World} {base g c : Nat} {e : TypeId} {size n : Nat} {xs : List Value} (h : w.ownsRow base e size (.slice (some ⟨g, 0, none⟩) n c) n xs) (hg : w'.heap[g]? = w.heap[g]?) : w'.ownsRow base e size (.slice (some ⟨g, 0, none⟩) n c) n xs := by
  refine ⟨h.1, ?_⟩
  rcases h.2 with h' | ⟨g', cap, cur, h1, h2, h3, r⟩
  · exact Or.inl h'
  · obtain ⟨rfl, rfl⟩ : g = g' ∧ c = cap := by simpa using h1
    exact Or.inr ⟨g, c, cur, h1, h2, hg.trans h3, r⟩

/-- what toFrame leaves: a frame whose hammers lie under an address of its own -/
def MadeF (w : World) (s : Int) (l : List (Int × Int)) (e : Ending) (w' : World) : Prop :=
  ∃ g, e = .returned (.agg #[.int .i16 s, .slice (some ⟨g, 0, none⟩) l.length l.length]) ∧ w.heap.size ≤ g ∧ w'.ownsRow g 62 2 (.slice (some ⟨g, 0, none⟩) l.length l.length) l.length (hcells l) ∧ Below w.heap.size w w'
end Go.Proofs.YtmjpecneaenlpaaDoor
