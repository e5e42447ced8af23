import Derived.WalkKit
import Derived.WalkSpells
import Derived.WalkLawsBesides
import Derived.BigQuiet
import Derived.Deep.QuietTactic
import Derived.Deep.RegionHeld3
namespace Go.Proofs.YtmjpecneaenlpaaDoor
open Go.RowKit

theorem ret_bool {x y : Bool} (h : x = y) : Ending.returned (.bool x) = .returned (.bool y) := by rw [h]
theorem ret_int {k : IntKind} {x y : Int} (h : x = y) : Ending.returned (.int k x) = .returned (.int k y) := by rw [h]
theorem ret_int' {k : IntKind} {x y : Int} (h : x = y) : Value.int k x = Value.int k y := by rw [h]
theorem hide {p : Prop} (h : p) : Hid p := h

/-- the notes as cells -/
def cellsOf (l : List (Int × Int)) : List Value := l.flatMap fun n => [.int .i16 n.1, .int .i8 n.2]
def nAt (l : List (Int × Int)) (k : Nat) : Int := (l.getD k (0, 0)).1
def nPi (l : List (Int × Int)) (k : Nat) : Int := (l.getD k (0, 0)).2

theorem cellsOf_nil : cellsOf [] = [] := rfl
theorem cellsOf_cons (n : Int × Int) (l : List (Int × Int)) : cellsOf (n :: l) = .int .i16 n.1 :: .int .i8 n.2 :: cellsOf l := rfl
theorem cellsOf_append (l m : List (Int × Int)) : cellsOf (l ++ m) = cellsOf l ++ cellsOf m := by simp [cellsOf]
theorem cellsOf_length (l : List (Int × Int)) : (cellsOf l).length = l.length * 2 := by
  induction l with
  | nil => rfl
  | cons n l ih => simp [cellsOf_cons, ih]; omega
theorem cellsOf_even (l : List (Int × Int)) : ∀ k, k < l.length → (cellsOf l)[k * 2]? = some (.int .i16 (nAt l k)) := by
  induction l with
  | nil => intro k h; simp at h
  | cons n l ih =>
    intro k h
    cases k with
    | zero => simp [cellsOf_cons, nAt]
    | succ k =>
      have := ih k (by simpa using h)
      rw [show (k + 1) * 2 = k * 2 + 1 + 1 from by omega]
      simpa [cellsOf_cons, nAt] using this
theorem cellsOf_odd (l : List (Int × Int)) : ∀ k, k < l.length → (cellsOf l)[k * 2 + 1]? = some (.int .i8 (nPi l k)) := by
  induction l with
  | nil => intro k h; simp at h
  | cons n l ih =>
    intro k h
    cases k with
    | zero => simp [cellsOf_cons, nPi]
    | succ k =>
      have := ih k (by simpa using h)
      rw [show (k + 1) * 2 + 1 = k * 2 + 1 + 1 + 1 from by omega]
      simpa [cellsOf_cons, nPi] using this
theorem cellsOf_set (l : List (Int × Int)) : ∀ (k : Nat) (a p : Int), cellsOf (l.set k (a, p)) = ((cellsOf l).set (k * 2) (.int .i16 a)).set (k * 2 + 1) (.int .i8 p) := by
  induction l with
  | nil => intro k a p; simp [cellsOf_nil]
  | cons n l ih =>
    intro k a p
    cases k with
    | zero => simp [cellsOf_cons]
    | succ k =>
      rw [show (k + 1) * 2 = k * 2 + 1 + 1 from by omega, show k * 2 + 1 + 1 + 1 = k * 2 + 1 + 1 + 1 from rfl]
      simp [cellsOf_cons, ih]
theorem cellsOf_replicate (n : Nat) : cellsOf (List.replicate n (0, 0)) = (madeCells #[.int .i16 0, .int .i8 0] (n * 2)).toList := by
  apply List.ext_getElem?
  intro j
  by_cases hj : j < n * 2
  · rcases Nat.mod_two_eq_zero_or_one j with h | h
    · obtain ⟨k, rfl⟩ : ∃ k, j = k * 2 := ⟨j / 2, by omega⟩
      rw [cellsOf_even _ k (by simp; omega)]
      simp only [madeCells, nAt, List.getD, List.getElem?_replicate]
      rw [if_pos (by omega)]
      simp [hj]
    · obtain ⟨k, rfl⟩ : ∃ k, j = k * 2 + 1 := ⟨j / 2, by omega⟩
      rw [cellsOf_odd _ k (by simp; omega)]
      simp only [madeCells, nPi, List.getD, List.getElem?_replicate]
      rw [if_pos (by omega)]
      simp [hj]
  · rw [List.getElem?_eq_none (by rw [cellsOf_length]; simp; omega), List.getElem?_eq_none (by simp [madeCells]; omega)]

/-- a slice's address under which the notes lie -/
def NA (w : World) (A : Option Addr) (l : List (Int × Int)) : Prop :=
  ∀ k, k < l.length → ∃ b o, A = some ⟨b, o, none⟩ ∧ b < w.heap.size ∧ w.cell? ⟨b, o + k * 2, none⟩ = some (.int .i16 (nAt l k)) ∧ w.cell? ⟨b, o + k * 2 + 1, none⟩ = some (.int .i8 (nPi l k))

theorem NA.below {w w' : World} {A : Option Addr} {l : List (Int × Int)} (h : NA w A l) (hb : Below w.heap.size w w') : NA w' A l := by
  intro k hk
  obtain ⟨b, o, rfl, hlt, h1, h2⟩ := h k hk
  exact ⟨b, o, rfl, Nat.lt_of_lt_of_le hlt hb.size, (hb.cell (p := ⟨b, _, none⟩) hlt).trans h1, (hb.cell (p := ⟨b, _, none⟩) hlt).trans h2⟩

theorem NA.of_own {w : World} {base : Nat} {e : TypeId} {A : Option Addr} {c : Nat} {l : List (Int × Int)} (h : w.ownsRow base e 2 (.slice A l.length c) l.length (cellsOf l)) : NA w A l := by
  intro k hk
  rcases h.2 with ⟨h', h0⟩ | ⟨g, cap, cur, h', hb, hg, _⟩
  · omega
  · simp only [Value.slice.injEq, true_and] at h'
    obtain ⟨rfl, rfl⟩ := h'
    refine ⟨g, 0, rfl, (Array.getElem?_eq_some_iff.1 hg).1, ?_, ?_⟩
    · rw [Nat.zero_add, h.cellAt (k * 2) (by omega), cellsOf_even l k hk]
    · rw [Nat.zero_add, h.cellAt (k * 2 + 1) (by omega), cellsOf_odd l k hk]

/-- a row of the call's own, whole -/
theorem own_keep {w w' : World} {base : Nat} {e : TypeId} {size n : Nat} {v : Value} {xs : List Value} (h : w.ownsRow base e size v n xs) (hb : Below w.heap.size w w') : w'.ownsRow base e size v n xs := by
  refine ⟨h.1, ?_⟩
  rcases h.2 with h' | ⟨g, cap, cur, h1, h2, h3, r⟩
  · exact Or.inl h'
  · exact Or.inr ⟨g, cap, cur, h1, h2, (hb.block g (Array.getElem?_eq_some_iff.1 h3).1).trans h3, r⟩

theorem own_base {w : World} {base base0 : Nat} {e : TypeId} {size n : Nat} {v : Value} {xs : List Value} (h : w.ownsRow base e size v n xs) (hle : base0 ≤ base) : w.ownsRow base0 e size v n xs :=
  ⟨h.1, h.2.imp id fun ⟨g, cap, cur, h1, h2, h3, r⟩ => ⟨g, cap, cur, h1, Nat.le_trans hle h2, h3, r⟩⟩

theorem own_set2 {w : World} {base : Nat} {e : TypeId} {g n c : Nat} {l : List (Int × Int)} (h : w.ownsRow base e 2 (.slice (some ⟨g, 0, none⟩) n c) n (cellsOf l)) (k : Nat) (a p : Int) :
    ((w.setCell ⟨g, k * 2, none⟩ (.int .i16 a)).setCell ⟨g, k * 2 + 1, none⟩ (.int .i8 p)).ownsRow base e 2 (.slice (some ⟨g, 0, none⟩) n c) n (cellsOf (l.set k (a, p))) := by
  rw [cellsOf_set]
  exact ((h.stored (k * 2) (.int .i16 a)).1.stored (k * 2 + 1) (.int .i8 p)).1
theorem step_below {wr W w2 : World} (hbn : Below W.heap.size W w2) (h : Below wr.heap.size wr W) : Below wr.heap.size wr w2 := h.trans (hbn.mono h.size)
/-- a world that has come of this one by new blocks -/
structure Later (B : World) where
  w : World
  h : Below B.heap.size B w
instance (B : World) : Inhabited (Later B) := ⟨⟨B, Below.refl _ _⟩⟩
theorem wp_region_later {P : Program} {id : Nat} {Q : Exit → Act → World → Prop} {a : Act} {w : World} {l : List Oper} (hm : P.follows .mixedOrders = true) (hB : Region.lexB .any l.toArray = true)
    (h : wpQuiet P l.toArray (fun w' => ∃ p : Later w, w' = p.w) (fun a' => ∀ w', (∃ p : Later w, w' = p.w) → Q .normal a' w') l a) : (Code.region id l.toArray true).wp P Q a w :=
  wp_region_quiet (C := fun w' => ∃ p : Later w, w' = p.w) hm hB ⟨⟨w.drew, (Below.refl _ _).drew⟩, rfl⟩ (by simpa using h)
theorem Later.cell {w : World} {a : Addr} {v : Value} (h : w.cell? a = some v) (p : Later w) : p.w.cell? a = some v := (p.h.cell (World.block_lt_of_cell? w a h)).trans h
theorem Later.call {P : Program} {f : FuncId} {args : Array Value} {w : World} {p : Later w} {v : Value}
    (h : Calls P f args p.w fun e w' => e = .returned v ∧ Below p.w.heap.size p.w w') : Calls P f args p.w fun e w'' => e = .returned v ∧ ∃ q : Later w, w'' = q.w :=
  h.mono fun _ w'' ⟨he, hb⟩ => ⟨he, ⟨w'', p.h.trans (hb.mono p.h.size)⟩, rfl⟩
theorem Later.same {P : Program} {f : FuncId} {args : Array Value} {w : World} {p : Later w} {v : Value}
    (h : Calls P f args p.w fun e w' => e = .returned v ∧ p.w = w') : Calls P f args p.w fun e w'' => e = .returned v ∧ ∃ q : Later w, w'' = q.w :=
  h.mono fun _ _ ⟨he, hb⟩ => ⟨he, p, hb.symm⟩
end Go.Proofs.YtmjpecneaenlpaaDoor
