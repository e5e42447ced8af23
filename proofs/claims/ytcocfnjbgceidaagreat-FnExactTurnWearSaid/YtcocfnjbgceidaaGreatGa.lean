import Derived.WalkKit
import Derived.WalkSpells
import Derived.WalkLawsBesides
import Derived.BigQuiet
import Derived.Deep.QuietTactic
import Derived.Deep.RegionHeld3
import Derived.Test.YtcocfnjbgceidaaGreatProg
import Derived.Maps.OwnOps
namespace Go.Proofs.YtcocfnjbgceidaaGreat
open Go.RowKit

theorem ret_bool {x y : Bool} (h : x = y) : Ending.returned (.bool x) = .returned (.bool y) := by rw [h]
theorem ret_int {k : IntKind} {x y : Int} (h : x = y) : Ending.returned (.int k x) = .returned (.int k y) := by rw [h]
theorem ret_int' {k : IntKind} {x y : Int} (h : x = y) : Value.int k x = Value.int k y := by rw [h]
theorem hide {p : Prop} (h : p) : Hid p := h

/-- the notes as cells -/
def cellsOf (l : List (Int × Int)) : List Value := l.flatMap fun n => [.int .i16 n.1, .int .i8 n.2]
def nAt (l : List (Int × Int)) (k : Nat) : Int := (l.getD k (0, 0)).1
def nPi (l : List (Int × Int)) (k : Nat) : Int := (l.getD k (0, 0)).2

theorem cellsOf_nil : cellsOf [] = [] := rfl
theorem cellsOf_cons (n : Int × Int) (l : List (Int × Int)) : cellsOf (n :: l) = .int .i16 n.1 :: .int .i8 n.2 :: cellsOf l := rfl
theorem cellsOf_append (l m : List (Int × Int)) : cellsOf (l ++ m) = cellsOf l ++ cellsOf m := by simp [cellsOf]
theorem cellsOf_length (l : List (Int × Int)) : (cellsOf l).length = l.length * 2 := by
  induction l with
  | nil => rfl
  | cons n l ih => simp [cellsOf_cons, ih]; omega
theorem cellsOf_even (l : List (Int × Int)) : ∀ k, k < l.length → (cellsOf l)[k * 2]? = some (.int .i16 (nAt l k)) := by
  induction l with
  | nil => intro k h; simp at h
  | cons n l ih =>
    intro k h
    cases k with
    | zero => simp [cellsOf_cons, nAt]
    | succ k =>
      have := ih k (by simpa using h)
      rw [show (k + 1) * 2 = k * 2 + 1 + 1 from by omega]
      simpa [cellsOf_cons, nAt] using this
theorem cellsOf_odd (l : List (Int × Int)) : ∀ k, k < l.length → (cellsOf l)[k * 2 + 1]? = some (.int .i8 (nPi l k)) := by
  induction l with
  | nil => intro k h; simp at h
  | cons n l ih =>
    intro k h
    cases k with
    | zero => simp [cellsOf_cons, nPi]
    | succ k =>
      have := ih k (by simpa using h)
      rw [show (k + 1) * 2 + 1 = k * 2 + 1 + 1 + 1 from by omega]
      simpa [cellsOf_cons, nPi] using this
theorem cellsOf_set (l : List (Int × Int)) : ∀ (k : Nat) (a p : Int), cellsOf (l.set k (a, p)) = ((cellsOf l).set (k * 2) (.int .i16 a)).set (k * 2 + 1) (.int .i8 p) := by
  induction l with
  | nil => intro k a p; simp [cellsOf_nil]
  | cons n l ih =>
    intro k a p
    cases k with
    | zero => simp [cellsOf_cons]
    | succ k =>
      rw [show (k + 1) * 2 = k * 2 + 1 + 1 from by omega, show k * 2 + 1 + 1 + 1 = k * 2 + 1 + 1 + 1 from rfl]
      simp [cellsOf_cons, ih]
theorem cellsOf_replicate (n : Nat) : cellsOf (List.replicate n (0, 0)) = (madeCells #[.int .i16 0, .int .i8 0] (n * 2)).toList := by
  apply List.ext_getElem?
  intro j
  by_cases hj : j < n * 2
  · rcases Nat.mod_two_eq_zero_or_one j with h | h
    · obtain ⟨k, rfl⟩ : ∃ k, j = k * 2 := ⟨j / 2, by omega⟩
      rw [cellsOf_even _ k (by simp; omega)]
      simp only [madeCells, nAt, List.getD, List.getElem?_replicate]
      rw [if_pos (by omega)]
      simp [hj]
    · obtain ⟨k, rfl⟩ : ∃ k, j = k * 2 + 1 := ⟨j / 2, by omega⟩
      rw [cellsOf_odd _ k (by simp; omega)]
      simp only [madeCells, nPi, List.getD, List.getElem?_replicate]
      rw [if_pos (by omega)]
      simp [hj]
  · rw [List.getElem?_eq_none (by rw [cellsOf_length]; simp; omega), List.getElem?_eq_none (by simp [madeCells]; omega)]

/-- a slice's address under which the notes lie -/
def NA (w : World) (A : Option Addr) (l : List (Int × Int)) : Prop :=
  ∀ k, k < l.length → ∃ b o, A = some ⟨b, o, none⟩ ∧ b < w.heap.size ∧ w.cell? ⟨b, o + k * 2, none⟩ = some (.int .i16 (nAt l k)) ∧ w.cell? ⟨b, o + k * 2 + 1, none⟩ = some (.int .i8 (nPi l k))

theorem NA.below {w w' : World} {A : Option Addr} {l : List (Int × Int)} (h : NA w A l) (hb : Below w.heap.size w w') : NA w' A l := by
  intro k hk
  obtain ⟨b, o, rfl, hlt, h1, h2⟩ := h k hk
  exact ⟨b, o, rfl, Nat.lt_of_lt_of_le hlt hb.size, (hb.cell (p := ⟨b, _, none⟩) hlt).trans h1, (hb.cell (p := ⟨b, _, none⟩) hlt).trans h2⟩

theorem NA.of_own {w : World} {base : Nat} {e : TypeId} {A : Option Addr} {c : Nat} {l : List (Int × Int)} (h : w.ownsRow base e 2 (.slice A l.length c) l.length (cellsOf l)) : NA w A l := by
  intro k hk
  rcases h.2 with ⟨h', h0⟩ | ⟨g, cap, cur, h', hb, hg, _⟩
  · omega
  · simp only [Value.slice.injEq, true_and] at h'
    obtain ⟨rfl, rfl⟩ := h'
    refine ⟨g, 0, rfl, (Array.getElem?_eq_some_iff.1 hg).1, ?_, ?_⟩
    · rw [Nat.zero_add, h.cellAt (k * 2) (by omega), cellsOf_even l k hk]
    · rw [Nat.zero_add, h.cellAt (k * 2 + 1) (by omega), cellsOf_odd l k hk]

/-- a row of the call's own, whole -/
theorem own_keep {w w' : World} {base : Nat} {e : TypeId} {size n : Nat} {v : Value} {xs : List Value} (h : w.ownsRow base e size v n xs) (hb : Below w.heap.size w w') : w'.ownsRow base e size v n xs := by
  refine ⟨h.1, ?_⟩
  rcases h.2 with h' | ⟨g, cap, cur, h1, h2, h3, r⟩
  · exact Or.inl h'
  · exact Or.inr ⟨g, cap, cur, h1, h2, (hb.block g (Array.getElem?_eq_some_iff.1 h3).1).trans h3, r⟩

theorem own_base {w : World} {base base0 : Nat} {e : TypeId} {size n : Nat} {v : Value} {xs : List Value} (h : w.ownsRow base e size v n xs) (hle : base0 ≤ base) : w.ownsRow base0 e size v n xs :=
  ⟨h.1, h.2.imp id fun ⟨g, cap, cur, h1, h2, h3, r⟩ => ⟨g, cap, cur, h1, Nat.le_trans hle h2, h3, r⟩⟩

theorem own_set2 {w : World} {base : Nat} {e : TypeId} {g n c : Nat} {l : List (Int × Int)} (h : w.ownsRow base e 2 (.slice (some ⟨g, 0, none⟩) n c) n (cellsOf l)) (k : Nat) (a p : Int) :
    ((w.setCell ⟨g, k * 2, none⟩ (.int .i16 a)).setCell ⟨g, k * 2 + 1, none⟩ (.int .i8 p)).ownsRow base e 2 (.slice (some ⟨g, 0, none⟩) n c) n (cellsOf (l.set k (a, p))) := by
  rw [cellsOf_set]
  exact ((h.stored (k * 2) (.int .i16 a)).1.stored (k * 2 + 1) (.int .i8 p)).1
theorem step_below {wr W w2 : World} (hbn : Below W.heap.size W w2) (h : Below wr.heap.size wr W) : Below wr.heap.size wr w2 := h.trans (hbn.mono h.size)
/-- a world that has come of this one by new blocks -/
structure Later (B : World) where
  w : World
  h : Below B.heap.size B w
instance (B : World) : Inhabited (Later B) := ⟨⟨B, Below.refl _ _⟩⟩
theorem wp_region_later {P : Program} {id : Nat} {Q : Exit → Act → World → Prop} {a : Act} {w : World} {l : List Oper} (hm : P.follows .mixedOrders = true) (hB : Region.lexB .any l.toArray = true)
    (h : wpQuiet P l.toArray (fun w' => ∃ p : Later w, w' = p.w) (fun a' => ∀ w', (∃ p : Later w, w' = p.w) → Q .normal a' w') l a) : (Code.region id l.toArray true).wp P Q a w :=
  wp_region_quiet (C := fun w' => ∃ p : Later w, w' = p.w) hm hB ⟨⟨w.drew, (Below.refl _ _).drew⟩, rfl⟩ (by simpa using h)
theorem Later.cell {w : World} {a : Addr} {v : Value} (h : w.cell? a = some v) (p : Later w) : p.w.cell? a = some v := (p.h.cell (World.block_lt_of_cell? w a h)).trans h
theorem Later.call {P : Program} {f : FuncId} {args : Array Value} {w : World} {p : Later w} {v : Value}
    (h : Calls P f args p.w fun e w' => e = .returned v ∧ Below p.w.heap.size p.w w') : Calls P f args p.w fun e w'' => e = .returned v ∧ ∃ q : Later w, w'' = q.w :=
  h.mono fun _ w'' ⟨he, hb⟩ => ⟨he, ⟨w'', p.h.trans (hb.mono p.h.size)⟩, rfl⟩
theorem Later.same {P : Program} {f : FuncId} {args : Array Value} {w : World} {p : Later w} {v : Value}
    (h : Calls P f args p.w fun e w' => e = .returned v ∧ p.w = w') : Calls P f args p.w fun e w'' => e = .returned v ∧ ∃ q : Later w, w'' = q.w :=
  h.mono fun _ _ ⟨he, hb⟩ => ⟨he, p, hb.symm⟩
end Go.Proofs.YtcocfnjbgceidaaGreat
namespace Go.Proofs.YtcocfnjbgceidaaGreat
open Go.RowKit
/-- a bool comes back; what there was is as it was -/
def Says (b : Bool) (w : World) (e : Ending) (w' : World) : Prop := e = .returned (.bool b) ∧ Below w.heap.size w w'
def inB (n l m : Int) : Bool := decide (l ≤ n ∧ n ≤ m)
theorem l00In_any (n l m : Int) (w : World) :
    Calls Tryz.prog 46 #[.int .i64 n, .int .i64 l, .int .i64 m] w fun e w' => e = .returned (.bool (inB n l m)) ∧ w = w' := by
  go_enter Tryz.func46, Tryz.ntmps46
  go_wp2
  all_goals go_ret
  all_goals exact ⟨ret_bool (by simp [inB] <;> omega), rfl⟩
theorem within_any (n l m : Int) (w : World) :
    Calls Tryz.prog 73 #[.int .i64 n, .int .i64 l, .int .i64 m] w fun e w' => e = .returned (.bool (inB n l m)) ∧ w = w' := by
  go_enter Tryz.func73, Tryz.ntmps73
  go_wp2
  all_goals go_ret
  all_goals exact ⟨ret_bool (by simp [inB] <;> omega), rfl⟩
def sameB (l m : List (Int × Int)) : Bool := decide (l = m)
/-- two values come back; what there was is as it was -/
def Pair (x y : Value) (w : World) (e : Ending) (w' : World) : Prop := e = .returned (.tuple #[x, y]) ∧ Below w.heap.size w w'
def codeI (b : Bool) : Int := if b then 0 else 1
/-- a number where the bool says yes, and 0 -/
def onlyI (b : Bool) (x : Int) : Int := if b then x else 0
theorem ret2 {x x' y y' : Value} (h1 : x = x') (h2 : y = y') : Ending.returned (.tuple #[x, y]) = .returned (.tuple #[x', y']) := by rw [h1, h2]
set_option maxRecDepth 20000 in
theorem bool_inv {v : Value} {z : DataW Unit × List MemPlace} (h : plainElem Tryz.prog 4 v = some z) : ∃ x, v = .bool x ∧ z = (.lit (.bool x), []) := by
  unfold plainElem at h
  rw [Tryz.underlying4] at h
  cases v <;> simp at h
  exact ⟨_, rfl, h.symm⟩
theorem info238 : (Tryz.prog.info? 238).map (fun i => (i.zero, i.size, i.bytes)) = some (some (.agg #[.int .i16 0, .int .i8 0]), 2, 4) := by kernel_rfl
theorem info2 : (Tryz.prog.info? 2).map (fun i => (i.zero, i.size, i.bytes)) = some (some (.int .i64 0), 1, 8) := by kernel_rfl
theorem sameB_refl (l : List (Int × Int)) : sameB l l = true := decide_eq_true rfl
theorem mapM_all {α β : Type} (f : α → Option β) (g : α → β) : ∀ l : List α, (∀ x ∈ l, f x = some (g x)) → l.mapM f = some (l.map g)
  | [], _ => rfl
  | a :: l, h => by
    rw [List.mapM_cons, h a (by simp), mapM_all f g l fun x hx => h x (by simp [hx])]
    rfl
theorem grown_refl (w : World) (row : Option Nat) : w.grownBy w row := ⟨rfl, rfl, rfl, Nat.le_refl _, fun _ _ _ => rfl⟩
theorem grown_set {w w' : World} {g i : Nat} {v : Value} (h : w.grownBy w' (some g)) : w.grownBy (w'.setCell ⟨g, i, none⟩ v) (some g) :=
  h.trans ⟨rfl, rfl, rfl, by simp, fun j _ hne => heap_setCell_other w' ⟨g, i, none⟩ j v (fun e => hne (by rw [e]))⟩
end Go.Proofs.YtcocfnjbgceidaaGreat
namespace Go.Proofs.YtcocfnjbgceidaaGreat
open Go.RowKit

/-- the hammers as cells -/
def hcells (l : List (Int × Int)) : List Value := l.flatMap fun n => [.int .i8 n.1, .int .i8 n.2]
def hPi (l : List (Int × Int)) (k : Nat) : Int := (l.getD k (0, 0)).1
def hRe (l : List (Int × Int)) (k : Nat) : Int := (l.getD k (0, 0)).2

theorem hcells_nil : hcells [] = [] := rfl
theorem hcells_cons (n : Int × Int) (l : List (Int × Int)) : hcells (n :: l) = .int .i8 n.1 :: .int .i8 n.2 :: hcells l := rfl
theorem hcells_append (l m : List (Int × Int)) : hcells (l ++ m) = hcells l ++ hcells m := by simp [hcells]
theorem hcells_length (l : List (Int × Int)) : (hcells l).length = l.length * 2 := by
  induction l with
  | nil => rfl
  | cons n l ih => simp [hcells_cons, ih]; omega
theorem hcells_even (l : List (Int × Int)) : ∀ k, k < l.length → (hcells l)[k * 2]? = some (.int .i8 (hPi l k)) := by
  induction l with
  | nil => intro k h; simp at h
  | cons n l ih =>
    intro k h
    cases k with
    | zero => simp [hcells_cons, hPi]
    | succ k =>
      have := ih k (by simpa using h)
      rw [show (k + 1) * 2 = k * 2 + 1 + 1 from by omega]
      simpa [hcells_cons, hPi] using this
theorem hcells_odd (l : List (Int × Int)) : ∀ k, k < l.length → (hcells l)[k * 2 + 1]? = some (.int .i8 (hRe l k)) := by
  induction l with
  | nil => intro k h; simp at h
  | cons n l ih =>
    intro k h
    cases k with
    | zero => simp [hcells_cons, hRe]
    | succ k =>
      have := ih k (by simpa using h)
      rw [show (k + 1) * 2 + 1 = k * 2 + 1 + 1 + 1 from by omega]
      simpa [hcells_cons, hRe] using this
theorem hcells_set (l : List (Int × Int)) : ∀ (k : Nat) (a p : Int), hcells (l.set k (a, p)) = ((hcells l).set (k * 2) (.int .i8 a)).set (k * 2 + 1) (.int .i8 p) := by
  induction l with
  | nil => intro k a p; simp [hcells_nil]
  | cons n l ih =>
    intro k a p
    cases k with
    | zero => simp [hcells_cons]
    | succ k =>
      rw [show (k + 1) * 2 = k * 2 + 1 + 1 from by omega, show k * 2 + 1 + 1 + 1 = k * 2 + 1 + 1 + 1 from rfl]
      simp [hcells_cons, ih]
theorem hcells_replicate (n : Nat) : hcells (List.replicate n (0, 0)) = (madeCells #[.int .i8 0, .int .i8 0] (n * 2)).toList := by
  apply List.ext_getElem?
  intro j
  by_cases hj : j < n * 2
  · rcases Nat.mod_two_eq_zero_or_one j with h | h
    · obtain ⟨k, rfl⟩ : ∃ k, j = k * 2 := ⟨j / 2, by omega⟩
      rw [hcells_even _ k (by simp; omega)]
      simp only [madeCells, hPi, List.getD, List.getElem?_replicate]
      rw [if_pos (by omega)]
      simp [hj]
    · obtain ⟨k, rfl⟩ : ∃ k, j = k * 2 + 1 := ⟨j / 2, by omega⟩
      rw [hcells_odd _ k (by simp; omega)]
      simp only [madeCells, hRe, List.getD, List.getElem?_replicate]
      rw [if_pos (by omega)]
      simp [hj]
  · rw [List.getElem?_eq_none (by rw [hcells_length]; simp; omega), List.getElem?_eq_none (by simp [madeCells]; omega)]

/-- a slice's address under which the hammers lie -/
def HA (w : World) (A : Option Addr) (l : List (Int × Int)) : Prop :=
  ∀ k, k < l.length → ∃ b o, A = some ⟨b, o, none⟩ ∧ b < w.heap.size ∧ w.cell? ⟨b, o + k * 2, none⟩ = some (.int .i8 (hPi l k)) ∧ w.cell? ⟨b, o + k * 2 + 1, none⟩ = some (.int .i8 (hRe l k))

theorem HA.below {w w' : World} {A : Option Addr} {l : List (Int × Int)} (h : HA w A l) (hb : Below w.heap.size w w') : HA w' A l := by
  intro k hk
  obtain ⟨b, o, rfl, hlt, h1, h2⟩ := h k hk
  exact ⟨b, o, rfl, Nat.lt_of_lt_of_le hlt hb.size, (hb.cell (p := ⟨b, _, none⟩) hlt).trans h1, (hb.cell (p := ⟨b, _, none⟩) hlt).trans h2⟩

theorem HA.of_own {w : World} {base : Nat} {e : TypeId} {A : Option Addr} {c : Nat} {l : List (Int × Int)} (h : w.ownsRow base e 2 (.slice A l.length c) l.length (hcells l)) : HA w A l := by
  intro k hk
  rcases h.2 with ⟨h', h0⟩ | ⟨g, cap, cur, h', hb, hg, _⟩
  · omega
  · simp only [Value.slice.injEq, true_and] at h'
    obtain ⟨rfl, rfl⟩ := h'
    refine ⟨g, 0, rfl, (Array.getElem?_eq_some_iff.1 hg).1, ?_, ?_⟩
    · rw [Nat.zero_add, h.cellAt (k * 2) (by omega), hcells_even l k hk]
    · rw [Nat.zero_add, h.cellAt (k * 2 + 1) (by omega), hcells_odd l k hk]

theorem hown_set2 {w : World} {base : Nat} {e : TypeId} {g n c : Nat} {l : List (Int × Int)} (h : w.ownsRow base e 2 (.slice (some ⟨g, 0, none⟩) n c) n (hcells l)) (k : Nat) (a p : Int) :
    ((w.setCell ⟨g, k * 2, none⟩ (.int .i8 a)).setCell ⟨g, k * 2 + 1, none⟩ (.int .i8 p)).ownsRow base e 2 (.slice (some ⟨g, 0, none⟩) n c) n (hcells (l.set k (a, p))) := by
  rw [hcells_set]
  exact ((h.stored (k * 2) (.int .i8 a)).1.stored (k * 2 + 1) (.int .i8 p)).1

def hupto (l : List (Int × Int)) (k : Nat) : List (Int × Int) := l.take k ++ List.replicate (l.length - k) (0, 0)
theorem hupto_length (l : List (Int × Int)) (k : Nat) (h : k ≤ l.length) : (hupto l k).length = l.length := by simp [hupto]; omega
theorem hupto_set (l : List (Int × Int)) (k : Nat) (h : k < l.length) : (hupto l k).set k (hPi l k, hRe l k) = hupto l (k + 1) := by
  have e1 : l.length - k = (l.length - (k + 1)) + 1 := by omega
  have e2 : (hPi l k, hRe l k) = l[k] := by simp [hPi, hRe, List.getD, h]
  rw [hupto, hupto, e1, List.replicate_succ, e2, List.take_succ_eq_append_getElem h, List.set_append_right _ _ (by simp; omega)]
  simp only [List.length_take, show k - min k l.length = 0 by omega, List.set_cons_zero, List.append_assoc, List.cons_append, List.nil_append]
theorem hupto_zero (l : List (Int × Int)) : hupto l 0 = List.replicate l.length (0, 0) := by simp [hupto]
theorem hupto_all (l : List (Int × Int)) : hupto l l.length = l := by simp [hupto]

end Go.Proofs.YtcocfnjbgceidaaGreat
namespace Go.Proofs.YtcocfnjbgceidaaGreat
open Go.RowKit
theorem info127 : (Tryz.prog.info? 127).map (fun i => (i.zero, i.size, i.bytes)) = some (some (.agg #[.int .i8 0, .int .i8 0]), 2, 2) := by kernel_rfl

theorem toHammer_any (a p : Int) (w : World) :
    Calls Tryz.prog 78 #[.agg #[.int .i8 a, .int .i8 p]] w fun e w' => e = .returned (.agg #[.int .i8 a, .int .i8 p]) ∧ Below w.heap.size w w' := by
  go_enter Tryz.func78, Tryz.ntmps78
  go_wp2
  refine bodyPost_ret (v := .agg #[.int .i8 a, .int .i8 p]) (by simp [results, Tryz.results78, go_sem]) rfl ⟨rfl, ?_⟩
  repeat (first | exact Below.refl _ _ | refine Below.alloc ?_ (by simp <;> omega) _ | refine Below.setCell ?_ (by simp) _)

/-- what toHammerS leaves -/
def MadeH (w : World) (l : List (Int × Int)) (e : Ending) (w' : World) : Prop :=
  e = .returned (.slice (some ⟨w.heap.size, 0, none⟩) l.length l.length) ∧ w'.ownsRow w.heap.size 127 2 (.slice (some ⟨w.heap.size, 0, none⟩) l.length l.length) l.length (hcells l) ∧ Below w.heap.size w w'

set_option maxHeartbeats 400000 in
theorem toHammerS_any (A : Option Addr) (c : Nat) (l : List (Int × Int)) (w : World) (hA : HA w A l) (hn : l.length ≤ 1048576) :
    Calls Tryz.prog 48 #[.slice A l.length c] w (MadeH w l) := by
  obtain ⟨i0, hi, hz0, hz1, hz2⟩ := info_parts info127
  go_enter Tryz.func48, Tryz.ntmps48
  go_wp2_with (at_make; refine wpList_make_full _ rfl _ _ 37 rfl w.heap.size 127 i0 _ 2 Tryz.underlying37 hi hz0 hz1 _ _ _ _ l.length rfl rfl (by omega) (by omega) (by rw [hz2]; omega) (by unfold maxLen; omega) (by simp) ?_; intro w1 hown1 hgrow1)
  have hb0 : Below w.heap.size w w1 := (Below.refl _ _).grown hgrow1 (Nat.le_refl _) (fun j e => by cases e)
  clear hgrow1
  go_loopw [4] (fun i wr => ∃ k : Nat, k ≤ l.length ∧ i = .int .i64 k ∧ wr.ownsRow w.heap.size 127 2 (.slice (some ⟨w.heap.size, 0, none⟩) l.length l.length) l.length (hcells (hupto l k)) ∧ Below w.heap.size w wr)
    (fun i _ => l.length - (intOf i).toNat)
  case atStart =>
    refine ⟨0, Nat.zero_le _, rfl, ?_, hb0⟩
    rw [hupto_zero, hcells_replicate]
    exact hown1
  case round =>
    obtain ⟨k, hk, rfl, hown, hb⟩ := hrel
    by_cases hlt : k < l.length
    · obtain ⟨b, o, rfl, hbb, c1, c2⟩ := hA k hlt
      have d1 := (hb.cell (p := ⟨b, o + k * 2, none⟩) hbb).trans c1
      have d2 := (hb.cell (p := ⟨b, o + k * 2 + 1, none⟩) hbb).trans c2
      have hs := hb.size
      clear c1 c2 hA hown1 hb0
      go_wp2_with (go_at_call 78; refine (toHammer_any _ _ _).mono ?_; rintro e w2 ⟨rfl, hb2⟩; have own2 := own_keep hown hb2; have f1 := (own2.cellAt (k * 2) (by omega)).trans (hcells_even _ k (by rw [hupto_length _ _ hk]; exact hlt)); have f2 := (own2.cellAt (k * 2 + 1) (by omega)).trans (hcells_odd _ k (by rw [hupto_length _ _ hk]; exact hlt)); have f3 := own2.frozenAt (k * 2); have f4 := own2.frozenAt (k * 2 + 1); have hs2 := hb2.size)
      go_roundw
      case rel => exact ⟨k + 1, hlt, by go_num, hupto_set l k hlt ▸ hown_set2 own2 k _ _, ((hb.trans (hb2.mono hs)).setCell (p := ⟨w.heap.size, _, none⟩) (Nat.le_refl _) _).setCell (p := ⟨w.heap.size, _, none⟩) (Nat.le_refl _) _⟩
      case measure => simp [intOf]; omega
    · obtain rfl : k = l.length := by omega
      go_wp2
      go_ret
      exact ⟨rfl, by rw [hupto_all] at hown; exact hown, hb⟩

theorem heap_new' (w : World) (o : Obj) (k : Nat) (h : k = w.heap.size) : (w.alloc o).heap[k]? = some o := by subst h; exact heap_alloc_new w o
theorem heap_old' {w : World} {o x : Obj} {k : Nat} (h : w.heap[k]? = some x) : (w.alloc o).heap[k]? = some x := by
  rw [heap_alloc_old w o (Array.getElem?_eq_some_iff.1 h).1]; exact h

theorem own_other {w w' : World} {base g c : Nat} {e : TypeId} {size n : Nat} {xs : List Value} (h : w.ownsRow base e size (.slice (some ⟨g, 0, none⟩) n c) n xs) (hg : w'.heap[g]? = w.heap[g]?) : w'.ownsRow base e size (.slice (some ⟨g, 0, none⟩) n c) n xs := by
  refine ⟨h.1, ?_⟩
  rcases h.2 with h' | ⟨g', cap, cur, h1, h2, h3, r⟩
  · exact Or.inl h'
  · obtain ⟨rfl, rfl⟩ : g = g' ∧ c = cap := by simpa using h1
    exact Or.inr ⟨g, c, cur, h1, h2, hg.trans h3, r⟩

/-- what toFrame leaves: a frame whose hammers lie under an address of its own -/
def MadeF (w : World) (s : Int) (l : List (Int × Int)) (e : Ending) (w' : World) : Prop :=
  ∃ g, e = .returned (.agg #[.int .i16 s, .slice (some ⟨g, 0, none⟩) l.length l.length]) ∧ w.heap.size ≤ g ∧ w'.ownsRow g 127 2 (.slice (some ⟨g, 0, none⟩) l.length l.length) l.length (hcells l) ∧ Below w.heap.size w w'
theorem toFrame_any (s : Int) (A : Option Addr) (c : Nat) (l : List (Int × Int)) (w : World) (hA : HA w A l) (hn : l.length ≤ 1048576) :
    Calls Tryz.prog 13 #[.agg #[.int .i16 s, .slice A l.length c]] w (MadeF w s l) := by
  go_enter Tryz.func13, Tryz.ntmps13
  have hW0 : Below w.heap.size w (((w.alloc (.cells #[.int .i16 s, .slice A l.length c] 25)).alloc (.cells #[.int .i16 0, .slice none 0 0] 39)).alloc (.cells #[.int .i16 s, .slice none 0 0] 39)) := (((Below.refl _ _).alloc (Nat.le_refl _) _).alloc (by simp) _).alloc (by simp; omega) _
  go_wp2_with fail
  refine (toHammerS_any A c l _ (hA.below hW0) hn).mono ?_
  rintro e w2 ⟨rfl, own, hb⟩
  have r1 : w2.heap[w.heap.size + 1 + 1]? = some (.cells #[.int .i16 s, .slice none 0 0] 39 (0, 0)) := (hb.block _ (by simp)).trans (heap_new' _ _ _ (by simp))
  have r2 : w2.heap[w.heap.size + 1]? = some (.cells #[.int .i16 0, .slice none 0 0] 39 (0, 0)) := (hb.block _ (by simp)).trans (heap_old' (heap_new' _ _ _ (by simp)))
  have c1 := cell_of_row _ _ 0 _ _ _ r1
  have c2 := cell_of_row _ _ 1 _ _ _ r1
  have c3 := cell_of_row _ _ 0 _ _ _ r2
  have c4 := cell_of_row _ _ 1 _ _ _ r2
  have f1 := frozen_of_row _ _ 1 _ _ r1
  have f2 := frozen_of_row _ _ 0 _ _ r2
  have f3 := frozen_of_row _ _ 1 _ _ r2
  simp at c1 c2 c3 c4
  go_wp2
  refine bodyPost_ret (v := .agg #[.int .i16 s, .slice (some ⟨w.heap.size + 1 + 1 + 1, 0, none⟩) l.length l.length]) (by simp [results, Tryz.results13, go_sem, c3, c4]) rfl ⟨w.heap.size + 1 + 1 + 1, rfl, by omega, ?_, ?_⟩
  · simp only [World.size_alloc] at own
    exact own_other own (by rw [heap_setCell_other _ _ _ _ (by dsimp only; omega), heap_setCell_other _ _ _ _ (by dsimp only; omega), heap_setCell_other _ _ _ _ (by dsimp only; omega)])
  · exact (((hW0.trans (hb.mono hW0.size)).setCell (p := ⟨_, _, none⟩) (by dsimp only; omega) _).setCell (p := ⟨_, _, none⟩) (by dsimp only; omega) _).setCell (p := ⟨_, _, none⟩) (by dsimp only; omega) _
end Go.Proofs.YtcocfnjbgceidaaGreat
namespace Go.Proofs.YtcocfnjbgceidaaGreat
open Go.RowKit

def mnI (s : Int) : Int := if 20 < s then 20 else s
def hamB (s p r : Int) : Bool := inB p 0 47 && inB r 1 (mnI s)
def frB (s : Int) (l : List (Int × Int)) : Bool := inB s 2 96 && inB l.length 1 24 && (List.range l.length).all fun j => hamB s (hPi l j) (hRe l j)
def HWF (l : List (Int × Int)) : Prop := ∀ k, k < l.length → (-128 ≤ hPi l k ∧ hPi l k ≤ 127) ∧ (-128 ≤ hRe l k ∧ hRe l k ≤ 127)
/-- the hammers ahead of k are in range -/
def HG (s : Int) (l : List (Int × Int)) (k : Nat) : Prop := ∀ j, j < k → hamB s (hPi l j) (hRe l j) = true
theorem HG_succ {s : Int} {l : List (Int × Int)} {k : Nat} (h : HG s l k) (h' : hamB s (hPi l k) (hRe l k) = true) : HG s l (k + 1) := fun j hj => by
  rcases Nat.lt_or_ge j k with h1 | h1
  · exact h j h1
  · rw [show j = k by omega]; exact h'
theorem frB_yes {s : Int} {l : List (Int × Int)} (h1 : inB s 2 96 = true) (h2 : inB l.length 1 24 = true) (h : HG s l l.length) : frB s l = true := by
  have : (List.range l.length).all (fun j => hamB s (hPi l j) (hRe l j)) = true := by simp only [List.all_eq_true, List.mem_range]; exact h
  simp [frB, h1, h2, this]
theorem frB_no {s : Int} {l : List (Int × Int)} {k : Nat} (hk : k < l.length) (h : hamB s (hPi l k) (hRe l k) = false) : frB s l = false := by
  have : (List.range l.length).all (fun j => hamB s (hPi l j) (hRe l j)) = false := by
    rw [List.all_eq_false]
    exact ⟨k, List.mem_range.2 hk, by simp [h]⟩
  simp [frB, this]
theorem frB_all {s : Int} {l : List (Int × Int)} (h : frB s l = true) : (2 ≤ s ∧ s ≤ 96) ∧ (1 ≤ l.length ∧ l.length ≤ 24) ∧ HG s l l.length := by
  simp only [frB, inB, Bool.and_eq_true, decide_eq_true_eq, List.all_eq_true, List.mem_range] at h
  exact ⟨h.1.1, by omega, h.2⟩

theorem l00Min_any (s : Int) (w : World) :
    Calls Tryz.prog 98 #[.int .i64 20, .int .i64 s] w fun e w' => e = .returned (.int .i64 (mnI s)) ∧ w = w' := by
  go_enter Tryz.func98, Tryz.ntmps98
  go_wp2
  all_goals go_ret
  all_goals exact ⟨ret_int (by simp [mnI] <;> omega), rfl⟩

/-- block b holds a frame -/
def FP (w : World) (b : Nat) (s : Int) (A : Option Addr) (n c : Nat) : Prop := w.cell? ⟨b, 0, none⟩ = some (.int .i16 s) ∧ w.cell? ⟨b, 1, none⟩ = some (.slice A n c)
theorem FP.lt {w : World} {b : Nat} {s : Int} {A : Option Addr} {n c : Nat} (h : FP w b s A n c) : b < w.heap.size := World.block_lt_of_cell? w _ h.1
theorem FP.keep {w w' : World} {b : Nat} {s : Int} {A : Option Addr} {n c : Nat} (h : FP w b s A n c) (hb : Below w.heap.size w w') : FP w' b s A n c := ⟨(hb.cell (p := ⟨b, _, none⟩) h.lt).trans h.1, (hb.cell (p := ⟨b, _, none⟩) h.lt).trans h.2⟩


set_option maxHeartbeats 1000000 in
theorem l02Frame_any (b : Nat) (s : Int) (A : Option Addr) (c : Nat) (l : List (Int × Int)) (w : World) (hF : FP w b s A l.length c) (hA : HA w A l) (hn : l.length ≤ 1048576) (hwf : HWF l) (hs : -32768 ≤ s ∧ s ≤ 32767) :
    Calls Tryz.prog 76 #[.pointer (some ⟨b, 0, none⟩)] w (Says (frB s l) w) := by
  have hbl := hF.lt
  obtain ⟨g1, g2⟩ := hF
  obtain ⟨hs1, hs2⟩ := hs
  cases h1 : inB s 2 96
  · go_enter Tryz.func76, Tryz.ntmps76
    go_wp2_with (go_at_call 46; refine (l00In_any _ _ _ _).mono ?_; rintro e w' ⟨rfl, rfl⟩; try rw [h1])
    go_ret
    exact ⟨ret_bool (by simp [frB, h1]), Below.refl _ _⟩
  cases h2 : inB l.length 1 24
  · go_enter Tryz.func76, Tryz.ntmps76
    go_wp2_with (go_at_call 46; refine (l00In_any _ _ _ _).mono ?_; rintro e w' ⟨rfl, rfl⟩; first | rw [h1] | rw [h2])
    go_ret
    exact ⟨ret_bool (by simp [frB, h2]), Below.refl _ _⟩
  have H1 := hide h1
  have H2 := hide h2
  go_enter Tryz.func76, Tryz.ntmps76
  go_wp2_with (go_at_call 46; refine (l00In_any _ _ _ _).mono ?_; rintro e w' ⟨rfl, rfl⟩; first | rw [h1] | rw [h2])
  clear h1 h2
  go_loopw [3] (fun i wr => ∃ k : Nat, k ≤ l.length ∧ i = .int .i64 k ∧ HG s l k ∧ Below w.heap.size w wr)
    (fun i _ => l.length - (intOf i).toNat)
  case atStart => exact ⟨0, Nat.zero_le _, rfl, fun j hj => absurd hj (Nat.not_lt_zero _), Below.refl _ _⟩
  case round =>
    obtain ⟨k, hk, rfl, hG, hb⟩ := hrel
    have HG' := hide hG
    clear hG
    have e1 := (hb.cell (p := ⟨b, 0, none⟩) hbl).trans g1
    have e2 := (hb.cell (p := ⟨b, 1, none⟩) hbl).trans g2
    by_cases hlt : k < l.length
    · obtain ⟨b', o, rfl, hbb, c1, c2⟩ := hA k hlt
      have d1 := (hb.cell (p := ⟨b', o + k * 2, none⟩) hbb).trans c1
      have d2 := (hb.cell (p := ⟨b', o + k * 2 + 1, none⟩) hbb).trans c2
      have hsz := hb.size
      obtain ⟨⟨p1, p2⟩, r1, r2⟩ := hwf k hlt
      have hbx := hb.alloc hsz (.cells #[.int .i8 (hPi l k), .int .i8 (hRe l k)] 127)
      have q0 := Later.cell (w := wr.alloc (.cells #[.int .i8 (hPi l k), .int .i8 (hRe l k)] 127)) (((Below.refl _ _).alloc (Nat.le_refl _) _ : Below wr.heap.size wr _).cell (p := ⟨b, 0, none⟩) (by have : (⟨b, 0, none⟩ : Addr).block = b := rfl; omega) |>.trans e1)
      have q1 := Later.cell (w := wr.alloc (.cells #[.int .i8 (hPi l k), .int .i8 (hRe l k)] 127)) (a := ⟨wr.heap.size, 0, none⟩) (v := .int .i8 (hPi l k)) (by simp [go_sem])
      have q2 := Later.cell (w := wr.alloc (.cells #[.int .i8 (hPi l k), .int .i8 (hRe l k)] 127)) (a := ⟨wr.heap.size, 1, none⟩) (v := .int .i8 (hRe l k)) (by simp [go_sem])
      clear c1 c2 hA
      cases x1 : inB (hPi l k) 0 47
      · have HX := hide (show hamB s (hPi l k) (hRe l k) = false by simp [hamB, x1])
        have K1 : ∀ W, Calls Tryz.prog 46 #[.int .i64 (hPi l k), .int .i64 0, .int .i64 47] W fun e w' => e = .returned (.bool false) ∧ W = w' := fun W => by rw [← x1]; exact l00In_any _ _ _ W
        clear x1
        go_wp2_with fail
        refine wp_region_later (by kernel_rfl) (by kernel_rfl) ?_
        repeat (go_big_quiet_step ((go_at_call 46; with_reducible exact Later.same (K1 _))))
        refine wpQuiet_nil ?_
        rintro _ ⟨⟨wq, hq⟩, rfl⟩
        go_wp2
        go_ret
        exact ⟨ret_bool (frB_no hlt HX.out).symm, hbx.trans (hq.mono hbx.size)⟩
      · cases x2 : inB (hRe l k) 1 (mnI s)
        · have HX := hide (show hamB s (hPi l k) (hRe l k) = false by simp [hamB, x2])
          have K1 : ∀ W, Calls Tryz.prog 46 #[.int .i64 (hPi l k), .int .i64 0, .int .i64 47] W fun e w' => e = .returned (.bool true) ∧ W = w' := fun W => by rw [← x1]; exact l00In_any _ _ _ W
          have K2 : ∀ W, Calls Tryz.prog 46 #[.int .i64 (hRe l k), .int .i64 1, .int .i64 (mnI s)] W fun e w' => e = .returned (.bool false) ∧ W = w' := fun W => by rw [← x2]; exact l00In_any _ _ _ W
          clear x1 x2
          go_wp2_with fail
          refine wp_region_later (by kernel_rfl) (by kernel_rfl) ?_
          repeat (go_big_quiet_step (first | (go_at_call 46; with_reducible exact Later.same (K1 _)) | (go_at_call 46; with_reducible exact Later.same (K2 _)) | (go_at_call 98; with_reducible exact Later.same (l00Min_any s _))))
          refine wpQuiet_nil ?_
          rintro _ ⟨⟨wq, hq⟩, rfl⟩
          go_wp2
          go_ret
          exact ⟨ret_bool (frB_no hlt HX.out).symm, hbx.trans (hq.mono hbx.size)⟩
        · have HX := hide (show hamB s (hPi l k) (hRe l k) = true by simp [hamB, x1, x2])
          have K1 : ∀ W, Calls Tryz.prog 46 #[.int .i64 (hPi l k), .int .i64 0, .int .i64 47] W fun e w' => e = .returned (.bool true) ∧ W = w' := fun W => by rw [← x1]; exact l00In_any _ _ _ W
          have K2 : ∀ W, Calls Tryz.prog 46 #[.int .i64 (hRe l k), .int .i64 1, .int .i64 (mnI s)] W fun e w' => e = .returned (.bool true) ∧ W = w' := fun W => by rw [← x2]; exact l00In_any _ _ _ W
          clear x1 x2
          go_wp2_with fail
          refine wp_region_later (by kernel_rfl) (by kernel_rfl) ?_
          repeat (go_big_quiet_step (first | (go_at_call 46; with_reducible exact Later.same (K1 _)) | (go_at_call 46; with_reducible exact Later.same (K2 _)) | (go_at_call 98; with_reducible exact Later.same (l00Min_any s _))))
          refine wpQuiet_nil ?_
          rintro _ ⟨⟨wq, hq⟩, rfl⟩
          go_wp2
          go_roundw
          case rel => exact ⟨k + 1, hlt, by go_num, HG_succ HG'.out HX.out, hbx.trans (hq.mono hbx.size)⟩
          case measure => simp [intOf]; omega
    · obtain rfl : k = l.length := by omega
      go_wp2
      go_ret
      exact ⟨ret_bool (frB_yes H1.out H2.out HG'.out).symm, hb⟩
end Go.Proofs.YtcocfnjbgceidaaGreat
namespace Go.Proofs.YtcocfnjbgceidaaGreat
open Go.RowKit

def hamsB (s : Int) (l : List (Int × Int)) : Bool := (List.range l.length).all fun j => hamB s (hPi l j) (hRe l j)
theorem hamsB_yes {s : Int} {l : List (Int × Int)} (h : HG s l l.length) : hamsB s l = true := by simp only [hamsB, List.all_eq_true, List.mem_range]; exact h
theorem hamsB_no {s : Int} {l : List (Int × Int)} {k : Nat} (hk : k < l.length) (h : hamB s (hPi l k) (hRe l k) = false) : hamsB s l = false := by
  rw [hamsB, List.all_eq_false]
  exact ⟨k, List.mem_range.2 hk, by simp [h]⟩
theorem mnI_le {s : Int} (h : s ≤ 20) : mnI s = s := by unfold mnI; omega
theorem mnI_gt {s : Int} (h : 20 ≤ s) : mnI s = 20 := by unfold mnI; omega

theorem tracks_any (A : Option Addr) (n c : Nat) (_hn : n ≤ 1048576) (w : World) :
    Calls Tryz.prog 99 #[.slice A n c] w fun e w' => e = .returned (.int .i64 n) ∧ w = w' := by
  go_enter Tryz.func99, Tryz.ntmps99
  go_wp2
  go_ret
  exact ⟨rfl, rfl⟩

set_option maxHeartbeats 1000000 in
theorem areValid_any (s : Int) (A : Option Addr) (c : Nat) (l : List (Int × Int)) (w : World) (hA : HA w A l) (hn : l.length ≤ 1048576) (hwf : HWF l) (hs : -32768 ≤ s ∧ s ≤ 32767) :
    Calls Tryz.prog 100 #[.slice A l.length c, .int .i64 s] w (Says (hamsB s l) w) := by
  obtain ⟨hs1, hs2⟩ := hs
  go_enter Tryz.func100, Tryz.ntmps100
  go_wp2_with fail
  go_loopw [9] (fun i wr => ∃ k : Nat, k ≤ l.length ∧ i = .int .i64 k ∧ HG s l k ∧ Below w.heap.size w wr)
    (fun i _ => l.length - (intOf i).toNat)
  case atStart => exact ⟨0, Nat.zero_le _, rfl, fun j hj => absurd hj (Nat.not_lt_zero _), Below.refl _ _⟩
  case round =>
    obtain ⟨k, hk, rfl, hG, hb⟩ := hrel
    have HG' := hide hG
    clear hG
    by_cases hlt : k < l.length
    · obtain ⟨b', o, rfl, hbb, c1, c2⟩ := hA k hlt
      have d1 := (hb.cell (p := ⟨b', o + k * 2, none⟩) hbb).trans c1
      have d2 := (hb.cell (p := ⟨b', o + k * 2 + 1, none⟩) hbb).trans c2
      obtain ⟨⟨p1, p2⟩, r1, r2⟩ := hwf k hlt
      have hbx := hb.alloc hb.size (.cells #[.int .i8 (hPi l k), .int .i8 (hRe l k)] 127)
      clear c1 c2 hA
      cases x1 : inB (hPi l k) 0 47
      · have HX := hide (show hamB s (hPi l k) (hRe l k) = false by simp [hamB, x1])
        have K1 : ∀ W, Calls Tryz.prog 73 #[.int .i64 (hPi l k), .int .i64 0, .int .i64 47] W fun e w' => e = .returned (.bool false) ∧ W = w' := fun W => by rw [← x1]; exact within_any _ _ _ W
        clear x1
        go_wp2_with (go_at_call 73; with_reducible refine (K1 _).mono ?_; rintro e w' ⟨rfl, rfl⟩)
        go_ret
        exact ⟨ret_bool (hamsB_no hlt HX.out).symm, hbx⟩
      · cases x2 : inB (hRe l k) 1 (mnI s)
        · have HX := hide (show hamB s (hPi l k) (hRe l k) = false by simp [hamB, x2])
          have K1 : ∀ W, Calls Tryz.prog 73 #[.int .i64 (hPi l k), .int .i64 0, .int .i64 47] W fun e w' => e = .returned (.bool true) ∧ W = w' := fun W => by rw [← x1]; exact within_any _ _ _ W
          have K2 : ∀ W, Calls Tryz.prog 73 #[.int .i64 (hRe l k), .int .i64 1, .int .i64 (mnI s)] W fun e w' => e = .returned (.bool false) ∧ W = w' := fun W => by rw [← x2]; exact within_any _ _ _ W
          have K2a : s ≤ 20 → ∀ W, Calls Tryz.prog 73 #[.int .i64 (hRe l k), .int .i64 1, .int .i64 s] W fun e w' => e = .returned (.bool false) ∧ W = w' := fun h => by rw [mnI_le h] at K2; exact K2
          have K2b : 20 ≤ s → ∀ W, Calls Tryz.prog 73 #[.int .i64 (hRe l k), .int .i64 1, .int .i64 20] W fun e w' => e = .returned (.bool false) ∧ W = w' := fun h => by rw [mnI_gt h] at K2; exact K2
          clear x1 x2 K2
          go_wp2_with (first | (go_at_call 73; with_reducible refine (K1 _).mono ?_; rintro e w' ⟨rfl, rfl⟩) | (go_at_call 73; with_reducible refine (K2a (by omega) _).mono ?_; rintro e w' ⟨rfl, rfl⟩) | (go_at_call 73; with_reducible refine (K2b (by omega) _).mono ?_; rintro e w' ⟨rfl, rfl⟩))
          all_goals go_ret
          all_goals exact ⟨ret_bool (hamsB_no hlt HX.out).symm, hbx⟩
        · have HX := hide (show hamB s (hPi l k) (hRe l k) = true by simp [hamB, x1, x2])
          have K1 : ∀ W, Calls Tryz.prog 73 #[.int .i64 (hPi l k), .int .i64 0, .int .i64 47] W fun e w' => e = .returned (.bool true) ∧ W = w' := fun W => by rw [← x1]; exact within_any _ _ _ W
          have K2 : ∀ W, Calls Tryz.prog 73 #[.int .i64 (hRe l k), .int .i64 1, .int .i64 (mnI s)] W fun e w' => e = .returned (.bool true) ∧ W = w' := fun W => by rw [← x2]; exact within_any _ _ _ W
          have K2a : s ≤ 20 → ∀ W, Calls Tryz.prog 73 #[.int .i64 (hRe l k), .int .i64 1, .int .i64 s] W fun e w' => e = .returned (.bool true) ∧ W = w' := fun h => by rw [mnI_le h] at K2; exact K2
          have K2b : 20 ≤ s → ∀ W, Calls Tryz.prog 73 #[.int .i64 (hRe l k), .int .i64 1, .int .i64 20] W fun e w' => e = .returned (.bool true) ∧ W = w' := fun h => by rw [mnI_gt h] at K2; exact K2
          clear x1 x2 K2
          go_wp2_with (first | (go_at_call 73; with_reducible refine (K1 _).mono ?_; rintro e w' ⟨rfl, rfl⟩) | (go_at_call 73; with_reducible refine (K2a (by omega) _).mono ?_; rintro e w' ⟨rfl, rfl⟩) | (go_at_call 73; with_reducible refine (K2b (by omega) _).mono ?_; rintro e w' ⟨rfl, rfl⟩))
          · go_roundw
            case rel => exact ⟨k + 1, hlt, by go_num, HG_succ HG'.out HX.out, hbx⟩
            case measure => simp [intOf]; omega
          · go_roundw
            case rel => exact ⟨k + 1, hlt, by go_num, HG_succ HG'.out HX.out, hbx⟩
            case measure => simp [intOf]; omega
    · obtain rfl : k = l.length := by omega
      go_wp2
      go_ret
      exact ⟨ret_bool (hamsB_yes HG'.out).symm, hb⟩

/-- a machine and a bool come back -/
def Mach (s : Int) (A : Option Addr) (n c : Nat) (ok : Bool) (w : World) (e : Ending) (w' : World) : Prop := e = .returned (.tuple #[.agg #[.int .i64 s, .slice A n c], .bool ok]) ∧ Below w.heap.size w w'
theorem frB_hams {s : Int} {l : List (Int × Int)} (h1 : inB s 2 96 = true) (h2 : inB l.length 1 24 = true) : frB s l = hamsB s l := by simp [frB, h1, h2, hamsB]

theorem fits_nil (m : Value) (s : Int) (A : Option Addr) (n c : Nat) (hm : m = .agg #[.int .i64 s, .slice A n c]) (w : World) :
    Calls Tryz.prog 101 #[m, .slice none 0 0] w (Says true w) := by
  subst hm
  have hmm := @run_makeMap Tryz.prog
  go_enter Tryz.func101, Tryz.ntmps101
  go_wp2_with fail
  clear hmm
  have hb0 : Below w.heap.size w ((w.alloc (.cells #[.int .i64 s, .slice A n c] 101)).alloc (.map #[] 0)) := ((Below.refl _ _).alloc (Nat.le_refl _) _).alloc (by simp) _
  go_loopw [11] (fun i wr => i = .int .i64 0 ∧ Below w.heap.size w wr) (fun _ _ => 0)
  case atStart => exact ⟨rfl, hb0⟩
  case round =>
    obtain ⟨rfl, hb⟩ := hrel
    go_wp2
    go_ret
    exact ⟨rfl, hb⟩

set_option maxHeartbeats 1000000 in
theorem machineFor_any (s : Int) (A : Option Addr) (c : Nat) (l : List (Int × Int)) (Dv : Value) (fb : Bool) (w : World) (hA : HA w A l) (hn : l.length ≤ 1048576) (hwf : HWF l) (hs : -32768 ≤ s ∧ s ≤ 32767)
    (hfits : frB s l = true → ∀ W, Below w.heap.size w W → Calls Tryz.prog 101 #[.agg #[.int .i64 s, .slice A l.length c], Dv] W (Says fb W)) :
    Calls Tryz.prog 82 #[.agg #[.int .i16 s, .slice A l.length c], Dv] w (Mach s A l.length c (frB s l && fb) w) := by
  have hs' := hs
  obtain ⟨hs1, hs2⟩ := hs'
  have hW0 : Below w.heap.size w (((w.alloc (.cells #[.int .i16 s, .slice A l.length c] 39)).alloc (.cells #[.int .i64 0, .slice none 0 0] 101)).alloc (.cells #[.int .i64 s, .slice A l.length c] 101)) := (((Below.refl _ _).alloc (Nat.le_refl _) _).alloc (by simp) _).alloc (by simp; omega) _
  have HT := fun W => tracks_any A l.length c hn W
  cases h1 : inB s 2 96
  · have HX := hide (show frB s l = false by simp [frB, h1])
    have K1 : ∀ W, Calls Tryz.prog 73 #[.int .i64 s, .int .i64 2, .int .i64 96] W fun e w' => e = .returned (.bool false) ∧ W = w' := fun W => by rw [← h1]; exact within_any _ _ _ W
    clear h1 hfits
    go_enter Tryz.func82, Tryz.ntmps82
    go_wp2_with (go_at_call 73; with_reducible refine (K1 _).mono ?_; rintro e w' ⟨rfl, rfl⟩)
    exact bodyPost_ret (v := .tuple #[.agg #[.int .i64 s, .slice A l.length c], .bool false]) (by simp [results, Tryz.results82, go_sem]) rfl ⟨by rw [HX.out]; rfl, (((Below.refl _ _).alloc (Nat.le_refl _) _).alloc (by simp) _).alloc (by simp; omega) _⟩
  cases h2 : inB l.length 1 24
  · have HX := hide (show frB s l = false by simp [frB, h2])
    have K1 : ∀ W, Calls Tryz.prog 73 #[.int .i64 s, .int .i64 2, .int .i64 96] W fun e w' => e = .returned (.bool true) ∧ W = w' := fun W => by rw [← h1]; exact within_any _ _ _ W
    have K2 : ∀ W, Calls Tryz.prog 73 #[.int .i64 l.length, .int .i64 1, .int .i64 24] W fun e w' => e = .returned (.bool false) ∧ W = w' := fun W => by rw [← h2]; exact within_any _ _ _ W
    clear h1 h2 hfits
    go_enter Tryz.func82, Tryz.ntmps82
    go_wp2_with (first | (go_at_call 73; with_reducible refine (K1 _).mono ?_; rintro e w' ⟨rfl, rfl⟩) | (go_at_call 73; with_reducible refine (K2 _).mono ?_; rintro e w' ⟨rfl, rfl⟩) | (go_at_call 99; with_reducible refine (HT _).mono ?_; rintro e w' ⟨rfl, rfl⟩))
    exact bodyPost_ret (v := .tuple #[.agg #[.int .i64 s, .slice A l.length c], .bool false]) (by simp [results, Tryz.results82, go_sem]) rfl ⟨by rw [HX.out]; rfl, (((Below.refl _ _).alloc (Nat.le_refl _) _).alloc (by simp) _).alloc (by simp; omega) _⟩
  have HE := hide (frB_hams h1 h2)
  have K1 : ∀ W, Calls Tryz.prog 73 #[.int .i64 s, .int .i64 2, .int .i64 96] W fun e w' => e = .returned (.bool true) ∧ W = w' := fun W => by rw [← h1]; exact within_any _ _ _ W
  have K2 : ∀ W, Calls Tryz.prog 73 #[.int .i64 l.length, .int .i64 1, .int .i64 24] W fun e w' => e = .returned (.bool true) ∧ W = w' := fun W => by rw [← h2]; exact within_any _ _ _ W
  clear h1 h2
  go_enter Tryz.func82, Tryz.ntmps82
  go_wp2_with (first | (go_at_call 73; with_reducible refine (K1 _).mono ?_; rintro e w' ⟨rfl, rfl⟩) | (go_at_call 73; with_reducible refine (K2 _).mono ?_; rintro e w' ⟨rfl, rfl⟩) | (go_at_call 99; with_reducible refine (HT _).mono ?_; rintro e w' ⟨rfl, rfl⟩))
  refine (areValid_any s A c l _ (hA.below hW0) hn hwf hs).mono ?_
  rintro e w2 ⟨rfl, hb2⟩
  have hbw := hW0.trans (hb2.mono hW0.size)
  have r6 : w2.heap[w.heap.size + 1 + 1]? = some (.cells #[.int .i64 s, .slice A l.length c] 101 (0, 0)) := (hb2.block _ (by simp)).trans (heap_new' _ _ _ (by simp))
  have r4 : w2.heap[w.heap.size + 1]? = some (.cells #[.int .i64 0, .slice none 0 0] 101 (0, 0)) := (hb2.block _ (by simp)).trans (heap_old' (heap_new' _ _ _ (by simp)))
  have c1 := cell_of_row _ _ 0 _ _ _ r6
  have c2 := cell_of_row _ _ 1 _ _ _ r6
  have c3 := cell_of_row _ _ 0 _ _ _ r4
  have c4 := cell_of_row _ _ 1 _ _ _ r4
  have f2 := frozen_of_row _ _ 0 _ _ r4
  have f3 := frozen_of_row _ _ 1 _ _ r4
  simp at c1 c2 c3 c4
  cases h3 : hamsB s l
  · have HX := hide (show frB s l = false by rw [HE.out, h3])
    clear h3 hfits
    go_wp2
    exact bodyPost_ret (v := .tuple #[.agg #[.int .i64 s, .slice A l.length c], .bool false]) (by simp [results, Tryz.results82, go_sem, c3, c4]) rfl ⟨by rw [HX.out]; rfl, (hbw.setCell (p := ⟨_, _, none⟩) (by dsimp only; omega) _).setCell (p := ⟨_, _, none⟩) (by dsimp only; omega) _⟩
  · have HX := hide (show frB s l = true by rw [HE.out, h3])
    clear h3
    go_wp2_with fail
    refine (hfits HX.out _ hbw).mono ?_
    rintro e w3 ⟨rfl, hb3⟩
    have k1 := (hb3.cell (p := ⟨_, _, none⟩) (World.block_lt_of_cell? w2 _ c1)).trans c1
    have k2 := (hb3.cell (p := ⟨_, _, none⟩) (World.block_lt_of_cell? w2 _ c2)).trans c2
    have k3 := (hb3.cell (p := ⟨_, _, none⟩) (World.block_lt_of_cell? w2 _ c3)).trans c3
    have k4 := (hb3.cell (p := ⟨_, _, none⟩) (World.block_lt_of_cell? w2 _ c4)).trans c4
    have r4' := (hb3.block _ (World.block_lt_of_cell? w2 _ c3)).trans r4
    have f2 := frozen_of_row _ _ 0 _ _ r4'
    have f3 := frozen_of_row _ _ 1 _ _ r4'
    clear c1 c2 c3 c4
    go_wp2
    exact bodyPost_ret (v := .tuple #[.agg #[.int .i64 s, .slice A l.length c], .bool fb]) (by simp [results, Tryz.results82, go_sem, k3, k4]) rfl ⟨by rw [HX.out]; rfl, ((hbw.trans (hb3.mono hbw.size)).setCell (p := ⟨_, _, none⟩) (by dsimp only; omega) _).setCell (p := ⟨_, _, none⟩) (by dsimp only; omega) _⟩
end Go.Proofs.YtcocfnjbgceidaaGreat
namespace Go.Proofs.YtcocfnjbgceidaaGreat
open Go.RowKit

theorem eqHammer_any (a p b q : Int) (w : World) :
    Calls Tryz.prog 81 #[.agg #[.int .i8 a, .int .i8 p], .agg #[.int .i8 b, .int .i8 q]] w fun e w' => e = .returned (.bool (decide (a = b ∧ p = q))) ∧ Below w.heap.size w w' := by
  go_enter Tryz.func81, Tryz.ntmps81
  go_wp2
  all_goals go_ret
  all_goals exact ⟨ret_bool (by simp_all), by repeat (first | exact Below.refl _ _ | refine Below.alloc ?_ (by simp <;> omega) _)⟩
theorem hsame_of (l m : List (Int × Int)) (hl : l.length = m.length) (h : ∀ k, k < l.length → hPi l k = hPi m k ∧ hRe l k = hRe m k) : sameB l m = true := by
  refine decide_eq_true (List.ext_getElem hl fun k h1 h2 => ?_)
  have := h k h1
  simp only [hPi, hRe, List.getD, List.getElem?_eq_getElem h1, List.getElem?_eq_getElem h2, Option.getD_some] at this
  exact Prod.ext this.1 this.2
theorem hsame_not (l m : List (Int × Int)) (k : Nat) (h : ¬ (hPi l k = hPi m k ∧ hRe l k = hRe m k)) : sameB l m = false := by
  refine decide_eq_false fun e => h ?_
  rw [e]
  exact ⟨rfl, rfl⟩

set_option maxHeartbeats 400000 in
theorem eqHammerS_any (A B : Option Addr) (c d : Nat) (l m : List (Int × Int)) (w : World) (hA : HA w A l) (hB : HA w B m) (hn : l.length ≤ 1048576) (_hm : m.length ≤ 1048576) :
    Calls Tryz.prog 53 #[.slice A l.length c, .slice B m.length d] w (Says (sameB l m) w) := by
  by_cases hlm : l.length = m.length
  · have HL := hide hlm
    have H1 : ((l.length : Int) != (m.length : Int)) = false := by simp [hlm]
    have H2 : (l.length != m.length) = false := by simp [hlm]
    clear hlm
    go_enter Tryz.func53, Tryz.ntmps53
    go_wp2_with fail
    go_loopw [5] (fun i wr => ∃ k : Nat, k ≤ l.length ∧ i = .int .i64 k ∧ (∀ j, j < k → hPi l j = hPi m j ∧ hRe l j = hRe m j) ∧ Below w.heap.size w wr)
      (fun i _ => l.length - (intOf i).toNat)
    case atStart =>
      exact ⟨0, Nat.zero_le _, rfl, fun j hj => absurd hj (Nat.not_lt_zero _), Below.refl _ _⟩
    case round =>
      obtain ⟨k, hk, rfl, hG, hb⟩ := hrel
      have HG := hide hG
      clear hG
      by_cases hlt : k < l.length
      · have hlt2 : k < m.length := by rw [← HL.out]; exact hlt
        obtain ⟨b, o, rfl, hbb, c1, c2⟩ := hA k hlt
        obtain ⟨b', o', rfl, hbb', c3, c4⟩ := hB k hlt2
        have d1 := Later.cell ((hb.cell (p := ⟨b, o + k * 2, none⟩) hbb).trans c1)
        have d2 := Later.cell ((hb.cell (p := ⟨b, o + k * 2 + 1, none⟩) hbb).trans c2)
        have d3 := Later.cell ((hb.cell (p := ⟨b', o' + k * 2, none⟩) hbb').trans c3)
        have d4 := Later.cell ((hb.cell (p := ⟨b', o' + k * 2 + 1, none⟩) hbb').trans c4)
        have hs := hb.size
        clear c1 c2 c3 c4 hA hB
        by_cases he : hPi l k = hPi m k ∧ hRe l k = hRe m k
        · have HE := hide he
          have HD := hide (decide_eq_true he)
          clear he
          go_wp2_with fail
          refine wp_region_later (by kernel_rfl) (by kernel_rfl) ?_
          repeat (go_big_quiet_step ((go_at_call 81; exact Later.call (HD.out ▸ eqHammer_any _ _ _ _ _))))
          refine wpQuiet_nil ?_
          rintro _ ⟨⟨wq, hq⟩, rfl⟩
          go_wp2
          go_roundw
          case rel => exact ⟨k + 1, by omega, by go_num, fun j hj => by
            rcases Nat.lt_or_ge j k with h1 | h1
            · exact HG.out j h1
            · rw [show j = k by omega]; exact HE.out, hb.trans (hq.mono hs)⟩
          case measure => simp [intOf]; omega
        · have HE := hide he
          have HD := hide (decide_eq_false he)
          clear he
          go_wp2_with fail
          refine wp_region_later (by kernel_rfl) (by kernel_rfl) ?_
          repeat (go_big_quiet_step ((go_at_call 81; exact Later.call (HD.out ▸ eqHammer_any _ _ _ _ _))))
          refine wpQuiet_nil ?_
          rintro _ ⟨⟨wq, hq⟩, rfl⟩
          go_wp2
          go_ret
          exact ⟨ret_bool (hsame_not l m k HE.out).symm, hb.trans (hq.mono hs)⟩
      · obtain rfl : k = l.length := by omega
        go_wp2
        go_ret
        exact ⟨ret_bool (hsame_of l m HL.out HG.out).symm, hb⟩
  · have H1 : ((l.length : Int) != (m.length : Int)) = true := by simp; omega
    have H2 : (l.length != m.length) = true := by simpa using hlm
    have HL := hide hlm
    clear hlm
    go_enter Tryz.func53, Tryz.ntmps53
    go_wp2
    go_ret
    exact ⟨ret_bool (decide_eq_false fun e => HL.out (by rw [e])).symm, Below.refl _ _⟩
theorem eqFrame_any (s : Int) (A B : Option Addr) (c d : Nat) (l : List (Int × Int)) (w : World) (hA : HA w A l) (hB : HA w B l) (hn : l.length ≤ 1048576) :
    Calls Tryz.prog 17 #[.agg #[.int .i16 s, .slice A l.length c], .agg #[.int .i16 s, .slice B l.length d]] w (Says true w) := by
  have hb0 : Below w.heap.size w ((w.alloc (.cells #[.int .i16 s, .slice A l.length c] 39)).alloc (.cells #[.int .i16 s, .slice B l.length d] 39)) := ((Below.refl _ _).alloc (Nat.le_refl _) _).alloc (by simp) _
  have hS := sameB_refl l
  have hss : (s != s) = false := by simp
  go_enter Tryz.func17, Tryz.ntmps17
  go_wp2_with (go_at_call 53; refine (eqHammerS_any A B c d l l _ (hA.below hb0) (hB.below hb0) hn hn).mono ?_; rintro e w' ⟨rfl, hb⟩; rw [hS])
  go_ret
  exact ⟨rfl, hb0.trans (hb.mono hb0.size)⟩

theorem szHammerS_small (A : Option Addr) (n c : Nat) (l : Int) (h0 : 0 ≤ l) (h1 : l ≤ 1048576) (hn : n ≤ maxLen) (hs : (n : Int) ≤ l) (w : World) :
    Calls Tryz.prog 42 #[.slice A n c, .int .i64 l] w fun e w' => e = .returned (.int .i64 (l - n)) ∧ w = w' := by
  unfold maxLen at hn
  go_enter Tryz.func42, Tryz.ntmps42
  go_wp2
  all_goals go_ret
  all_goals exact ⟨ret_int (by omega), rfl⟩
theorem szHammerS_big (A : Option Addr) (n c : Nat) (l : Int) (h0 : 0 ≤ l) (h1 : l ≤ 1048576) (hn : n ≤ maxLen) (hs : l < (n : Int)) (w : World) :
    Calls Tryz.prog 42 #[.slice A n c, .int .i64 l] w fun e w' => e = .returned (.int .i64 (-1)) ∧ w = w' := by
  unfold maxLen at hn
  go_enter Tryz.func42, Tryz.ntmps42
  go_wp2
  all_goals go_ret
  all_goals exact ⟨ret_int (by omega), rfl⟩
theorem szFrame_small (s : Int) (A : Option Addr) (n c : Nat) (hs : n ≤ 1048576) (w : World) :
    Calls Tryz.prog 10 #[.agg #[.int .i16 s, .slice A n c], .int .i64 1048576] w fun e w' => e = .returned (.int .i64 (1048576 - n)) ∧ Below w.heap.size w w' := by
  have hb0 : Below w.heap.size w (w.alloc (.cells #[.int .i16 s, .slice A n c] 25)) := (Below.refl _ _).alloc (Nat.le_refl _) _
  go_enter Tryz.func10, Tryz.ntmps10
  go_wp2_with (go_at_call 42; refine (szHammerS_small A n c _ (by omega) (by omega) (by unfold maxLen; omega) (by omega) _).mono ?_; rintro e w' ⟨rfl, rfl⟩)
  all_goals go_ret
  all_goals exact ⟨ret_int (by omega), hb0⟩
theorem szFrame_big (s : Int) (A : Option Addr) (n c : Nat) (hm : n ≤ maxLen) (hs : 1048576 < n) (w : World) :
    Calls Tryz.prog 10 #[.agg #[.int .i16 s, .slice A n c], .int .i64 1048576] w fun e w' => e = .returned (.int .i64 (-1)) ∧ Below w.heap.size w w' := by
  have hb0 : Below w.heap.size w (w.alloc (.cells #[.int .i16 s, .slice A n c] 25)) := (Below.refl _ _).alloc (Nat.le_refl _) _
  go_enter Tryz.func10, Tryz.ntmps10
  go_wp2_with (go_at_call 42; refine (szHammerS_big A n c _ (by omega) (by omega) hm (by omega) _).mono ?_; rintro e w' ⟨rfl, rfl⟩)
  all_goals go_ret
  all_goals exact ⟨ret_int (by omega), hb0⟩

end Go.Proofs.YtcocfnjbgceidaaGreat
