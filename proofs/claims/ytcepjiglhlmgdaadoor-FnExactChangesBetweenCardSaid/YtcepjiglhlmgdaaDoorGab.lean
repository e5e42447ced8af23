import Derived.Test.YtcepjiglhlmgdaaDoorBase
import Derived.Test.YtcepjiglhlmgdaaDoorProg
import Derived.Maps.OwnOps
namespace Go.Proofs.YtcepjiglhlmgdaaDoor
open Go.RowKit
/-- a bool comes back; what there was is as it was -/
def Says (b : Bool) (w : World) (e : Ending) (w' : World) : Prop := e = .returned (.bool b) ∧ Below w.heap.size w w'
def inB (n l m : Int) : Bool := decide (l ≤ n ∧ n ≤ m)
theorem l00In_any (n l m : Int) (w : World) :
    Calls Tryd.prog 40 #[.int .i64 n, .int .i64 l, .int .i64 m] w fun e w' => e = .returned (.bool (inB n l m)) ∧ w = w' := by
  go_enter Tryd.func40, Tryd.ntmps40
  go_wp2
  all_goals go_ret
  all_goals exact ⟨ret_bool (by simp [inB] <;> omega), rfl⟩
theorem within_any (n l m : Int) (w : World) :
    Calls Tryd.prog 46 #[.int .i64 n, .int .i64 l, .int .i64 m] w fun e w' => e = .returned (.bool (inB n l m)) ∧ w = w' := by
  go_enter Tryd.func46, Tryd.ntmps46
  go_wp2
  all_goals go_ret
  all_goals exact ⟨ret_bool (by simp [inB] <;> omega), rfl⟩
def sameB (l m : List (Int × Int)) : Bool := decide (l = m)
/-- two values come back; what there was is as it was -/
def Pair (x y : Value) (w : World) (e : Ending) (w' : World) : Prop := e = .returned (.tuple #[x, y]) ∧ Below w.heap.size w w'
def codeI (b : Bool) : Int := if b then 0 else 1
/-- a number where the bool says yes, and 0 -/
def onlyI (b : Bool) (x : Int) : Int := if b then x else 0
theorem ret2 {x x' y y' : Value} (h1 : x = x') (h2 : y = y') : Ending.returned (.tuple #[x, y]) = .returned (.tuple #[x', y']) := by rw [h1, h2]
set_option maxRecDepth 20000 in
theorem bool_inv {v : Value} {z : DataW Unit × List MemPlace} (h : plainElem Tryd.prog 4 v = some z) : ∃ x, v = .bool x ∧ z = (.lit (.bool x), []) := by
  unfold plainElem at h
  rw [Tryd.underlying4] at h
  cases v <;> simp at h
  exact ⟨_, rfl, h.symm⟩
theorem info37 : (Tryd.prog.info? 37).map (fun i => (i.zero, i.size, i.bytes)) = some (some (.agg #[.int .i16 0, .int .i8 0]), 2, 4) := by kernel_rfl
theorem info2 : (Tryd.prog.info? 2).map (fun i => (i.zero, i.size, i.bytes)) = some (some (.int .i64 0), 1, 8) := by kernel_rfl
theorem sameB_refl (l : List (Int × Int)) : sameB l l = true := decide_eq_true rfl
theorem mapM_all {α β : Type} (f : α → Option β) (g : α → β) : ∀ l : List α, (∀ x ∈ l, f x = some (g x)) → l.mapM f = some (l.map g)
  | [], _ => rfl
  | a :: l, h => by
    rw [List.mapM_cons, h a (by simp), mapM_all f g l fun x hx => h x (by simp [hx])]
    rfl
theorem grown_refl (w : World) (row : Option Nat) : w.grownBy w row := ⟨rfl, rfl, rfl, Nat.le_refl _, fun _ _ _ => rfl⟩
theorem grown_set {w w' : World} {g i : Nat} {v : Value} (h : w.grownBy w' (some g)) : w.grownBy (w'.setCell ⟨g, i, none⟩ v) (some g) :=
  h.trans ⟨rfl, rfl, rfl, by simp, fun j _ hne => heap_setCell_other w' ⟨g, i, none⟩ j v (fun e => hne (by rw [e]))⟩
end Go.Proofs.YtcepjiglhlmgdaaDoor
namespace Go.Proofs.YtcepjiglhlmgdaaDoor
open Go.RowKit

/-- the hammers as cells -/
def hcells (l : List (Int × Int)) : List Value := l.flatMap fun n => [.int .i8 n.1, .int .i8 n.2]
def hPi (l : List (Int × Int)) (k : Nat) : Int := (l.getD k (0, 0)).1
def hRe (l : List (Int × Int)) (k : Nat) : Int := (l.getD k (0, 0)).2

theorem hcells_nil : hcells [] = [] := rfl
theorem hcells_cons (n : Int × Int) (l : List (Int × Int)) : hcells (n :: l) = .int .i8 n.1 :: .int .i8 n.2 :: hcells l := rfl
theorem hcells_append (l m : List (Int × Int)) : hcells (l ++ m) = hcells l ++ hcells m := by simp [hcells]
theorem hcells_length (l : List (Int × Int)) : (hcells l).length = l.length * 2 := by
  induction l with
  | nil => rfl
  | cons n l ih => simp [hcells_cons, ih]; omega
theorem hcells_even (l : List (Int × Int)) : ∀ k, k < l.length → (hcells l)[k * 2]? = some (.int .i8 (hPi l k)) := by
  induction l with
  | nil => intro k h; simp at h
  | cons n l ih =>
    intro k h
    cases k with
    | zero => simp [hcells_cons, hPi]
    | succ k =>
      have := ih k (by simpa using h)
      rw [show (k + 1) * 2 = k * 2 + 1 + 1 from by omega]
      simpa [hcells_cons, hPi] using this
theorem hcells_odd (l : List (Int × Int)) : ∀ k, k < l.length → (hcells l)[k * 2 + 1]? = some (.int .i8 (hRe l k)) := by
  induction l with
  | nil => intro k h; simp at h
  | cons n l ih =>
    intro k h
    cases k with
    | zero => simp [hcells_cons, hRe]
    | succ k =>
      have := ih k (by simpa using h)
      rw [show (k + 1) * 2 + 1 = k * 2 + 1 + 1 + 1 from by omega]
      simpa [hcells_cons, hRe] using this
theorem hcells_set (l : List (Int × Int)) : ∀ (k : Nat) (a p : Int), hcells (l.set k (a, p)) = ((hcells l).set (k * 2) (.int .i8 a)).set (k * 2 + 1) (.int .i8 p) := by
  induction l with
  | nil => intro k a p; simp [hcells_nil]
  | cons n l ih =>
    intro k a p
    cases k with
    | zero => simp [hcells_cons]
    | succ k =>
      rw [show (k + 1) * 2 = k * 2 + 1 + 1 from by omega, show k * 2 + 1 + 1 + 1 = k * 2 + 1 + 1 + 1 from rfl]
      simp [hcells_cons, ih]
theorem hcells_replicate (n : Nat) : hcells (List.replicate n (0, 0)) = (madeCells #[.int .i8 0, .int .i8 0] (n * 2)).toList := by
  apply List.ext_getElem?
  intro j
  by_cases hj : j < n * 2
  · rcases Nat.mod_two_eq_zero_or_one j with h | h
    · obtain ⟨k, rfl⟩ : ∃ k, j = k * 2 := ⟨j / 2, by omega⟩
      rw [hcells_even _ k (by simp; omega)]
      simp only [madeCells, hPi, List.getD, List.getElem?_replicate]
      rw [if_pos (by omega)]
      simp [hj]
    · obtain ⟨k, rfl⟩ : ∃ k, j = k * 2 + 1 := ⟨j / 2, by omega⟩
      rw [hcells_odd _ k (by simp; omega)]
      simp only [madeCells, hRe, List.getD, List.getElem?_replicate]
      rw [if_pos (by omega)]
      simp [hj]
  · rw [List.getElem?_eq_none (by rw [hcells_length]; simp; omega), List.getElem?_eq_none (by simp [madeCells]; omega)]

/-- a slice's address under which the hammers lie -/
def HA (w : World) (A : Option Addr) (l : List (Int × Int)) : Prop :=
  ∀ k, k < l.length → ∃ b o, A = some ⟨b, o, none⟩ ∧ b < w.heap.size ∧ w.cell? ⟨b, o + k * 2, none⟩ = some (.int .i8 (hPi l k)) ∧ w.cell? ⟨b, o + k * 2 + 1, none⟩ = some (.int .i8 (hRe l k))

theorem HA.below {w w' : World} {A : Option Addr} {l : List (Int × Int)} (h : HA w A l) (hb : Below w.heap.size w w') : HA w' A l := by
  intro k hk
  obtain ⟨b, o, rfl, hlt, h1, h2⟩ := h k hk
  exact ⟨b, o, rfl, Nat.lt_of_lt_of_le hlt hb.size, (hb.cell (p := ⟨b, _, none⟩) hlt).trans h1, (hb.cell (p := ⟨b, _, none⟩) hlt).trans h2⟩

theorem HA.of_own {w : World} {base : Nat} {e : TypeId} {A : Option Addr} {c : Nat} {l : List (Int × Int)} (h : w.ownsRow base e 2 (.slice A l.length c) l.length (hcells l)) : HA w A l := by
  intro k hk
  rcases h.2 with ⟨h', h0⟩ | ⟨g, cap, cur, h', hb, hg, _⟩
  · omega
  · simp only [Value.slice.injEq, true_and] at h'
    obtain ⟨rfl, rfl⟩ := h'
    refine ⟨g, 0, rfl, (Array.getElem?_eq_some_iff.1 hg).1, ?_, ?_⟩
    · rw [Nat.zero_add, h.cellAt (k * 2) (by omega), hcells_even l k hk]
    · rw [Nat.zero_add, h.cellAt (k * 2 + 1) (by omega), hcells_odd l k hk]

theorem hown_set2 {w : World} {base : Nat} {e : TypeId} {g n c : Nat} {l : List (Int × Int)} (h : w.ownsRow base e 2 (.slice (some ⟨g, 0, none⟩) n c) n (hcells l)) (k : Nat) (a p : Int) :
    ((w.setCell ⟨g, k * 2, none⟩ (.int .i8 a)).setCell ⟨g, k * 2 + 1, none⟩ (.int .i8 p)).ownsRow base e 2 (.slice (some ⟨g, 0, none⟩) n c) n (hcells (l.set k (a, p))) := by
  rw [hcells_set]
  exact ((h.stored (k * 2) (.int .i8 a)).1.stored (k * 2 + 1) (.int .i8 p)).1

def hupto (l : List (Int × Int)) (k : Nat) : List (Int × Int) := l.take k ++ List.replicate (l.length - k) (0, 0)
theorem hupto_length (l : List (Int × Int)) (k : Nat) (h : k ≤ l.length) : (hupto l k).length = l.length := by simp [hupto]; omega
theorem hupto_set (l : List (Int × Int)) (k : Nat) (h : k < l.length) : (hupto l k).set k (hPi l k, hRe l k) = hupto l (k + 1) := by
  have e1 : l.length - k = (l.length - (k + 1)) + 1 := by omega
  have e2 : (hPi l k, hRe l k) = l[k] := by simp [hPi, hRe, List.getD, h]
  rw [hupto, hupto, e1, List.replicate_succ, e2, List.take_succ_eq_append_getElem h, List.set_append_right _ _ (by simp; omega)]
  simp only [List.length_take, show k - min k l.length = 0 by omega, List.set_cons_zero, List.append_assoc, List.cons_append, List.nil_append]
theorem hupto_zero (l : List (Int × Int)) : hupto l 0 = List.replicate l.length (0, 0) := by simp [hupto]
theorem hupto_all (l : List (Int × Int)) : hupto l l.length = l := by simp [hupto]

end Go.Proofs.YtcepjiglhlmgdaaDoor
