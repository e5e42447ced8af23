import Derived.Test.YtghkcfghkbihcaaDoorGbm
import Derived.Test.YtghkcfghkbihcaaDoorAsc
import Derived.Maps.AppendAt
namespace Go.Proofs.YtghkcfghkbihcaaDoor
open Go.RowKit
theorem cell_two_new' (w : World) (x y : Value) (t : TypeId) : ∀ j u, ([x, y] : List Value)[j]? = some u → (w.alloc (.cells #[x, y] t)).cell? ((⟨w.heap.size, 0, none⟩ : Addr).add j) = some u := by
  intro j u hu
  rw [Addr.add_lit]
  match j, hu with
  | 0, hu => simp at hu; subst hu; simp [go_sem]
  | 1, hu => simp at hu; subst hu; simp [go_sem]
theorem own_emptyT {w : World} {base : Nat} (t : TypeId) (size : Nat) (h : base ≤ w.heap.size) : (w.alloc (.cells #[] t)).ownsRow base t size (.slice (some ⟨w.heap.size, 0, none⟩) 0 0) 0 [] :=
  ⟨by simp, Or.inr ⟨w.heap.size, 0, #[], rfl, h, heap_alloc_new _ _, by simp, by simp, by simp, by simp⟩⟩
theorem own_shapeT {w : World} {base : Nat} {e : TypeId} {size n : Nat} {v : Value} {xs : List Value} (h : w.ownsRow base e size v n xs) : ∃ A c, v = .slice A n c := by
  rcases h.2 with ⟨h', h0⟩ | ⟨g, cap, cur, h', _⟩
  · exact ⟨none, 0, by rw [h', h0]⟩
  · exact ⟨_, _, h'⟩
/-- notes of the call's own, and a code -/
def OwnN (w : World) (l : List (Int × Int)) (cc : Int) (e : Ending) (w' : World) : Prop := ∃ (C : Option Addr) (q : Nat), e = .returned (.tuple #[.slice C l.length q, .int .i64 cc]) ∧ w'.ownsRow w.heap.size 71 2 (.slice C l.length q) l.length (cellsOf l) ∧ Below w.heap.size w w'
/-- the same, the code being a bool -/
def OwnB (w : World) (l : List (Int × Int)) (b : Bool) (e : Ending) (w' : World) : Prop := ∃ (C : Option Addr) (q : Nat), e = .returned (.tuple #[.slice C l.length q, .bool b]) ∧ w'.ownsRow w.heap.size 71 2 (.slice C l.length q) l.length (cellsOf l) ∧ Below w.heap.size w w'
theorem ownN_nil {w w1 : World} (C : Option Addr) (q : Nat) (cc : Int) (h : w1.ownsRow w.heap.size 71 2 (.slice C 0 q) 0 []) (hb : Below w.heap.size w w1) : OwnN w [] cc (.returned (.tuple #[.slice C 0 q, .int .i64 cc])) w1 := ⟨C, q, rfl, h, hb⟩
theorem ownB_nil {w w1 : World} (C : Option Addr) (q : Nat) (cc : Bool) (h : w1.ownsRow w.heap.size 71 2 (.slice C 0 q) 0 []) (hb : Below w.heap.size w w1) : OwnB w [] cc (.returned (.tuple #[.slice C 0 q, .bool cc])) w1 := ⟨C, q, rfl, h, hb⟩
theorem ownN_of {w w1 : World} (C : Option Addr) (q : Nat) (cc : Int) (xs : List (Int × Int)) (n : Nat) (hn : xs.length = n) (h : w1.ownsRow w.heap.size 71 2 (.slice C n q) n (cellsOf xs)) (hb : Below w.heap.size w w1) : OwnN w xs cc (.returned (.tuple #[.slice C n q, .int .i64 cc])) w1 := by
  subst hn
  exact ⟨C, q, rfl, h, hb⟩
theorem ownB_of {w w1 : World} (C : Option Addr) (q : Nat) (cc : Bool) (xs : List (Int × Int)) (n : Nat) (hn : xs.length = n) (h : w1.ownsRow w.heap.size 71 2 (.slice C n q) n (cellsOf xs)) (hb : Below w.heap.size w w1) : OwnB w xs cc (.returned (.tuple #[.slice C n q, .bool cc])) w1 := by
  subst hn
  exact ⟨C, q, rfl, h, hb⟩
/-- the first k notes, put elsewhere -/
def chL (pf : Int → Int → Int × Int) (l : List (Int × Int)) (k : Nat) : List (Int × Int) := (List.range k).map fun i => pf (nAt l i) (nPi l i)
theorem chL_succ (pf : Int → Int → Int × Int) (l : List (Int × Int)) (k : Nat) : chL pf l (k + 1) = chL pf l k ++ [pf (nAt l k) (nPi l k)] := by simp [chL, List.range_succ]
theorem chL_len (pf : Int → Int → Int × Int) (l : List (Int × Int)) (k : Nat) : (chL pf l k).length = k := by simp [chL]
def chO (pf : Int → Int → Int × Int) (l : List (Int × Int)) (k : Nat) : Bool := (List.range k).all fun i => noteB (pf (nAt l i) (nPi l i)).1 (pf (nAt l i) (nPi l i)).2
theorem chO_succ (pf : Int → Int → Int × Int) (l : List (Int × Int)) (k : Nat) : chO pf l (k + 1) = (chO pf l k && noteB (pf (nAt l k) (nPi l k)).1 (pf (nAt l k) (nPi l k)).2) := by simp [chO, List.range_succ]
theorem chO_no {pf : Int → Int → Int × Int} {l : List (Int × Int)} {k n : Nat} (h : chO pf l k = false) (hk : k ≤ n) : chO pf l n = false := by
  induction n with
  | zero => obtain rfl : k = 0 := by omega
            exact h
  | succ n ih =>
    rcases Nat.lt_or_ge n k with h1 | h1
    · obtain rfl : k = n + 1 := by omega
      exact h
    · rw [chO_succ, ih h1]; rfl
def chC (pf : Int → Int → Int × Int) (l : List (Int × Int)) : Int := if chO pf l l.length then 0 else 4
def chV (pf : Int → Int → Int × Int) (l : List (Int × Int)) : List (Int × Int) := if chO pf l l.length then srtN (chL pf l l.length) else []
def chW (pf : Int → Int → Int × Int) (l : List (Int × Int)) : List (Int × Int) := if chO pf l l.length then chL pf l l.length else []
theorem chV_len (pf : Int → Int → Int × Int) (l : List (Int × Int)) : (chV pf l).length ≤ l.length := by
  unfold chV
  split
  · rw [srtN_len, chL_len]; exact Nat.le_refl _
  · simp
theorem chW_len (pf : Int → Int → Int × Int) (l : List (Int × Int)) : (chW pf l).length ≤ l.length := by
  unfold chW
  split
  · rw [chL_len]; exact Nat.le_refl _
  · simp
/-- a place function, called in worlds behind w -/
def PlaceOf (g : Nat) (cb : Array Value) (pf : Int → Int → Int × Int) (l : List (Int × Int)) (w : World) : Prop :=
  ∀ W, Below w.heap.size w W → ∀ k, k < l.length → Calls Tryd.prog g (#[.int .i64 (nAt l k), .int .i64 (nPi l k)] ++ cb) W fun e w' => e = .returned (.tuple #[.int .i64 (pf (nAt l k) (nPi l k)).1, .int .i64 (pf (nAt l k) (nPi l k)).2]) ∧ Below W.heap.size W w'
end Go.Proofs.YtghkcfghkbihcaaDoor
namespace Go.Proofs.YtghkcfghkbihcaaDoor
open Go.RowKit
/-- notes of the call's own -/
def OwnT (w : World) (l : List (Int × Int)) (e : Ending) (w' : World) : Prop := ∃ (C : Option Addr) (q : Nat), e = .returned (.slice C l.length q) ∧ w'.ownsRow w.heap.size 71 2 (.slice C l.length q) l.length (cellsOf l) ∧ Below w.heap.size w w'
theorem ownT_of {w w1 : World} (C : Option Addr) (q : Nat) (xs : List (Int × Int)) (n : Nat) (hn : n = xs.length) (h : w1.ownsRow w.heap.size 71 2 (.slice C n q) n (cellsOf xs)) (hb : Below w.heap.size w w1) : OwnT w xs (.returned (.slice C n q)) w1 := by
  subst hn
  exact ⟨C, q, rfl, h, hb⟩
theorem insU_le (x : Int × Int) (l : List (Int × Int)) : (insU l x).length ≤ l.length + 1 := by
  unfold insU
  split
  · omega
  · simp; omega
theorem foldU_le : ∀ (l acc : List (Int × Int)), (l.foldl insU acc).length ≤ acc.length + l.length
  | [], acc => by simp
  | x :: l, acc => by
    have h1 := foldU_le l (insU acc x)
    have h2 := insU_le x acc
    simp only [List.foldl_cons, List.length_cons]
    omega
theorem sortU_le (l : List (Int × Int)) : (sortU l).length ≤ l.length := by have := foldU_le l []; simpa [sortU] using this
theorem posN_before (x : Int × Int) : ∀ (l : List (Int × Int)) (j : Nat), j < posN x l → befB (nAt l j) (nPi l j) x.1 x.2 = true
  | [], j, h => absurd h (Nat.not_lt_zero _)
  | y :: l, j, h => by
    unfold posN at h
    by_cases hb : befB y.1 y.2 x.1 x.2
    · rw [if_pos hb] at h
      cases j with
      | zero => simpa [nAt, nPi] using hb
      | succ j => simpa [nAt, nPi] using posN_before x l j (by omega)
    · rw [if_neg hb] at h; omega
theorem posN_stop (x : Int × Int) : ∀ (l : List (Int × Int)), posN x l < l.length → befB (nAt l (posN x l)) (nPi l (posN x l)) x.1 x.2 = false
  | [], h => absurd h (Nat.not_lt_zero _)
  | y :: l, h => by
    by_cases hb : befB y.1 y.2 x.1 x.2
    · have hp : posN x (y :: l) = posN x l + 1 := by simp [posN, hb]
      rw [hp] at h ⊢
      simpa [nAt, nPi] using posN_stop x l (by simpa using h)
    · have hp : posN x (y :: l) = 0 := by simp [posN, hb]
      rw [hp]
      simpa [nAt, nPi] using hb
theorem getN (l : List (Int × Int)) (j : Nat) (h : j < l.length) : l[j]? = some (nAt l j, nPi l j) := by simp [nAt, nPi, List.getD, h]
theorem insU_there {l : List (Int × Int)} {x : Int × Int} (h : posN x l < l.length) (he : nAt l (posN x l) = x.1 ∧ nPi l (posN x l) = x.2) : insU l x = l := by
  unfold insU
  rw [if_pos]
  rw [getN l _ h, he.1, he.2]
theorem insU_else {l : List (Int × Int)} {x : Int × Int} (h : ∀ _ : posN x l < l.length, ¬ (nAt l (posN x l) = x.1 ∧ nPi l (posN x l) = x.2)) : insU l x = l.take (posN x l) ++ x :: l.drop (posN x l) := by
  unfold insU
  rw [if_neg]
  intro e
  have hlt : posN x l < l.length := (List.getElem?_eq_some_iff.1 e).1
  rw [getN l _ hlt] at e
  have := Option.some.inj e
  exact h hlt ⟨congrArg Prod.fst this, congrArg Prod.snd this⟩
theorem cellsOf_take (l : List (Int × Int)) (k : Nat) : (cellsOf l).take (k * 2) = cellsOf (l.take k) := by
  induction l generalizing k with
  | nil => simp [cellsOf_nil]
  | cons n l ih =>
    cases k with
    | zero => simp [cellsOf]
    | succ k =>
      rw [cellsOf_cons, List.take_succ_cons, cellsOf_cons, show (k + 1) * 2 = k * 2 + 1 + 1 by omega, List.take_succ_cons, List.take_succ_cons, ih]
theorem cellsOf_drop (l : List (Int × Int)) (k : Nat) : (cellsOf l).drop (k * 2) = cellsOf (l.drop k) := by
  induction l generalizing k with
  | nil => simp [cellsOf_nil]
  | cons n l ih =>
    cases k with
    | zero => simp
    | succ k =>
      rw [cellsOf_cons, List.drop_succ_cons, show (k + 1) * 2 = k * 2 + 1 + 1 by omega, List.drop_succ_cons, List.drop_succ_cons, ih]
theorem cellsOf_one (l : List (Int × Int)) : ∀ u ∈ cellsOf l, u.oneCell' = true := by
  intro u hu
  simp only [cellsOf, List.mem_flatMap] at hu
  obtain ⟨n, _, hn⟩ := hu
  simp at hn
  rcases hn with rfl | rfl <;> rfl
/-- the first k elements of a row of the call's own -/
theorem own_take {w : World} {base g n q : Nat} {t : TypeId} {l : List (Int × Int)} (h : w.ownsRow base t 2 (.slice (some ⟨g, 0, none⟩) n q) n (cellsOf l)) (k : Nat) (hk : k ≤ n) :
    w.ownsRow base t 2 (.slice (some ⟨g, 0, none⟩) k q) k (cellsOf (l.take k)) := by
  rcases h with ⟨hl, h' | ⟨g', cap, cur, h', hb, hg, hn, hm, hs, ht⟩⟩
  · simp at h'
  · simp only [Value.slice.injEq, Option.some.injEq, Addr.mk.injEq, and_true, true_and] at h'
    obtain ⟨rfl, rfl⟩ := h'
    have e : (cellsOf l).take (k * 2) = cellsOf (l.take k) := cellsOf_take l k
    refine ⟨?_, Or.inr ⟨g, q, cur, rfl, hb, hg, Nat.le_trans hk hn, hm, hs, ?_⟩⟩
    · rw [← e, List.length_take, hl]; omega
    · rw [← e, ← ht, List.take_take]
      congr 1
      omega
/-- the cells of a row from one of its elements on -/
theorem own_from {w : World} {base g n q : Nat} {t : TypeId} {l : List (Int × Int)} (h : w.ownsRow base t 2 (.slice (some ⟨g, 0, none⟩) n q) n (cellsOf l)) (k : Nat) :
    ∀ j u, (cellsOf (l.drop k))[j]? = some u → w.cell? ⟨g, k * 2 + j, none⟩ = some u := by
  intro j u hu
  rw [← cellsOf_drop, List.getElem?_drop] at hu
  have hj : k * 2 + j < n * 2 := by
    rw [← h.1]
    exact (List.getElem?_eq_some_iff.1 hu).1
  rw [h.cellAt _ hj]
  exact hu
theorem own_some {w : World} {base : Nat} {e : TypeId} {size n : Nat} {v : Value} {xs : List Value} (h : w.ownsRow base e size v n xs) (hne : v ≠ .slice none 0 0) : ∃ g c, v = .slice (some ⟨g, 0, none⟩) n c ∧ base ≤ g ∧ g < w.heap.size ∧ n ≤ c ∧ c ≤ maxLen := by
  rcases h.2 with ⟨h', _⟩ | ⟨g, cap, cur, h', hb, hg, hn, hm, _⟩
  · exact absurd h' hne
  · exact ⟨g, cap, h', hb, (Array.getElem?_eq_some_iff.1 hg).1, hn, hm⟩
theorem run_eq_note (a p b q : Int) (w : World) : (Go.binOp .eql 71 (.agg #[.int .i16 a, .int .i8 p]) (.agg #[.int .i16 b, .int .i8 q])).run Tryd.prog w = .ok (.bool (decide (a = b ∧ p = q))) w := by
  simp [go_sem]
  by_cases h : a = b <;> by_cases h' : p = q <;> simp [h, h']
end Go.Proofs.YtghkcfghkbihcaaDoor
