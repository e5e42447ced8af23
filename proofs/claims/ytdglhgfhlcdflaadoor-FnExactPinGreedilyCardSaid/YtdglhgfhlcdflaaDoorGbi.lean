import Derived.Test.YtdglhgfhlcdflaaDoorGbh
import Derived.Outline
import Derived.Test.YtdglhgfhlcdflaaDoorGau
namespace Go.Proofs.YtdglhgfhlcdflaaDoor
open Go.RowKit
/-- notes of the call's own -/
def OwnT (w : World) (l : List (Int × Int)) (e : Ending) (w' : World) : Prop := ∃ (C : Option Addr) (q : Nat), e = .returned (.slice C l.length q) ∧ w'.ownsRow w.heap.size 65 2 (.slice C l.length q) l.length (cellsOf l) ∧ Below w.heap.size w w'
theorem ownT_of {w w1 : World} (C : Option Addr) (q : Nat) (xs : List (Int × Int)) (n : Nat) (hn : n = xs.length) (h : w1.ownsRow w.heap.size 65 2 (.slice C n q) n (cellsOf xs)) (hb : Below w.heap.size w w1) : OwnT w xs (.returned (.slice C n q)) w1 := by
  subst hn
  exact ⟨C, q, rfl, h, hb⟩
theorem insU_le (x : Int × Int) (l : List (Int × Int)) : (insU l x).length ≤ l.length + 1 := by
  unfold insU
  split
  · omega
  · simp; omega
theorem foldU_le : ∀ (l acc : List (Int × Int)), (l.foldl insU acc).length ≤ acc.length + l.length
  | [], acc => by simp
  | x :: l, acc => by
    have h1 := foldU_le l (insU acc x)
    have h2 := insU_le x acc
    simp only [List.foldl_cons, List.length_cons]
    omega
theorem sortU_le (l : List (Int × Int)) : (sortU l).length ≤ l.length := by have := foldU_le l []; simpa [sortU] using this
theorem posN_before (x : Int × Int) : ∀ (l : List (Int × Int)) (j : Nat), j < posN x l → befB (nAt l j) (nPi l j) x.1 x.2 = true
  | [], j, h => absurd h (Nat.not_lt_zero _)
  | y :: l, j, h => by
    unfold posN at h
    by_cases hb : befB y.1 y.2 x.1 x.2
    · rw [if_pos hb] at h
      cases j with
      | zero => simpa [nAt, nPi] using hb
      | succ j => simpa [nAt, nPi] using posN_before x l j (by omega)
    · rw [if_neg hb] at h; omega
theorem posN_stop (x : Int × Int) : ∀ (l : List (Int × Int)), posN x l < l.length → befB (nAt l (posN x l)) (nPi l (posN x l)) x.1 x.2 = false
  | [], h => absurd h (Nat.not_lt_zero _)
  | y :: l, h => by
    by_cases hb : befB y.1 y.2 x.1 x.2
    · have hp : posN x (y :: l) = posN x l + 1 := by simp [posN, hb]
      rw [hp] at h ⊢
      simpa [nAt, nPi] using posN_stop x l (by simpa using h)
    · have hp : posN x (y :: l) = 0 := by simp [posN, hb]
      rw [hp]
      simpa [nAt, nPi] using hb
theorem getN (l : List (Int × Int)) (j : Nat) (h : j < l.length) : l[j]? = some (nAt l j, nPi l j) := by simp [nAt, nPi, List.getD, h]
theorem insU_there {l : List (Int × Int)} {x : Int × Int} (h : posN x l < l.length) (he : nAt l (posN x l) = x.1 ∧ nPi l (posN x l) = x.2) : insU l x = l := by
  unfold insU
  rw [if_pos]
  rw [getN l _ h, he.1, he.2]
theorem insU_else {l : List (Int × Int)} {x : Int × Int} (h : ∀ _ : posN x l < l.length, ¬ (nAt l (posN x l) = x.1 ∧ nPi l (posN x l) = x.2)) : insU l x = l.take (posN x l) ++ x :: l.drop (posN x l) := by
  unfold insU
  rw [if_neg]
  intro e
  have hlt : posN x l < l.length := (List.getElem?_eq_some_iff.1 e).1
  rw [getN l _ hlt] at e
  have := Option.some.inj e
  exact h hlt ⟨congrArg Prod.fst this, congrArg Prod.snd this⟩
theorem cellsOf_take (l : List (Int × Int)) (k : Nat) : (cellsOf l).take (k * 2) = cellsOf (l.take k) := by
  induction l generalizing k with
  | nil => simp [cellsOf_nil]
  | cons n l ih =>
    cases k with
    | zero => simp [cellsOf]
    | succ k =>
      rw [cellsOf_cons, List.take_succ_cons, cellsOf_cons, show (k + 1) * 2 = k * 2 + 1 + 1 by omega, List.take_succ_cons, List.take_succ_cons, ih]
theorem cellsOf_drop (l : List (Int × Int)) (k : Nat) : (cellsOf l).drop (k * 2) = cellsOf (l.drop k) := by
  induction l generalizing k with
  | nil => simp [cellsOf_nil]
  | cons n l ih =>
    cases k with
    | zero => simp
    | succ k =>
      rw [cellsOf_cons, List.drop_succ_cons, show (k + 1) * 2 = k * 2 + 1 + 1 by omega, List.drop_succ_cons, List.drop_succ_cons, ih]
theorem cellsOf_one (l : List (Int × Int)) : ∀ u ∈ cellsOf l, u.oneCell' = true := by
  intro u hu
  simp only [cellsOf, List.mem_flatMap] at hu
  obtain ⟨n, _, hn⟩ := hu
  simp at hn
  rcases hn with rfl | rfl <;> rfl
/-- the first k elements of a row of the call's own -/
theorem own_take {w : World} {base g n q : Nat} {t : TypeId} {l : List (Int × Int)} (h : w.ownsRow base t 2 (.slice (some ⟨g, 0, none⟩) n q) n (cellsOf l)) (k : Nat) (hk : k ≤ n) :
    w.ownsRow base t 2 (.slice (some ⟨g, 0, none⟩) k q) k (cellsOf (l.take k)) := by
  rcases h with ⟨hl, h' | ⟨g', cap, cur, h', hb, hg, hn, hm, hs, ht⟩⟩
  · simp at h'
  · simp only [Value.slice.injEq, Option.some.injEq, Addr.mk.injEq, and_true, true_and] at h'
    obtain ⟨rfl, rfl⟩ := h'
    have e : (cellsOf l).take (k * 2) = cellsOf (l.take k) := cellsOf_take l k
    refine ⟨?_, Or.inr ⟨g, q, cur, rfl, hb, hg, Nat.le_trans hk hn, hm, hs, ?_⟩⟩
    · rw [← e, List.length_take, hl]; omega
    · rw [← e, ← ht, List.take_take]
      congr 1
      omega
/-- the cells of a row from one of its elements on -/
theorem own_from {w : World} {base g n q : Nat} {t : TypeId} {l : List (Int × Int)} (h : w.ownsRow base t 2 (.slice (some ⟨g, 0, none⟩) n q) n (cellsOf l)) (k : Nat) :
    ∀ j u, (cellsOf (l.drop k))[j]? = some u → w.cell? ⟨g, k * 2 + j, none⟩ = some u := by
  intro j u hu
  rw [← cellsOf_drop, List.getElem?_drop] at hu
  have hj : k * 2 + j < n * 2 := by
    rw [← h.1]
    exact (List.getElem?_eq_some_iff.1 hu).1
  rw [h.cellAt _ hj]
  exact hu
theorem own_some {w : World} {base : Nat} {e : TypeId} {size n : Nat} {v : Value} {xs : List Value} (h : w.ownsRow base e size v n xs) (hne : v ≠ .slice none 0 0) : ∃ g c, v = .slice (some ⟨g, 0, none⟩) n c ∧ base ≤ g ∧ g < w.heap.size ∧ n ≤ c ∧ c ≤ maxLen := by
  rcases h.2 with ⟨h', _⟩ | ⟨g, cap, cur, h', hb, hg, hn, hm, _⟩
  · exact absurd h' hne
  · exact ⟨g, cap, h', hb, (Array.getElem?_eq_some_iff.1 hg).1, hn, hm⟩
theorem run_eq_note (a p b q : Int) (w : World) : (Go.binOp .eql 65 (.agg #[.int .i16 a, .int .i8 p]) (.agg #[.int .i16 b, .int .i8 q])).run Tryd.prog w = .ok (.bool (decide (a = b ∧ p = q))) w := by
  simp [go_sem]
  by_cases h : a = b <;> by_cases h' : p = q <;> simp [h, h']
end Go.Proofs.YtdglhgfhlcdflaaDoor
namespace Go.Proofs.YtdglhgfhlcdflaaDoor
open Go.RowKit
end Go.Proofs.YtdglhgfhlcdflaaDoor
namespace Go.Proofs.YtdglhgfhlcdflaaDoor
open Go.RowKit
theorem chL_nodup {pf : Int → Int → Int × Int} {l : List (Int × Int)} (h : AscN l) (hm : ∀ x y, x ∈ l → y ∈ l → ltN x y → pf x.1 x.2 ≠ pf y.1 y.2) : (chL pf l l.length).Nodup := by
  rw [chL_map]
  refine List.pairwise_map.2 ?_
  exact List.Pairwise.imp_of_mem (fun {x y} hx hy hxy => hm x y hx hy hxy) h
theorem chV_sort {pf : Int → Int → Int × Int} {l : List (Int × Int)} (h : (chL pf l l.length).Nodup) (ho : chO pf l l.length = true) : chV pf l = sortU (chL pf l l.length) := by
  unfold chV
  rw [if_pos ho]
  exact srtN_eq_sortU _ _ h fun _ => Iff.rfl
theorem asc_le {l : List (Int × Int)} (h : AscN l) {i j : Nat} (hij : i ≤ j) (hj : j < l.length) : nAt l i ≤ nAt l j := by
  rcases Nat.lt_or_ge i j with h1 | h1
  · have h2 := List.pairwise_iff_getElem.1 h i j (by omega) hj h1
    have e1 : nAt l i = l[i].1 := by simp [nAt, List.getD, show i < l.length by omega]
    have e2 : nAt l j = l[j].1 := by simp [nAt, List.getD, hj]
    unfold ltN at h2
    omega
  · obtain rfl : i = j := by omega
    exact Int.le_refl _
/-- backward -/
def bkP (last a q : Int) : Int × Int := (last - a, q)
theorem bk_in {l : List (Int × Int)} (h : okB l = true) (k : Nat) (hk : k < l.length) : (0 ≤ lenI l - 1 - nAt l k ∧ lenI l - 1 - nAt l k ≤ 199) ∧ (0 ≤ lenI l ∧ lenI l ≤ 200) := by
  have h1 := asc_le (asc_of_ok h) (show k ≤ l.length - 1 by omega) (by omega)
  have h2 := (ok_in h k hk).1
  have h3 := (ok_in h (l.length - 1) (by omega)).1
  have e : lenI l = nAt l (l.length - 1) + 1 := by
    unfold lenI
    split
    · omega
    · rfl
  omega
theorem len_in {l : List (Int × Int)} (h : okB l = true) : 0 ≤ lenI l ∧ lenI l ≤ 200 := by
  rcases Nat.eq_zero_or_pos l.length with e | e
  · unfold lenI
    split
    · omega
    · omega
  · exact (bk_in h 0 e).2
theorem bk_ok {l : List (Int × Int)} (h : okB l = true) : chO (bkP (lenI l - 1)) l l.length = true := by
  simp only [chO, List.all_eq_true, List.mem_range]
  intro i hi
  have h1 := bk_in h i hi
  have h2 := ok_in h i hi
  simp [bkP, noteB]
  omega
theorem bk_nodup {l : List (Int × Int)} (last : Int) (h : okB l = true) : (chL (bkP last) l l.length).Nodup :=
  chL_nodup (asc_of_ok h) fun x y _ _ hxy e => by
    have e1 := congrArg Prod.fst e
    have e2 := congrArg Prod.snd e
    simp only [bkP] at e1 e2
    unfold ltN at hxy
    omega
def bwC (l : List (Int × Int)) : Int := if okB l then 0 else 1
def bwV (l : List (Int × Int)) : List (Int × Int) := if okB l then sortU (chL (bkP (lenI l - 1)) l l.length) else []
theorem bwV_le (l : List (Int × Int)) : (bwV l).length ≤ l.length := by
  unfold bwV
  split
  · exact Nat.le_trans (sortU_le _) (Nat.le_of_eq (chL_len _ _ _))
  · simp
end Go.Proofs.YtdglhgfhlcdflaaDoor
