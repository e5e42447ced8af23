import Derived.Test.YtcepjiglhlmgdaaDoorPns
namespace Go.Proofs.YtcepjiglhlmgdaaDoor
open Go.RowKit Go.Shelf
attribute [local go_sem] Oper.semAt_some

/-- the pins of a track ahead of a step -/
def trkC (d : Nat → Int) (t k : Nat) : Nat := ((List.range k).filter fun j => pinB d j t).length
theorem trkC_zero (d : Nat → Int) (t : Nat) : trkC d t 0 = 0 := rfl
theorem trkC_succ (d : Nat → Int) (t k : Nat) : trkC d t (k + 1) = trkC d t k + if pinB d k t = true then 1 else 0 := by
  unfold trkC
  rw [List.range_succ, List.filter_append, List.length_append]
  cases h : pinB d k t <;> simp [h]
theorem trkC_le (d : Nat → Int) (t k : Nat) : trkC d t k ≤ k := by simpa [trkC] using List.length_filter_le (fun j => pinB d j t) (List.range k)
def rowA (d : Nat → Int) (n k i : Nat) : List Nat := (List.range n).map fun t => trkC d t k + if t < i ∧ pinB d k t = true then 1 else 0
theorem rowA_len (d : Nat → Int) (n k i : Nat) : (rowA d n k i).length = n := by simp [rowA]
theorem rowA_get (d : Nat → Int) (n k i t : Nat) (h : t < n) : (rowA d n k i)[t]? = some (trkC d t k + if t < i ∧ pinB d k t = true then 1 else 0) := by simp [rowA, h]
theorem rowA_zero (d : Nat → Int) (n : Nat) : rowA d n 0 0 = List.replicate n 0 := by
  apply List.ext_getElem?
  intro t
  by_cases h : t < n
  · rw [rowA_get _ _ _ _ _ h]; simp [trkC_zero, h]
  · rw [List.getElem?_eq_none (by rw [rowA_len]; omega), List.getElem?_eq_none (by simp; omega)]
theorem rowA_next (d : Nat → Int) (n k : Nat) : rowA d n k n = rowA d n (k + 1) 0 := by
  apply List.map_congr_left
  intro t ht
  have := List.mem_range.1 ht
  rw [trkC_succ]
  simp [this]
theorem rowA_set (d : Nat → Int) (n k i : Nat) (hi : i < n) (h : pinB d k i = true) : (rowA d n k i).set i (trkC d i k + 1) = rowA d n k (i + 1) := by
  apply List.ext_getElem?
  intro t
  by_cases ht : t < n
  · rw [List.getElem?_set, rowA_get _ _ _ _ _ ht, rowA_get _ _ _ _ _ ht, rowA_len]
    by_cases e : i = t
    · subst e
      rw [if_pos rfl, if_pos hi, if_pos ⟨by omega, h⟩]
    · rw [if_neg e]
      have : (t < i ∧ pinB d k t = true) ↔ (t < i + 1 ∧ pinB d k t = true) := by constructor <;> (rintro ⟨h1, h2⟩; exact ⟨by omega, h2⟩)
      simp only [this]
  · rw [List.getElem?_eq_none (by rw [List.length_set, rowA_len]; omega), List.getElem?_eq_none (by rw [rowA_len]; omega)]
theorem rowA_skip (d : Nat → Int) (n k i : Nat) (h : pinB d k i = false) : rowA d n k i = rowA d n k (i + 1) := by
  apply List.map_congr_left
  intro t ht
  by_cases e : t = i
  · subst e; simp [h]
  · have : (t < i ∧ pinB d k t = true) ↔ (t < i + 1 ∧ pinB d k t = true) := by constructor <;> (rintro ⟨h1, h2⟩; exact ⟨by omega, h2⟩)
    simp only [this]
theorem tcells_len (xs : List Nat) : (tcells xs).length = xs.length := by simp [tcells]
theorem tcells_get {xs : List Nat} {i v : Nat} (h : xs[i]? = some v) : (tcells xs)[i]? = some (.int .i64 (v : Int)) := by simp [tcells, h]
theorem tcells_set (xs : List Nat) (i v : Nat) : (tcells xs).set i (.int .i64 (v : Int)) = tcells (xs.set i v) := by simp [tcells, List.map_set]
theorem tcells_rep (n : Nat) : tcells (List.replicate n 0) = (madeCells #[.int .i64 0] n).toList := by
  apply List.ext_getElem?
  intro j
  by_cases hj : j < n
  · simp [tcells, madeCells, hj, Nat.mod_one]
  · rw [List.getElem?_eq_none (by rw [tcells_len]; simp; omega), List.getElem?_eq_none (by simp [madeCells]; omega)]
/-- how many pins of a list each track has -/
def rowPb (n : Nat) (l : List (Nat × Nat)) : List Nat := (List.range n).map fun t => (l.filter fun p => decide (p.2 = t)).length
theorem rowPb_len (n : Nat) (l : List (Nat × Nat)) : (rowPb n l).length = n := by simp [rowPb]
theorem rowPb_get (n : Nat) (l : List (Nat × Nat)) (t : Nat) (h : t < n) : (rowPb n l)[t]? = some (l.filter fun p => decide (p.2 = t)).length := by simp [rowPb, h]
theorem rowPb_nil (n : Nat) : rowPb n [] = List.replicate n 0 := by
  apply List.ext_getElem?
  intro t
  by_cases h : t < n
  · rw [rowPb_get _ _ _ h]; simp [h]
  · rw [List.getElem?_eq_none (by rw [rowPb_len]; omega), List.getElem?_eq_none (by simp; omega)]
theorem rowPb_snoc (n : Nat) (l : List (Nat × Nat)) (p : Nat × Nat) (h : p.2 < n) : (rowPb n l).set p.2 ((l.filter fun q => decide (q.2 = p.2)).length + 1) = rowPb n (l ++ [p]) := by
  apply List.ext_getElem?
  intro t
  by_cases ht : t < n
  · rw [List.getElem?_set, rowPb_get _ _ _ ht, rowPb_get _ _ _ ht, rowPb_len, List.filter_append, List.length_append]
    by_cases e : p.2 = t
    · rw [if_pos e, if_pos h]; simp [e]
    · rw [if_neg e]; simp [e]
  · rw [List.getElem?_eq_none (by rw [List.length_set, rowPb_len]; omega), List.getElem?_eq_none (by rw [rowPb_len]; omega)]
theorem one_filter (p : Nat → Bool) (t : Nat) : ∀ m, ((List.range m).filter fun a => decide (a = t) && p a).length = if t < m ∧ p t = true then 1 else 0
  | 0 => by simp
  | m + 1 => by
    rw [List.range_succ, List.filter_append, List.length_append, one_filter p t m]
    by_cases e : m = t
    · subst e
      have h1 : ¬ (m < m ∧ p m = true) := fun h => by omega
      rw [if_neg h1]
      cases h : p m <;> simp [h]
    · have h2 : (t < m + 1 ∧ p t = true) ↔ (t < m ∧ p t = true) := by constructor <;> (rintro ⟨h1, h2⟩; exact ⟨by omega, h2⟩)
      simp only [h2]
      simp [e]
theorem pins_trk (d : Nat → Int) (hd : DWF d) (t : Nat) (ht : t < 32) : ∀ k, k ≤ 96 → ((pinsT d k).filter fun p => decide (p.2 = t)).length = trkC d t k
  | 0, _ => rfl
  | k + 1, h => by
    rw [pinsT_succ, List.filter_append, List.length_append, pins_trk d hd t ht k (by omega), trkC_succ, pin_bit (hd k (by omega)).1]
    congr 1
    have e : (((bitsL (d k).toNat).map fun t => (k, t)).filter fun p => decide (p.2 = t)).length = ((List.range 32).filter fun a => decide (a = t) && (d k).toNat.testBit a).length := by
      rw [List.filter_map, List.length_map]
      unfold bitsL
      rw [List.filter_filter]
      rfl
    rw [e, one_filter]
    simp [ht]
theorem pin_in {s : Int} {n : Nat} {d : Nat → Int} (h : drB s n d = true) (hd : DWF d) {k t : Nat} (hk : k < 96) (hp : pinB d k t = true) : (k : Int) < s ∧ t < n := by
  have h1 := drB_all h k hk
  obtain ⟨x1, x2⟩ := hd k hk
  simp only [stepB, Bool.and_eq_true, Bool.or_eq_true, decide_eq_true_eq] at h1
  rw [pin_bit x1] at hp
  have h0 : d k ≠ 0 := by
    intro e
    rw [e] at hp
    simp at hp
  refine ⟨by omega, ?_⟩
  rcases Nat.lt_or_ge t n with h2 | h2
  · exact h2
  · exfalso
    obtain ⟨x, hx⟩ := Int.eq_ofNat_of_zero_le x1
    rw [hx, Int.toNat_natCast] at hp
    have h3 : x / 2 ^ n = 0 := by have := h1.1; rw [hx] at this; exact_mod_cast this
    have h4 : x < 2 ^ n := by
      rcases Nat.lt_or_ge x (2 ^ n) with h5 | h5
      · exact h5
      · have := Nat.div_pos h5 (Nat.two_pow_pos n); omega
    have h5 : x < 2 ^ t := Nat.lt_of_lt_of_le h4 (Nat.pow_le_pow_right (by omega) h2)
    rw [Nat.testBit_lt_two_pow h5] at hp
    cases hp
theorem trkC_stop {s : Int} {n : Nat} {d : Nat → Int} (h : drB s n d = true) (hd : DWF d) (t S : Nat) (hS : s = (S : Int)) : ∀ m, S + m ≤ 96 → trkC d t (S + m) = trkC d t S
  | 0, _ => rfl
  | m + 1, hm => by
    rw [← Nat.add_assoc, trkC_succ, trkC_stop h hd t S hS m (by omega)]
    have : ¬ pinB d (S + m) t = true := fun hp => by have := (pin_in h hd (by omega) hp).1; omega
    rw [if_neg this, Nat.add_zero]
theorem row_end {s : Int} {n S : Nat} {d : Nat → Int} (h : drB s n d = true) (hd : DWF d) (hS : s = (S : Int)) (hS96 : S ≤ 96) (hn : n ≤ 24) : rowPb n (pinsL d) = rowA d n S 0 := by
  apply List.map_congr_left
  intro t ht
  have := List.mem_range.1 ht
  have h1 := pins_trk d hd t (by omega) 96 (Nat.le_refl _)
  have h2 := trkC_stop h hd t S hS (96 - S) (by omega)
  rw [show S + (96 - S) = 96 by omega] at h2
  unfold pinsL
  rw [h1, h2]
  simp
def pbL (s : Int) (l : List (Int × Int)) (d : Nat → Int) : List Nat := if askB s l d then rowA d l.length s.toNat 0 else []
theorem pbL_len (s : Int) (l : List (Int × Int)) (d : Nat → Int) (hn : l.length ≤ 1048576) : (pbL s l d).length ≤ 1048576 := by
  unfold pbL
  split
  · rw [rowA_len]; exact hn
  · simp

theorem TabW.kb {W : World} (l : Nat) {o : Obj} (o' : Obj) (ho : W.heap[l]? = some o) (hc : o.isCells = false) (h : TabW W) : TabW (W.putObj l o') := fun j hj =>
  cell_kept (h j hj) (grownBy_putObj' W l o') (fun r e => by cases e; exact ⟨o, ho, hc⟩)
theorem TabW.set {w : World} {b i : Nat} {v : Value} (h : TabW w) (hb : w.heap.size ≤ b ∨ 7 < b) : TabW (w.setCell ⟨b, i, none⟩ v) := fun j hj =>
  (cell_block (heap_setCell_other _ _ _ _ (by have := h.lt; rcases hb with h | h <;> (dsimp only; omega)))).trans (h j hj)

end Go.Proofs.YtcepjiglhlmgdaaDoor
