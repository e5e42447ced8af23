import Derived.Test.YtmmninlnpnhboaaGreatDoorGbf
namespace Go.Proofs.YtmmninlnpnhboaaGreatDoor
open Go.RowKit Go.Shelf
attribute [local go_sem] Oper.semAt_some

/-- the pins of a track ahead of a step -/
def trkC (d : Nat → Int) (t k : Nat) : Nat := ((List.range k).filter fun j => pinB d j t).length
theorem trkC_zero (d : Nat → Int) (t : Nat) : trkC d t 0 = 0 := rfl
theorem trkC_succ (d : Nat → Int) (t k : Nat) : trkC d t (k + 1) = trkC d t k + if pinB d k t = true then 1 else 0 := by
  unfold trkC
  rw [List.range_succ, List.filter_append, List.length_append]
  cases h : pinB d k t <;> simp [h]
theorem trkC_le (d : Nat → Int) (t k : Nat) : trkC d t k ≤ k := by simpa [trkC] using List.length_filter_le (fun j => pinB d j t) (List.range k)
def rowA (d : Nat → Int) (n k i : Nat) : List Nat := (List.range n).map fun t => trkC d t k + if t < i ∧ pinB d k t = true then 1 else 0
theorem rowA_len (d : Nat → Int) (n k i : Nat) : (rowA d n k i).length = n := by simp [rowA]
theorem rowA_get (d : Nat → Int) (n k i t : Nat) (h : t < n) : (rowA d n k i)[t]? = some (trkC d t k + if t < i ∧ pinB d k t = true then 1 else 0) := by simp [rowA, h]
theorem rowA_zero (d : Nat → Int) (n : Nat) : rowA d n 0 0 = List.replicate n 0 := by
  apply List.ext_getElem?
  intro t
  by_cases h : t < n
  · rw [rowA_get _ _ _ _ _ h]; simp [trkC_zero, h]
  · rw [List.getElem?_eq_none (by rw [rowA_len]; omega), List.getElem?_eq_none (by simp; omega)]
theorem rowA_next (d : Nat → Int) (n k : Nat) : rowA d n k n = rowA d n (k + 1) 0 := by
  apply List.map_congr_left
  intro t ht
  have := List.mem_range.1 ht
  rw [trkC_succ]
  simp [this]
theorem rowA_set (d : Nat → Int) (n k i : Nat) (hi : i < n) (h : pinB d k i = true) : (rowA d n k i).set i (trkC d i k + 1) = rowA d n k (i + 1) := by
  apply List.ext_getElem?
  intro t
  by_cases ht : t < n
  · rw [List.getElem?_set, rowA_get _ _ _ _ _ ht, rowA_get _ _ _ _ _ ht, rowA_len]
    by_cases e : i = t
    · subst e
      rw [if_pos rfl, if_pos hi, if_pos ⟨by omega, h⟩]
    · rw [if_neg e]
      have : (t < i ∧ pinB d k t = true) ↔ (t < i + 1 ∧ pinB d k t = true) := by constructor <;> (rintro ⟨h1, h2⟩; exact ⟨by omega, h2⟩)
      simp only [this]
  · rw [List.getElem?_eq_none (by rw [List.length_set, rowA_len]; omega), List.getElem?_eq_none (by rw [rowA_len]; omega)]
theorem rowA_skip (d : Nat → Int) (n k i : Nat) (h : pinB d k i = false) : rowA d n k i = rowA d n k (i + 1) := by
  apply List.map_congr_left
  intro t ht
  by_cases e : t = i
  · subst e; simp [h]
  · have : (t < i ∧ pinB d k t = true) ↔ (t < i + 1 ∧ pinB d k t = true) := by constructor <;> (rintro ⟨h1, h2⟩; exact ⟨by omega, h2⟩)
    simp only [this]
theorem tcells_len (xs : List Nat) : (tcells xs).length = xs.length := by simp [tcells]
theorem tcells_get {xs : List Nat} {i v : Nat} (h : xs[i]? = some v) : (tcells xs)[i]? = some (.int .i64 (v : Int)) := by simp [tcells, h]
theorem tcells_set (xs : List Nat) (i v : Nat) : (tcells xs).set i (.int .i64 (v : Int)) = tcells (xs.set i v) := by simp [tcells, List.map_set]
theorem tcells_rep (n : Nat) : tcells (List.replicate n 0) = (madeCells #[.int .i64 0] n).toList := by
  apply List.ext_getElem?
  intro j
  by_cases hj : j < n
  · simp [tcells, madeCells, hj, Nat.mod_one]
  · rw [List.getElem?_eq_none (by rw [tcells_len]; simp; omega), List.getElem?_eq_none (by simp [madeCells]; omega)]
/-- how many pins of a list each track has -/
def rowPb (n : Nat) (l : List (Nat × Nat)) : List Nat := (List.range n).map fun t => (l.filter fun p => decide (p.2 = t)).length
theorem rowPb_len (n : Nat) (l : List (Nat × Nat)) : (rowPb n l).length = n := by simp [rowPb]
theorem rowPb_get (n : Nat) (l : List (Nat × Nat)) (t : Nat) (h : t < n) : (rowPb n l)[t]? = some (l.filter fun p => decide (p.2 = t)).length := by simp [rowPb, h]
theorem rowPb_nil (n : Nat) : rowPb n [] = List.replicate n 0 := by
  apply List.ext_getElem?
  intro t
  by_cases h : t < n
  · rw [rowPb_get _ _ _ h]; simp [h]
  · rw [List.getElem?_eq_none (by rw [rowPb_len]; omega), List.getElem?_eq_none (by simp; omega)]
theorem rowPb_snoc (n : Nat) (l : List (Nat × Nat)) (p : Nat × Nat) (h : p.2 < n) : (rowPb n l).set p.2 ((l.filter fun q => decide (q.2 = p.2)).length + 1) = rowPb n (l ++ [p]) := by
  apply List.ext_getElem?
  intro t
  by_cases ht : t < n
  · rw [List.getElem?_set, rowPb_get _ _ _ ht, rowPb_get _ _ _ ht, rowPb_len, List.filter_append, List.length_append]
    by_cases e : p.2 = t
    · rw [if_pos e, if_pos h]; simp [e]
    · rw [if_neg e]; simp [e]
  · rw [List.getElem?_eq_none (by rw [List.length_set, rowPb_len]; omega), List.getElem?_eq_none (by rw [rowPb_len]; omega)]
theorem one_filter (p : Nat → Bool) (t : Nat) : ∀ m, ((List.range m).filter fun a => decide (a = t) && p a).length = if t < m ∧ p t = true then 1 else 0
  | 0 => by simp
  | m + 1 => by
    rw [List.range_succ, List.filter_append, List.length_append, one_filter p t m]
    by_cases e : m = t
    · subst e
      have h1 : ¬ (m < m ∧ p m = true) := fun h => by omega
      rw [if_neg h1]
      cases h : p m <;> simp [h]
    · have h2 : (t < m + 1 ∧ p t = true) ↔ (t < m ∧ p t = true) := by constructor <;> (rintro ⟨h1, h2⟩; exact ⟨by omega, h2⟩)
      simp only [h2]
      simp [e]
theorem pins_trk (d : Nat → Int) (hd : DWF d) (t : Nat) (ht : t < 32) : ∀ k, k ≤ 96 → ((pinsT d k).filter fun p => decide (p.2 = t)).length = trkC d t k
  | 0, _ => rfl
  | k + 1, h => by
    rw [pinsT_succ, List.filter_append, List.length_append, pins_trk d hd t ht k (by omega), trkC_succ, pin_bit (hd k (by omega)).1]
    congr 1
    have e : (((bitsL (d k).toNat).map fun t => (k, t)).filter fun p => decide (p.2 = t)).length = ((List.range 32).filter fun a => decide (a = t) && (d k).toNat.testBit a).length := by
      rw [List.filter_map, List.length_map]
      unfold bitsL
      rw [List.filter_filter]
      rfl
    rw [e, one_filter]
    simp [ht]
theorem pin_in {s : Int} {n : Nat} {d : Nat → Int} (h : drB s n d = true) (hd : DWF d) {k t : Nat} (hk : k < 96) (hp : pinB d k t = true) : (k : Int) < s ∧ t < n := by
  have h1 := drB_all h k hk
  obtain ⟨x1, x2⟩ := hd k hk
  simp only [stepB, Bool.and_eq_true, Bool.or_eq_true, decide_eq_true_eq] at h1
  rw [pin_bit x1] at hp
  have h0 : d k ≠ 0 := by
    intro e
    rw [e] at hp
    simp at hp
  refine ⟨by omega, ?_⟩
  rcases Nat.lt_or_ge t n with h2 | h2
  · exact h2
  · exfalso
    obtain ⟨x, hx⟩ := Int.eq_ofNat_of_zero_le x1
    rw [hx, Int.toNat_natCast] at hp
    have h3 : x / 2 ^ n = 0 := by have := h1.1; rw [hx] at this; exact_mod_cast this
    have h4 : x < 2 ^ n := by
      rcases Nat.lt_or_ge x (2 ^ n) with h5 | h5
      · exact h5
      · have := Nat.div_pos h5 (Nat.two_pow_pos n); omega
    have h5 : x < 2 ^ t := Nat.lt_of_lt_of_le h4 (Nat.pow_le_pow_right (by omega) h2)
    rw [Nat.testBit_lt_two_pow h5] at hp
    cases hp
theorem trkC_stop {s : Int} {n : Nat} {d : Nat → Int} (h : drB s n d = true) (hd : DWF d) (t S : Nat) (hS : s = (S : Int)) : ∀ m, S + m ≤ 96 → trkC d t (S + m) = trkC d t S
  | 0, _ => rfl
  | m + 1, hm => by
    rw [← Nat.add_assoc, trkC_succ, trkC_stop h hd t S hS m (by omega)]
    have : ¬ pinB d (S + m) t = true := fun hp => by have := (pin_in h hd (by omega) hp).1; omega
    rw [if_neg this, Nat.add_zero]
theorem row_end {s : Int} {n S : Nat} {d : Nat → Int} (h : drB s n d = true) (hd : DWF d) (hS : s = (S : Int)) (hS96 : S ≤ 96) (hn : n ≤ 24) : rowPb n (pinsL d) = rowA d n S 0 := by
  apply List.map_congr_left
  intro t ht
  have := List.mem_range.1 ht
  have h1 := pins_trk d hd t (by omega) 96 (Nat.le_refl _)
  have h2 := trkC_stop h hd t S hS (96 - S) (by omega)
  rw [show S + (96 - S) = 96 by omega] at h2
  unfold pinsL
  rw [h1, h2]
  simp
def pbL (s : Int) (l : List (Int × Int)) (d : Nat → Int) : List Nat := if askB s l d then rowA d l.length s.toNat 0 else []
theorem pbL_len (s : Int) (l : List (Int × Int)) (d : Nat → Int) (hn : l.length ≤ 1048576) : (pbL s l d).length ≤ 1048576 := by
  unfold pbL
  split
  · rw [rowA_len]; exact hn
  · simp

theorem TabW.kb {W : World} (l : Nat) {o : Obj} (o' : Obj) (ho : W.heap[l]? = some o) (hc : o.isCells = false) (h : TabW W) : TabW (W.putObj l o') := fun j hj =>
  cell_kept (h j hj) (grownBy_putObj' W l o') (fun r e => by cases e; exact ⟨o, ho, hc⟩)
theorem TabW.set {w : World} {b i : Nat} {v : Value} (h : TabW w) (hb : w.heap.size ≤ b ∨ 8 < b) : TabW (w.setCell ⟨b, i, none⟩ v) := fun j hj =>
  (cell_block (heap_setCell_other _ _ _ _ (by have := h.lt; rcases hb with h | h <;> (dsimp only; omega)))).trans (h j hj)

end Go.Proofs.YtmmninlnpnhboaaGreatDoor
namespace Go.Proofs.YtmmninlnpnhboaaGreatDoor
open Go.RowKit

/-- there is a pin of the track at one of the steps 1 .. g - 1 behind -/
def nextB (S : Nat) (d : Nat → Int) (k t g : Nat) : Bool := (List.range g).any fun j => decide (1 ≤ j) && pinB d ((k + j) % S) t
theorem nextB_zero (S : Nat) (d : Nat → Int) (k t : Nat) : nextB S d k t 1 = false := by simp [nextB, List.range_succ]
theorem nextB_succ (S : Nat) (d : Nat → Int) (k t g : Nat) (hg : 1 ≤ g) : nextB S d k t (g + 1) = (nextB S d k t g || pinB d ((k + g) % S) t) := by
  simp [nextB, List.range_succ, List.any_append, hg]
theorem nextB_hit {S : Nat} {d : Nat → Int} {k t g R : Nat} (hg : 1 ≤ g) (hR : g < R) (h : pinB d ((k + g) % S) t = true) : nextB S d k t R = true := by
  simp only [nextB, List.any_eq_true, List.mem_range]
  exact ⟨g, hR, by simp [hg, h]⟩
theorem nextB_mono {S : Nat} {d : Nat → Int} {k t g R : Nat} (hR : g ≤ R) (h : nextB S d k t g = true) : nextB S d k t R = true := by
  simp only [nextB, List.any_eq_true, List.mem_range] at h ⊢
  obtain ⟨j, hj, h⟩ := h
  exact ⟨j, by omega, h⟩
/-- there is a clash at the pin -/
def clB (S : Nat) (d : Nat → Int) (l : List (Int × Int)) (k t : Nat) : Bool := pinB d k t && nextB S d k t (hRe l t).toNat
/-- the clashes among some pins -/
def clsF (S : Nat) (d : Nat → Int) (l : List (Int × Int)) (ps : List (Nat × Nat)) : List (Nat × Nat) := ps.filter fun p => nextB S d p.1 p.2 (hRe l p.2).toNat
theorem clsF_snoc (S : Nat) (d : Nat → Int) (l : List (Int × Int)) (ps : List (Nat × Nat)) (p : Nat × Nat) : clsF S d l (ps ++ [p]) = clsF S d l ps ++ if nextB S d p.1 p.2 (hRe l p.2).toNat = true then [p] else [] := by
  unfold clsF
  rw [List.filter_append]
  cases h : nextB S d p.1 p.2 (hRe l p.2).toNat <;> simp [h]
/-- the drum with the pins of a list turned, one by one -/
def togL (d : Nat → Int) (ps : List (Nat × Nat)) : Nat → Int := ps.foldl (fun q p => togD q p.1 p.2) d
theorem togL_snoc (d : Nat → Int) (ps : List (Nat × Nat)) (p : Nat × Nat) : togL d (ps ++ [p]) = togD (togL d ps) p.1 p.2 := by simp [togL]
theorem tog_wf {d : Nat → Int} (hd : DWF d) (k t : Nat) : DWF (togD d k t) := by
  intro i hi
  unfold togD
  split
  · exact bounds_u32 (wf_bits .xor .u32 _ _)
  · exact hd i hi
theorem togL_wf {d : Nat → Int} (hd : DWF d) (ps : List (Nat × Nat)) : DWF (togL d ps) := by
  induction ps generalizing d with
  | nil => exact hd
  | cons p ps ih => exact ih (tog_wf hd p.1 p.2)
theorem zero_wf : DWF (fun _ => 0) := fun _ _ => by show (0 : Int) ≤ 0 ∧ (0 : Int) ≤ 4294967295; omega
theorem tog_pin {d : Nat → Int} (hd : DWF d) {k t k' t' : Nat} (hk : k < 96) (hk' : k' < 96) (ht : t < 32) : pinB (togD d k t) k' t' = (pinB d k' t' ^^ (decide (k' = k) && decide (t' = t))) := by
  rw [pin_bit (tog_wf hd k t k' hk').1, pin_bit (hd k' hk').1]
  unfold togD
  by_cases e : k' = k
  · subst e
    rw [if_pos rfl]
    obtain ⟨x, hx⟩ := Int.eq_ofNat_of_zero_le (hd k' hk').1
    have hxb : x < 4294967296 := by have := (hd k' hk').2; omega
    have hp : (2 : Nat) ^ t < 2 ^ 32 := Nat.pow_lt_pow_right (by decide) ht
    rw [pow_nat t ht, hx, xor_nat x (2 ^ t) hxb (by omega), Int.toNat_natCast, Int.toNat_natCast, Nat.testBit_xor, Nat.testBit_two_pow]
    simp [eq_comm]
  · rw [if_neg e]
    simp [e]
theorem zero_pin (k t : Nat) : pinB (fun _ => 0) k t = false := by simp [pinB]
theorem togL_pin (ps : List (Nat × Nat)) (h : ∀ p ∈ ps, p.1 < 96 ∧ p.2 < 32) (hn : ps.Nodup) {k t : Nat} (hk : k < 96) : ∀ {d : Nat → Int}, DWF d → pinB (togL d ps) k t = (pinB d k t ^^ decide ((k, t) ∈ ps)) := by
  induction ps with
  | nil => intro d _; simp [togL]
  | cons p ps ih =>
    intro d hd
    have hp := h p (by simp)
    have hn' := List.nodup_cons.1 hn
    have e : togL d (p :: ps) = togL (togD d p.1 p.2) ps := rfl
    rw [e, ih (fun q hq => h q (by simp [hq])) hn'.2 (tog_wf hd _ _), tog_pin hd hp.1 hk hp.2]
    obtain ⟨p1, p2⟩ := p
    by_cases e1 : k = p1 ∧ t = p2
    · obtain ⟨rfl, rfl⟩ := e1
      have : (k, t) ∉ ps := hn'.1
      simp [this]
    · have e2 : (k, t) ≠ (p1, p2) := fun e => e1 (by simpa using e)
      have e3 : (decide (k = p1) && decide (t = p2)) = false := by
        rcases Classical.em (k = p1) with h1 | h1
        · have : t ≠ p2 := fun h2 => e1 ⟨h1, h2⟩
          simp [this]
        · simp [h1]
      simp [e3, e2]
/-- the drum of the clashes -/
def clD (S : Nat) (d : Nat → Int) (l : List (Int × Int)) : Nat → Int := togL (fun _ => 0) (clsF S d l (pinsL d))
theorem pinsT_mem {d : Nat → Int} (hd : DWF d) {k t : Nat} : ∀ n, n ≤ 96 → ((k, t) ∈ pinsT d n ↔ k < n ∧ t < 32 ∧ pinB d k t = true)
  | 0, _ => by simp [pinsT_zero]
  | n + 1, h => by
    rw [pinsT_succ, List.mem_append, pinsT_mem hd n (by omega)]
    simp only [List.mem_map, Prod.mk.injEq, bitsL, List.mem_filter, List.mem_range]
    constructor
    · rintro (⟨h1, h2⟩ | ⟨a, ⟨ha, hb⟩, rfl, rfl⟩)
      · exact ⟨by omega, h2⟩
      · exact ⟨by omega, ha, by rw [pin_bit (hd _ (by omega)).1]; exact hb⟩
    · rintro ⟨h1, h2, h3⟩
      by_cases e : k = n
      · subst e
        exact Or.inr ⟨t, ⟨h2, by rw [pin_bit (hd _ (by omega)).1] at h3; exact h3⟩, rfl, rfl⟩
      · exact Or.inl ⟨by omega, h2, h3⟩
theorem pinsT_nodup (d : Nat → Int) (hd : DWF d) : ∀ n, n ≤ 96 → (pinsT d n).Nodup
  | 0, _ => by simp [pinsT_zero]
  | n + 1, h => by
    rw [pinsT_succ, List.nodup_append]
    refine ⟨pinsT_nodup d hd n (by omega), ?_, ?_⟩
    · have : (bitsL (d n).toNat).Nodup := List.Pairwise.filter _ List.nodup_range
      exact List.Pairwise.map (fun t => (n, t)) (fun a b hab e => hab (by simpa using e)) this
    · rintro ⟨k, t⟩ h1 ⟨k', t'⟩ h2 e
      have h1' := (pinsT_mem hd n (by omega)).1 h1
      simp only [List.mem_map, Prod.mk.injEq] at h2
      obtain ⟨a, _, h3, _⟩ := h2
      simp only [Prod.mk.injEq] at e
      omega
theorem clD_wf (S : Nat) (d : Nat → Int) (l : List (Int × Int)) : DWF (clD S d l) := togL_wf zero_wf _
theorem clD_pin {S : Nat} {d : Nat → Int} {l : List (Int × Int)} (hd : DWF d) {k t : Nat} (hk : k < 96) (ht : t < 32) : pinB (clD S d l) k t = clB S d l k t := by
  have hm : ∀ p ∈ clsF S d l (pinsL d), p.1 < 96 ∧ p.2 < 32 := by
    rintro ⟨a, b⟩ hp
    have := (pinsT_mem hd 96 (Nat.le_refl _)).1 (List.mem_filter.1 hp).1
    exact ⟨this.1, this.2.1⟩
  have hn : (clsF S d l (pinsL d)).Nodup := List.Pairwise.filter _ (pinsT_nodup d hd 96 (Nat.le_refl _))
  unfold clD
  rw [togL_pin _ hm hn hk zero_wf, zero_pin, Bool.false_xor]
  unfold clB clsF
  by_cases h : pinB d k t = true
  · have : (k, t) ∈ pinsL d := (pinsT_mem hd 96 (Nat.le_refl _)).2 ⟨hk, ht, h⟩
    simp [List.mem_filter, this, h]
  · have : (k, t) ∉ pinsL d := fun hm => h ((pinsT_mem hd 96 (Nat.le_refl _)).1 hm).2.2
    simp [List.mem_filter, this, h]
/-- the pins of the drum of the clashes are the clashes, in the same order -/
theorem clD_pins (S : Nat) (d : Nat → Int) (l : List (Int × Int)) (hd : DWF d) : pinsL (clD S d l) = clsF S d l (pinsL d) := by
  have hb : ∀ k, k < 96 → bitsL (clD S d l k).toNat = (bitsL (d k).toNat).filter fun t => nextB S d k t (hRe l t).toNat := by
    intro k hk
    unfold bitsL
    rw [List.filter_filter]
    apply List.filter_congr
    intro t ht
    have ht32 := List.mem_range.1 ht
    have h1 := clD_pin (S := S) (l := l) hd hk ht32
    rw [pin_bit (clD_wf S d l k hk).1] at h1
    rw [h1, clB, pin_bit (hd k hk).1, Bool.and_comm]
  have hT : ∀ n, n ≤ 96 → pinsT (clD S d l) n = clsF S d l (pinsT d n) := by
    intro n
    induction n with
    | zero => intro _; rfl
    | succ n ih =>
      intro h
      rw [pinsT_succ, pinsT_succ, ih (by omega), hb n (by omega)]
      unfold clsF
      rw [List.filter_append, List.filter_map]
      rfl
  exact hT 96 (Nat.le_refl _)
end Go.Proofs.YtmmninlnpnhboaaGreatDoor
namespace Go.Proofs.YtmmninlnpnhboaaGreatDoor
open Go.RowKit

theorem striker_quick (A : Option Addr) (c : Nat) (l : List (Int × Int)) (t : Nat) (w : World) (hA : HA w A l) (ht : t < l.length) (hl : l.length ≤ 24) (h : hRe l t = 1) :
    Calls Tryz.prog 97 #[.slice A l.length c, .int .i64 t] w fun e w' => e = .returned (.iface 195 (.agg #[.int .i8 (hPi l t), .int .i8 (hRe l t)])) ∧ w = w' := by
  obtain ⟨b, o, rfl, hbb, c1, c2⟩ := hA t ht
  have c3 := c2
  have hd : (hRe l t == 1) = true := by simp [h]
  have hti : (t : Int) < (l.length : Int) := by omega
  have HH := hide h
  clear h hA
  go_enter Tryz.func97, Tryz.ntmps97
  go_wp2
  go_ret
  exact ⟨rfl, rfl⟩
theorem striker_slow (A : Option Addr) (c : Nat) (l : List (Int × Int)) (t : Nat) (w : World) (hA : HA w A l) (ht : t < l.length) (hl : l.length ≤ 24) (h : hRe l t ≠ 1) :
    Calls Tryz.prog 97 #[.slice A l.length c, .int .i64 t] w fun e w' => e = .returned (.iface 196 (.agg #[.int .i8 (hPi l t), .int .i8 (hRe l t)])) ∧ w = w' := by
  obtain ⟨b, o, rfl, hbb, c1, c2⟩ := hA t ht
  have hd : (hRe l t == 1) = false := by simp [h]
  have hti : (t : Int) < (l.length : Int) := by omega
  have HH := hide h
  clear h hA
  go_enter Tryz.func97, Tryz.ntmps97
  go_wp2
  go_ret
  exact ⟨rfl, rfl⟩
end Go.Proofs.YtmmninlnpnhboaaGreatDoor
namespace Go.Proofs.YtmmninlnpnhboaaGreatDoor
open Go.RowKit

theorem zeroQuick (w : World) : (zeroValue 195).run Tryz.prog w = .ok (.agg #[.int .i8 0, .int .i8 0]) w := by kernel_rfl
theorem ta_quick (v : Value) (w : World) : (Instr.typeAssert (.iface 195 v) 174 195 true).run Tryz.prog w = .ok (.tuple #[v, .bool true]) w := by
  simp [Instr.typeAssert, run_underlying Tryz.underlying195]
theorem ta_slow (v : Value) (w : World) : (Instr.typeAssert (.iface 196 v) 174 196 true).run Tryz.prog w = .ok (.tuple #[v, .bool true]) w := by
  simp [Instr.typeAssert, run_underlying Tryz.underlying196]
theorem ta_not (v : Value) (w : World) : (Instr.typeAssert (.iface 196 v) 174 195 true).run Tryz.prog w = .ok (.tuple #[.agg #[.int .i8 0, .int .i8 0], .bool false]) w := by
  simp [Instr.typeAssert, run_underlying Tryz.underlying195, zeroQuick]
end Go.Proofs.YtmmninlnpnhboaaGreatDoor
