import Derived.Test.YtcepjiglhlmgdaaDoorPbt
namespace Go.Proofs.YtcepjiglhlmgdaaDoor
open Go.RowKit

/-- there is a pin of the track at one of the steps 1 .. g - 1 behind -/
def nextB (S : Nat) (d : Nat → Int) (k t g : Nat) : Bool := (List.range g).any fun j => decide (1 ≤ j) && pinB d ((k + j) % S) t
theorem nextB_zero (S : Nat) (d : Nat → Int) (k t : Nat) : nextB S d k t 1 = false := by simp [nextB, List.range_succ]
theorem nextB_succ (S : Nat) (d : Nat → Int) (k t g : Nat) (hg : 1 ≤ g) : nextB S d k t (g + 1) = (nextB S d k t g || pinB d ((k + g) % S) t) := by
  simp [nextB, List.range_succ, List.any_append, hg]
theorem nextB_hit {S : Nat} {d : Nat → Int} {k t g R : Nat} (hg : 1 ≤ g) (hR : g < R) (h : pinB d ((k + g) % S) t = true) : nextB S d k t R = true := by
  simp only [nextB, List.any_eq_true, List.mem_range]
  exact ⟨g, hR, by simp [hg, h]⟩
theorem nextB_mono {S : Nat} {d : Nat → Int} {k t g R : Nat} (hR : g ≤ R) (h : nextB S d k t g = true) : nextB S d k t R = true := by
  simp only [nextB, List.any_eq_true, List.mem_range] at h ⊢
  obtain ⟨j, hj, h⟩ := h
  exact ⟨j, by omega, h⟩
/-- there is a clash at the pin -/
def clB (S : Nat) (d : Nat → Int) (l : List (Int × Int)) (k t : Nat) : Bool := pinB d k t && nextB S d k t (hRe l t).toNat
/-- the clashes among some pins -/
def clsF (S : Nat) (d : Nat → Int) (l : List (Int × Int)) (ps : List (Nat × Nat)) : List (Nat × Nat) := ps.filter fun p => nextB S d p.1 p.2 (hRe l p.2).toNat
theorem clsF_snoc (S : Nat) (d : Nat → Int) (l : List (Int × Int)) (ps : List (Nat × Nat)) (p : Nat × Nat) : clsF S d l (ps ++ [p]) = clsF S d l ps ++ if nextB S d p.1 p.2 (hRe l p.2).toNat = true then [p] else [] := by
  unfold clsF
  rw [List.filter_append]
  cases h : nextB S d p.1 p.2 (hRe l p.2).toNat <;> simp [h]
/-- the drum with the pins of a list turned, one by one -/
def togL (d : Nat → Int) (ps : List (Nat × Nat)) : Nat → Int := ps.foldl (fun q p => togD q p.1 p.2) d
theorem togL_snoc (d : Nat → Int) (ps : List (Nat × Nat)) (p : Nat × Nat) : togL d (ps ++ [p]) = togD (togL d ps) p.1 p.2 := by simp [togL]
theorem tog_wf {d : Nat → Int} (hd : DWF d) (k t : Nat) : DWF (togD d k t) := by
  intro i hi
  unfold togD
  split
  · exact bounds_u32 (wf_bits .xor .u32 _ _)
  · exact hd i hi
theorem togL_wf {d : Nat → Int} (hd : DWF d) (ps : List (Nat × Nat)) : DWF (togL d ps) := by
  induction ps generalizing d with
  | nil => exact hd
  | cons p ps ih => exact ih (tog_wf hd p.1 p.2)
theorem zero_wf : DWF (fun _ => 0) := fun _ _ => by show (0 : Int) ≤ 0 ∧ (0 : Int) ≤ 4294967295; omega
theorem tog_pin {d : Nat → Int} (hd : DWF d) {k t k' t' : Nat} (hk : k < 96) (hk' : k' < 96) (ht : t < 32) : pinB (togD d k t) k' t' = (pinB d k' t' ^^ (decide (k' = k) && decide (t' = t))) := by
  rw [pin_bit (tog_wf hd k t k' hk').1, pin_bit (hd k' hk').1]
  unfold togD
  by_cases e : k' = k
  · subst e
    rw [if_pos rfl]
    obtain ⟨x, hx⟩ := Int.eq_ofNat_of_zero_le (hd k' hk').1
    have hxb : x < 4294967296 := by have := (hd k' hk').2; omega
    have hp : (2 : Nat) ^ t < 2 ^ 32 := Nat.pow_lt_pow_right (by decide) ht
    rw [pow_nat t ht, hx, xor_nat x (2 ^ t) hxb (by omega), Int.toNat_natCast, Int.toNat_natCast, Nat.testBit_xor, Nat.testBit_two_pow]
    simp [eq_comm]
  · rw [if_neg e]
    simp [e]
theorem zero_pin (k t : Nat) : pinB (fun _ => 0) k t = false := by simp [pinB]
theorem togL_pin (ps : List (Nat × Nat)) (h : ∀ p ∈ ps, p.1 < 96 ∧ p.2 < 32) (hn : ps.Nodup) {k t : Nat} (hk : k < 96) : ∀ {d : Nat → Int}, DWF d → pinB (togL d ps) k t = (pinB d k t ^^ decide ((k, t) ∈ ps)) := by
  induction ps with
  | nil => intro d _; simp [togL]
  | cons p ps ih =>
    intro d hd
    have hp := h p (by simp)
    have hn' := List.nodup_cons.1 hn
    have e : togL d (p :: ps) = togL (togD d p.1 p.2) ps := rfl
    rw [e, ih (fun q hq => h q (by simp [hq])) hn'.2 (tog_wf hd _ _), tog_pin hd hp.1 hk hp.2]
    obtain ⟨p1, p2⟩ := p
    by_cases e1 : k = p1 ∧ t = p2
    · obtain ⟨rfl, rfl⟩ := e1
      have : (k, t) ∉ ps := hn'.1
      simp [this]
    · have e2 : (k, t) ≠ (p1, p2) := fun e => e1 (by simpa using e)
      have e3 : (decide (k = p1) && decide (t = p2)) = false := by
        rcases Classical.em (k = p1) with h1 | h1
        · have : t ≠ p2 := fun h2 => e1 ⟨h1, h2⟩
          simp [this]
        · simp [h1]
      simp [e3, e2]
/-- the drum of the clashes -/
def clD (S : Nat) (d : Nat → Int) (l : List (Int × Int)) : Nat → Int := togL (fun _ => 0) (clsF S d l (pinsL d))
theorem pinsT_mem {d : Nat → Int} (hd : DWF d) {k t : Nat} : ∀ n, n ≤ 96 → ((k, t) ∈ pinsT d n ↔ k < n ∧ t < 32 ∧ pinB d k t = true)
  | 0, _ => by simp [pinsT_zero]
  | n + 1, h => by
    rw [pinsT_succ, List.mem_append, pinsT_mem hd n (by omega)]
    simp only [List.mem_map, Prod.mk.injEq, bitsL, List.mem_filter, List.mem_range]
    constructor
    · rintro (⟨h1, h2⟩ | ⟨a, ⟨ha, hb⟩, rfl, rfl⟩)
      · exact ⟨by omega, h2⟩
      · exact ⟨by omega, ha, by rw [pin_bit (hd _ (by omega)).1]; exact hb⟩
    · rintro ⟨h1, h2, h3⟩
      by_cases e : k = n
      · subst e
        exact Or.inr ⟨t, ⟨h2, by rw [pin_bit (hd _ (by omega)).1] at h3; exact h3⟩, rfl, rfl⟩
      · exact Or.inl ⟨by omega, h2, h3⟩
theorem pinsT_nodup (d : Nat → Int) (hd : DWF d) : ∀ n, n ≤ 96 → (pinsT d n).Nodup
  | 0, _ => by simp [pinsT_zero]
  | n + 1, h => by
    rw [pinsT_succ, List.nodup_append]
    refine ⟨pinsT_nodup d hd n (by omega), ?_, ?_⟩
    · have : (bitsL (d n).toNat).Nodup := List.Pairwise.filter _ List.nodup_range
      exact List.Pairwise.map (fun t => (n, t)) (fun a b hab e => hab (by simpa using e)) this
    · rintro ⟨k, t⟩ h1 ⟨k', t'⟩ h2 e
      have h1' := (pinsT_mem hd n (by omega)).1 h1
      simp only [List.mem_map, Prod.mk.injEq] at h2
      obtain ⟨a, _, h3, _⟩ := h2
      simp only [Prod.mk.injEq] at e
      omega
theorem clD_wf (S : Nat) (d : Nat → Int) (l : List (Int × Int)) : DWF (clD S d l) := togL_wf zero_wf _
theorem clD_pin {S : Nat} {d : Nat → Int} {l : List (Int × Int)} (hd : DWF d) {k t : Nat} (hk : k < 96) (ht : t < 32) : pinB (clD S d l) k t = clB S d l k t := by
  have hm : ∀ p ∈ clsF S d l (pinsL d), p.1 < 96 ∧ p.2 < 32 := by
    rintro ⟨a, b⟩ hp
    have := (pinsT_mem hd 96 (Nat.le_refl _)).1 (List.mem_filter.1 hp).1
    exact ⟨this.1, this.2.1⟩
  have hn : (clsF S d l (pinsL d)).Nodup := List.Pairwise.filter _ (pinsT_nodup d hd 96 (Nat.le_refl _))
  unfold clD
  rw [togL_pin _ hm hn hk zero_wf, zero_pin, Bool.false_xor]
  unfold clB clsF
  by_cases h : pinB d k t = true
  · have : (k, t) ∈ pinsL d := (pinsT_mem hd 96 (Nat.le_refl _)).2 ⟨hk, ht, h⟩
    simp [List.mem_filter, this, h]
  · have : (k, t) ∉ pinsL d := fun hm => h ((pinsT_mem hd 96 (Nat.le_refl _)).1 hm).2.2
    simp [List.mem_filter, this, h]
/-- the pins of the drum of the clashes are the clashes, in the same order -/
theorem clD_pins (S : Nat) (d : Nat → Int) (l : List (Int × Int)) (hd : DWF d) : pinsL (clD S d l) = clsF S d l (pinsL d) := by
  have hb : ∀ k, k < 96 → bitsL (clD S d l k).toNat = (bitsL (d k).toNat).filter fun t => nextB S d k t (hRe l t).toNat := by
    intro k hk
    unfold bitsL
    rw [List.filter_filter]
    apply List.filter_congr
    intro t ht
    have ht32 := List.mem_range.1 ht
    have h1 := clD_pin (S := S) (l := l) hd hk ht32
    rw [pin_bit (clD_wf S d l k hk).1] at h1
    rw [h1, clB, pin_bit (hd k hk).1, Bool.and_comm]
  have hT : ∀ n, n ≤ 96 → pinsT (clD S d l) n = clsF S d l (pinsT d n) := by
    intro n
    induction n with
    | zero => intro _; rfl
    | succ n ih =>
      intro h
      rw [pinsT_succ, pinsT_succ, ih (by omega), hb n (by omega)]
      unfold clsF
      rw [List.filter_append, List.filter_map]
      rfl
  exact hT 96 (Nat.le_refl _)
end Go.Proofs.YtcepjiglhlmgdaaDoor
namespace Go.Proofs.YtcepjiglhlmgdaaDoor
open Go.RowKit

end Go.Proofs.YtcepjiglhlmgdaaDoor
namespace Go.Proofs.YtcepjiglhlmgdaaDoor
open Go.RowKit

end Go.Proofs.YtcepjiglhlmgdaaDoor
