import Derived.Test.YtcocfnjbgceidaaGreatPts
import Derived.Test.YtcocfnjbgceidaaGreatGbl
namespace Go.Proofs.YtcocfnjbgceidaaGreat
open Go.RowKit Go.Maps
/-- the price of a choice of lives -/
def chP (T : List Wp) (z : List Int) (p q t : Int) (l : List (Int × Int)) (k : Nat) : Int := (ptP T z (lvP l k) (lvH l k) t * p + ptH T z (lvP l k) (lvH l k) t * q) * ((k : Int) + 1)
/-- the best of the first choices -/
def chS (T : List Wp) (z : List Int) (p q t : Int) (l : List (Int × Int)) : Nat → Option (Nat × Int)
  | 0 => none
  | k + 1 => if ptC T z (lvP l k) (lvH l k) = 0 then (match chS T z p q t l k with | none => some (k, chP T z p q t l k) | some (b, y) => if chP T z p q t l k < y then some (k, chP T z p q t l k) else some (b, y)) else chS T z p q t l k
def chQ (p q t : Int) (n : Nat) : Bool := inB p 0 1000 && inB q 0 1000 && inB t 0 1000000 && inB (n : Int) 1 20
def chV (s : Int) (h : List (Int × Int)) (T : List Wp) (z : List Int) (l : List (Int × Int)) : Bool := weB s h T z && lsB l
def chR (s : Int) (h : List (Int × Int)) (T : List Wp) (z : List Int) (p q t : Int) (l : List (Int × Int)) : Option (Nat × Int) := if chV s h T z l && chQ p q t l.length then chS T z p q t l l.length else none
def chC (s : Int) (h : List (Int × Int)) (T : List Wp) (z : List Int) (p q t : Int) (l : List (Int × Int)) : Int := if chV s h T z l then (if chQ p q t l.length then (if (chS T z p q t l l.length).isSome then 0 else 6) else 2) else 1
def chI (s : Int) (h : List (Int × Int)) (T : List Wp) (z : List Int) (p q t : Int) (l : List (Int × Int)) : Int := ((chR s h T z p q t l).map fun x => (x.1 : Int)).getD 0
def chL (s : Int) (h : List (Int × Int)) (T : List Wp) (z : List Int) (p q t : Int) (l : List (Int × Int)) : Int := ((chR s h T z p q t l).map fun x => x.2).getD 0
/-- bounds of the parts -/
theorem pt_bounds {T : List Wp} {z : List Int} {a b t : Int} (hv : PtV T z) (ha : 1 ≤ a ∧ a ≤ 1000000) (hb : 1 ≤ b ∧ b ≤ 1000000) (ht : 0 ≤ t ∧ t ≤ 1000000) : (0 ≤ ptP T z a b t ∧ ptP T z a b t ≤ 2400000000) ∧ 0 ≤ ptH T z a b t ∧ ptH T z a b t ≤ 2400000000 := by
  unfold ptP ptH
  cases hB : ptB T z a b
  · exact ⟨⟨by simp, by simp⟩, by simp, by simp⟩
  · rw [if_pos rfl, if_pos rfl]
    have hB2 := hB
    unfold ptB at hB2
    rw [Bool.and_eq_true, Bool.not_eq_true'] at hB2
    have g1 := pin_good hv hB2.1 ha
    have g2 := ham_good hv hB2.1 hb hB2.2
    have h1 := rnS_bounds g1 ht _ (Nat.le_refl _)
    have h2 := rnS_bounds g2 ht _ (Nat.le_refl _)
    rw [List.take_length, pinL_len T a T.length (Nat.le_refl _)] at h1
    rw [List.take_length, hamL_len] at h2
    have := hv.1
    have := hv.2.1
    omega
theorem lvB_all2 {a b : Int} (h : lvB a b = true) : (1 ≤ a ∧ a ≤ 1000000) ∧ 1 ≤ b ∧ b ≤ 1000000 := by
  simpa [lvB, inB] using h
theorem ch_mul {P p H q : Int} {k : Nat} (hP : 0 ≤ P ∧ P ≤ 2400000000) (hH : 0 ≤ H ∧ H ≤ 2400000000) (hp : 0 ≤ p ∧ p ≤ 1000) (hq : 0 ≤ q ∧ q ≤ 1000) (hk : k < 20) :
    (0 ≤ P * p ∧ P * p ≤ 2400000000000) ∧ (0 ≤ H * q ∧ H * q ≤ 2400000000000) ∧ 0 ≤ (P * p + H * q) * ((k : Int) + 1) ∧ (P * p + H * q) * ((k : Int) + 1) ≤ 96000000000000 := by
  have h1 := Int.mul_le_mul hP.2 hp.2 hp.1 (by omega)
  have h2 := Int.mul_le_mul hH.2 hq.2 hq.1 (by omega)
  have h3 := Int.mul_nonneg hP.1 hp.1
  have h4 := Int.mul_nonneg hH.1 hq.1
  have h5 : (P * p + H * q) * ((k : Int) + 1) ≤ 4800000000000 * 20 := Int.mul_le_mul (by omega) (by omega) (by omega) (by omega)
  have h6 : 0 ≤ (P * p + H * q) * ((k : Int) + 1) := Int.mul_nonneg (by omega) (by omega)
  omega
/-- what the program holds of the best one -/
def chA (o : Option (Nat × Int)) : Int := (o.map fun x => (x.1 : Int)).getD 0
def chY (o : Option (Nat × Int)) : Int := (o.map fun x => x.2).getD 9223372036854775807
theorem chS_bound {T : List Wp} {z : List Int} {p q t : Int} {l : List (Int × Int)} (hp : ∀ j, j < l.length → 0 ≤ chP T z p q t l j ∧ chP T z p q t l j ≤ 96000000000000) : ∀ k, k ≤ l.length → ∀ x, chS T z p q t l k = some x → x.1 < k ∧ 0 ≤ x.2 ∧ x.2 ≤ 96000000000000
  | 0, _, x, h => by simp [chS] at h
  | k + 1, hk, x, h => by
    have ih := chS_bound hp k (by omega)
    unfold chS at h
    split at h
    · split at h
      · cases h
        have := hp k (by omega)
        exact ⟨Nat.lt_succ_self _, this.1, this.2⟩
      · rename_i hc b y e
        split at h
        · cases h
          have := hp k (by omega)
          exact ⟨Nat.lt_succ_self _, this.1, this.2⟩
        · cases h
          have := ih _ e
          exact ⟨by omega, this.2.1, this.2.2⟩
    · have := ih x h
      exact ⟨by omega, this.2.1, this.2.2⟩
/-- one more choice, as the program does it -/
theorem chS_impl {T : List Wp} {z : List Int} {p q t : Int} {l : List (Int × Int)} {k : Nat} (hp : chP T z p q t l k ≤ 96000000000000) : chA (chS T z p q t l (k + 1)) = (if ptC T z (lvP l k) (lvH l k) = 0 ∧ chP T z p q t l k < chY (chS T z p q t l k) then (k : Int) else chA (chS T z p q t l k)) ∧ chY (chS T z p q t l (k + 1)) = (if ptC T z (lvP l k) (lvH l k) = 0 ∧ chP T z p q t l k < chY (chS T z p q t l k) then chP T z p q t l k else chY (chS T z p q t l k)) := by
  by_cases hc : ptC T z (lvP l k) (lvH l k) = 0
  · have e : chS T z p q t l (k + 1) = (match chS T z p q t l k with | none => some (k, chP T z p q t l k) | some (b, y) => if chP T z p q t l k < y then some (k, chP T z p q t l k) else some (b, y)) := by rw [chS, if_pos hc]
    rw [e]
    cases h : chS T z p q t l k with
    | none =>
      have h2 : chP T z p q t l k < chY none := by simp [chY]; omega
      rw [if_pos ⟨hc, h2⟩, if_pos ⟨hc, h2⟩]
      exact ⟨rfl, rfl⟩
    | some x =>
      obtain ⟨b, y⟩ := x
      have e2 : chY (some (b, y)) = y := rfl
      rw [e2]
      by_cases hl : chP T z p q t l k < y
      · rw [if_pos ⟨hc, hl⟩, if_pos ⟨hc, hl⟩]
        constructor <;> simp [hl, chA, chY]
      · rw [if_neg (fun h => hl h.2), if_neg (fun h => hl h.2)]
        constructor <;> simp [hl, chA, chY]
  · have e : chS T z p q t l (k + 1) = chS T z p q t l k := by rw [chS, if_neg hc]
    rw [e, if_neg (fun h => hc h.1), if_neg (fun h => hc h.1)]
    exact ⟨rfl, rfl⟩
/-- what the specification holds of the best one -/
def chU (o : Option (Nat × Int)) : Int := (o.map fun x => (x.1 : Int)).getD (-1)
def chW (o : Option (Nat × Int)) : Int := (o.map fun x => x.2).getD 0
theorem chU_none {o : Option (Nat × Int)} : chU o < 0 ↔ o = none := by
  cases o with
  | none => simp [chU]
  | some x => simp [chU]
theorem chS_spec {T : List Wp} {z : List Int} {p q t : Int} {l : List (Int × Int)} {k : Nat} : chU (chS T z p q t l (k + 1)) = (if ptC T z (lvP l k) (lvH l k) = 0 ∧ (chU (chS T z p q t l k) < 0 ∨ chP T z p q t l k < chW (chS T z p q t l k)) then (k : Int) else chU (chS T z p q t l k)) ∧ chW (chS T z p q t l (k + 1)) = (if ptC T z (lvP l k) (lvH l k) = 0 ∧ (chU (chS T z p q t l k) < 0 ∨ chP T z p q t l k < chW (chS T z p q t l k)) then chP T z p q t l k else chW (chS T z p q t l k)) := by
  by_cases hc : ptC T z (lvP l k) (lvH l k) = 0
  · have e : chS T z p q t l (k + 1) = (match chS T z p q t l k with | none => some (k, chP T z p q t l k) | some (b, y) => if chP T z p q t l k < y then some (k, chP T z p q t l k) else some (b, y)) := by rw [chS, if_pos hc]
    rw [e]
    cases h : chS T z p q t l k with
    | none =>
      have h2 : chU none < 0 := chU_none.2 rfl
      rw [if_pos ⟨hc, Or.inl h2⟩, if_pos ⟨hc, Or.inl h2⟩]
      exact ⟨rfl, rfl⟩
    | some x =>
      obtain ⟨b, y⟩ := x
      have e2 : chW (some (b, y)) = y := rfl
      have e3 : ¬ chU (some (b, y)) < 0 := fun h => by have := chU_none.1 h; cases this
      rw [e2]
      by_cases hl : chP T z p q t l k < y
      · rw [if_pos ⟨hc, Or.inr hl⟩, if_pos ⟨hc, Or.inr hl⟩]
        constructor <;> simp [hl, chU, chW]
      · rw [if_neg (fun h => h.2.elim e3 hl), if_neg (fun h => h.2.elim e3 hl)]
        constructor <;> simp [hl, chU, chW]
  · have e : chS T z p q t l (k + 1) = chS T z p q t l k := by rw [chS, if_neg hc]
    rw [e, if_neg (fun h => hc h.1), if_neg (fun h => hc h.1)]
    exact ⟨rfl, rfl⟩
end Go.Proofs.YtcocfnjbgceidaaGreat
