import Derived.Test.YtmjpecneaenlpaaDoorBase
import Derived.Lib.ItoaNum
import Derived.Lib.ParseIntBCases
namespace Go.Proofs.YtmjpecneaenlpaaDoor
/-! numbers read strictly and loosely (no model in this text) -/
def digB (c : UInt8) : Bool := decide (48 ≤ c.toNat ∧ c.toNat ≤ 57)
def nuF (n : Nat) (c : UInt8) : Nat := 10 * n + (c.toNat - 48)
def nuV (l : List UInt8) : Nat := l.foldl nuF 0
/-- a number of at most ten digits, without a needless 0 -/
def snum (l : List UInt8) : Option Nat := if l = [] ∨ 10 < l.length ∨ (l.head? = some 48 ∧ 1 < l.length) ∨ l.all digB = false then none else some (nuV l)
theorem dq_sm {n : Nat} (h : n < 10) : Lib.decDigits n = [UInt8.ofNat (48 + n)] := by unfold Lib.decDigits; rw [dif_pos h]
theorem dq_bg {n : Nat} (h : ¬ n < 10) : Lib.decDigits n = Lib.decDigits (n / 10) ++ [UInt8.ofNat (48 + n % 10)] := by rw [Lib.decDigits, dif_neg h]
theorem dq_ne (n : Nat) : Lib.decDigits n ≠ [] := by
  by_cases h : n < 10
  · rw [dq_sm h]; simp
  · rw [dq_bg h]; simp
theorem dg_of {d : Nat} (h : d < 10) : (UInt8.ofNat (48 + d)).toNat = 48 + d := by
  rw [UInt8.toNat_ofNat']
  omega
theorem dq_all (n : Nat) : (Lib.decDigits n).all digB = true := by
  induction n using Nat.strongRecOn with
  | _ n ih =>
  have key : ∀ d, d < 10 → digB (UInt8.ofNat (48 + d)) = true := fun d hd => by
    unfold digB
    rw [dg_of hd]
    exact decide_eq_true ⟨by omega, by omega⟩
  by_cases h : n < 10
  · rw [dq_sm h, List.all_cons, key n h]; rfl
  · rw [dq_bg h, List.all_append, ih (n / 10) (by omega), List.all_cons, key (n % 10) (by omega)]; rfl
theorem nuV_snoc (l : List UInt8) (c : UInt8) : nuV (l ++ [c]) = 10 * nuV l + (c.toNat - 48) := by simp [nuV, nuF]
theorem dq_nu (n : Nat) : nuV (Lib.decDigits n) = n := by
  induction n using Nat.strongRecOn with
  | _ n ih =>
  by_cases h : n < 10
  · rw [dq_sm h]
    simp only [nuV, nuF, List.foldl_cons, List.foldl_nil, dg_of h]
    omega
  · rw [dq_bg h, nuV_snoc, ih (n / 10) (by omega), dg_of (by omega : n % 10 < 10)]
    omega
theorem dq_head (n : Nat) (h0 : 0 < n) : (Lib.decDigits n).head? ≠ some 48 := by
  induction n using Nat.strongRecOn with
  | _ n ih =>
  by_cases h : n < 10
  · rw [dq_sm h]
    intro e
    simp only [List.head?_cons, Option.some.injEq] at e
    have := congrArg UInt8.toNat e
    rw [dg_of h] at this
    have h48 : (48 : UInt8).toNat = 48 := rfl
    omega
  · rw [dq_bg h, List.head?_append]
    have := ih (n / 10) (by omega) (by omega)
    cases e : (Lib.decDigits (n / 10)).head? with
    | none => exact absurd (List.head?_eq_none_iff.1 e) (dq_ne _)
    | some c => rw [e] at this; simpa using this
theorem dq_len : ∀ (k n : Nat), n < 10 ^ (k + 1) → (Lib.decDigits n).length ≤ k + 1
  | 0, n, h => by rw [dq_sm (by omega)]; simp
  | k + 1, n, h => by
    by_cases h1 : n < 10
    · rw [dq_sm h1]; simp
    · have := dq_len k (n / 10) (by rw [Nat.pow_succ] at h; omega)
      rw [dq_bg h1, List.length_append]
      simp only [List.length_cons, List.length_nil]
      omega
theorem snum_dec {n : Nat} (h : n < 1000000000) : snum (Lib.decDigits n) = some n := by
  have h1 := dq_len 8 n (by omega)
  unfold snum
  rw [if_neg, dq_nu]
  rintro (e | e | ⟨e1, e2⟩ | e)
  · exact dq_ne n e
  · omega
  · by_cases h0 : n < 10
    · rw [dq_sm h0] at e2; simp at e2
    · exact dq_head n (by omega) e1
  · rw [dq_all] at e; cases e
theorem nu_dec : ∀ (k : Nat) (l : List UInt8), l.length = k → l ≠ [] → l.all digB = true → (l.head? = some 48 → l.length = 1) → Lib.decDigits (nuV l) = l ∧ (l.head? ≠ some 48 → 0 < nuV l) := by
  intro k
  induction k with
  | zero => intro l h h1 _ _; exact absurd (List.length_eq_zero_iff.1 h) h1
  | succ k ih =>
    intro l h h1 h2 h3
    rcases List.eq_nil_or_concat l with rfl | ⟨m, c, rfl⟩
    · exact absurd rfl h1
    · rw [List.concat_eq_append] at *
      rw [List.all_append, Bool.and_eq_true] at h2
      have hc : 48 ≤ c.toNat ∧ c.toNat ≤ 57 := by simpa [digB] using h2.2
      have hcc : UInt8.ofNat (48 + (c.toNat - 48)) = c := by rw [show 48 + (c.toNat - 48) = c.toNat by omega]; exact UInt8.ofNat_toNat
      by_cases hm : m = []
      · subst hm
        rw [nuV_snoc]
        simp only [nuV, List.foldl_nil, Nat.mul_zero, Nat.zero_add, List.nil_append]
        rw [dq_sm (by omega), hcc]
        refine ⟨rfl, fun hh => ?_⟩
        have : c ≠ 48 := fun e => hh (by rw [e]; rfl)
        have h48 : c.toNat ≠ 48 := fun e => this (by rw [← UInt8.ofNat_toNat (x := c), e]; rfl)
        omega
      · have hh : (m ++ [c]).head? = m.head? := by
          cases m with
          | nil => exact absurd rfl hm
          | cons a r => rfl
        have hml : 0 < m.length := List.length_pos_iff.2 hm
        have hno : m.head? ≠ some 48 := fun e => by
          have := h3 (by rw [hh]; exact e)
          rw [List.length_append] at this
          simp only [List.length_cons, List.length_nil] at this
          omega
        obtain ⟨h4, h5⟩ := ih m (by simpa using h) hm h2.1 (fun e => absurd e hno)
        have h6 := h5 hno
        rw [nuV_snoc, dq_bg (n := 10 * nuV m + (c.toNat - 48)) (by omega), show (10 * nuV m + (c.toNat - 48)) / 10 = nuV m by omega, show (10 * nuV m + (c.toNat - 48)) % 10 = c.toNat - 48 by omega, hcc, h4]
        exact ⟨rfl, fun _ => by omega⟩
theorem snum_inv {l : List UInt8} {n : Nat} (h : snum l = some n) : l = Lib.decDigits n := by
  unfold snum at h
  split at h
  · cases h
  · rename_i hc
    simp only [not_or] at hc
    obtain ⟨h1, h2, h3, h4⟩ := hc
    obtain rfl := Option.some.inj h
    exact (nu_dec l.length l rfl h1 (by simpa using h4) (fun e => by
      have hp : 0 < l.length := List.length_pos_iff.2 h1
      have : ¬ 1 < l.length := fun e2 => h3 ⟨e, e2⟩
      omega)).1.symm
theorem nuF_le : ∀ (l : List UInt8) (a : Nat), a ≤ l.foldl nuF a
  | [], a => Nat.le_refl _
  | c :: r, a => by
    have := nuF_le r (nuF a c)
    unfold nuF at this ⊢
    simp only [List.foldl_cons]
    omega
theorem pM_digs {M : Nat} (hM : M < 1844674407370955162) : ∀ (l : List UInt8) (acc : Nat), l.all digB = true → l.foldl nuF acc ≤ M → Lib.parseUintM M acc l = .ok (l.foldl nuF acc)
  | [], acc, _, _ => rfl
  | c :: r, acc, h, h1 => by
    simp only [List.all_cons, Bool.and_eq_true] at h
    have hc : 48 ≤ c.toNat ∧ c.toNat ≤ 57 := by simpa [digB] using h.1
    have h2 := nuF_le r (nuF acc c)
    simp only [List.foldl_cons] at h1 ⊢
    have e : acc * 10 + (c.toNat - 48) = nuF acc c := by unfold nuF; omega
    have h3 : nuF acc c = 10 * acc + (c.toNat - 48) := rfl
    unfold Lib.parseUintM
    rw [if_pos hc, if_neg (by omega), if_neg (by omega), e]
    exact pM_digs hM r _ h.2 h1
theorem pB_dec {B n : Nat} (hB : B = 8 ∨ B = 16) (h : n < 2 ^ (B - 1)) : Lib.parseUintB B (Lib.decDigits n) = .ok n := by
  have h1 := dq_nu n
  unfold nuV at h1
  have hp : (2 : Nat) ^ (B - 1) ≤ 2 ^ B - 1 := by rcases hB with rfl | rfl <;> decide
  have hq : (2 : Nat) ^ B - 1 < 1844674407370955162 := by rcases hB with rfl | rfl <;> decide
  unfold Lib.parseUintB
  rw [if_neg (dq_ne n), pM_digs hq _ _ (dq_all n) (by rw [h1]; omega), h1]
theorem parse_dec {B n : Nat} (hB : B = 8 ∨ B = 16) (h : n < 2 ^ (B - 1)) : Lib.parseIntB B (Lib.decDigits n) = .ok (n : Int) := by
  have h0 := pB_dec hB h
  have ha := dq_all n
  cases e : Lib.decDigits n with
  | nil => exact absurd e (dq_ne n)
  | cons c r =>
    rw [e] at h0 ha
    simp only [List.all_cons, Bool.and_eq_true] at ha
    have hc : 48 ≤ c.toNat ∧ c.toNat ≤ 57 := by simpa [digB] using ha.1
    rw [Lib.parseIntB_plain B c r (by omega) (by omega), h0, Lib.signlessC, if_neg (by omega)]
theorem parse_neg {B n : Nat} (hB : B = 8 ∨ B = 16) (h : n < 2 ^ (B - 1)) : Lib.parseIntB B (45 :: Lib.decDigits n) = .ok (-(n : Int)) := by
  rw [Lib.parseIntB_minus, pB_dec hB h, Lib.signedC, if_neg (by omega)]
theorem dq_not {c : UInt8} (hc : digB c = false) (n : Nat) : ∀ x ∈ Lib.decDigits n, x ≠ c := fun x hx e => by
  have := List.all_eq_true.1 (dq_all n) x hx
  rw [e, hc] at this
  cases this
end Go.Proofs.YtmjpecneaenlpaaDoor
