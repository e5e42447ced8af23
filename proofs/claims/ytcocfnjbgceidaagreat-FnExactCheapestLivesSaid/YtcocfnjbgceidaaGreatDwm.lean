import Derived.Test.YtcocfnjbgceidaaGreatGap
import Derived.Test.YtcocfnjbgceidaaGreatGah
import Derived.Maps.Views
namespace Go.Proofs.YtcocfnjbgceidaaGreat
open Go.RowKit Go.Maps
theorem tog_wfW {d : Nat → Int} (hd : DWF d) (k t : Nat) : DWF (togD d k t) := by
  intro i hi
  unfold togD
  split
  · exact bounds_u32 (wf_bits .xor .u32 _ _)
  · exact hd i hi
theorem zero_wfW : DWF (fun _ => 0) := fun _ _ => by show (0 : Int) ≤ 0 ∧ (0 : Int) ≤ 4294967295; omega
theorem zero_pinW (k t : Nat) : pinB (fun _ => 0) k t = false := by simp [pinB]
theorem tog_pinW {d : Nat → Int} (hd : DWF d) {k t k' t' : Nat} (hk' : k' < 96) (ht : t < 32) : pinB (togD d k t) k' t' = (pinB d k' t' ^^ (decide (k' = k) && decide (t' = t))) := by
  rw [pin_bit (tog_wfW hd k t k' hk').1, pin_bit (hd k' hk').1]
  unfold togD
  by_cases e : k' = k
  · subst e
    rw [if_pos rfl]
    obtain ⟨x, hx⟩ := Int.eq_ofNat_of_zero_le (hd k' hk').1
    have hxb : x < 4294967296 := by have := (hd k' hk').2; omega
    have hp : (2 : Nat) ^ t < 2 ^ 32 := Nat.pow_lt_pow_right (by decide) ht
    rw [pow_nat t ht, hx, xor_nat x (2 ^ t) hxb (by omega), Int.toNat_natCast, Int.toNat_natCast, Nat.testBit_xor, Nat.testBit_two_pow]
    simp [eq_comm]
  · rw [if_neg e]
    simp [e]
/-- the drum with one pin put in -/
def orW (d : Nat → Int) (k t : Nat) (i : Nat) : Int := if i = k then bits .or .u32 (d k) (2 ^ t % 4294967296) else d i
theorem or_wfW {d : Nat → Int} (hd : DWF d) (k t : Nat) : DWF (orW d k t) := by
  intro i hi
  unfold orW
  split
  · exact bounds_u32 (wf_bits .or .u32 _ _)
  · exact hd i hi
theorem or_pinW {d : Nat → Int} (hd : DWF d) {k t k' t' : Nat} (hk' : k' < 96) (ht : t < 32) : pinB (orW d k t) k' t' = (pinB d k' t' || (decide (k' = k) && decide (t' = t))) := by
  rw [pin_bit (or_wfW hd k t k' hk').1, pin_bit (hd k' hk').1]
  unfold orW
  by_cases e : k' = k
  · subst e
    rw [if_pos rfl]
    obtain ⟨x, hx⟩ := Int.eq_ofNat_of_zero_le (hd k' hk').1
    have hxb : x < 4294967296 := by have := (hd k' hk').2; omega
    have hp : (2 : Nat) ^ t < 2 ^ 32 := Nat.pow_lt_pow_right (by decide) ht
    rw [pow_nat t ht, hx, or_nat x (2 ^ t) hxb (by omega), Int.toNat_natCast, Int.toNat_natCast, Nat.testBit_or, Nat.testBit_two_pow]
    simp [eq_comm]
  · rw [if_neg e]
    simp [e]
theorem drum_of_pins {p q : Nat → Int} (hp : DWF p) (hq : DWF q) (h : ∀ i, i < 96 → ∀ t, pinB p i t = pinB q i t) : da p = da q := by
  unfold da
  rw [dv_congr fun i hi => ?_]
  have e : (p i).toNat = (q i).toNat := by
    apply Nat.eq_of_testBit_eq
    intro t
    rw [← pin_bit (hp i hi).1, ← pin_bit (hq i hi).1, h i hi t]
  have h1 := (hp i hi).1
  have h2 := (hq i hi).1
  omega
/-- one of the first k pins is there, and S holds of it -/
def atW (l : List (Int × Int × Int)) (S : Nat → Bool) (k i t : Nat) : Bool := (List.range k).any fun j => decide (wnS l j = i ∧ wnT l j = t) && S j
theorem atW_succ (l : List (Int × Int × Int)) (S : Nat → Bool) (k i t : Nat) : atW l S (k + 1) i t = (atW l S k i t || (decide (wnS l k = i ∧ wnT l k = t) && S k)) := by
  simp [atW, List.range_succ]
theorem atW_none (l : List (Int × Int × Int)) (S : Nat → Bool) (k i t : Nat) (h : ∀ j, j < k → S j = false) : atW l S k i t = false := by
  rw [atW, List.any_eq_false]
  intro j hj
  rw [h j (List.mem_range.1 hj)]
  simp
theorem atW_congr (l : List (Int × Int × Int)) {S S' : Nat → Bool} {k i t : Nat} (h : ∀ j, j < k → (wnS l j = i ∧ wnT l j = t) → S j = S' j) : atW l S k i t = atW l S' k i t := by
  unfold atW
  rw [Bool.eq_iff_iff]
  simp only [List.any_eq_true, List.mem_range, Bool.and_eq_true, decide_eq_true_eq]
  constructor
  · rintro ⟨j, hj, hp, hs⟩
    exact ⟨j, hj, hp, by rw [← h j hj hp]; exact hs⟩
  · rintro ⟨j, hj, hp, hs⟩
    exact ⟨j, hj, hp, by rw [h j hj hp]; exact hs⟩
theorem atW_hit (l : List (Int × Int × Int)) {S : Nat → Bool} {k j i t : Nat} (hj : j < k) (hp : wnS l j = i ∧ wnT l j = t) (hs : S j = true) : atW l S k i t = true := by
  simp only [atW, List.any_eq_true, List.mem_range, Bool.and_eq_true, decide_eq_true_eq]
  exact ⟨j, hj, hp, hs⟩
/-- pins lie on a drum -/
def OnD (l : List (Int × Int × Int)) : Prop := ∀ k, k < l.length → (0 ≤ wnS l k ∧ wnS l k < 96) ∧ (0 ≤ wnT l k ∧ wnT l k < 24)
theorem onD_of {s : Int} {h : List (Int × Int)} {l : List (Int × Int × Int)} {z : List Int} (hw : weB s h l z = true) : OnD l := by
  intro k hk
  simp only [weB, Bool.and_eq_true, frB, inB, decide_eq_true_eq] at hw
  obtain ⟨⟨⟨hf, _⟩, hp⟩, _⟩ := hw
  simp only [pinsB, List.all_eq_true, List.mem_range, Bool.and_eq_true, wnOk, plW, inB, decide_eq_true_eq] at hp
  have := (hp k hk).1.1
  omega
/-- the drum of the first k pins -/
def dwD (l : List (Int × Int × Int)) : Nat → Nat → Int
  | 0 => fun _ => 0
  | k + 1 => orW (dwD l k) (wnS l k).toNat (wnT l k).toNat
set_option maxRecDepth 20000 in
theorem dwD_facts {l : List (Int × Int × Int)} (hl : OnD l) : ∀ k, k ≤ l.length → DWF (dwD l k) ∧ ∀ i, i < 96 → ∀ t, pinB (dwD l k) i t = atW l (fun _ => true) k i t
  | 0, _ => ⟨zero_wfW, fun i _ t => by rw [dwD, zero_pinW]; rfl⟩
  | k + 1, hk => by
    obtain ⟨h1, h2⟩ := dwD_facts hl k (by omega)
    obtain ⟨⟨a1, a2⟩, b1, b2⟩ := hl k hk
    refine ⟨or_wfW h1 _ _, fun i hi t => ?_⟩
    rw [dwD, or_pinW h1 hi (by omega), h2 i hi t, atW_succ, Bool.and_true]
    congr 1
    rw [← Bool.decide_and]
    exact decide_eq_decide.2 (by omega)
set_option maxRecDepth 20000 in
theorem kP_inj {x y x' y' : Int} (hx : -9223372036854775808 ≤ x ∧ x ≤ 9223372036854775807) (hy : -9223372036854775808 ≤ y ∧ y ≤ 9223372036854775807) (hx' : -9223372036854775808 ≤ x' ∧ x' ≤ 9223372036854775807) (hy' : -9223372036854775808 ≤ y' ∧ y' ≤ 9223372036854775807)
    (h : kP x y = kP x' y') : x = x' ∧ y = y' := by
  have h1 := key_place x y hx hy
  have h2 := key_place x' y' hx' hy'
  rw [h] at h1
  have := lawP.inj h1 h2
  simpa using this
theorem mapW_isMap (l : List (Int × Int × Int)) : ∀ k, IsMap (mapW l k)
  | 0 => isMap_empty
  | k + 1 => (mapW_isMap l k).put _ _
set_option maxRecDepth 20000 in
theorem mapW_has {l : List (Int × Int × Int)} (hw : WnWF l) : ∀ k, k ≤ l.length → ∀ kl, has (mapW l k) kl = true → ∃ j, j < k ∧ kl = kP (wnS l j) (wnT l j)
  | 0, _, kl, h => by simp [mapW, has] at h
  | k + 1, hk, kl, h => by
    by_cases e : kl = kP (wnS l k) (wnT l k)
    · exact ⟨k, Nat.lt_succ_self k, e⟩
    · rw [mapW, has_put_other e] at h
      obtain ⟨j, hj, e'⟩ := mapW_has hw k (by omega) kl h
      exact ⟨j, by omega, e'⟩
set_option maxRecDepth 20000 in
theorem mapW_has' {l : List (Int × Int × Int)} (hw : WnWF l) : ∀ k, k ≤ l.length → ∀ j, j < k → has (mapW l k) (kP (wnS l j) (wnT l j)) = true
  | 0, _, j, h => absurd h (Nat.not_lt_zero j)
  | k + 1, hk, j, h => by
    obtain ⟨m1, m2, _⟩ := hw k (by omega)
    by_cases e : kP (wnS l j) (wnT l j) = kP (wnS l k) (wnT l k)
    · rw [mapW, e]
      exact has_put_same (mapW_isMap l k) (lawP.key (key_place _ _ (i64_of8 m1) (i64_of8 m2))) _
    · rw [mapW, has_put_other e]
      refine mapW_has' hw k (by omega) j ?_
      rcases Nat.lt_or_ge j k with h1 | h1
      · exact h1
      · exact absurd (by rw [show j = k by omega]) e
/-- the pins that have come: their keys are not left -/
noncomputable def doneW (l : List (Int × Int × Int)) (left : Lit → Bool) (i t : Nat) : Bool := atW l (fun j => !left (kP (wnS l j) (wnT l j))) l.length i t
set_option maxRecDepth 20000 in
theorem doneW_start {l : List (Int × Int × Int)} (hw : WnWF l) (i t : Nat) : doneW l (has (mapW l l.length)) i t = false :=
  atW_none _ _ _ _ _ fun j hj => by rw [mapW_has' hw _ (Nat.le_refl _) j hj]; rfl
set_option maxRecDepth 20000 in
theorem doneW_end {l : List (Int × Int × Int)} {left : Lit → Bool} (h : ∀ kl, left kl = false) (i t : Nat) : doneW l left i t = atW l (fun _ => true) l.length i t :=
  atW_congr l fun j _ _ => by rw [h]; rfl
set_option maxRecDepth 20000 in
theorem doneW_step {l : List (Int × Int × Int)} (hw : WnWF l) (ho : OnD l) {left : Lit → Bool} {j0 : Nat} (hj : j0 < l.length) (hlf : left (kP (wnS l j0) (wnT l j0)) = true) (i t : Nat) :
    doneW l (fun z => left z && !z.sameKey (kP (wnS l j0) (wnT l j0))) i t = (doneW l left i t ^^ (decide (i = (wnS l j0).toNat) && decide (t = (wnT l j0).toNat))) := by
  obtain ⟨⟨a1, a2⟩, b1, b2⟩ := ho j0 hj
  obtain ⟨m1, m2, _⟩ := hw j0 hj
  have hk := lawP.key (key_place _ _ (i64_of8 m1) (i64_of8 m2))
  by_cases e : wnS l j0 = i ∧ wnT l j0 = t
  · have e1 : doneW l left i t = false := by
      unfold doneW
      rw [atW, List.any_eq_false]
      intro j hj'
      simp only [Bool.and_eq_true, decide_eq_true_eq, not_and]
      intro hp
      rw [hp.1, hp.2, ← e.1, ← e.2, hlf]
      simp
    have e2 : doneW l (fun z => left z && !z.sameKey (kP (wnS l j0) (wnT l j0))) i t = true := atW_hit l hj e (by simp [WideAt.sameKey_self hk])
    rw [e1, e2]
    have : i = (wnS l j0).toNat ∧ t = (wnT l j0).toNat := by omega
    simp [this.1, this.2]
  · have hne : ¬ (i = (wnS l j0).toNat ∧ t = (wnT l j0).toNat) := by omega
    have e3 : (decide (i = (wnS l j0).toNat) && decide (t = (wnT l j0).toNat)) = false := by rw [← Bool.decide_and]; exact decide_eq_false hne
    rw [e3, Bool.xor_false]
    refine atW_congr l fun j hj' hp => ?_
    have hkk : kP (wnS l j) (wnT l j) ≠ kP (wnS l j0) (wnT l j0) := by
      intro h
      obtain ⟨n1, n2, _⟩ := hw j hj'
      obtain ⟨h1, h2⟩ := kP_inj (i64_of8 n1) (i64_of8 n2) (i64_of8 m1) (i64_of8 m2) h
      exact e ⟨by rw [← h1]; exact hp.1, by rw [← h2]; exact hp.2⟩
    simp [sameKey_ne hkk]
end Go.Proofs.YtcocfnjbgceidaaGreat
