import Derived.Test.YtmjpecneaenlpaaDoorRsm
import Derived.Lib.Strings
namespace Go.Proofs.YtmjpecneaenlpaaDoor
/-! choices read (no model in this text) -/
def xtP (a : Bool) (l o t : Int) : List UInt8 := if a then [120] else Lib.itoa l ++ 47 :: (Lib.itoa o ++ 47 :: Lib.itoa t)
def txX (_ : Nat) (c : Bool × Int × Int × Int) : List UInt8 := xtP c.1 c.2.1 c.2.2.1 c.2.2.2
def smR (v : Int) : Prop := -99 ≤ v ∧ v ≤ 99
def goodX (_ : Nat) (c : Bool × Int × Int × Int) : Prop := (c.1 = true → c.2.1 = 0 ∧ c.2.2.1 = 0 ∧ c.2.2.2 = 0) ∧ smR c.2.1 ∧ smR c.2.2.1 ∧ smR c.2.2.2
/-- a small number read strictly -/
def ssm (x : List UInt8) : Option Int :=
  if 1 < x.length ∧ x.head? = some 45 then (match snum (x.drop 1) with
    | some n => if n ≤ 99 ∧ n ≠ 0 then some (-(n : Int)) else none
    | none => none)
  else (match snum x with
    | some n => if n ≤ 99 then some (n : Int) else none
    | none => none)
theorem itoa_pos (n : Nat) : Lib.itoa (n : Int) = Lib.decDigits n := by unfold Lib.itoa; rw [if_neg (by omega)]; simp
theorem itoa_neg {n : Nat} (h : n ≠ 0) : Lib.itoa (-(n : Int)) = 45 :: Lib.decDigits n := by
  unfold Lib.itoa
  rw [if_pos (by omega)]
  simp
theorem ssm_inv {x : List UInt8} {v : Int} (h : ssm x = some v) : x = Lib.itoa v ∧ smR v ∧ Lib.parseIntB 8 x = .ok v := by
  unfold ssm at h
  split at h
  · rename_i hc
    split at h
    · rename_i n hn
      split at h
      · rename_i hb
        obtain rfl := Option.some.inj h
        have h1 := snum_inv hn
        have hx : x = 45 :: Lib.decDigits n := by
          cases x with
          | nil => simp at hc
          | cons y r =>
            have := hc.2
            simp only [List.head?_cons, Option.some.injEq] at this
            rw [this]
            simp only [List.drop_succ_cons, List.drop_zero] at h1
            rw [h1]
        refine ⟨by rw [itoa_neg hb.2, hx], ⟨by omega, by omega⟩, by rw [hx]; exact parse_neg (.inl rfl) (by omega)⟩
      · cases h
    · cases h
  · split at h
    · rename_i n hn
      split at h
      · rename_i hb
        obtain rfl := Option.some.inj h
        have h1 := snum_inv hn
        refine ⟨by rw [itoa_pos, h1], ⟨by omega, by omega⟩, by rw [h1]; exact parse_dec (.inl rfl) (by omega)⟩
      · cases h
    · cases h
theorem ssm_back {v : Int} (h : smR v) : ssm (Lib.itoa v) = some v := by
  rcases Int.lt_or_le v 0 with h0 | h0
  · obtain ⟨n, rfl⟩ : ∃ n : Nat, v = -(n : Int) := ⟨v.natAbs, by omega⟩
    have hn : n ≠ 0 := by omega
    have h9 : n ≤ 99 := by have := h.1; omega
    rw [itoa_neg hn]
    unfold ssm
    have hl : 1 < (45 :: Lib.decDigits n : List UInt8).length := by
      have := List.length_pos_iff.2 (dq_ne n)
      rw [List.length_cons]
      omega
    rw [if_pos ⟨hl, rfl⟩]
    simp only [List.drop_succ_cons, List.drop_zero, snum_dec (show n < 1000000000 by omega)]
    rw [if_pos ⟨h9, hn⟩]
  · obtain ⟨n, rfl⟩ := Int.eq_ofNat_of_zero_le h0
    have h9 : n ≤ 99 := by have := h.2; omega
    rw [itoa_pos]
    unfold ssm
    rw [if_neg]
    · simp only [snum_dec (show n < 1000000000 by omega)]
      rw [if_pos h9]
    · rintro ⟨_, h2⟩
      cases hd : Lib.decDigits n with
      | nil => rw [hd] at h2; cases h2
      | cons x r =>
        rw [hd] at h2
        have := dq_not (c := 45) (by decide) n x (by rw [hd]; simp)
        simp at h2
        exact this h2
theorem itoa_not {c : UInt8} (hc : digB c = false) (h45 : c ≠ 45) (v : Int) : ∀ x ∈ Lib.itoa v, x ≠ c := by
  intro x hx
  unfold Lib.itoa at hx
  split at hx
  · rcases List.mem_cons.1 hx with rfl | hx
    · exact fun e => h45 e.symm
    · exact dq_not hc _ x hx
  · exact dq_not hc _ x hx
/-- a choice read strictly -/
def sChc (_ : Nat) (x : List UInt8) : Option (Bool × Int × Int × Int) :=
  if x = [120] then some (true, 0, 0, 0) else (match spA 47 x with
    | [a, b, c] => match ssm a, ssm b, ssm c with
      | some l, some o, some t => some (false, l, o, t)
      | _, _, _ => none
    | _ => none)
/-- .. and loosely -/
def iChc (_ : Nat) (x : List UInt8) : Option (Bool × Int × Int × Int) :=
  if x = [120] then some (true, 0, 0, 0) else (match spN 47 4 x with
    | [a, b, c] => match Lib.parseIntB 8 a, Lib.parseIntB 8 b, Lib.parseIntB 8 c with
      | .ok l, .ok o, .ok t => some (false, l, o, t)
      | _, _, _ => none
    | _ => none)
theorem spA_three {c : UInt8} {x a b d : List UInt8} (h : spA c x = [a, b, d]) : x = a ++ c :: (b ++ c :: d) ∧ (∀ y ∈ a, y ≠ c) ∧ (∀ y ∈ b, y ≠ c) ∧ ∀ y ∈ d, y ≠ c := by
  have h1 := spA_join c x
  rw [h, join_cons2, join_cons2, Lib.join_one] at h1
  have h2 := spA_parts c x
  rw [h] at h2
  exact ⟨h1.symm, h2 a (by simp), h2 b (by simp), h2 d (by simp)⟩
theorem spA_triple {c : UInt8} {a b d : List UInt8} (ha : ∀ y ∈ a, y ≠ c) (hb : ∀ y ∈ b, y ≠ c) (hd : ∀ y ∈ d, y ≠ c) : spA c (a ++ c :: (b ++ c :: d)) = [a, b, d] := by
  rw [spA_at c _ a ha, spA_at c d b hb, spA_no c d hd]
theorem sChc_inv {i : Nat} {x : List UInt8} {c : Bool × Int × Int × Int} (h : sChc i x = some c) : x = txX i c ∧ iChc i x = some c := by
  unfold sChc at h
  split at h
  · rename_i hx
    obtain rfl := Option.some.inj h
    exact ⟨hx, by unfold iChc; rw [if_pos hx]⟩
  · rename_i hx
    split at h
    · rename_i a b d e
      split at h
      · rename_i l o t h1 h2 h3
        obtain rfl := Option.some.inj h
        obtain ⟨e1, _⟩ := spA_three e
        obtain ⟨i1, _, q1⟩ := ssm_inv h1
        obtain ⟨i2, _, q2⟩ := ssm_inv h2
        obtain ⟨i3, _, q3⟩ := ssm_inv h3
        refine ⟨by rw [e1, i1, i2, i3]; rfl, ?_⟩
        unfold iChc
        rw [if_neg hx, spN_all 47 4 x (by rw [e]; simp), e]
        simp only [q1, q2, q3]
      · cases h
    · cases h
theorem sChc_back {i : Nat} {c : Bool × Int × Int × Int} (h : goodX i c) : sChc i (txX i c) = some c ∧ ∀ y ∈ txX i c, y ≠ 32 := by
  obtain ⟨a, l, o, t⟩ := c
  obtain ⟨h0, h1, h2, h3⟩ := h
  dsimp only at h0 h1 h2 h3
  cases a with
  | true =>
    obtain ⟨rfl, rfl, rfl⟩ := h0 rfl
    refine ⟨by simp [sChc, txX, xtP], fun y hy => ?_⟩
    simp [txX, xtP] at hy
    rw [hy]
    decide
  | false =>
    have d47 := fun v => itoa_not (c := 47) (by decide) (by decide) v
    have d32 := fun v => itoa_not (c := 32) (by decide) (by decide) v
    have hx : txX i (false, l, o, t) = Lib.itoa l ++ 47 :: (Lib.itoa o ++ 47 :: Lib.itoa t) := rfl
    have hne : (Lib.itoa l ++ 47 :: (Lib.itoa o ++ 47 :: Lib.itoa t)) ≠ [120] := fun e => by
      have : (47 : UInt8) ∈ ([120] : List UInt8) := by rw [← e]; simp
      simp at this
    rw [hx]
    refine ⟨?_, ?_⟩
    · unfold sChc
      rw [if_neg hne, spA_triple (d47 l) (d47 o) (d47 t)]
      simp only [ssm_back h1, ssm_back h2, ssm_back h3]
    · intro z hz
      simp only [List.mem_append, List.mem_cons] at hz
      rcases hz with hz | rfl | hz | rfl | hz
      · exact d32 l z hz
      · decide
      · exact d32 o z hz
      · decide
      · exact d32 t z hz
theorem sChc_nil (i : Nat) : sChc i [] = none := by
  unfold sChc
  rw [if_neg (by simp), spA_no 47 [] (by simp)]
theorem sChc_x (i : Nat) : sChc i [120] = some (true, 0, 0, 0) := by simp [sChc]
theorem sChc_cut {i : Nat} {x : List UInt8} (hx : x ≠ [120]) (h : (spA 47 x).length ≠ 3) : sChc i x = none := by
  unfold sChc
  rw [if_neg hx]
  split
  · rename_i a b d e
    rw [e] at h
    exact absurd rfl h
  · rfl
/-- the small number that a text says, or 0 -/
def smI (x : List UInt8) : Int := (ssm x).getD 0
theorem smI_in (x : List UInt8) : smR (smI x) := by
  unfold smI
  cases h : ssm x with
  | none => exact ⟨by decide, by decide⟩
  | some v => exact (ssm_inv h).2.1
theorem sChc_three {i : Nat} {x a b d : List UInt8} (hx : x ≠ [120]) (h : spA 47 x = [a, b, d]) : sChc i x = if (ssm a).isSome = true ∧ (ssm b).isSome = true ∧ (ssm d).isSome = true then some (false, smI a, smI b, smI d) else none := by
  unfold sChc smI
  rw [if_neg hx, h]
  cases h1 : ssm a with
  | none => simp [h1]
  | some l =>
    cases h2 : ssm b with
    | none => simp [h1, h2]
    | some o =>
      cases h3 : ssm d with
      | none => simp [h1, h2, h3]
      | some t => simp [h1, h2, h3]
theorem iChc_x (i : Nat) : iChc i [120] = some (true, 0, 0, 0) := by simp [iChc]
theorem iChc_cut {i : Nat} {x : List UInt8} (hx : x ≠ [120]) (h : (spN 47 4 x).length ≠ 3) : iChc i x = none := by
  unfold iChc
  rw [if_neg hx]
  split
  · rename_i a b d e
    rw [e] at h
    exact absurd rfl h
  · rfl
theorem iChc_no {i k : Nat} {x p : List UInt8} (hx : x ≠ [120]) (h : (spN 47 4 x).length = 3) (hp : (spN 47 4 x)[k]? = some p) (hb : ∀ v, Lib.parseIntB 8 p ≠ .ok v) : iChc i x = none := by
  unfold iChc
  rw [if_neg hx]
  split
  · rename_i a b d e
    rw [e] at hp
    split
    · rename_i l o t h1 h2 h3
      match k, hp with
      | 0, hp => obtain rfl := Option.some.inj hp; exact absurd h1 (hb l)
      | 1, hp => obtain rfl := Option.some.inj hp; exact absurd h2 (hb o)
      | 2, hp => obtain rfl := Option.some.inj hp; exact absurd h3 (hb t)
    · rfl
  · rfl
theorem iChc_yes {i : Nat} {x a b d : List UInt8} {l o t : Int} (hx : x ≠ [120]) (h : spN 47 4 x = [a, b, d]) (h1 : Lib.parseIntB 8 a = .ok l) (h2 : Lib.parseIntB 8 b = .ok o) (h3 : Lib.parseIntB 8 d = .ok t) : iChc i x = some (false, l, o, t) := by
  unfold iChc
  rw [if_neg hx, h]
  simp only [h1, h2, h3]
end Go.Proofs.YtmjpecneaenlpaaDoor
