import Derived.Test.YtmjpecneaenlpaaDoorRsm
import Derived.Lib.SlTrimSet
import Derived.Lib.Strings
namespace Go.Proofs.YtmjpecneaenlpaaDoor
/-! changes read (no model in this text) -/
def txC (_ : Nat) (c : Int × Int × Bool) : List UInt8 := (if c.2.2 then 43 else 45) :: (Lib.decDigits c.1.toNat ++ 47 :: Lib.decDigits c.2.1.toNat)
def goodC (_ : Nat) (c : Int × Int × Bool) : Prop := (0 ≤ c.1 ∧ c.1 ≤ 95) ∧ (0 ≤ c.2.1 ∧ c.2.1 ≤ 23)
/-- a change read strictly -/
def sChg (_ : Nat) (x : List UInt8) : Option (Int × Int × Bool) := match x with
  | [] => none
  | h :: r => if h = 43 ∨ h = 45 then (match spA 47 r with
    | [a, b] => match snum a, snum b with
      | some n, some m => if n < 96 ∧ m < 24 then some ((n : Int), (m : Int), h == 43) else none
      | _, _ => none
    | _ => none) else none
/-- .. and loosely -/
def iChg (_ : Nat) (x : List UInt8) : Option (Int × Int × Bool) := match cutQ 47 x with
  | some (a, b) => match Lib.parseIntB 16 (Lib.trimLeftS a [43, 45]), Lib.parseIntB 8 b with
    | .ok v, .ok u => some (v, u, Lib.hasPrefix a [43])
    | _, _ => none
  | none => none
theorem trim_dec {h : UInt8} (hh : h = 43 ∨ h = 45) (n : Nat) : Lib.trimLeftS (h :: Lib.decDigits n) [43, 45] = Lib.decDigits n := by
  unfold Lib.trimLeftS
  rw [List.dropWhile_cons_of_pos (by rcases hh with rfl | rfl <;> decide)]
  cases hd : Lib.decDigits n with
  | nil => rfl
  | cons x r =>
    have h1 := dq_not (c := 43) (by decide) n x (by rw [hd]; simp)
    have h2 := dq_not (c := 45) (by decide) n x (by rw [hd]; simp)
    rw [List.dropWhile_cons_of_neg]
    simp [h1, h2]
theorem pref_one (h : UInt8) (l : List UInt8) : Lib.hasPrefix (h :: l) [43] = (h == 43) := by
  show ((43 : UInt8) == h && true) = (h == 43)
  rw [Bool.and_true, Bool.eq_iff_iff, beq_iff_eq, beq_iff_eq]
  exact ⟨Eq.symm, Eq.symm⟩
theorem sChg_inv {i : Nat} {x : List UInt8} {c : Int × Int × Bool} (h : sChg i x = some c) : x = txC i c ∧ iChg i x = some c := by
  unfold sChg at h
  split at h
  · cases h
  rename_i hd r
  split at h
  · rename_i hh
    split at h
    · rename_i u v e
      split at h
      · rename_i n m h1 h2
        split at h
        · rename_i hb
          obtain rfl := Option.some.inj h
          obtain ⟨h3, h4, h5⟩ := spA_two e
          have h6 := snum_inv h1
          have h7 := snum_inv h2
          subst h6 h7
          subst h3
          refine ⟨?_, ?_⟩
          · simp only [txC, Int.toNat_natCast]
            rcases hh with rfl | rfl <;> rfl
          · unfold iChg
            rw [show hd :: (Lib.decDigits n ++ 47 :: Lib.decDigits m) = (hd :: Lib.decDigits n) ++ 47 :: Lib.decDigits m from rfl, cutQ_at (by
              intro y hy
              rcases List.mem_cons.1 hy with rfl | hy
              · rcases hh with rfl | rfl <;> decide
              · exact h4 y hy)]
            have e1 := parse_dec (B := 16) (.inr rfl) (n := n) (by omega)
            have e2 := parse_dec (B := 8) (.inl rfl) (n := m) (by omega)
            simp only [trim_dec hh, e1, e2, pref_one]
        · cases h
      · cases h
    · cases h
  · cases h
theorem sChg_back {i : Nat} {c : Int × Int × Bool} (h : goodC i c) : sChg i (txC i c) = some c ∧ ∀ y ∈ txC i c, y ≠ 32 := by
  obtain ⟨⟨a1, a2⟩, p1, p2⟩ := h
  obtain ⟨x, y, q⟩ := c
  dsimp only at a1 a2 p1 p2
  obtain ⟨n, rfl⟩ := Int.eq_ofNat_of_zero_le a1
  obtain ⟨m, rfl⟩ := Int.eq_ofNat_of_zero_le p1
  have d47 := dq_not (c := 47) (by decide) n
  have d47m := dq_not (c := 47) (by decide) m
  have d32 := dq_not (c := 32) (by decide) n
  have d32m := dq_not (c := 32) (by decide) m
  refine ⟨?_, ?_⟩
  · unfold sChg txC
    simp only [Int.toNat_natCast]
    rw [if_pos (by cases q <;> simp)]
    rw [spA_pair d47 d47m]
    simp only [snum_dec (show n < 1000000000 by omega), snum_dec (show m < 1000000000 by omega)]
    rw [if_pos ⟨by omega, by omega⟩]
    cases q <;> simp
  · intro z hz
    simp only [txC, Int.toNat_natCast, List.mem_append, List.mem_cons] at hz
    rcases hz with rfl | hz | rfl | hz
    · cases q <;> simp
    · exact d32 z hz
    · decide
    · exact d32m z hz
theorem sChg_nil (i : Nat) : sChg i [] = none := rfl
theorem sChg_head {i : Nat} {x : List UInt8} (h : x.length < 2 ∨ (x.head? ≠ some 43 ∧ x.head? ≠ some 45)) : sChg i x = none := by
  unfold sChg
  split
  · rfl
  rename_i hd r
  split
  · rename_i hh
    rcases h with h | h
    · have : r = [] := List.length_eq_zero_iff.1 (by simp at h; omega)
      subst this
      rw [spA_no 47 [] (by simp)]
    · rcases hh with rfl | rfl
      · exact absurd rfl h.1
      · exact absurd rfl h.2
  · rfl
theorem sChg_cut {i : Nat} {hd : UInt8} {r : List UInt8} (h : (spA 47 r).length ≠ 2) : sChg i (hd :: r) = none := by
  unfold sChg
  split
  · rfl
  rename_i hd' r' e
  cases e
  split
  · split
    · rename_i a b e
      rw [e] at h
      exact absurd rfl h
    · rfl
  · rfl
end Go.Proofs.YtmjpecneaenlpaaDoor
