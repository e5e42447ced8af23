import Derived.Test.YtmjpecneaenlpaaDoorRsm
namespace Go.Proofs.YtmjpecneaenlpaaDoor
/-! a frame read: the first piece is the steps, the others are hammers (no model in this text) -/
def txF (i : Nat) (c : Int × Int) : List UInt8 := if i = 0 then Lib.decDigits c.1.toNat else pnQ c.1.toNat ++ 47 :: Lib.decDigits c.2.toNat
def goodF (i : Nat) (c : Int × Int) : Prop := if i = 0 then (0 ≤ c.1 ∧ c.1 ≤ 96) ∧ c.2 = 0 else (0 ≤ c.1 ∧ c.1 ≤ 47) ∧ (0 ≤ c.2 ∧ c.2 ≤ 20)
def sHam (x : List UInt8) : Option (Int × Int) := match spA 47 x with
  | [a, b] => match pnF a, snum b with
    | some p, some n => if n ≤ 20 then some ((p : Int), (n : Int)) else none
    | _, _ => none
  | _ => none
def iHam (x : List UInt8) : Option (Int × Int) := match cutQ 47 x with
  | some (a, b) => match pnF a, Lib.parseIntB 8 b with
    | some p, .ok v => some ((p : Int), v)
    | _, _ => none
  | none => none
def sStp (x : List UInt8) : Option (Int × Int) := match snum x with
  | some n => if n ≤ 96 then some ((n : Int), 0) else none
  | none => none
def iStp (x : List UInt8) : Option (Int × Int) := match Lib.parseIntB 16 x with
  | .ok v => some (v, 0)
  | _ => none
def sFr (i : Nat) (x : List UInt8) : Option (Int × Int) := if i = 0 then sStp x else sHam x
def iFr (i : Nat) (x : List UInt8) : Option (Int × Int) := if i = 0 then iStp x else iHam x
theorem sFr_inv {i : Nat} {x : List UInt8} {c : Int × Int} (h : sFr i x = some c) : x = txF i c ∧ iFr i x = some c := by
  unfold sFr at h
  unfold txF iFr
  by_cases hi : i = 0
  · rw [if_pos hi] at h ⊢
    rw [if_pos hi]
    unfold sStp at h
    split at h
    · rename_i n hn
      split at h
      · rename_i hb
        obtain rfl := Option.some.inj h
        have h1 := snum_inv hn
        have h2 := parse_dec (B := 16) (.inr rfl) (n := n) (by omega)
        refine ⟨by rw [h1]; simp, ?_⟩
        unfold iStp
        rw [h1, h2]
      · cases h
    · cases h
  · rw [if_neg hi] at h ⊢
    rw [if_neg hi]
    unfold sHam at h
    split at h
    · rename_i a b e
      split at h
      · rename_i p n h1 h2
        split at h
        · rename_i hb
          obtain rfl := Option.some.inj h
          obtain ⟨h3, h4, h5⟩ := spA_two e
          obtain ⟨h6, h7⟩ := pnF_some h1
          have h8 := snum_inv h2
          have h9 := parse_dec (B := 8) (.inl rfl) (n := n) (by omega)
          refine ⟨by rw [h3, ← h7, h8]; simp, ?_⟩
          unfold iHam
          rw [h3, cutQ_at h4]
          simp only [h1, h8, h9]
        · cases h
      · cases h
    · cases h
theorem sFr_back {i : Nat} {c : Int × Int} (h : goodF i c) : sFr i (txF i c) = some c ∧ ∀ y ∈ txF i c, y ≠ 32 := by
  obtain ⟨x, y⟩ := c
  unfold goodF at h
  unfold sFr txF
  by_cases hi : i = 0
  · rw [if_pos hi] at h
    rw [if_pos hi, if_pos hi]
    obtain ⟨⟨a1, a2⟩, rfl⟩ := h
    dsimp only at a1 a2
    obtain ⟨n, rfl⟩ := Int.eq_ofNat_of_zero_le a1
    simp only [Int.toNat_natCast]
    refine ⟨?_, dq_not (c := 32) (by decide) n⟩
    unfold sStp
    rw [snum_dec (show n < 1000000000 by omega)]
    simp only
    rw [if_pos (by omega)]
  · rw [if_neg hi] at h
    rw [if_neg hi, if_neg hi]
    obtain ⟨⟨a1, a2⟩, p1, p2⟩ := h
    dsimp only at a1 a2 p1 p2
    obtain ⟨p, rfl⟩ := Int.eq_ofNat_of_zero_le a1
    obtain ⟨n, rfl⟩ := Int.eq_ofNat_of_zero_le p1
    obtain ⟨f1, f2, f3, f4⟩ := pn_facts p (by omega)
    have d47 := dq_not (c := 47) (by decide) n
    have d32 := dq_not (c := 32) (by decide) n
    simp only [Int.toNat_natCast]
    refine ⟨?_, ?_⟩
    · unfold sHam
      rw [spA_pair (c := 47) (fun y hy (e : y = 47) => f4 (by rw [← e]; exact hy)) d47]
      simp only [snum_dec (show n < 1000000000 by omega), f1]
      rw [if_pos (by omega)]
    · intro z hz
      simp only [List.mem_append, List.mem_cons] at hz
      rcases hz with hz | rfl | hz
      · exact fun e => f3 (e ▸ hz)
      · decide
      · exact d32 z hz
theorem sHam_nil : sHam [] = none := by
  unfold sHam
  rw [spA_no 47 [] (by simp)]
theorem sStp_nil : sStp [] = none := rfl
theorem sFr_nil (i : Nat) : sFr i [] = none := by
  unfold sFr
  split
  · exact sStp_nil
  · exact sHam_nil
theorem iStp_nil : iStp [] = none := rfl
theorem sHam_cut {x : List UInt8} (h : (spA 47 x).length ≠ 2) : sHam x = none := by
  unfold sHam
  split
  · rename_i a b e
    rw [e] at h
    exact absurd rfl h
  · rfl
theorem iHam_cut {x : List UInt8} (h : cutQ 47 x = none) : iHam x = none := by unfold iHam; rw [h]
theorem iHam_np {x a b : List UInt8} (h : cutQ 47 x = some (a, b)) (h1 : pnF a = none) : iHam x = none := by
  unfold iHam
  rw [h]
  simp only [h1]
theorem iHam_nb {x a b : List UInt8} (h : cutQ 47 x = some (a, b)) (h1 : ∀ v, Lib.parseIntB 8 b ≠ .ok v) : iHam x = none := by
  unfold iHam
  rw [h]
  simp only
  split
  · rename_i p v _ e
    exact absurd e (h1 v)
  · rfl
theorem iHam_yes {x a b : List UInt8} {p : Nat} {v : Int} (h : cutQ 47 x = some (a, b)) (h1 : pnF a = some p) (h2 : Lib.parseIntB 8 b = .ok v) : iHam x = some ((p : Int), v) := by
  unfold iHam
  rw [h]
  simp only [h1, h2]
theorem iStp_yes {x : List UInt8} {v : Int} (h : Lib.parseIntB 16 x = .ok v) : iStp x = some (v, 0) := by unfold iStp; rw [h]
theorem iStp_no {x : List UInt8} (h : ∀ v, Lib.parseIntB 16 x ≠ .ok v) : iStp x = none := by
  unfold iStp
  split
  · rename_i v e
    exact absurd e (h v)
  · rfl
end Go.Proofs.YtmjpecneaenlpaaDoor
