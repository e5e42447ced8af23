import Derived.Test.YtcepjiglhlmgdaaDoorGbd
import Derived.Deep.RegionHeld3
namespace Go.Proofs.YtcepjiglhlmgdaaDoor
open Go.RowKit Go.Shelf
attribute [local go_sem] Oper.semAt_some

/-- the places of the first k steps at which P says so, by step, then by track -/
def gK (P : Nat → Nat → Bool) (n k : Nat) : List (Nat × Nat) := (List.range k).flatMap fun j => ((List.range n).filter fun t => P j t).map fun t => (j, t)
def gI (P : Nat → Nat → Bool) (n k i : Nat) : List (Nat × Nat) := gK P n k ++ ((List.range i).filter fun t => P k t).map fun t => (k, t)
theorem gI_zero (P : Nat → Nat → Bool) (n k : Nat) : gI P n k 0 = gK P n k := by simp [gI]
theorem gI_full (P : Nat → Nat → Bool) (n k : Nat) : gI P n k n = gK P n (k + 1) := by simp [gI, gK, List.range_succ, List.flatMap_append]
theorem gI_yes {P : Nat → Nat → Bool} {n k i : Nat} (h : P k i = true) : gI P n k (i + 1) = gI P n k i ++ [(k, i)] := by
  simp [gI, List.range_succ, List.filter_append, h]
theorem gI_no {P : Nat → Nat → Bool} {n k i : Nat} (h : P k i = false) : gI P n k (i + 1) = gI P n k i := by
  simp [gI, List.range_succ, List.filter_append, h]
theorem gK_len (P : Nat → Nat → Bool) (n : Nat) : ∀ k, (gK P n k).length ≤ k * n
  | 0 => by simp [gK]
  | k + 1 => by
    have h1 := gK_len P n k
    have h2 := List.length_filter_le (fun t => P k t) (List.range n)
    rw [← gI_full, gI, List.length_append, List.length_map]
    rw [List.length_range] at h2
    rw [Nat.succ_mul]
    omega
theorem gI_len (P : Nat → Nat → Bool) (n k i : Nat) : (gI P n k i).length ≤ k * n + i := by
  have h1 := gK_len P n k
  have h2 := List.length_filter_le (fun t => P k t) (List.range i)
  rw [List.length_range] at h2
  rw [gI, List.length_append, List.length_map]
  omega
theorem g_all {P : Nat → Nat → Bool} {S n : Nat} {e : Nat → Int} (he : DWF e) (hP : ∀ k t, P k t = pinB e k t) (hin : ∀ k t, k < 96 → pinB e k t = true → k < S ∧ t < n) (hS : S ≤ 96) (hl : n ≤ 32) : gK P n S = pinsL e := by
  have hrow : ∀ k, k < 96 → bitsL (e k).toNat = (List.range n).filter fun t => P k t := by
    intro k hk
    unfold bitsL
    have e1 : (fun t => (e k).toNat.testBit t) = fun t => P k t := by
      funext t
      rw [hP, pin_bit (he k hk).1]
    rw [e1]
    refine filter_range_le hl _ fun t h1 h2 => ?_
    rw [hP]
    cases hp : pinB e k t
    · rfl
    · have := (hin k t hk hp).2
      omega
  have hz : ∀ k, S ≤ k → k < 96 → ((List.range n).filter fun t => P k t) = [] := by
    intro k h1 h2
    rw [List.filter_eq_nil_iff]
    intro t ht
    rw [hP]
    intro hp
    have := (hin k t h2 hp).1
    omega
  have hT : ∀ m, m ≤ 96 → pinsT e m = gK P n m := by
    intro m
    induction m with
    | zero => intro _; rfl
    | succ m ih =>
      intro h
      rw [pinsT_succ, ← gI_full, gI, ← ih (by omega), ← hrow m (by omega)]
  have hE : ∀ q, S + q ≤ 96 → gK P n (S + q) = gK P n S := by
    intro q
    induction q with
    | zero => intro _; rfl
    | succ q ih =>
      intro h
      rw [← Nat.add_assoc, ← gI_full, gI, hz (S + q) (by omega) (by omega), ih (by omega)]
      simp
  have := hE (96 - S) (by omega)
  rw [show S + (96 - S) = 96 by omega] at this
  rw [← this]
  exact (hT 96 (Nat.le_refl _)).symm
theorem andnot_test (a b t : Nat) (ha : a < 4294967296) (hb : b < 4294967296) : (bits .andNot .u32 (a : Int) (b : Int)).toNat.testBit t = (a.testBit t && !b.testBit t) := by
  have hx : a &&& (2 ^ 32 - (b + 1)) < 2 ^ 32 := Nat.and_lt_two_pow _ (by omega)
  have e : bits .andNot .u32 (a : Int) (b : Int) = ((a &&& (2 ^ 32 - (b + 1)) : Nat) : Int) := by
    show IntKind.u32.wrap ((BitVec.ofInt 32 (a : Int) &&& ~~~ BitVec.ofInt 32 (b : Int)).toNat : Int) = _
    rw [BitVec.toNat_and, BitVec.toNat_not, of32 a ha, of32 b hb, wrap32]
    rw [show 2 ^ 32 - 1 - b = 2 ^ 32 - (b + 1) by omega]
    omega
  rw [e, Int.toNat_natCast, Nat.testBit_and, Nat.testBit_two_pow_sub_succ (by omega)]
  rcases Nat.lt_or_ge t 32 with h | h
  · simp [h]
  · have : a.testBit t = false := Nat.testBit_lt_two_pow (Nat.lt_of_lt_of_le (show a < 2 ^ 32 by omega) (Nat.pow_le_pow_right (by omega) h))
    simp [this]
/-- a pin of a, none of b -/
def onlB (a b : Nat → Int) (k t : Nat) : Bool := pinB a k t && !pinB b k t
theorem mvD_pin {a b : Nat → Int} (ha : DWF a) (hb : DWF b) {k : Nat} (hk : k < 96) (t : Nat) : pinB (mvD a b) k t = onlB a b k t := by
  rw [onlB, pin_bit (mv_wf a b k hk).1, pin_bit (ha k hk).1, pin_bit (hb k hk).1]
  obtain ⟨x, hx⟩ := Int.eq_ofNat_of_zero_le (ha k hk).1
  obtain ⟨y, hy⟩ := Int.eq_ofNat_of_zero_le (hb k hk).1
  have h1 := (ha k hk).2
  have h2 := (hb k hk).2
  unfold mvD
  rw [hx, hy, andnot_test x y t (by omega) (by omega), Int.toNat_natCast, Int.toNat_natCast]
def onlP (a b : Nat → Int) (k t : Nat) : Bool := pinB (mvD a b) k t
theorem onl_all {S n : Nat} {a b : Nat → Int} (ha : DWF a) (hb : DWF b) (hdr : drB (S : Int) n a = true) (hS : S ≤ 96) (hl : n ≤ 24) : gK (onlP a b) n S = pinsL (mvD a b) := by
  refine g_all (mv_wf a b) (fun _ _ => rfl) ?_ hS (by omega)
  intro k t hk hp
  rw [mvD_pin ha hb hk, onlB, Bool.and_eq_true] at hp
  have := pin_in hdr ha hk hp.1
  exact ⟨by omega, this.2⟩

end Go.Proofs.YtcepjiglhlmgdaaDoor

namespace Go.Proofs.YtcepjiglhlmgdaaDoor
open Go.RowKit

/-- the marks from o on -/
def mkO (o n : Nat) : List Int := (List.range n).map fun (i : Nat) => (o : Int) + (i : Int)
def mkOT (o : Nat) (zs : List Int) (k : Nat) : List Int := mkO o k ++ zs.drop k
theorem mkO_length (o n : Nat) : (mkO o n).length = n := by simp [mkO]
theorem mkO_at (o n k : Nat) (h : k < n) : zAt (mkO o n) k = (o : Int) + (k : Int) := by simp [zAt, mkO, h]
theorem mkOT_zero (o : Nat) (zs : List Int) : mkOT o zs 0 = zs := by simp [mkOT, mkO]
theorem mkOT_all (o : Nat) (zs : List Int) : mkOT o zs zs.length = mkO o zs.length := by simp [mkOT]
theorem mkOT_length (o : Nat) (zs : List Int) (k : Nat) (h : k ≤ zs.length) : (mkOT o zs k).length = zs.length := by
  simp [mkOT, mkO_length]; omega
theorem mkOT_set (o : Nat) (zs : List Int) (k : Nat) (h : k < zs.length) : (mkOT o zs k).set k ((o : Int) + (k : Int)) = mkOT o zs (k + 1) := by
  unfold mkOT mkO
  rw [List.set_append_right _ _ (by simp), List.range_succ, List.map_append, List.length_map, List.length_range, Nat.sub_self, List.drop_eq_getElem_cons h, List.set_cons_zero, List.append_assoc]
  rfl

end Go.Proofs.YtcepjiglhlmgdaaDoor

namespace Go.Proofs.YtcepjiglhlmgdaaDoor
open Go.RowKit

def mbL (s : Int) (l : List (Int × Int)) (a b p q : Nat → Int) : List (Nat × Nat) := if ask2B s l a b then pinsL (mvD p q) else []
theorem mbL_len (s : Int) (l : List (Int × Int)) (a b p q : Nat → Int) : (mbL s l a b p q).length ≤ 4000 := by
  unfold mbL
  split
  · exact pinsL_len _
  · simp
end Go.Proofs.YtcepjiglhlmgdaaDoor
