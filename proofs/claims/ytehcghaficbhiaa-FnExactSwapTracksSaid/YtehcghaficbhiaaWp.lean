import Derived.Test.YtehcghaficbhiaaPtm
import Derived.StillTailTactics
namespace Go.Proofs.Ytehcghaficbhiaa
open Go.RowKit

/-- the drum with one pin turned -/
def togD (d : Nat → Int) (k t : Nat) (i : Nat) : Int := if i = k then bits .xor .u32 (d k) (2 ^ t % 4294967296) else d i

theorem pow_nat (t : Nat) (ht : t < 32) : (2 : Int) ^ t % 4294967296 = ((2 ^ t : Nat) : Int) := by
  have hp : (2 : Nat) ^ t < 2 ^ 32 := Nat.pow_lt_pow_right (by decide) ht
  have h2 : ((2 : Int) ^ t) = ((2 ^ t : Nat) : Int) := by push_cast; rfl
  rw [h2]
  generalize (2 ^ t : Nat) = n at hp ⊢
  omega
theorem ofInt_nat (x : Int) (h : 0 ≤ x) : BitVec.ofInt 32 x = BitVec.ofNat 32 x.toNat := by
  obtain ⟨n, rfl⟩ := Int.eq_ofNat_of_zero_le h
  simp
theorem or_xor {d : Nat → Int} {k t : Nat} (h0 : 0 ≤ d k) (ht : t < 32) (h : pinB d k t = false) : bits .or .u32 (d k) (2 ^ t % 4294967296) = bits .xor .u32 (d k) (2 ^ t % 4294967296) := by
  rw [pow_nat t ht]
  have e : BitVec.ofInt 32 (d k) ||| BitVec.ofInt 32 ((2 ^ t : Nat) : Int) = BitVec.ofInt 32 (d k) ^^^ BitVec.ofInt 32 ((2 ^ t : Nat) : Int) := by
    rw [ofInt_nat _ h0, ofInt_nat _ (Int.natCast_nonneg _)]
    apply BitVec.eq_of_getLsbD_eq
    intro i hi
    simp only [BitVec.getLsbD_or, BitVec.getLsbD_xor, BitVec.getLsbD_ofNat, Int.toNat_natCast, Nat.testBit_two_pow]
    by_cases e : t = i
    · subst e
      have hb : (d k).toNat.testBit t = false := by
        rw [Nat.testBit_eq_decide_div_mod_eq]
        simp only [pinB, decide_eq_false_iff_not] at h
        rw [decide_eq_false_iff_not]
        intro h2
        apply h
        obtain ⟨n, hn⟩ := Int.eq_ofNat_of_zero_le h0
        rw [hn] at h2 ⊢
        simp only [Int.toNat_natCast] at h2
        exact_mod_cast h2
      simp [hb]
    · simp [e]
  show IntKind.u32.wrap ((BitVec.ofInt 32 (d k) ||| BitVec.ofInt 32 ((2 ^ t : Nat) : Int)).toNat : Int) = IntKind.u32.wrap ((BitVec.ofInt 32 (d k) ^^^ BitVec.ofInt 32 ((2 ^ t : Nat) : Int)).toNat : Int)
  rw [e]
theorem not_xor {d : Nat → Int} {k t : Nat} (h0 : 0 ≤ d k) (ht : t < 32) (h : pinB d k t = true) : bits .andNot .u32 (d k) (2 ^ t % 4294967296) = bits .xor .u32 (d k) (2 ^ t % 4294967296) := by
  rw [pow_nat t ht]
  have e : BitVec.ofInt 32 (d k) &&& ~~~ BitVec.ofInt 32 ((2 ^ t : Nat) : Int) = BitVec.ofInt 32 (d k) ^^^ BitVec.ofInt 32 ((2 ^ t : Nat) : Int) := by
    rw [ofInt_nat _ h0, ofInt_nat _ (Int.natCast_nonneg _)]
    apply BitVec.eq_of_getLsbD_eq
    intro i hi
    simp only [BitVec.getLsbD_and, BitVec.getLsbD_not, BitVec.getLsbD_xor, BitVec.getLsbD_ofNat, Int.toNat_natCast, Nat.testBit_two_pow]
    by_cases e : t = i
    · subst e
      have hb : (d k).toNat.testBit t = true := by
        rw [Nat.testBit_eq_decide_div_mod_eq]
        simp only [pinB, decide_eq_true_eq] at h
        rw [decide_eq_true_eq]
        obtain ⟨n, hn⟩ := Int.eq_ofNat_of_zero_le h0
        rw [hn] at h ⊢
        simp only [Int.toNat_natCast]
        exact_mod_cast h
      simp [hb]
    · simp [e, hi]
  show IntKind.u32.wrap ((BitVec.ofInt 32 (d k) &&& ~~~ BitVec.ofInt 32 ((2 ^ t : Nat) : Int)).toNat : Int) = IntKind.u32.wrap ((BitVec.ofInt 32 (d k) ^^^ BitVec.ofInt 32 ((2 ^ t : Nat) : Int)).toNat : Int)
  rw [e]
end Go.Proofs.Ytehcghaficbhiaa
