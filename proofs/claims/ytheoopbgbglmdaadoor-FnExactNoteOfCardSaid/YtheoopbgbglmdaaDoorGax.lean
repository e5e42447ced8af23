import Derived.Test.YtheoopbgbglmdaaDoorGaw
import Derived.Test.YtheoopbgbglmdaaDoorGam
namespace Go.Proofs.YtheoopbgbglmdaaDoor
open Go.RowKit

theorem wrap32 (n : Int) : IntKind.u32.wrap n = n % 4294967296 := by simp [IntKind.wrap, IntKind.signed, IntKind.bits]
theorem of32 (a : Nat) (ha : a < 4294967296) : (BitVec.ofInt 32 (a : Int)).toNat = a := by
  rw [BitVec.ofInt_natCast, BitVec.toNat_ofNat]; exact Nat.mod_eq_of_lt (by omega)
theorem and_nat (a b : Nat) (ha : a < 4294967296) (hb : b < 4294967296) : bits .and .u32 (a : Int) (b : Int) = ((a &&& b : Nat) : Int) := by
  have hx : a &&& b < 2 ^ 32 := Nat.and_lt_two_pow _ (by omega)
  show IntKind.u32.wrap ((BitVec.ofInt 32 (a : Int) &&& BitVec.ofInt 32 (b : Int)).toNat : Int) = _
  rw [BitVec.toNat_and, of32 a ha, of32 b hb, wrap32]
  omega
theorem or_nat (a b : Nat) (ha : a < 4294967296) (hb : b < 4294967296) : bits .or .u32 (a : Int) (b : Int) = ((a ||| b : Nat) : Int) := by
  have hx : a ||| b < 2 ^ 32 := Nat.or_lt_two_pow (by omega) (by omega)
  show IntKind.u32.wrap ((BitVec.ofInt 32 (a : Int) ||| BitVec.ofInt 32 (b : Int)).toNat : Int) = _
  rw [BitVec.toNat_or, of32 a ha, of32 b hb, wrap32]
  omega
theorem xor_nat (a b : Nat) (ha : a < 4294967296) (hb : b < 4294967296) : bits .xor .u32 (a : Int) (b : Int) = ((a ^^^ b : Nat) : Int) := by
  have hx : a ^^^ b < 2 ^ 32 := Nat.xor_lt_two_pow (by omega) (by omega)
  show IntKind.u32.wrap ((BitVec.ofInt 32 (a : Int) ^^^ BitVec.ofInt 32 (b : Int)).toNat : Int) = _
  rw [BitVec.toNat_xor, of32 a ha, of32 b hb, wrap32]
  omega
theorem pin_bit {d : Nat → Int} {k t : Nat} (h0 : 0 ≤ d k) : pinB d k t = (d k).toNat.testBit t := by
  obtain ⟨n, hn⟩ := Int.eq_ofNat_of_zero_le h0
  rw [Nat.testBit_eq_decide_div_mod_eq, pinB, hn, Int.toNat_natCast]
  apply decide_eq_decide.2
  constructor
  · intro h; exact_mod_cast h
  · intro h; exact_mod_cast h
/-- the bits of all rows ahead of k -/
def orT (d : Nat → Int) : Nat → Nat
  | 0 => 0
  | k + 1 => orT d k ||| (d k).toNat
theorem orT_lt (d : Nat → Int) (hd : DWF d) : ∀ k, k ≤ 96 → orT d k < 4294967296
  | 0, _ => by simp [orT]
  | k + 1, h => by
    have h1 := orT_lt d hd k (by omega)
    have h2 := hd k (by omega)
    have := Nat.or_lt_two_pow (n := 32) (x := orT d k) (y := (d k).toNat) (by omega) (by omega)
    simp only [orT]
    omega
/-- a track has a pin ahead of the step k -/
def useT (d : Nat → Int) (t k : Nat) : Bool := (List.range k).any fun j => pinB d j t
theorem useT_zero (d : Nat → Int) (t : Nat) : useT d t 0 = false := rfl
theorem useT_succ (d : Nat → Int) (t k : Nat) : useT d t (k + 1) = (useT d t k || pinB d k t) := by
  simp [useT, List.range_succ, List.any_append]
theorem useT_hit {d : Nat → Int} {t k : Nat} (hk : k < 96) (h : pinB d k t = true) : useT d t 96 = true := by
  simp only [useT, List.any_eq_true, List.mem_range]
  exact ⟨k, hk, h⟩
theorem orT_bit (d : Nat → Int) (hd : DWF d) (t : Nat) : ∀ k, k ≤ 96 → (orT d k).testBit t = useT d t k
  | 0, _ => by simp [orT, useT]
  | k + 1, h => by
    have h2 := hd k (by omega)
    rw [useT_succ, pin_bit h2.1, ← orT_bit d hd t k (by omega), orT, Nat.testBit_or]
theorem shr_and (x t : Nat) (hx : x < 4294967296) : (bits .and .u32 ((x : Int) / 2 ^ t) 1 == 0) = !x.testBit t := by
  have hb := shr_bounds (x : Int) t (by omega) (by omega)
  rw [and_one32 _ hb.1 hb.2, Nat.testBit_eq_decide_div_mod_eq]
  have e : ((x : Int) / 2 ^ t) = ((x / 2 ^ t : Nat) : Int) := by push_cast; rfl
  rw [e]
  generalize x / 2 ^ t = y
  rcases Nat.mod_two_eq_zero_or_one y with h | h
  · have : (y : Int) % 2 = 0 := by omega
    simp [this, h]
  · have : (y : Int) % 2 = 1 := by omega
    simp [this, h]
theorem and_two (n t : Nat) : n &&& 2 ^ t = if n.testBit t = true then 2 ^ t else 0 := by
  apply Nat.eq_of_testBit_eq
  intro i
  rw [Nat.testBit_and, Nat.testBit_two_pow]
  by_cases e : t = i
  · subst e
    cases h : n.testBit t <;> simp
  · have : decide (t = i) = false := decide_eq_false e
    rw [this, Bool.and_false]
    split
    · rw [Nat.testBit_two_pow, this]
    · simp
theorem and_pow_ne {d : Nat → Int} {k t : Nat} (h0 : 0 ≤ d k) (h1 : d k ≤ 4294967295) (ht : t < 32) : (bits .and .u32 (d k) ((2 : Int) ^ t) != 0) = pinB d k t := by
  rw [show ((2 : Int) ^ t) = ((2 ^ t : Nat) : Int) by push_cast; rfl]
  obtain ⟨n, hn⟩ := Int.eq_ofNat_of_zero_le h0
  have hp : (2 : Nat) ^ t < 2 ^ 32 := Nat.pow_lt_pow_right (by decide) ht
  rw [pin_bit h0, hn, and_nat n (2 ^ t) (by omega) (by omega), Int.toNat_natCast, and_two]
  have hq : 0 < 2 ^ t := Nat.two_pow_pos t
  cases h : n.testBit t
  · simp
  · rw [if_pos rfl]
    simp only [bne_iff_ne, ne_eq]
    omega
def spL (s : Int) (l : List (Int × Int)) (d : Nat → Int) : List Nat := if askB s l d then (List.range l.length).filter fun t => !useT d t 96 else []
def spT (d : Nat → Int) (k : Nat) : List Nat := (List.range k).filter fun t => !useT d t 96
theorem spT_yes {d : Nat → Int} {k : Nat} (h : useT d k 96 = false) : spT d (k + 1) = spT d k ++ [k] := by simp [spT, List.range_succ, List.filter_append, h]
theorem spT_no {d : Nat → Int} {k : Nat} (h : useT d k 96 = true) : spT d (k + 1) = spT d k := by simp [spT, List.range_succ, List.filter_append, h]
theorem spT_len (d : Nat → Int) (k : Nat) : (spT d k).length ≤ k := by simpa [spT] using List.length_filter_le (fun t => !useT d t 96) (List.range k)
theorem spL_len (s : Int) (l : List (Int × Int)) (d : Nat → Int) (hn : l.length ≤ 1048576) : (spL s l d).length ≤ 1048576 := by
  unfold spL
  split
  · exact Nat.le_trans (spT_len d _) hn
  · simp
end Go.Proofs.YtheoopbgbglmdaaDoor
namespace Go.Proofs.YtheoopbgbglmdaaDoor
open Go.RowKit

/-- numbers as cells -/
def icells (zs : List Int) : List Value := zs.map fun z => .int .i64 z
def zAt (zs : List Int) (k : Nat) : Int := zs.getD k 0
theorem icells_length (zs : List Int) : (icells zs).length = zs.length := by simp [icells]
theorem icells_get (zs : List Int) (k : Nat) (h : k < zs.length) : (icells zs)[k]? = some (.int .i64 (zAt zs k)) := by simp [icells, zAt, h]
theorem icells_set (zs : List Int) (k : Nat) (z : Int) : (icells zs).set k (.int .i64 z) = icells (zs.set k z) := by simp [icells, List.map_set]
theorem tcells_icells (xs : List Nat) : tcells xs = icells (xs.map fun (x : Nat) => (x : Int)) := by simp [tcells, icells]
/-- a slice's address under which the numbers lie, in blocks below B -/
def SI (w : World) (B : Nat) (A : Option Addr) (zs : List Int) : Prop := ∀ k, k < zs.length → ∃ b, A = some ⟨b, 0, none⟩ ∧ b < B ∧ w.cell? ⟨b, k, none⟩ = some (.int .i64 (zAt zs k))
theorem SI.below {w w' : World} {B : Nat} {A : Option Addr} {zs : List Int} (h : SI w B A zs) (hb : Below B w w') : SI w' B A zs := fun k hk => by
  obtain ⟨b, h1, h2, h3⟩ := h k hk
  exact ⟨b, h1, h2, (hb.cell (p := ⟨b, k, none⟩) h2).trans h3⟩
theorem SI.up {w : World} {B B' : Nat} {A : Option Addr} {zs : List Int} (h : SI w B A zs) (hB : B ≤ B') : SI w B' A zs := fun k hk => by
  obtain ⟨b, h1, h2, h3⟩ := h k hk
  exact ⟨b, h1, by omega, h3⟩
theorem SI.of_own {w : World} {base : Nat} {A : Option Addr} {c : Nat} {zs : List Int} (h : w.ownsRow base 2 1 (.slice A zs.length c) zs.length (icells zs)) : SI w w.heap.size A zs := by
  intro k hk
  rcases h.2 with ⟨h', h0⟩ | ⟨g, cap, cur, h', hb, hg, _⟩
  · omega
  · simp only [Value.slice.injEq, true_and] at h'
    obtain ⟨rfl, rfl⟩ := h'
    refine ⟨g, rfl, (Array.getElem?_eq_some_iff.1 hg).1, ?_⟩
    rw [h.cellAt k (by omega), icells_get zs k hk]

/-- the marks: the first k of them, then what was there -/
def mkTo (zs : List Int) (k : Nat) : List Int := (List.range k).map (fun (j : Nat) => (j : Int) + 1) ++ zs.drop k
theorem mkTo_length (zs : List Int) (k : Nat) (h : k ≤ zs.length) : (mkTo zs k).length = zs.length := by simp [mkTo]; omega
theorem mkTo_zero (zs : List Int) : mkTo zs 0 = zs := by simp [mkTo]
theorem mkTo_set (zs : List Int) (k : Nat) (h : k < zs.length) : (mkTo zs k).set k ((k : Int) + 1) = mkTo zs (k + 1) := by
  unfold mkTo
  rw [List.set_append_right _ _ (by simp), List.range_succ, List.map_append, List.length_map, List.length_range, Nat.sub_self, List.drop_eq_getElem_cons h, List.set_cons_zero, List.append_assoc]
  rfl
def mks (n : Nat) : List Int := (List.range n).map (fun (j : Nat) => (j : Int) + 1)
theorem mkTo_all (zs : List Int) : mkTo zs zs.length = mks zs.length := by simp [mkTo, mks]
theorem mks_length (n : Nat) : (mks n).length = n := by simp [mks]
theorem mks_at (n k : Nat) (h : k < n) : zAt (mks n) k = (k : Int) + 1 := by simp [mks, zAt, h]

end Go.Proofs.YtheoopbgbglmdaaDoor
