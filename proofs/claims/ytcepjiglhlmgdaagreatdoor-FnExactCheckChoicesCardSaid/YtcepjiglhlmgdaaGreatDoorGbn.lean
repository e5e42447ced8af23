import Derived.Test.YtcepjiglhlmgdaaGreatDoorGau
import Derived.Test.YtcepjiglhlmgdaaGreatDoorGag
import Derived.Test.YtcepjiglhlmgdaaGreatDoorFree
import Derived.Test.YtcepjiglhlmgdaaGreatDoorGan
namespace Go.Proofs.YtcepjiglhlmgdaaGreatDoor
open Go.RowKit

theorem wrap32 (n : Int) : IntKind.u32.wrap n = n % 4294967296 := by simp [IntKind.wrap, IntKind.signed, IntKind.bits]
theorem of32 (a : Nat) (ha : a < 4294967296) : (BitVec.ofInt 32 (a : Int)).toNat = a := by
  rw [BitVec.ofInt_natCast, BitVec.toNat_ofNat]; exact Nat.mod_eq_of_lt (by omega)
theorem and_nat (a b : Nat) (ha : a < 4294967296) (hb : b < 4294967296) : bits .and .u32 (a : Int) (b : Int) = ((a &&& b : Nat) : Int) := by
  have hx : a &&& b < 2 ^ 32 := Nat.and_lt_two_pow _ (by omega)
  show IntKind.u32.wrap ((BitVec.ofInt 32 (a : Int) &&& BitVec.ofInt 32 (b : Int)).toNat : Int) = _
  rw [BitVec.toNat_and, of32 a ha, of32 b hb, wrap32]
  omega
theorem or_nat (a b : Nat) (ha : a < 4294967296) (hb : b < 4294967296) : bits .or .u32 (a : Int) (b : Int) = ((a ||| b : Nat) : Int) := by
  have hx : a ||| b < 2 ^ 32 := Nat.or_lt_two_pow (by omega) (by omega)
  show IntKind.u32.wrap ((BitVec.ofInt 32 (a : Int) ||| BitVec.ofInt 32 (b : Int)).toNat : Int) = _
  rw [BitVec.toNat_or, of32 a ha, of32 b hb, wrap32]
  omega
theorem xor_nat (a b : Nat) (ha : a < 4294967296) (hb : b < 4294967296) : bits .xor .u32 (a : Int) (b : Int) = ((a ^^^ b : Nat) : Int) := by
  have hx : a ^^^ b < 2 ^ 32 := Nat.xor_lt_two_pow (by omega) (by omega)
  show IntKind.u32.wrap ((BitVec.ofInt 32 (a : Int) ^^^ BitVec.ofInt 32 (b : Int)).toNat : Int) = _
  rw [BitVec.toNat_xor, of32 a ha, of32 b hb, wrap32]
  omega
theorem pin_bit {d : Nat → Int} {k t : Nat} (h0 : 0 ≤ d k) : pinB d k t = (d k).toNat.testBit t := by
  obtain ⟨n, hn⟩ := Int.eq_ofNat_of_zero_le h0
  rw [Nat.testBit_eq_decide_div_mod_eq, pinB, hn, Int.toNat_natCast]
  apply decide_eq_decide.2
  constructor
  · intro h; exact_mod_cast h
  · intro h; exact_mod_cast h
/-- the bits of all rows ahead of k -/
def orT (d : Nat → Int) : Nat → Nat
  | 0 => 0
  | k + 1 => orT d k ||| (d k).toNat
theorem orT_lt (d : Nat → Int) (hd : DWF d) : ∀ k, k ≤ 96 → orT d k < 4294967296
  | 0, _ => by simp [orT]
  | k + 1, h => by
    have h1 := orT_lt d hd k (by omega)
    have h2 := hd k (by omega)
    have := Nat.or_lt_two_pow (n := 32) (x := orT d k) (y := (d k).toNat) (by omega) (by omega)
    simp only [orT]
    omega
/-- a track has a pin ahead of the step k -/
def useT (d : Nat → Int) (t k : Nat) : Bool := (List.range k).any fun j => pinB d j t
theorem useT_zero (d : Nat → Int) (t : Nat) : useT d t 0 = false := rfl
theorem useT_succ (d : Nat → Int) (t k : Nat) : useT d t (k + 1) = (useT d t k || pinB d k t) := by
  simp [useT, List.range_succ, List.any_append]
theorem useT_hit {d : Nat → Int} {t k : Nat} (hk : k < 96) (h : pinB d k t = true) : useT d t 96 = true := by
  simp only [useT, List.any_eq_true, List.mem_range]
  exact ⟨k, hk, h⟩
theorem orT_bit (d : Nat → Int) (hd : DWF d) (t : Nat) : ∀ k, k ≤ 96 → (orT d k).testBit t = useT d t k
  | 0, _ => by simp [orT, useT]
  | k + 1, h => by
    have h2 := hd k (by omega)
    rw [useT_succ, pin_bit h2.1, ← orT_bit d hd t k (by omega), orT, Nat.testBit_or]
theorem shr_and (x t : Nat) (hx : x < 4294967296) : (bits .and .u32 ((x : Int) / 2 ^ t) 1 == 0) = !x.testBit t := by
  have hb := shr_bounds (x : Int) t (by omega) (by omega)
  rw [and_one32 _ hb.1 hb.2, Nat.testBit_eq_decide_div_mod_eq]
  have e : ((x : Int) / 2 ^ t) = ((x / 2 ^ t : Nat) : Int) := by push_cast; rfl
  rw [e]
  generalize x / 2 ^ t = y
  rcases Nat.mod_two_eq_zero_or_one y with h | h
  · have : (y : Int) % 2 = 0 := by omega
    simp [this, h]
  · have : (y : Int) % 2 = 1 := by omega
    simp [this, h]
theorem and_two (n t : Nat) : n &&& 2 ^ t = if n.testBit t = true then 2 ^ t else 0 := by
  apply Nat.eq_of_testBit_eq
  intro i
  rw [Nat.testBit_and, Nat.testBit_two_pow]
  by_cases e : t = i
  · subst e
    cases h : n.testBit t <;> simp
  · have : decide (t = i) = false := decide_eq_false e
    rw [this, Bool.and_false]
    split
    · rw [Nat.testBit_two_pow, this]
    · simp
theorem and_pow_ne {d : Nat → Int} {k t : Nat} (h0 : 0 ≤ d k) (h1 : d k ≤ 4294967295) (ht : t < 32) : (bits .and .u32 (d k) ((2 : Int) ^ t) != 0) = pinB d k t := by
  rw [show ((2 : Int) ^ t) = ((2 ^ t : Nat) : Int) by push_cast; rfl]
  obtain ⟨n, hn⟩ := Int.eq_ofNat_of_zero_le h0
  have hp : (2 : Nat) ^ t < 2 ^ 32 := Nat.pow_lt_pow_right (by decide) ht
  rw [pin_bit h0, hn, and_nat n (2 ^ t) (by omega) (by omega), Int.toNat_natCast, and_two]
  have hq : 0 < 2 ^ t := Nat.two_pow_pos t
  cases h : n.testBit t
  · simp
  · rw [if_pos rfl]
    simp only [bne_iff_ne, ne_eq]
    omega
def spL (s : Int) (l : List (Int × Int)) (d : Nat → Int) : List Nat := if askB s l d then (List.range l.length).filter fun t => !useT d t 96 else []
def spT (d : Nat → Int) (k : Nat) : List Nat := (List.range k).filter fun t => !useT d t 96
theorem spT_yes {d : Nat → Int} {k : Nat} (h : useT d k 96 = false) : spT d (k + 1) = spT d k ++ [k] := by simp [spT, List.range_succ, List.filter_append, h]
theorem spT_no {d : Nat → Int} {k : Nat} (h : useT d k 96 = true) : spT d (k + 1) = spT d k := by simp [spT, List.range_succ, List.filter_append, h]
theorem spT_len (d : Nat → Int) (k : Nat) : (spT d k).length ≤ k := by simpa [spT] using List.length_filter_le (fun t => !useT d t 96) (List.range k)
theorem spL_len (s : Int) (l : List (Int × Int)) (d : Nat → Int) (hn : l.length ≤ 1048576) : (spL s l d).length ≤ 1048576 := by
  unfold spL
  split
  · exact Nat.le_trans (spT_len d _) hn
  · simp
end Go.Proofs.YtcepjiglhlmgdaaGreatDoor
namespace Go.Proofs.YtcepjiglhlmgdaaGreatDoor
open Go.RowKit
/-- a slice of numbers of the call's own, and a code -/
def OwnZ (w : World) (zs : List Int) (cc : Int) (e : Ending) (w' : World) : Prop := ∃ (A : Option Addr) (c : Nat), e = .returned (.tuple #[.slice A zs.length c, .int .i64 cc]) ∧ w'.ownsRow w.heap.size 2 1 (.slice A zs.length c) zs.length (icells zs) ∧ Below w.heap.size w w'
end Go.Proofs.YtcepjiglhlmgdaaGreatDoor
namespace Go.Proofs.YtcepjiglhlmgdaaGreatDoor
open Go.RowKit

/-- the free places of a track, ahead of k -/
def frl (S : Nat) (d : Nat → Int) (r t : Nat) (k : Nat) : List Nat := (List.range k).filter fun i => freeB S d r i t
theorem frl_len (S : Nat) (d : Nat → Int) (r t k : Nat) : (frl S d r t k).length ≤ k := by simpa [frl] using List.length_filter_le (fun i => freeB S d r i t) (List.range k)
theorem frl_yes {S : Nat} {d : Nat → Int} {r t k : Nat} (h : freeB S d r k t = true) : frl S d r t (k + 1) = frl S d r t k ++ [k] := by simp [frl, List.range_succ, List.filter_append, h]
theorem frl_no {S : Nat} {d : Nat → Int} {r t k : Nat} (h : freeB S d r k t = false) : frl S d r t (k + 1) = frl S d r t k := by simp [frl, List.range_succ, List.filter_append, h]
/-- a slice of the call's own and a code come back -/
def OwnP (w : World) (xs : List Nat) (cc : Int) (e : Ending) (w' : World) : Prop := ∃ (A : Option Addr) (c : Nat), e = .returned (.tuple #[.slice A xs.length c, .int .i64 cc]) ∧ w'.ownsRow w.heap.size 2 1 (.slice A xs.length c) xs.length (tcells xs) ∧ Below w.heap.size w w'
def fpC (s : Int) (l : List (Int × Int)) (d : Nat → Int) (x : Int) : Int := cod3 (askB s l d) (inB x 0 ((l.length : Int) - 1))
def fpL (s : Int) (l : List (Int × Int)) (d : Nat → Int) (x : Int) : List Nat := if fpC s l d x = 0 then frl s.toNat d (hRe l x.toNat).toNat x.toNat s.toNat else []
theorem own_empty {w : World} {base : Nat} (h : base ≤ w.heap.size) : (w.alloc (.cells #[] 2)).ownsRow base 2 1 (.slice (some ⟨w.heap.size, 0, none⟩) 0 0) 0 [] :=
  ⟨rfl, Or.inr ⟨w.heap.size, 0, #[], rfl, h, heap_alloc_new _ _, Nat.le_refl _, Nat.zero_le _, rfl, rfl⟩⟩
theorem pl_step {s x : Int} {l : List (Int × Int)} {d : Nat → Int} (h : askB s l d = true) : plB s l.length 0 x = inB x 0 ((l.length : Int) - 1) := by
  have hl := (ask_all h).1
  have h2 : inB 0 0 (s - 1) = true := by simp [inB]; omega
  rw [plB, h2, Bool.true_and]

end Go.Proofs.YtcepjiglhlmgdaaGreatDoor
namespace Go.Proofs.YtcepjiglhlmgdaaGreatDoor
open Go.RowKit
theorem OwnP.z {w w' : World} {xs : List Nat} {cc : Int} {e : Ending} (h : OwnP w xs cc e w') : OwnZ w (xs.map fun (x : Nat) => (x : Int)) cc e w' := by
  obtain ⟨A, c, h1, h2, h3⟩ := h
  exact ⟨A, c, by rw [List.length_map]; exact h1, by rw [List.length_map, ← tcells_icells]; exact h2, h3⟩
theorem fpL_len (s : Int) (l : List (Int × Int)) (d : Nat → Int) (x : Int) (hs : -32768 ≤ s ∧ s ≤ 32767) : (fpL s l d x).length ≤ 1048576 := by
  unfold fpL
  split
  · have := frl_len s.toNat d (hRe l x.toNat).toNat x.toNat s.toNat; omega
  · simp
end Go.Proofs.YtcepjiglhlmgdaaGreatDoor
