import Derived.Lib.TrailingZeros
import Derived.RangeFuncNested
import Derived.RangeFuncBound
import Derived.RangeFuncCalls
import Derived.RangeFuncLeaves
import Derived.Shelf.Abstract
import Derived.OwnWalkIn
import Derived.TacticsInMore
import Derived.LoopNIn
import Derived.LoopIn
import Derived.Test.YtcepjiglhlmgdaaDoorGat
import Derived.Test.YtcepjiglhlmgdaaDoorGaw
namespace Go.Proofs.YtcepjiglhlmgdaaDoor
open Go.RowKit Go.Shelf
attribute [local go_sem] Oper.semAt_some

/-- the table of math/bits.TrailingZeros32 lies as its initialiser lays it -/
def TabW (w : World) : Prop := ∀ j, j < 32 → w.cell? ⟨7, j, none⟩ = some (.int .u8 ((Lib.deBruijn32tab.getD j 0 : Nat) : Int))
theorem TabW.keep {w w' : World} (h : TabW w) (hb : Below w.heap.size w w') : TabW w' := fun j hj =>
  (hb.cell (p := ⟨7, j, none⟩) (World.block_lt_of_cell? w _ (h j hj))).trans (h j hj)
theorem TabW.up {w w0 w' : World} (h : TabW w0) (hb : Below w.heap.size w w') (hs : w0.heap.size ≤ w.heap.size) (h0 : TabW w) : TabW w' := h0.keep hb
theorem TabW.lt {w : World} (h : TabW w) : 7 < w.heap.size := World.block_lt_of_cell? w _ (h 0 (by omega))

theorem tz_key (x a : Nat) (hx : x < 4294967296) (hx0 : x ≠ 0) (hlow : x &&& (4294967296 - x) = a) :
    bits BinOp.and IntKind.u32 (x : Int) (-(x : Int) % 4294967296) * 125613361 % 4294967296 / 134217728 = ((a * 125613361 % 4294967296 / 134217728 : Nat) : Int) := by
  have e1 : -(x : Int) % 4294967296 = ((4294967296 - x : Nat) : Int) := by omega
  rw [e1, and_nat x _ hx (by omega), hlow]
  omega
set_option maxHeartbeats 1000000 in
theorem tz_any (x : Nat) (w : World) (hx : x < 4294967296) (hx0 : x ≠ 0) (hT : TabW w) :
    Calls Tryd.prog 60 #[.int .u32 x] w fun e w' => e = .returned (.int .i64 ((Lib.ctz 32 x : Nat) : Int)) ∧ w = w' := by
  obtain ⟨hlow, hk⟩ := Lib.lowest_bit 32 x hx0 hx
  obtain ⟨hi, htab⟩ := Lib.deBruijn32_at _ hk
  have hcell := hT _ hi
  rw [htab] at hcell
  have key := tz_key x _ hx hx0 hlow
  obtain ⟨idx, hidx⟩ : ∃ idx, 2 ^ Lib.ctz 32 x * 125613361 % 4294967296 / 134217728 = idx := ⟨_, rfl⟩
  obtain ⟨k, hkk⟩ : ∃ k, Lib.ctz 32 x = k := ⟨_, rfl⟩
  rw [hidx] at hcell key hi
  rw [hkk] at hcell hk ⊢
  have hne : ((x : Int) == 0) = false := by simp; omega
  clear hlow htab hidx hkk hT hx0
  go_enter Tryd.func60, Tryd.ntmps60
  go_wp2_with (simp only [key])
  go_ret
  exact ⟨rfl, rfl⟩

/-- the set bits, in their order -/
def bitsL (x : Nat) : List Nat := (List.range 32).filter fun t => x.testBit t
theorem bitsL_zero : bitsL 0 = [] := by simp [bitsL]
theorem bitsL_mem {x t : Nat} (h : t ∈ bitsL x) : t < 32 ∧ x.testBit t = true := by simpa [bitsL] using h
theorem low_split {x : Nat} (hx : x < 4294967296) (hx0 : x ≠ 0) : ∃ k m, Lib.ctz 32 x = k ∧ k < 32 ∧ x = 2 ^ k * (2 * m + 1) ∧ x &&& (x - 1) = 2 ^ k * (2 * m) := by
  obtain ⟨m, hm, hk⟩ := Lib.ctzFrom_spec 32 x (by omega) hx
  have e : Lib.ctz 32 x = Lib.ctzFrom 32 x := by simp [Lib.ctz, hx0]
  refine ⟨Lib.ctzFrom 32 x, m, e, hk, hm, ?_⟩
  generalize Lib.ctzFrom 32 x = k at hm hk
  subst hm
  have hp : 0 < 2 ^ k := Nat.two_pow_pos k
  have e1 : 2 ^ k * (2 * m + 1) = 2 ^ (k + 1) * m + 2 ^ k := by rw [Nat.pow_succ, Nat.mul_add, Nat.mul_one, Nat.mul_assoc]
  have e2 : 2 ^ k * (2 * m + 1) - 1 = 2 ^ (k + 1) * m + (2 ^ k - 1) := by omega
  have e3 : 2 ^ k * (2 * m) = 2 ^ (k + 1) * m := by rw [Nat.pow_succ, Nat.mul_assoc]
  rw [e2, e1, e3]
  have l1 : 2 ^ k < 2 ^ (k + 1) := Nat.pow_lt_pow_right (by omega) (by omega)
  apply Nat.eq_of_testBit_eq
  intro i
  rw [Nat.testBit_and, Nat.testBit_two_pow_mul_add _ l1, Nat.testBit_two_pow_mul_add _ (by omega : 2 ^ k - 1 < 2 ^ (k + 1)), Nat.testBit_two_pow_mul]
  by_cases hi : i < k + 1
  · rw [if_pos hi, if_pos hi, Nat.testBit_two_pow, Nat.testBit_two_pow_sub_one]
    have : ¬ (k + 1 ≤ i) := by omega
    simp [this]
    omega
  · rw [if_neg hi, if_neg hi]
    have : k + 1 ≤ i := by omega
    simp [this]
theorem bit_split (k m i : Nat) : (2 ^ k * (2 * m + 1)).testBit i = if i < k + 1 then decide (k = i) else m.testBit (i - (k + 1)) := by
  have e1 : 2 ^ k * (2 * m + 1) = 2 ^ (k + 1) * m + 2 ^ k := by rw [Nat.pow_succ, Nat.mul_add, Nat.mul_one, Nat.mul_assoc]
  rw [e1, Nat.testBit_two_pow_mul_add _ (Nat.pow_lt_pow_right (by omega) (by omega))]
  split
  · rw [Nat.testBit_two_pow]
  · rfl
theorem bit_rest (k m i : Nat) : (2 ^ k * (2 * m)).testBit i = if i < k + 1 then false else m.testBit (i - (k + 1)) := by
  have e3 : 2 ^ k * (2 * m) = 2 ^ (k + 1) * m := by rw [Nat.pow_succ, Nat.mul_assoc]
  rw [e3, Nat.testBit_two_pow_mul]
  by_cases hi : i < k + 1
  · rw [if_pos hi]
    have : ¬ (k + 1 ≤ i) := by omega
    simp [this]
  · rw [if_neg hi]
    have : k + 1 ≤ i := by omega
    simp [this]
theorem bitsL_low {x : Nat} (hx : x < 4294967296) (hx0 : x ≠ 0) : bitsL x = Lib.ctz 32 x :: bitsL (x &&& (x - 1)) := by
  obtain ⟨k, m, hk, hk32, h1, h2⟩ := low_split hx hx0
  rw [hk, h2, h1]
  unfold bitsL
  have e : List.range 32 = List.range k ++ k :: (List.range' (k + 1) (32 - (k + 1))) := by
    have h1 := @List.range'_append_1 0 k (1 + (32 - (k + 1)))
    rw [Nat.zero_add, show k + (1 + (32 - (k + 1))) = 32 by omega, Nat.add_comm 1, List.range'_succ] at h1
    rw [List.range_eq_range', List.range_eq_range', ← h1]
  rw [e]
  simp only [List.filter_append, List.filter_cons]
  have f1 : (List.range k).filter (fun t => (2 ^ k * (2 * m + 1)).testBit t) = [] := by
    rw [List.filter_eq_nil_iff]
    intro a ha
    have := List.mem_range.1 ha
    rw [bit_split, if_pos (by omega)]
    simp
    omega
  have f2 : (List.range k).filter (fun t => (2 ^ k * (2 * m)).testBit t) = [] := by
    rw [List.filter_eq_nil_iff]
    intro a ha
    have := List.mem_range.1 ha
    rw [bit_rest, if_pos (by omega)]
    simp
  have g1 : (2 ^ k * (2 * m + 1)).testBit k = true := by rw [bit_split, if_pos (by omega)]; simp
  have g2 : (2 ^ k * (2 * m)).testBit k = false := by rw [bit_rest, if_pos (by omega)]
  rw [f1, f2, g1, g2]
  simp only [if_true, Bool.false_eq_true, if_false, List.nil_append]
  congr 1
  apply List.filter_congr
  intro a ha
  rw [List.mem_range'_1] at ha
  rw [bit_split, bit_rest, if_neg (by omega), if_neg (by omega)]
theorem low_facts {x : Nat} (hx : x < 4294967296) (hx0 : x ≠ 0) : Lib.ctz 32 x < 32 ∧ x.testBit (Lib.ctz 32 x) = true ∧ x &&& (x - 1) < x ∧ ∀ t, (x &&& (x - 1)).testBit t = true → x.testBit t = true := by
  obtain ⟨k, m, hk, hk32, h1, h2⟩ := low_split hx hx0
  refine ⟨by rw [hk]; exact hk32, ?_, ?_, fun t h => ?_⟩
  · rw [hk, h1, bit_split, if_pos (by omega)]; simp
  · rw [h2]
    conv => rhs; rw [h1]
    exact Nat.mul_lt_mul_of_pos_left (by omega) (Nat.two_pow_pos k)
  · rw [Nat.testBit_and, Bool.and_eq_true] at h
    exact h.1
/-- the pins of the first k steps, ordered by the step, then by the track -/
def pinsT (d : Nat → Int) (k : Nat) : List (Nat × Nat) := (List.range k).flatMap fun i => (bitsL (d i).toNat).map fun t => (i, t)
def pinsL (d : Nat → Int) : List (Nat × Nat) := pinsT d 96
theorem pinsT_zero (d : Nat → Int) : pinsT d 0 = [] := rfl
theorem pinsT_succ (d : Nat → Int) (k : Nat) : pinsT d (k + 1) = pinsT d k ++ (bitsL (d k).toNat).map fun t => (k, t) := by
  simp [pinsT, List.range_succ, List.flatMap_append]
theorem bitsL_len (x : Nat) : (bitsL x).length ≤ 32 := by simpa [bitsL] using List.length_filter_le (fun t => x.testBit t) (List.range 32)
theorem pinsT_len (d : Nat → Int) : ∀ k, (pinsT d k).length ≤ k * 32
  | 0 => by simp [pinsT_zero]
  | k + 1 => by
    have h1 := pinsT_len d k
    have h2 := bitsL_len (d k).toNat
    rw [pinsT_succ, List.length_append, List.length_map]
    omega
theorem pinsT_prefix (d : Nat → Int) {k : Nat} (h : k ≤ 96) : pinsT d k <+: pinsL d := by
  obtain ⟨n, hn⟩ : ∃ n, 96 = k + n := ⟨96 - k, by omega⟩
  unfold pinsL pinsT
  rw [hn, List.range_add, List.flatMap_append]
  exact List.prefix_append _ _
end Go.Proofs.YtcepjiglhlmgdaaDoor
