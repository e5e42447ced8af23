import Derived.Test.YtheoopbgbglmdaaDoorGao
import Derived.Laws.BitsLemmas
namespace Go.Proofs.YtheoopbgbglmdaaDoor
open Go.RowKit Go.Maps

theorem wraps_u32 (n : Int) (h₀ : 0 ≤ n) (h₁ : n < 2 ^ 32) : IntKind.u32.wrap n = n := by
  simp only [IntKind.wrap, IntKind.signed, IntKind.bits]
  simp
  omega
theorem keptI_eq (n : Nat) (hn : n ≤ 24) (x : Int) (h0 : 0 ≤ x) (h1 : x ≤ 4294967295) : keptI n x = x % 2 ^ n := by
  have hp : (2 : Int) ^ n ≤ 2 ^ 24 := by
    have := Nat.pow_le_pow_right (n := 2) (by decide) hn
    exact_mod_cast this
  have hq : (0 : Int) < 2 ^ n := Int.pow_pos (by decide)
  have e : ((2 : Int) ^ n - 1) % 4294967296 = 2 ^ n - 1 := Int.emod_eq_of_lt (by omega) (by omega)
  rw [keptI, e]
  exact bits_mask .u32 32 (by decide) wraps_u32 n (by omega) x h0 (by omega)
theorem keptI_same (n : Nat) (hn : n ≤ 24) (x : Int) (h0 : 0 ≤ x) (h1 : x ≤ 4294967295) : (x = keptI n x) ↔ x / 2 ^ n = 0 := by
  have hq : (0 : Int) < 2 ^ n := Int.pow_pos (by decide)
  rw [keptI_eq n hn x h0 h1]
  have := Int.emod_add_mul_ediv x (2 ^ n)
  constructor
  · intro h
    rw [← h] at this
    have h2 : 2 ^ n * (x / 2 ^ n) = 0 := by omega
    rcases Int.mul_eq_zero.1 h2 with h3 | h3
    · omega
    · exact h3
  · intro h
    rw [h] at this
    simp at this
    exact this.symm
theorem kept_drB (s : Int) (n : Nat) (hn : n ≤ 24) (d : Nat → Int) (hd : DWF d) : sameD d (keptD s n d) = drB s n d := by
  rw [Bool.eq_iff_iff]
  simp only [sameD, drB, List.all_eq_true, List.mem_range, decide_eq_true_eq]
  refine forall_congr' fun i => forall_congr' fun hi => ?_
  obtain ⟨a, b⟩ := hd i hi
  simp only [keptD, stepB, Bool.and_eq_true, Bool.or_eq_true, decide_eq_true_eq]
  by_cases h : (i : Int) < s
  · rw [if_pos h, keptI_same n hn _ a b]
    exact ⟨fun h1 => ⟨h1, Or.inl h⟩, fun h1 => h1.1⟩
  · rw [if_neg h]
    exact ⟨fun h1 => ⟨by rw [h1]; simp, Or.inr h1⟩, fun h1 => by rcases h1.2 with h2 | h2 <;> first | exact absurd h2 h | exact h2⟩
theorem kept_wf (s : Int) (n : Nat) (hn : n ≤ 24) (d : Nat → Int) (hd : DWF d) : DWF (keptD s n d) := by
  intro i hi
  obtain ⟨a, b⟩ := hd i hi
  have hq : (0 : Int) < 2 ^ n := Int.pow_pos (by decide)
  unfold keptD
  split
  · rw [keptI_eq n hn _ a b]
    have h1 := Int.emod_nonneg (d i) (b := 2 ^ n) (by omega)
    have h2 : d i % 2 ^ n ≤ d i := by
      have := Int.emod_add_mul_ediv (d i) (2 ^ n)
      have h3 : 0 ≤ d i / 2 ^ n := Int.ediv_nonneg a (by omega)
      have h4 : 0 ≤ 2 ^ n * (d i / 2 ^ n) := Int.mul_nonneg (by omega) h3
      omega
    omega
  · omega
end Go.Proofs.YtheoopbgbglmdaaDoor
