import Derived.Test.YtklkomgpaamcpaaGap
import Derived.Test.YtklkomgpaamcpaaOpen
namespace Go.Proofs.Ytklkomgpaamcpaa
open Go.RowKit Go.Maps

theorem keyTypeN : Try.prog.keyType 49 = true := by kernel_rfl
theorem rowN : (49 : TypeId) < Try.prog.types.size := of_decide_eq_true (by kernel_rfl)
theorem lawN : Keyed Try.prog 49 := Keyed.of_law (deep_law_laid Try.laidOut (m := 2) (by omega) rowN (by kernel_rfl) (by kernel_rfl))
theorem cellsN : Try.prog.cellsOf 49 = 2 := by kernel_rfl
theorem keyLits_note (a p : Int) (ha : (Lit.int .i16 a).wf = true) (hp : (Lit.int .i8 p).wf = true) (d : Nat) : Try.prog.keyLits (d + 1 + 1) 49 [.int .i16 a, .int .i8 p] = some [.int .i16 a, .int .i8 p] := by
  simp [Program.keyLits, Try.underlying49, Try.underlying47, Try.underlying40, cellsN, Try.cells47, Try.cells40, ha, hp]
theorem typesN : ∃ d, Try.prog.types.size + 1 = d + 1 + 1 := ⟨Try.prog.types.size - 1, by have h : (49 : Nat) < Try.prog.types.size := rowN; omega⟩
theorem key_some (a p : Int) (ha : (Lit.int .i16 a).wf = true) (hp : (Lit.int .i8 p).wf = true) : ∃ s, keyOf Try.prog 49 (.agg #[.int .i16 a, .int .i8 p]) = some (.string s) := by
  obtain ⟨d, hd⟩ := typesN
  have hf : (Value.agg #[.int .i16 a, .int .i8 p]).formed Try.prog 49 = true := by simp [Value.formed, Try.underlying49, cellsN]
  refine ⟨keyBytes [.int .i16 a, .int .i8 p], ?_⟩
  unfold keyOf
  rw [hd, Try.underlying49]
  simp only [keyTypeN, hf, Bool.and_self, if_true, Value.cells]
  rw [keyLits_note a p ha hp d]
  rfl
theorem bool_inv {v : Value} {z : DataW Unit × List MemPlace} (h : plainElem Try.prog 4 v = some z) : ∃ x, v = .bool x ∧ z = (.lit (.bool x), []) := by
  unfold plainElem at h
  rw [Try.underlying4] at h
  cases v <;> simp at h
  exact ⟨_, rfl, h.symm⟩
end Go.Proofs.Ytklkomgpaamcpaa
