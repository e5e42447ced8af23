import Derived.Test.YtehcghaficbhiaaPin
namespace Go.Proofs.Ytehcghaficbhiaa
open Go.RowKit

/-- how many bits are set -/
def pc (x : Nat) : Nat := if h : x = 0 then 0 else x % 2 + pc (x / 2)
termination_by x
decreasing_by omega
theorem pc_zero : pc 0 = 0 := by unfold pc; simp
theorem pc_step (x : Nat) : pc x = x % 2 + pc (x / 2) := by
  by_cases h : x = 0
  · subst h; simp [pc_zero]
  · conv => lhs; unfold pc
    rw [dif_neg h]
theorem pc_le (x : Nat) : pc x ≤ x := by
  induction x using Nat.strongRecOn with
  | ind x ih =>
    by_cases h : x = 0
    · subst h; simp [pc_zero]
    · rw [pc_step]
      have := ih (x / 2) (by omega)
      omega
theorem pc_byte (a b : Nat) (hb : b < 256) : pc (256 * a + b) = pc a + pc b := by
  have step : ∀ (n m c : Nat), pc (2 * n * m + c) = c % 2 + pc (n * m + c / 2) := by
    intro n m c
    rw [pc_step]
    have h1 : (2 * n * m + c) % 2 = c % 2 := by rw [Nat.mul_assoc]; omega
    have h2 : (2 * n * m + c) / 2 = n * m + c / 2 := by rw [Nat.mul_assoc]; omega
    rw [h1, h2]
  have e : ∀ n c, pc (256 * n + c) = c % 2 + (c / 2 % 2 + (c / 2 / 2 % 2 + (c / 2 / 2 / 2 % 2 + (c / 2 / 2 / 2 / 2 % 2 + (c / 2 / 2 / 2 / 2 / 2 % 2 + (c / 2 / 2 / 2 / 2 / 2 / 2 % 2 + (c / 2 / 2 / 2 / 2 / 2 / 2 / 2 % 2 + pc (n + c / 2 / 2 / 2 / 2 / 2 / 2 / 2 / 2)))))))) := by
    intro n c
    rw [step 128 n c, step 64 n, step 32 n, step 16 n, step 8 n, step 4 n, step 2 n, step 1 n, Nat.one_mul]
  have e0 := e a b
  have e1 := e 0 b
  have hz : b / 2 / 2 / 2 / 2 / 2 / 2 / 2 / 2 = 0 := by omega
  rw [hz] at e0 e1
  rw [Nat.mul_zero, Nat.zero_add, Nat.zero_add, pc_zero] at e1
  rw [Nat.add_zero] at e0
  omega

/-- the bits of a byte -/
def pb (v : Nat) : Nat := v % 2 + (v / 2 % 2 + (v / 4 % 2 + (v / 8 % 2 + (v / 16 % 2 + (v / 32 % 2 + (v / 64 % 2 + v / 128 % 2))))))
theorem pc_pb (v : Nat) (h : v < 256) : pc v = pb v := by
  rw [pc_step v, pc_step (v / 2), pc_step (v / 2 / 2), pc_step (v / 2 / 2 / 2), pc_step (v / 2 / 2 / 2 / 2), pc_step (v / 2 / 2 / 2 / 2 / 2), pc_step (v / 2 / 2 / 2 / 2 / 2 / 2), pc_step (v / 2 / 2 / 2 / 2 / 2 / 2 / 2), show v / 2 / 2 / 2 / 2 / 2 / 2 / 2 / 2 = 0 by omega, pc_zero]
  unfold pb
  omega
theorem pb_le (v : Nat) : pb v ≤ 8 := by unfold pb; omega
def tabL : List Nat := (List.range 256).map pb
theorem tab_get (S : ByteArray) (hS : S.data.toList.map UInt8.toNat = tabL) (v : Nat) (hv : v < 256) : ∃ b, S[v]? = some b ∧ b.toNat = pc v := by
  have hl : S.data.toList.length = 256 := by have := congrArg List.length hS; simpa [tabL] using this
  have h1 : v < S.data.toList.length := by omega
  have h2 : v < S.size := by simpa using h1
  refine ⟨S[v], getElem?_pos S v h2, ?_⟩
  have h3 : (S.data.toList.map UInt8.toNat)[v]? = some (pb v) := by rw [hS]; simp [tabL, hv]
  rw [pc_pb v hv]
  rw [List.getElem?_map, List.getElem?_eq_getElem h1] at h3
  show S.data[v].toNat = pb v
  simpa using h3
theorem quiet_index {P : Program} {o : Oper} {a : Act} {C : World → Prop} {K : Act → Prop} (ty : TypeId) (x y : Operand) (ho : o.op = .index ty x y) (ht : P.underlying ty = some .string)
    (S : ByteArray) (hx : a.eval x = .string S) (v' : Int) (hy : a.eval y = .int .u32 v') (hS : S.data.toList.map UInt8.toNat = tabL) (v : Nat) (hv : v < 256) (hvv : v' = (v : Int))
    (h : K (a.put o.dst (.int .u8 (pc v : Nat)))) : o.quiet P a C K := by
  obtain ⟨b, hb, hbb⟩ := tab_get S hS v hv
  refine ⟨.int .u8 (pc v : Nat), fun w hw => ?_, h⟩
  subst hvv
  unfold Oper.quietAt execOp
  have hrun : (Instr.index ty (.string S) (.int .u32 v)).run P w = .ok (.int .u8 (pc v : Nat)) w := by
    simp [Instr.index, asIntOf, run_underlying ht, hb, hbb]
  simp only [ho, hx, hy, Sem.run_bind, hrun, Result.andThen_ok, Sem.run_pure]
  exact ⟨rfl, rfl⟩

end Go.Proofs.Ytehcghaficbhiaa
