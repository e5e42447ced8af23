import Derived.Test.YtghkcfghkbihcaaDoorGap
import Derived.Maps.Own
import Derived.Maps.OwnOps
import Derived.Maps.OwnSet
import Derived.WalkArith
namespace Go.Proofs.YtghkcfghkbihcaaDoor
open Go.RowKit Go.Maps
theorem keyTypeN : Tryd.prog.keyType 71 = true := by kernel_rfl
theorem rowN : (71 : TypeId) < Tryd.prog.types.size := of_decide_eq_true (by kernel_rfl)
theorem lawN : Keyed Tryd.prog 71 := Keyed.of_law (deep_law_laid Tryd.laidOut (m := 2) (by omega) rowN (by kernel_rfl) (by kernel_rfl))
theorem cellsN : Tryd.prog.cellsOf 71 = 2 := by kernel_rfl
theorem keyLits_note (a p : Int) (ha : (Lit.int .i16 a).wf = true) (hp : (Lit.int .i8 p).wf = true) (d : Nat) : Tryd.prog.keyLits (d + 1 + 1) 71 [.int .i16 a, .int .i8 p] = some [.int .i16 a, .int .i8 p] := by
  simp [Program.keyLits, Tryd.underlying71, Tryd.underlying22, Tryd.underlying69, cellsN, Tryd.cells22, Tryd.cells69, ha, hp]
theorem typesN : ∃ d, Tryd.prog.types.size + 1 = d + 1 + 1 := ⟨Tryd.prog.types.size - 1, by have h : (71 : Nat) < Tryd.prog.types.size := rowN; omega⟩
theorem key_some (a p : Int) (ha : (Lit.int .i16 a).wf = true) (hp : (Lit.int .i8 p).wf = true) : ∃ s, keyOf Tryd.prog 71 (.agg #[.int .i16 a, .int .i8 p]) = some (.string s) := by
  obtain ⟨d, hd⟩ := typesN
  have hf : (Value.agg #[.int .i16 a, .int .i8 p]).formed Tryd.prog 71 = true := by simp [Value.formed, Tryd.underlying71, cellsN]
  refine ⟨keyBytes [.int .i16 a, .int .i8 p], ?_⟩
  unfold keyOf
  rw [hd, Tryd.underlying71]
  simp only [keyTypeN, hf, Bool.and_self, if_true, Value.cells]
  rw [keyLits_note a p ha hp d]
  rfl
theorem zeroB (w : World) : (zeroValue 4).run Tryd.prog w = .ok (.bool false) w := by kernel_rfl
theorem wf16 {p : Int} (h : 0 ≤ p ∧ p ≤ 199) : (Lit.int .i16 p).wf = true := WalkArith.wf_i16 (by omega)
theorem wf8c {p : Int} (h : 0 ≤ p ∧ p ≤ 47) : (Lit.int .i8 p).wf = true := WalkArith.wf_i8 (by omega)
theorem note_key (a p : Int) (ha : 0 ≤ a ∧ a ≤ 199) (hp : 0 ≤ p ∧ p ≤ 47) : ∃ kl, keyOf Tryd.prog 71 (.agg #[.int .i16 a, .int .i8 p]) = some kl := by
  obtain ⟨s, hs⟩ := key_some a p (wf16 ha) (wf8c hp)
  exact ⟨_, hs⟩
/-- the map holds just these notes -/
def InS (D : DataW Unit) (xs : List (Int × Int)) : Prop :=
  ∀ a p kl, keyOf Tryd.prog 71 (.agg #[.int .i16 a, .int .i8 p]) = some kl → D.atKey kl (.lit (.bool false)) = .lit (.bool (decide ((a, p) ∈ xs)))
theorem inS_start : InS (.map []) [] := fun _ _ _ _ => by simp [DataW.atKey]
theorem inS_step {D : DataW Unit} {xs : List (Int × Int)} {a0 p0 : Int} {k0 : Lit} (hD : Maps.IsMap D) (h : InS D xs)
    (hk : keyOf Tryd.prog 71 (.agg #[.int .i16 a0, .int .i8 p0]) = some k0) : InS (D.put k0 (.lit (.bool true))) (xs ++ [(a0, p0)]) := by
  intro a p kl hkl
  by_cases e : kl = k0
  · subst e
    have e1 := lawN.inj hk hkl
    simp only [Value.agg.injEq, Array.mk.injEq, List.cons.injEq, Value.int.injEq, true_and, and_true] at e1
    rw [Maps.atKey_put_same hD (lawN.key hkl)]
    simp [e1.1, e1.2]
  · rw [Maps.atKey_put_other e, h a p kl hkl]
    have e2 : ¬ ((a, p) = (a0, p0)) := by
      intro hh
      obtain ⟨rfl, rfl⟩ := Prod.mk.inj hh
      rw [hkl] at hk
      exact e (Option.some.inj hk)
    simp only [List.mem_append, List.mem_singleton, e2, or_false]
end Go.Proofs.YtghkcfghkbihcaaDoor
