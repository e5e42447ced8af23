import Derived.Test.YtehcghaficbhiaaDri
import Derived.Test.YtehcghaficbhiaaOpenF
import Derived.Maps.Own
import Derived.Maps.OwnOps
namespace Go.Proofs.Ytehcghaficbhiaa
open Go.RowKit Go.Maps

theorem keyTypeD : Try.prog.keyType 32 = true := by kernel_rfl
theorem rowD : (32 : TypeId) < Try.prog.types.size := of_decide_eq_true (by kernel_rfl)
theorem lawD : Keyed Try.prog 32 := Keyed.of_law (deep_law_laid Try.laidOut (m := 2) (by omega) rowD (by kernel_rfl) (by kernel_rfl))
theorem cellsD : Try.prog.cellsOf 32 = 96 := by kernel_rfl
theorem cellsU : Try.prog.cellsOf 26 = 1 := by kernel_rfl
theorem dv_take (d : Nat → Int) (i : Nat) (h : i < 96) : ((dv d).drop (i * 1)).take 1 = [.int .u32 (d i)] := by
  rw [Nat.mul_one]
  apply List.ext_getElem?
  intro j
  cases j with
  | zero => simp [dv_get d i h]
  | succ j => simp [dv_length]; omega
theorem typesD : ∃ d, Try.prog.types.size + 1 = d + 1 + 1 := ⟨Try.prog.types.size - 1, by have h : (32 : Nat) < Try.prog.types.size := rowD; omega⟩
theorem keyLits_drum (q : Nat → Int) (hq : DWF q) (d : Nat) : ∃ L, Try.prog.keyLits (d + 1 + 1) 32 (dv q) = some L := by
  have h1 : ∀ i ∈ List.range 96, Try.prog.keyLits (d + 1) 26 (((dv q).drop (i * Try.prog.cellsOf 26)).take (Try.prog.cellsOf 26)) = some [.int .u32 (q i)] := by
    intro i hi
    have hi' : i < 96 := List.mem_range.1 hi
    obtain ⟨a, b⟩ := hq i hi'
    rw [cellsU, dv_take q i hi']
    have hw : (Lit.int .u32 (q i)).wf = true := by simp [Lit.wf, IntKind.min, IntKind.max, IntKind.signed, IntKind.bits]; omega
    simp [Program.keyLits, Try.underlying26, hw]
  refine ⟨((List.range 96).map fun i => [.int .u32 (q i)]).flatten, ?_⟩
  unfold Program.keyLits
  rw [Try.underlying32]
  simp only [dv_length, cellsD, if_true]
  rw [mapM_all _ (fun i => [Lit.int .u32 (q i)]) _ h1]
  rfl
theorem key_drum (q : Nat → Int) (hq : DWF q) : ∃ s, keyOf Try.prog 32 (.agg (da q)) = some (.string s) := by
  obtain ⟨d, hd⟩ := typesD
  have hf : (Value.agg (da q)).formed Try.prog 32 = true := by simp [Value.formed, Try.underlying32, cellsD, da_size]
  obtain ⟨L, hL⟩ := keyLits_drum q hq d
  refine ⟨keyBytes L, ?_⟩
  unfold keyOf
  rw [hd, Try.underlying32]
  simp only [keyTypeD, hf, Bool.and_self, if_true, Value.cells]
  rw [show (da q).toList = dv q from rfl, hL]
  rfl
theorem da_inj {p q : Nat → Int} (h : da p = da q) (i : Nat) (hi : i < 96) : p i = q i := by
  have h1 := dv_get p i hi
  have h2 := dv_get q i hi
  rw [show dv p = dv q from congrArg Array.toList h] at h1
  rw [h1] at h2
  simpa using h2
def sameD (p q : Nat → Int) : Bool := (List.range 96).all fun i => decide (p i = q i)
theorem sameD_iff (p q : Nat → Int) : sameD p q = true ↔ da p = da q := by
  simp only [sameD, List.all_eq_true, List.mem_range, decide_eq_true_eq]
  exact ⟨fun h => by unfold da; rw [dv_congr h], fun h i hi => da_inj h i hi⟩
theorem eqDr (p q : Nat → Int) (hp : DWF p) (hq : DWF q) (w : World) : (Op.equalIn 10000 32 (.agg (da p)) (.agg (da q))).run Try.prog w = .ok (sameD p q) w := by
  obtain ⟨s, hs⟩ := key_drum p hp
  obtain ⟨t, ht⟩ := key_drum q hq
  obtain ⟨r, hr, hiff⟩ := run_equal_deep (P := Try.prog) w (m := 2) (by omega) (k := 32) (by kernel_rfl) (by kernel_rfl) hs ht
  have e : r = sameD p q := by
    rw [Bool.eq_iff_iff, hiff, sameD_iff]
    constructor
    · intro h
      rw [h] at hs
      have := lawD.inj hs ht
      simp only [Value.agg.injEq] at this
      exact this
    · intro h
      rw [h, ht] at hs
      exact (Option.some.inj hs).symm
  rw [← e]
  exact hr
end Go.Proofs.Ytehcghaficbhiaa
