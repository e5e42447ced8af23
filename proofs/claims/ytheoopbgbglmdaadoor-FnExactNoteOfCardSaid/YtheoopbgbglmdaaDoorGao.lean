import Derived.Test.YtheoopbgbglmdaaDoorGal
import Derived.Test.YtheoopbgbglmdaaDoorGan
import Derived.ProofKit
import Derived.Deep.SlicePairs
import Derived.OpenShut
import Derived.Maps.Own
import Derived.Maps.OwnOps
namespace Go.Proofs.YtheoopbgbglmdaaDoor
open Go.ChangeShapes Go.WideShapes Go.ChangeAt Go.RowKit Go.Deep Go.Proofs.YtheoopbgbglmdaaDoor

theorem Tryd.cells93 : Tryd.prog.cellsOf 93 = 2 := by kernel_rfl
theorem Tryd.cells38 : Tryd.prog.cellsOf 38 = 2 := by kernel_rfl
theorem Tryd.cells36 : Tryd.prog.cellsOf 36 = 1 := by kernel_rfl

theorem hams_of {H : Type} {enc : TypeId × Value → H} {W : World} {base : Nat} {spare : Nat → Bool} {held : Bool} {fuel : Nat} {y : Value} {x : DataW H × List MemPlace}
    (h : DataW.trod enc Tryd.prog W base spare held fuel 36 [y] = some x) :
    ∃ (A : Option Addr) (cap : Nat) (l : List (Int × Int)), y = .slice A l.length cap ∧ l.length ≤ maxLen ∧ HA W A l ∧ HWF l := by
  rcases open_slice_pairs Tryd.underlying36 Tryd.underlying93 Tryd.cells93 rfl rfl Tryd.cells23 Tryd.cells23 h with ⟨hcs, _⟩ | ⟨a, len, cap, m, n, V0, V1, D0, D1, P0, P1, hcs, _, hl, hm, hmm, _, hi⟩
  · simp at hcs
    subst hcs
    exact ⟨none, 0, [], rfl, by decide, fun k hk => absurd hk (by simp), fun k hk => absurd hk (by simp)⟩
  · simp at hcs
    subst hcs
    have hlm : len ≤ m := by rw [hmm]; split <;> omega
    have each : ∀ i, i < len → ∃ a0 p0 : Int, V0 i = .int .i8 a0 ∧ V1 i = .int .i8 p0 ∧ (-128 ≤ a0 ∧ a0 ≤ 127) ∧ (-128 ≤ p0 ∧ p0 ≤ 127) := by
      intro i hilt
      obtain ⟨_, _, g0, g1⟩ := hi i (by omega)
      obtain ⟨a0, e0, _, w0⟩ := DataW.trod_int Tryd.underlying23 g0
      obtain ⟨p0, e1, _, w1⟩ := DataW.trod_int Tryd.underlying23 g1
      simp only [List.cons.injEq, and_true] at e0 e1
      exact ⟨a0, p0, e0, e1, bounds_i8 w0, bounds_i8 w1⟩
    refine ⟨some a, cap, (List.range len).map fun i => (intOf (V0 i), intOf (V1 i)), by simp, by simp; omega, ?_, ?_⟩
    · intro k hk
      have hk' : k < len := by simpa using hk
      obtain ⟨a0, p0, e0, e1, _⟩ := each k hk'
      obtain ⟨c0, c1, _⟩ := hi k (by omega)
      obtain ⟨z0, _, _⟩ := hi 0 (by omega)
      obtain ⟨b, off, spot⟩ := a
      have hspot : spot = none := by simpa [Addr.add] using World.cell?_spot z0
      subst hspot
      have hlt := World.block_lt_of_cell? W _ z0
      refine ⟨b, off, rfl, by simpa [Addr.add] using hlt, ?_, ?_⟩
      · rw [Addr.add_lit] at c0
        rw [c0, e0]; simp [hPi, List.getD, hk', e0, intOf]
      · rw [Addr.add_lit] at c1
        rw [← Nat.add_assoc] at c1
        rw [c1, e1]; simp [hRe, List.getD, hk', e1, intOf]
    · intro k hk
      have hk' : k < len := by simpa using hk
      obtain ⟨a0, p0, e0, e1, b0, b1⟩ := each k hk'
      simp [hPi, hRe, List.getD, hk', e0, e1, intOf]
      exact ⟨b0, b1⟩

set_option maxRecDepth 100000 in
theorem frame_of {H : Type} {enc : TypeId × Value → H} {W : World} {base b0 : Nat} {r : Reach} {spare : Nat → Bool} {held : Bool} {fuel : Nat} {v : Value} {x : DataW H × List MemPlace}
    (hv : Value.okWide Tryd.prog W r b0 38 v) (h : DataW.trod enc Tryd.prog W base spare held fuel 38 v.cells.toList = some x) :
    ∃ (s : Int) (A : Option Addr) (cap : Nat) (l : List (Int × Int)), v = .agg #[.int .i16 s, .slice A l.length cap] ∧ l.length ≤ maxLen ∧ HA W A l ∧ HWF l ∧ (-32768 ≤ s ∧ s ≤ 32767) := by
  obtain ⟨cs, rfl, hcs⟩ := okWide_struct Tryd.underlying38 hv
  rw [Tryd.cells38] at hcs
  obtain ⟨y0, y1, n, _, _, h0, h1⟩ := trod_struct2 Tryd.underlying38 h
  obtain ⟨a, b, hab⟩ : ∃ a b, cs = #[a, b] := by
    obtain ⟨ls⟩ := cs
    match ls, hcs with
    | [a, b], _ => exact ⟨a, b, rfl⟩
  subst hab
  simp only [Value.cells, List.drop_zero, Tryd.cells22, Tryd.cells36] at h0 h1
  obtain ⟨s, e0, _, w0⟩ := DataW.trod_int Tryd.underlying22 h0
  obtain ⟨A, cap, l, rfl, hl, hA, hwf⟩ := hams_of h1
  simp at e0
  subst e0
  exact ⟨s, A, cap, l, rfl, hl, hA, hwf, bounds_i16 w0⟩
end Go.Proofs.YtheoopbgbglmdaaDoor
namespace Go.Proofs.YtheoopbgbglmdaaDoor
open Go.RowKit Go.Maps

theorem keyTypeD : Tryd.prog.keyType 108 = true := by kernel_rfl
theorem rowD : (108 : TypeId) < Tryd.prog.types.size := of_decide_eq_true (by kernel_rfl)
theorem lawD : Keyed Tryd.prog 108 := Keyed.of_law (deep_law_laid Tryd.laidOut (m := 2) (by omega) rowD (by kernel_rfl) (by kernel_rfl))
theorem cellsD : Tryd.prog.cellsOf 108 = 96 := by kernel_rfl
theorem cellsU : Tryd.prog.cellsOf 106 = 1 := by kernel_rfl
theorem dv_take (d : Nat → Int) (i : Nat) (h : i < 96) : ((dv d).drop (i * 1)).take 1 = [.int .u32 (d i)] := by
  rw [Nat.mul_one]
  apply List.ext_getElem?
  intro j
  cases j with
  | zero => simp [dv_get d i h]
  | succ j => simp [dv_length]; omega
theorem typesD : ∃ d, Tryd.prog.types.size + 1 = d + 1 + 1 := ⟨Tryd.prog.types.size - 1, by have h : (108 : Nat) < Tryd.prog.types.size := rowD; omega⟩
theorem keyLits_drum (q : Nat → Int) (hq : DWF q) (d : Nat) : ∃ L, Tryd.prog.keyLits (d + 1 + 1) 108 (dv q) = some L := by
  have h1 : ∀ i ∈ List.range 96, Tryd.prog.keyLits (d + 1) 106 (((dv q).drop (i * Tryd.prog.cellsOf 106)).take (Tryd.prog.cellsOf 106)) = some [.int .u32 (q i)] := by
    intro i hi
    have hi' : i < 96 := List.mem_range.1 hi
    obtain ⟨a, b⟩ := hq i hi'
    rw [cellsU, dv_take q i hi']
    have hw : (Lit.int .u32 (q i)).wf = true := by simp [Lit.wf, IntKind.min, IntKind.max, IntKind.signed, IntKind.bits]; omega
    simp [Program.keyLits, Tryd.underlying106, hw]
  refine ⟨((List.range 96).map fun i => [.int .u32 (q i)]).flatten, ?_⟩
  unfold Program.keyLits
  rw [Tryd.underlying108]
  simp only [dv_length, cellsD, if_true]
  rw [mapM_all _ (fun i => [Lit.int .u32 (q i)]) _ h1]
  rfl
theorem key_drum (q : Nat → Int) (hq : DWF q) : ∃ s, keyOf Tryd.prog 108 (.agg (da q)) = some (.string s) := by
  obtain ⟨d, hd⟩ := typesD
  have hf : (Value.agg (da q)).formed Tryd.prog 108 = true := by simp [Value.formed, Tryd.underlying108, cellsD, da_size]
  obtain ⟨L, hL⟩ := keyLits_drum q hq d
  refine ⟨keyBytes L, ?_⟩
  unfold keyOf
  rw [hd, Tryd.underlying108]
  simp only [keyTypeD, hf, Bool.and_self, if_true, Value.cells]
  rw [show (da q).toList = dv q from rfl, hL]
  rfl
theorem da_inj {p q : Nat → Int} (h : da p = da q) (i : Nat) (hi : i < 96) : p i = q i := by
  have h1 := dv_get p i hi
  have h2 := dv_get q i hi
  rw [show dv p = dv q from congrArg Array.toList h] at h1
  rw [h1] at h2
  simpa using h2
def sameD (p q : Nat → Int) : Bool := (List.range 96).all fun i => decide (p i = q i)
theorem sameD_iff (p q : Nat → Int) : sameD p q = true ↔ da p = da q := by
  simp only [sameD, List.all_eq_true, List.mem_range, decide_eq_true_eq]
  exact ⟨fun h => by unfold da; rw [dv_congr h], fun h i hi => da_inj h i hi⟩
theorem eqDr (p q : Nat → Int) (hp : DWF p) (hq : DWF q) (w : World) : (Op.equalIn 10000 108 (.agg (da p)) (.agg (da q))).run Tryd.prog w = .ok (sameD p q) w := by
  obtain ⟨s, hs⟩ := key_drum p hp
  obtain ⟨t, ht⟩ := key_drum q hq
  obtain ⟨r, hr, hiff⟩ := run_equal_deep (P := Tryd.prog) w (m := 2) (by omega) (k := 108) (by kernel_rfl) (by kernel_rfl) hs ht
  have e : r = sameD p q := by
    rw [Bool.eq_iff_iff, hiff, sameD_iff]
    constructor
    · intro h
      rw [h] at hs
      have := lawD.inj hs ht
      simp only [Value.agg.injEq] at this
      exact this
    · intro h
      rw [h, ht] at hs
      exact (Option.some.inj hs).symm
  rw [← e]
  exact hr
end Go.Proofs.YtheoopbgbglmdaaDoor
