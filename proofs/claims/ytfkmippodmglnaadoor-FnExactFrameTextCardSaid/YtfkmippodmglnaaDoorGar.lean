import Derived.Test.YtfkmippodmglnaaDoorGac
import Derived.Test.YtfkmippodmglnaaDoorRows
import Derived.ProofKit
import Derived.Deep.SlicePairs
import Derived.OpenShut
import Derived.ChangeSlices
import Derived.Test.YtfkmippodmglnaaDoorGaj
namespace Go.Proofs.YtfkmippodmglnaaDoor
open Go.ChangeShapes Go.WideShapes Go.ChangeAt Go.RowKit Go.Deep Go.Proofs.YtfkmippodmglnaaDoor

theorem Tryd.own : ownKnob Tryd.prog.godebug = none := by kernel_rfl
theorem Tryd.laidOut : laidOutB Tryd.prog = true := by kernel_rfl
theorem Tryd.cells44 : Tryd.prog.cellsOf 44 = 1 := by kernel_rfl
theorem Tryd.cells57 : Tryd.prog.cellsOf 57 = 1 := by kernel_rfl
theorem Tryd.cells2 : Tryd.prog.cellsOf 2 = 1 := by kernel_rfl
end Go.Proofs.YtfkmippodmglnaaDoor
namespace Go.Proofs.YtfkmippodmglnaaDoor
open Go.ChangeShapes Go.WideShapes Go.ChangeAt Go.RowKit Go.Deep Go.Proofs.YtfkmippodmglnaaDoor

theorem Tryd.cells128 : Tryd.prog.cellsOf 128 = 2 := by kernel_rfl
theorem Tryd.cells47 : Tryd.prog.cellsOf 47 = 2 := by kernel_rfl
theorem Tryd.cells45 : Tryd.prog.cellsOf 45 = 1 := by kernel_rfl

theorem hams_of {H : Type} {enc : TypeId × Value → H} {W : World} {base : Nat} {spare : Nat → Bool} {held : Bool} {fuel : Nat} {y : Value} {x : DataW H × List MemPlace}
    (h : DataW.trod enc Tryd.prog W base spare held fuel 45 [y] = some x) :
    ∃ (A : Option Addr) (cap : Nat) (l : List (Int × Int)), y = .slice A l.length cap ∧ l.length ≤ maxLen ∧ HA W A l ∧ HWF l := by
  rcases open_slice_pairs Tryd.underlying45 Tryd.underlying128 Tryd.cells128 rfl rfl Tryd.cells57 Tryd.cells57 h with ⟨hcs, _⟩ | ⟨a, len, cap, m, n, V0, V1, D0, D1, P0, P1, hcs, _, hl, hm, hmm, _, hi⟩
  · simp at hcs
    subst hcs
    exact ⟨none, 0, [], rfl, by decide, fun k hk => absurd hk (by simp), fun k hk => absurd hk (by simp)⟩
  · simp at hcs
    subst hcs
    have hlm : len ≤ m := by rw [hmm]; split <;> omega
    have each : ∀ i, i < len → ∃ a0 p0 : Int, V0 i = .int .i8 a0 ∧ V1 i = .int .i8 p0 ∧ (-128 ≤ a0 ∧ a0 ≤ 127) ∧ (-128 ≤ p0 ∧ p0 ≤ 127) := by
      intro i hilt
      obtain ⟨_, _, g0, g1⟩ := hi i (by omega)
      obtain ⟨a0, e0, _, w0⟩ := DataW.trod_int Tryd.underlying57 g0
      obtain ⟨p0, e1, _, w1⟩ := DataW.trod_int Tryd.underlying57 g1
      simp only [List.cons.injEq, and_true] at e0 e1
      exact ⟨a0, p0, e0, e1, bounds_i8 w0, bounds_i8 w1⟩
    refine ⟨some a, cap, (List.range len).map fun i => (intOf (V0 i), intOf (V1 i)), by simp, by simp; omega, ?_, ?_⟩
    · intro k hk
      have hk' : k < len := by simpa using hk
      obtain ⟨a0, p0, e0, e1, _⟩ := each k hk'
      obtain ⟨c0, c1, _⟩ := hi k (by omega)
      obtain ⟨z0, _, _⟩ := hi 0 (by omega)
      obtain ⟨b, off, spot⟩ := a
      have hspot : spot = none := by simpa [Addr.add] using World.cell?_spot z0
      subst hspot
      have hlt := World.block_lt_of_cell? W _ z0
      refine ⟨b, off, rfl, by simpa [Addr.add] using hlt, ?_, ?_⟩
      · rw [Addr.add_lit] at c0
        rw [c0, e0]; simp [hPi, List.getD, hk', e0, intOf]
      · rw [Addr.add_lit] at c1
        rw [← Nat.add_assoc] at c1
        rw [c1, e1]; simp [hRe, List.getD, hk', e1, intOf]
    · intro k hk
      have hk' : k < len := by simpa using hk
      obtain ⟨a0, p0, e0, e1, b0, b1⟩ := each k hk'
      simp [hPi, hRe, List.getD, hk', e0, e1, intOf]
      exact ⟨b0, b1⟩

set_option maxRecDepth 100000 in
theorem frame_of {H : Type} {enc : TypeId × Value → H} {W : World} {base b0 : Nat} {r : Reach} {spare : Nat → Bool} {held : Bool} {fuel : Nat} {v : Value} {x : DataW H × List MemPlace}
    (hv : Value.okWide Tryd.prog W r b0 47 v) (h : DataW.trod enc Tryd.prog W base spare held fuel 47 v.cells.toList = some x) :
    ∃ (s : Int) (A : Option Addr) (cap : Nat) (l : List (Int × Int)), v = .agg #[.int .i16 s, .slice A l.length cap] ∧ l.length ≤ maxLen ∧ HA W A l ∧ HWF l ∧ (-32768 ≤ s ∧ s ≤ 32767) := by
  obtain ⟨cs, rfl, hcs⟩ := okWide_struct Tryd.underlying47 hv
  rw [Tryd.cells47] at hcs
  obtain ⟨y0, y1, n, _, _, h0, h1⟩ := trod_struct2 Tryd.underlying47 h
  obtain ⟨a, b, hab⟩ : ∃ a b, cs = #[a, b] := by
    obtain ⟨ls⟩ := cs
    match ls, hcs with
    | [a, b], _ => exact ⟨a, b, rfl⟩
  subst hab
  simp only [Value.cells, List.drop_zero, Tryd.cells44, Tryd.cells45] at h0 h1
  obtain ⟨s, e0, _, w0⟩ := DataW.trod_int Tryd.underlying44 h0
  obtain ⟨A, cap, l, rfl, hl, hA, hwf⟩ := hams_of h1
  simp at e0
  subst e0
  exact ⟨s, A, cap, l, rfl, hl, hA, hwf, bounds_i16 w0⟩
end Go.Proofs.YtfkmippodmglnaaDoor
