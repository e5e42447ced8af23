import Derived.Test.YtcepjiglhlmgdaaGreatDoorGap
import Derived.Test.YtcepjiglhlmgdaaGreatDoorGak
import Derived.ProofKit
import Derived.Deep.SlicePairs
import Derived.OpenShut
import Derived.Test.YtcepjiglhlmgdaaGreatDoorCho
import Derived.Deep.Slices
import Derived.Deep.Strs
import Derived.Lib.SmallJoins
namespace Go.Proofs.YtcepjiglhlmgdaaGreatDoor
open Go.ChangeShapes Go.WideShapes Go.ChangeAt Go.RowKit Go.Deep Go.Proofs.YtcepjiglhlmgdaaGreatDoor

theorem Tryz.cells61 : Tryz.prog.cellsOf 61 = 2 := by kernel_rfl

theorem notes_of {H : Type} {enc : TypeId × Value → H} {W : World} {base : Nat} {spare : Nat → Bool} {held : Bool} {fuel : Nat} {A : Option Addr} {len cap : Nat} {x : DataW H × List MemPlace}
    (h : DataW.trod enc Tryz.prog W base spare held fuel 26 [.slice A len cap] = some x) :
    ∃ l : List (Int × Int), l.length = len ∧ len ≤ maxLen ∧ NA W A l ∧ WF l := by
  rcases open_slice_pairs Tryz.underlying26 Tryz.underlying61 Tryz.cells61 rfl rfl Tryz.cells22 Tryz.cells57 h with ⟨hcs, _⟩ | ⟨a, len', cap', m, n, V0, V1, D0, D1, P0, P1, hcs, _, hl, hm, hmm, _, hi⟩
  · simp at hcs
    obtain ⟨rfl, rfl, rfl⟩ := hcs
    exact ⟨[], rfl, by decide, fun k hk => absurd hk (by simp), fun k hk => absurd hk (by simp)⟩
  · simp at hcs
    obtain ⟨rfl, rfl, rfl⟩ := hcs
    have hlm : len ≤ m := by rw [hmm]; split <;> omega
    have each : ∀ i, i < len → ∃ a0 p0 : Int, V0 i = .int .i16 a0 ∧ V1 i = .int .i8 p0 ∧ (-32768 ≤ a0 ∧ a0 ≤ 32767) ∧ (-128 ≤ p0 ∧ p0 ≤ 127) := by
      intro i hilt
      obtain ⟨_, _, g0, g1⟩ := hi i (by omega)
      obtain ⟨a0, e0, _, w0⟩ := DataW.trod_int Tryz.underlying22 g0
      obtain ⟨p0, e1, _, w1⟩ := DataW.trod_int Tryz.underlying57 g1
      simp only [List.cons.injEq, and_true] at e0 e1
      refine ⟨a0, p0, e0, e1, ?_, ?_⟩
      · simp [Lit.wf, IntKind.min, IntKind.max, IntKind.signed, IntKind.bits] at w0; omega
      · simp [Lit.wf, IntKind.min, IntKind.max, IntKind.signed, IntKind.bits] at w1; omega
    refine ⟨(List.range len).map fun i => (intOf (V0 i), intOf (V1 i)), by simp, by omega, ?_, ?_⟩
    · intro k hk
      have hk' : k < len := by simpa using hk
      obtain ⟨a0, p0, e0, e1, _⟩ := each k hk'
      obtain ⟨c0, c1, _⟩ := hi k (by omega)
      obtain ⟨z0, _, _⟩ := hi 0 (by omega)
      obtain ⟨b, off, spot⟩ := a
      have hspot : spot = none := by simpa [Addr.add] using World.cell?_spot z0
      subst hspot
      have hlt := World.block_lt_of_cell? W _ z0
      refine ⟨b, off, rfl, by simpa [Addr.add] using hlt, ?_, ?_⟩
      · rw [Addr.add_lit] at c0
        rw [c0, e0]; simp [nAt, List.getD, hk', e0, intOf]
      · rw [Addr.add_lit] at c1
        rw [← Nat.add_assoc] at c1
        rw [c1, e1]; simp [nPi, List.getD, hk', e1, intOf]
    · intro k hk
      have hk' : k < len := by simpa using hk
      obtain ⟨a0, p0, e0, e1, b0, b1⟩ := each k hk'
      simp [nAt, nPi, List.getD, hk', e0, e1, intOf]
      exact ⟨b0, b1⟩

set_option maxRecDepth 20000 in
theorem tune_of {H : Type} {enc : TypeId × Value → H} {W : World} {base b0 : Nat} {r : Reach} {spare : Nat → Bool} {held : Bool} {fuel : Nat} {v : Value} {x : DataW H × List MemPlace}
    (hv : Value.okWide Tryz.prog W r b0 26 v) (h : DataW.trod enc Tryz.prog W base spare held fuel 26 v.cells.toList = some x) :
    ∃ (A : Option Addr) (cap : Nat) (l : List (Int × Int)), v = .slice A l.length cap ∧ l.length ≤ maxLen ∧ NA W A l ∧ WF l := by
  obtain ⟨a, n, c, rfl⟩ := okWide_slice Tryz.underlying26 hv
  obtain ⟨l, rfl, h1, h2, h3⟩ := notes_of (by simpa [Value.cells] using h)
  exact ⟨a, c, l, rfl, h1, h2, h3⟩
end Go.Proofs.YtcepjiglhlmgdaaGreatDoor
namespace Go.Proofs.YtcepjiglhlmgdaaGreatDoor
open Go.ChangeShapes Go.WideShapes Go.ChangeAt Go.RowKit Go.Deep Go.Joins Go.Proofs.YtcepjiglhlmgdaaGreatDoor
theorem cellsSChoice : Tryz.prog.cellsOf 65 = 4 := by kernel_rfl
theorem cSChoicebool : Tryz.prog.cellsOf 4 = 1 := by kernel_rfl
theorem cSChoicei8 : Tryz.prog.cellsOf 57 = 1 := by kernel_rfl
set_option maxRecDepth 100000 in
theorem choices_cells {H : Type} {enc : TypeId × Value → H} {W : World} {base : Nat} {spare : Nat → Bool} {held : Bool} {fuel : Nat} {cs : List Value} {x : DataW H × List MemPlace}
    (hcs : cs.length = 4) (h : DataW.trod enc Tryz.prog W base spare held fuel 65 cs = some x) : ∃ q : Bool × Int × Int × Int, cs = [.bool q.1, .int .i8 q.2.1, .int .i8 q.2.2.1, .int .i8 q.2.2.2] ∧ (-128 ≤ q.2.1 ∧ q.2.1 ≤ 127) ∧ (-128 ≤ q.2.2.1 ∧ q.2.2.1 ≤ 127) ∧ (-128 ≤ q.2.2.2 ∧ q.2.2.2 ≤ 127) := by
  obtain ⟨y0, y1, y2, y3, n, _, _, h0, h1, h2, h3⟩ := trod_struct4 Tryz.underlying65 h
  match cs, hcs with
  | [a0, a1, a2, a3], _ =>
    simp only [List.drop_zero, List.drop_succ_cons, List.take_succ_cons, List.take_zero, cSChoicebool, cSChoicei8] at h0 h1 h2 h3
    obtain ⟨x0, e0, _⟩ := DataW.trod_bool Tryz.underlying4 h0
    obtain ⟨x1, e1, _, w1⟩ := DataW.trod_int Tryz.underlying57 h1
    obtain ⟨x2, e2, _, w2⟩ := DataW.trod_int Tryz.underlying57 h2
    obtain ⟨x3, e3, _, w3⟩ := DataW.trod_int Tryz.underlying57 h3
    simp only [List.cons.injEq, and_true] at e0 e1 e2 e3
    subst e0 e1 e2 e3
    exact ⟨(x0, x1, x2, x3), rfl, bounds_i8 w1, bounds_i8 w2, bounds_i8 w3⟩
set_option maxRecDepth 100000 in
theorem choices_of {H : Type} {enc : TypeId × Value → H} {W : World} {base b0 : Nat} {r : Reach} {spare : Nat → Bool} {held : Bool} {fuel : Nat} {v : Value} {x : DataW H × List MemPlace}
    (hv : Value.okWide Tryz.prog W r b0 27 v) (h : DataW.trod enc Tryz.prog W base spare held fuel 27 v.cells.toList = some x) :
    ∃ (A : Option Addr) (cap : Nat) (l : List (Bool × Int × Int × Int)), v = .slice A l.length cap ∧ l.length ≤ maxLen ∧ ChA W A l ∧ ChWF l := by
  obtain ⟨a0, n0, c0, rfl⟩ := okWide_slice Tryz.underlying27 hv
  rcases open_slice Tryz.underlying27 (by simpa [Value.cells] using h) with ⟨hcs, _⟩ | ⟨a, len, cap, m, n, D, Pl, hcs, _, hl, hm, hmm, _, hi⟩
  · simp at hcs
    obtain ⟨rfl, rfl, rfl⟩ := hcs
    exact ⟨none, 0, [], rfl, by decide, fun k hk => absurd hk (by simp), fun k hk => absurd hk (by simp)⟩
  · simp at hcs
    obtain ⟨rfl, rfl, rfl⟩ := hcs
    have hlm : n0 ≤ m := by rw [hmm]; split <;> omega
    have each : ∀ i, i < m → ∃ q : Bool × Int × Int × Int, ((-128 ≤ q.2.1 ∧ q.2.1 ≤ 127) ∧ (-128 ≤ q.2.2.1 ∧ q.2.2.1 ≤ 127) ∧ (-128 ≤ q.2.2.2 ∧ q.2.2.2 ≤ 127)) ∧ W.cell? ((a.add (i * 4)).add 0) = some (.bool q.1) ∧ W.cell? ((a.add (i * 4)).add 1) = some (.int .i8 q.2.1) ∧ W.cell? ((a.add (i * 4)).add 2) = some (.int .i8 q.2.2.1) ∧ W.cell? ((a.add (i * 4)).add 3) = some (.int .i8 q.2.2.2) := by
      intro i him
      obtain ⟨cs', h1, h2⟩ := hi i him
      rw [cellsSChoice] at h1
      obtain ⟨_, hlen, hcell⟩ := World.cells?_some h1
      obtain ⟨q, rfl, hq⟩ := choices_cells hlen h2
      exact ⟨q, hq, hcell 0 (by omega), hcell 1 (by omega), hcell 2 (by omega), hcell 3 (by omega)⟩
    obtain ⟨Q, hQ⟩ := choose_lt (α := Bool × Int × Int × Int) (p := fun i q => ((-128 ≤ q.2.1 ∧ q.2.1 ≤ 127) ∧ (-128 ≤ q.2.2.1 ∧ q.2.2.1 ≤ 127) ∧ (-128 ≤ q.2.2.2 ∧ q.2.2.2 ≤ 127)) ∧ W.cell? ((a.add (i * 4)).add 0) = some (.bool q.1) ∧ W.cell? ((a.add (i * 4)).add 1) = some (.int .i8 q.2.1) ∧ W.cell? ((a.add (i * 4)).add 2) = some (.int .i8 q.2.2.1) ∧ W.cell? ((a.add (i * 4)).add 3) = some (.int .i8 q.2.2.2)) each
    have hget : ∀ k, k < n0 → ((List.range n0).map Q).getD k (false, 0, 0, 0) = Q k := fun k hk => by simp [List.getD, hk]
    refine ⟨some a, c0, (List.range n0).map Q, by simp, by simp; omega, ?_, ?_⟩
    · intro k hk
      have hk' : k < n0 := by simpa using hk
      obtain ⟨b, off, spot⟩ := a
      have z0 := (hQ 0 (by omega)).2.1
      have hspot : spot = none := by simpa [Addr.add] using World.cell?_spot z0
      subst hspot
      have hlt := World.block_lt_of_cell? W _ z0
      obtain ⟨_, c1, c2, c3, c4⟩ := hQ k (by omega)
      rw [Addr.add_lit, Addr.add_lit] at c1 c2 c3 c4
      refine ⟨b, off, rfl, by simpa [Addr.add] using hlt, ?_, ?_, ?_, ?_⟩
      · rw [chA, hget k hk']; exact c1
      · rw [chL, hget k hk']; exact c2
      · rw [chO, hget k hk']; exact c3
      · rw [chT, hget k hk']; exact c4
    · intro k hk
      have hk' : k < n0 := by simpa using hk
      rw [chL, chO, chT, hget k hk']
      exact (hQ k (by omega)).1
end Go.Proofs.YtcepjiglhlmgdaaGreatDoor
