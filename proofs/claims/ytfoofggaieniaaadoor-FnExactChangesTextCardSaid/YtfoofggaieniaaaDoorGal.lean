import Derived.Test.YtfoofggaieniaaaDoorGab
import Derived.Test.YtfoofggaieniaaaDoorRows
import Derived.ProofKit
import Derived.Deep.SlicePairs
import Derived.OpenShut
import Derived.ChangeSlices
import Derived.Test.YtfoofggaieniaaaDoorCgs
import Derived.Deep.Slices
import Derived.Deep.Strs
namespace Go.Proofs.YtfoofggaieniaaaDoor
open Go.ChangeShapes Go.WideShapes Go.ChangeAt Go.RowKit Go.Deep Go.Proofs.YtfoofggaieniaaaDoor

theorem Tryd.own : ownKnob Tryd.prog.godebug = none := by kernel_rfl
theorem Tryd.laidOut : laidOutB Tryd.prog = true := by kernel_rfl
theorem Tryd.cells30 : Tryd.prog.cellsOf 30 = 1 := by kernel_rfl
theorem Tryd.cells31 : Tryd.prog.cellsOf 31 = 1 := by kernel_rfl
theorem Tryd.cells2 : Tryd.prog.cellsOf 2 = 1 := by kernel_rfl
end Go.Proofs.YtfoofggaieniaaaDoor
namespace Go.Proofs.YtfoofggaieniaaaDoor
open Go.ChangeShapes Go.WideShapes Go.ChangeAt Go.RowKit Go.Deep Go.Proofs.YtfoofggaieniaaaDoor
theorem cellsBl : Tryd.prog.cellsOf 4 = 1 := by kernel_rfl
theorem Tryd.cells35 : Tryd.prog.cellsOf 35 = 3 := by kernel_rfl
set_option maxRecDepth 100000 in
theorem change_cells {H : Type} {enc : TypeId × Value → H} {W : World} {base : Nat} {spare : Nat → Bool} {held : Bool} {fuel : Nat} {cs : List Value} {x : DataW H × List MemPlace}
    (hcs : cs.length = 3) (h : DataW.trod enc Tryd.prog W base spare held fuel 35 cs = some x) : ∃ q : Int × Int × Bool, cs = [.int .i16 q.1, .int .i8 q.2.1, .bool q.2.2] ∧ (-32768 ≤ q.1 ∧ q.1 ≤ 32767) ∧ (-128 ≤ q.2.1 ∧ q.2.1 ≤ 127) := by
  obtain ⟨y0, y1, y2, n, _, _, h0, h1, h2⟩ := trod_struct3 Tryd.underlying35 h
  match cs, hcs with
  | [a, b, c], _ =>
    simp only [Tryd.cells30, Tryd.cells31, cellsBl, List.drop_zero, List.drop_succ_cons, List.take_succ_cons, List.take_zero] at h0 h1 h2
    obtain ⟨s, e0, _, w0⟩ := DataW.trod_int Tryd.underlying30 h0
    obtain ⟨t, e1, _, w1⟩ := DataW.trod_int Tryd.underlying31 h1
    obtain ⟨p, e2, _⟩ := DataW.trod_bool Tryd.underlying4 h2
    simp only [List.cons.injEq, and_true] at e0 e1 e2
    subst e0 e1 e2
    exact ⟨(s, t, p), rfl, bounds_i16 w0, bounds_i8 w1⟩
set_option maxRecDepth 100000 in
theorem changes_of {H : Type} {enc : TypeId × Value → H} {W : World} {base b0 : Nat} {r : Reach} {spare : Nat → Bool} {held : Bool} {fuel : Nat} {v : Value} {x : DataW H × List MemPlace}
    (hv : Value.okWide Tryd.prog W r b0 22 v) (h : DataW.trod enc Tryd.prog W base spare held fuel 22 v.cells.toList = some x) :
    ∃ (A : Option Addr) (cap : Nat) (l : List (Int × Int × Bool)), v = .slice A l.length cap ∧ l.length ≤ maxLen ∧ CgA W A l ∧ CgWF l := by
  obtain ⟨a0, n0, c0, rfl⟩ := okWide_slice Tryd.underlying22 hv
  rcases open_slice Tryd.underlying22 (by simpa [Value.cells] using h) with ⟨hcs, _⟩ | ⟨a, len, cap, m, n, D, Pl, hcs, _, hl, hm, hmm, _, hi⟩
  · simp at hcs
    obtain ⟨rfl, rfl, rfl⟩ := hcs
    exact ⟨none, 0, [], rfl, by decide, fun k hk => absurd hk (by simp), fun k hk => absurd hk (by simp)⟩
  · simp at hcs
    obtain ⟨rfl, rfl, rfl⟩ := hcs
    have hlm : n0 ≤ m := by rw [hmm]; split <;> omega
    have each : ∀ i, i < m → ∃ q : Int × Int × Bool, ((-32768 ≤ q.1 ∧ q.1 ≤ 32767) ∧ (-128 ≤ q.2.1 ∧ q.2.1 ≤ 127)) ∧ W.cell? ((a.add (i * 3)).add 0) = some (.int .i16 q.1) ∧ W.cell? ((a.add (i * 3)).add 1) = some (.int .i8 q.2.1) ∧ W.cell? ((a.add (i * 3)).add 2) = some (.bool q.2.2) := by
      intro i him
      obtain ⟨cs', h1, h2⟩ := hi i him
      rw [Tryd.cells35] at h1
      obtain ⟨_, hlen, hcell⟩ := World.cells?_some h1
      obtain ⟨q, rfl, hq⟩ := change_cells hlen h2
      exact ⟨q, hq, hcell 0 (by omega), hcell 1 (by omega), hcell 2 (by omega)⟩
    obtain ⟨Q, hQ⟩ := choose_lt (α := Int × Int × Bool) (p := fun i q => ((-32768 ≤ q.1 ∧ q.1 ≤ 32767) ∧ (-128 ≤ q.2.1 ∧ q.2.1 ≤ 127)) ∧ W.cell? ((a.add (i * 3)).add 0) = some (.int .i16 q.1) ∧ W.cell? ((a.add (i * 3)).add 1) = some (.int .i8 q.2.1) ∧ W.cell? ((a.add (i * 3)).add 2) = some (.bool q.2.2)) each
    have hget : ∀ k, k < n0 → ((List.range n0).map Q).getD k (0, 0, false) = Q k := fun k hk => by simp [List.getD, hk]
    refine ⟨some a, c0, (List.range n0).map Q, by simp, by simp; omega, ?_, ?_⟩
    · intro k hk
      have hk' : k < n0 := by simpa using hk
      obtain ⟨b, off, spot⟩ := a
      have z0 := (hQ 0 (by omega)).2.1
      have hspot : spot = none := by simpa [Addr.add] using World.cell?_spot z0
      subst hspot
      have hlt := World.block_lt_of_cell? W _ z0
      obtain ⟨_, c1, c2, c3⟩ := hQ k (by omega)
      rw [Addr.add_lit, Addr.add_lit] at c1 c2 c3
      refine ⟨b, off, rfl, by simpa [Addr.add] using hlt, ?_, ?_, ?_⟩
      · rw [cgS, hget k hk']; exact c1
      · rw [cgT, hget k hk']; exact c2
      · rw [cgP, hget k hk']; exact c3
    · intro k hk
      have hk' : k < n0 := by simpa using hk
      rw [cgS, cgT, hget k hk']
      exact (hQ k (by omega)).1
end Go.Proofs.YtfoofggaieniaaaDoor
