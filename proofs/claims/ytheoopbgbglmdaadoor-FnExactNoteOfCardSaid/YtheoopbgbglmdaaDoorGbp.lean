import Derived.Test.YtheoopbgbglmdaaDoorChv
import Derived.Test.YtheoopbgbglmdaaDoorGan
import Derived.ProofKit
import Derived.Deep.Slices
import Derived.Deep.Strs
import Derived.OpenShut
import Derived.Lib.SmallJoins
import Derived.Test.YtheoopbgbglmdaaDoorNo7
namespace Go.Proofs.YtheoopbgbglmdaaDoor
open Go.ChangeShapes Go.WideShapes Go.ChangeAt Go.RowKit Go.Deep Go.Joins Go.Proofs.YtheoopbgbglmdaaDoor
theorem cells1Choice : Tryd.prog.cellsOf 27 = 4 := by kernel_rfl
theorem c1Choicebool : Tryd.prog.cellsOf 4 = 1 := by kernel_rfl
theorem c1Choicei8 : Tryd.prog.cellsOf 23 = 1 := by kernel_rfl
set_option maxRecDepth 100000 in
theorem choice_of {H : Type} {enc : TypeId × Value → H} {W : World} {base b0 : Nat} {r : Reach} {spare : Nat → Bool} {held : Bool} {fuel : Nat} {v : Value} {x : DataW H × List MemPlace}
    (hv : Value.okWide Tryd.prog W r b0 27 v) (h : DataW.trod enc Tryd.prog W base spare held fuel 27 v.cells.toList = some x) :
    ∃ (x0 : Bool) (x1 : Int) (x2 : Int) (x3 : Int), v = .agg #[.bool x0, .int .i8 x1, .int .i8 x2, .int .i8 x3] ∧ XcWF x0 x1 x2 x3 := by
  obtain ⟨cs, rfl, hcs⟩ := okWide_struct Tryd.underlying27 hv
  rw [cells1Choice] at hcs
  obtain ⟨y0, y1, y2, y3, n, _, _, h0, h1, h2, h3⟩ := trod_struct4 Tryd.underlying27 h
  obtain ⟨a0, a1, a2, a3, hab⟩ : ∃ a0 a1 a2 a3, cs = #[a0, a1, a2, a3] := by
    obtain ⟨ls⟩ := cs
    match ls, hcs with
    | [a0, a1, a2, a3], _ => exact ⟨a0, a1, a2, a3, rfl⟩
  subst hab
  simp only [Value.cells, List.drop_zero, List.drop_succ_cons, List.take_succ_cons, List.take_zero, c1Choicebool, c1Choicei8] at h0 h1 h2 h3
  obtain ⟨x0, e0, _⟩ := DataW.trod_bool Tryd.underlying4 h0
  obtain ⟨x1, e1, _, w1⟩ := DataW.trod_int Tryd.underlying23 h1
  obtain ⟨x2, e2, _, w2⟩ := DataW.trod_int Tryd.underlying23 h2
  obtain ⟨x3, e3, _, w3⟩ := DataW.trod_int Tryd.underlying23 h3
  simp only [List.cons.injEq, and_true] at e0 e1 e2 e3
  subst e0 e1 e2 e3
  exact ⟨x0, x1, x2, x3, rfl, bounds_i8 w1, bounds_i8 w2, bounds_i8 w3⟩
end Go.Proofs.YtheoopbgbglmdaaDoor
namespace Go.Proofs.YtheoopbgbglmdaaDoor
open Go.ChangeShapes Go.WideShapes Go.ChangeAt Go.RowKit Go.Deep Go.Joins Go.Proofs.YtheoopbgbglmdaaDoor
theorem cells1Note : Tryd.prog.cellsOf 25 = 2 := by kernel_rfl
theorem c1Notei16 : Tryd.prog.cellsOf 22 = 1 := by kernel_rfl
theorem c1Notei8 : Tryd.prog.cellsOf 23 = 1 := by kernel_rfl
set_option maxRecDepth 100000 in
theorem note_of {H : Type} {enc : TypeId × Value → H} {W : World} {base b0 : Nat} {r : Reach} {spare : Nat → Bool} {held : Bool} {fuel : Nat} {v : Value} {x : DataW H × List MemPlace}
    (hv : Value.okWide Tryd.prog W r b0 25 v) (h : DataW.trod enc Tryd.prog W base spare held fuel 25 v.cells.toList = some x) :
    ∃ (x0 : Int) (x1 : Int), v = .agg #[.int .i16 x0, .int .i8 x1] ∧ NoWF x0 x1 := by
  obtain ⟨cs, rfl, hcs⟩ := okWide_struct Tryd.underlying25 hv
  rw [cells1Note] at hcs
  obtain ⟨y0, y1, n, _, _, h0, h1⟩ := trod_struct2 Tryd.underlying25 h
  obtain ⟨a0, a1, hab⟩ : ∃ a0 a1, cs = #[a0, a1] := by
    obtain ⟨ls⟩ := cs
    match ls, hcs with
    | [a0, a1], _ => exact ⟨a0, a1, rfl⟩
  subst hab
  simp only [Value.cells, List.drop_zero, List.drop_succ_cons, List.take_succ_cons, List.take_zero, c1Notei16, c1Notei8] at h0 h1
  obtain ⟨x0, e0, _, w0⟩ := DataW.trod_int Tryd.underlying22 h0
  obtain ⟨x1, e1, _, w1⟩ := DataW.trod_int Tryd.underlying23 h1
  simp only [List.cons.injEq, and_true] at e0 e1
  subst e0 e1
  exact ⟨x0, x1, rfl, bounds_i16 w0, bounds_i8 w1⟩
end Go.Proofs.YtheoopbgbglmdaaDoor
