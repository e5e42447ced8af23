import Derived.Test.YtcocfnjbgceidaaChv
import Derived.Test.YtcocfnjbgceidaaOpn
import Derived.ProofKit
import Derived.Deep.Slices
import Derived.Deep.Strs
import Derived.OpenShut
import Derived.Lib.SmallJoins
namespace Go.Proofs.Ytcocfnjbgceidaa
open Go.ChangeShapes Go.WideShapes Go.ChangeAt Go.RowKit Go.Deep Go.Joins Go.Proofs.Ytcocfnjbgceidaa
theorem cells1Choice : Try.prog.cellsOf 31 = 4 := by kernel_rfl
theorem c1Choicebool : Try.prog.cellsOf 4 = 1 := by kernel_rfl
theorem c1Choicei8 : Try.prog.cellsOf 29 = 1 := by kernel_rfl
set_option maxRecDepth 100000 in
theorem choice_of {H : Type} {enc : TypeId × Value → H} {W : World} {base b0 : Nat} {r : Reach} {spare : Nat → Bool} {held : Bool} {fuel : Nat} {v : Value} {x : DataW H × List MemPlace}
    (hv : Value.okWide Try.prog W r b0 31 v) (h : DataW.trod enc Try.prog W base spare held fuel 31 v.cells.toList = some x) :
    ∃ (x0 : Bool) (x1 : Int) (x2 : Int) (x3 : Int), v = .agg #[.bool x0, .int .i8 x1, .int .i8 x2, .int .i8 x3] ∧ XcWF x0 x1 x2 x3 := by
  obtain ⟨cs, rfl, hcs⟩ := okWide_struct Try.underlying31 hv
  rw [cells1Choice] at hcs
  obtain ⟨y0, y1, y2, y3, n, _, _, h0, h1, h2, h3⟩ := trod_struct4 Try.underlying31 h
  obtain ⟨a0, a1, a2, a3, hab⟩ : ∃ a0 a1 a2 a3, cs = #[a0, a1, a2, a3] := by
    obtain ⟨ls⟩ := cs
    match ls, hcs with
    | [a0, a1, a2, a3], _ => exact ⟨a0, a1, a2, a3, rfl⟩
  subst hab
  simp only [Value.cells, List.drop_zero, List.drop_succ_cons, List.take_succ_cons, List.take_zero, c1Choicebool, c1Choicei8] at h0 h1 h2 h3
  obtain ⟨x0, e0, _⟩ := DataW.trod_bool Try.underlying4 h0
  obtain ⟨x1, e1, _, w1⟩ := DataW.trod_int Try.underlying29 h1
  obtain ⟨x2, e2, _, w2⟩ := DataW.trod_int Try.underlying29 h2
  obtain ⟨x3, e3, _, w3⟩ := DataW.trod_int Try.underlying29 h3
  simp only [List.cons.injEq, and_true] at e0 e1 e2 e3
  subst e0 e1 e2 e3
  exact ⟨x0, x1, x2, x3, rfl, bounds_i8 w1, bounds_i8 w2, bounds_i8 w3⟩
end Go.Proofs.Ytcocfnjbgceidaa
