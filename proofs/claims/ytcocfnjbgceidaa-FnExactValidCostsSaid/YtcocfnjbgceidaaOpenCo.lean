import Derived.Test.YtcocfnjbgceidaaCos
import Derived.Test.YtcocfnjbgceidaaOpn
import Derived.ProofKit
import Derived.Deep.Slices
import Derived.Deep.Strs
import Derived.OpenShut
import Derived.Lib.SmallJoins
namespace Go.Proofs.Ytcocfnjbgceidaa
open Go.ChangeShapes Go.WideShapes Go.ChangeAt Go.RowKit Go.Deep Go.Proofs.Ytcocfnjbgceidaa
theorem cells1Costs : Try.prog.cellsOf 24 = 3 := by kernel_rfl
theorem c1Costsi16 : Try.prog.cellsOf 22 = 1 := by kernel_rfl
set_option maxRecDepth 100000 in
theorem costs_of {H : Type} {enc : TypeId × Value → H} {W : World} {base b0 : Nat} {r : Reach} {spare : Nat → Bool} {held : Bool} {fuel : Nat} {v : Value} {x : DataW H × List MemPlace}
    (hv : Value.okWide Try.prog W r b0 24 v) (h : DataW.trod enc Try.prog W base spare held fuel 24 v.cells.toList = some x) :
    ∃ (x0 : Int) (x1 : Int) (x2 : Int), v = .agg #[.int .i16 x0, .int .i16 x1, .int .i16 x2] ∧ CoWF x0 x1 x2 := by
  obtain ⟨cs, rfl, hcs⟩ := okWide_struct Try.underlying24 hv
  rw [cells1Costs] at hcs
  obtain ⟨y0, y1, y2, n, _, _, h0, h1, h2⟩ := trod_struct3 Try.underlying24 h
  obtain ⟨a0, a1, a2, hab⟩ : ∃ a0 a1 a2, cs = #[a0, a1, a2] := by
    obtain ⟨ls⟩ := cs
    match ls, hcs with
    | [a0, a1, a2], _ => exact ⟨a0, a1, a2, rfl⟩
  subst hab
  simp only [Value.cells, List.drop_zero, List.drop_succ_cons, List.take_succ_cons, List.take_zero, c1Costsi16] at h0 h1 h2
  obtain ⟨x0, e0, _, w0⟩ := DataW.trod_int Try.underlying22 h0
  obtain ⟨x1, e1, _, w1⟩ := DataW.trod_int Try.underlying22 h1
  obtain ⟨x2, e2, _, w2⟩ := DataW.trod_int Try.underlying22 h2
  simp only [List.cons.injEq, and_true] at e0 e1 e2
  subst e0 e1 e2
  exact ⟨x0, x1, x2, rfl, bounds_i16 w0, bounds_i16 w1, bounds_i16 w2⟩
end Go.Proofs.Ytcocfnjbgceidaa
