import Derived.Test.YtakdnmakgblamaaLiv
import Derived.Test.YtakdnmakgblamaaOpn
namespace Go.Proofs.Ytakdnmakgblamaa
open Go.ChangeShapes Go.WideShapes Go.ChangeAt Go.RowKit Go.Deep Go.Proofs.Ytakdnmakgblamaa
theorem Try.cells23 : Try.prog.cellsOf 23 = 2 := by kernel_rfl
set_option maxRecDepth 100000 in
theorem lives_of {H : Type} {enc : TypeId × Value → H} {W : World} {base b0 : Nat} {r : Reach} {spare : Nat → Bool} {held : Bool} {fuel : Nat} {v : Value} {x : DataW H × List MemPlace}
    (hv : Value.okWide Try.prog W r b0 23 v) (h : DataW.trod enc Try.prog W base spare held fuel 23 v.cells.toList = some x) :
    ∃ (p q : Int), v = .agg #[.int .i64 p, .int .i64 q] ∧ LvWF p q := by
  obtain ⟨cs, rfl, hcs⟩ := okWide_struct Try.underlying23 hv
  rw [Try.cells23] at hcs
  obtain ⟨y0, y1, n, _, _, h0, h1⟩ := trod_struct2 Try.underlying23 h
  obtain ⟨a, b, hab⟩ : ∃ a b, cs = #[a, b] := by
    obtain ⟨ls⟩ := cs
    match ls, hcs with
    | [a, b], _ => exact ⟨a, b, rfl⟩
  subst hab
  simp only [Value.cells, List.drop_zero, Try.cells2] at h0 h1
  obtain ⟨p, e0, _, w0⟩ := DataW.trod_int Try.underlying2 h0
  obtain ⟨q, e1, _, w1⟩ := DataW.trod_int Try.underlying2 h1
  simp at e0 e1
  subst e0 e1
  exact ⟨p, q, rfl, bounds_i64 w0, bounds_i64 w1⟩
end Go.Proofs.Ytakdnmakgblamaa
