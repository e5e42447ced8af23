import Derived.Test.YtcepjiglhlmgdaaDoorGar
import Derived.Test.YtcepjiglhlmgdaaDoorGao
namespace Go.Proofs.YtcepjiglhlmgdaaDoor
open Go.ChangeShapes Go.WideShapes Go.ChangeAt Go.RowKit Go.Deep Go.Proofs.YtcepjiglhlmgdaaDoor
theorem cellsL : Tryd.prog.cellsOf 45 = 96 := by kernel_rfl
set_option maxRecDepth 100000 in
theorem drum_of {H : Type} {enc : TypeId × Value → H} {W : World} {base b0 : Nat} {r : Reach} {spare : Nat → Bool} {held : Bool} {fuel : Nat} {v : Value} {x : DataW H × List MemPlace}
    (hv : Value.okWide Tryd.prog W r b0 45 v) (h : DataW.trod enc Tryd.prog W base spare held fuel 45 v.cells.toList = some x) :
    ∃ q : Nat → Int, v = .agg (da q) ∧ DWF q := by
  have hv' := hv
  simp only [Value.okWide, Tryd.underlying45] at hv'
  obtain ⟨cs, rfl, hcs, _⟩ := hv'
  rw [cellsL] at hcs
  obtain ⟨xs, m, _, _, _, hl, hel⟩ := DataW.trod_array Tryd.underlying45 h
  have each : ∀ i, i < 96 → ∃ z : Int, cs[i]? = some (.int .u32 z) ∧ (Lit.int .u32 z).wf = true := by
    intro i hi
    have hE := hel i hi
    rw [cellsU, Nat.mul_one, List.getElem?_eq_getElem (by omega)] at hE
    obtain ⟨z, e1, _, hw⟩ := DataW.trod_int Tryd.underlying44 hE
    refine ⟨z, ?_, hw⟩
    have e2 : (((Value.agg cs).cells.toList.drop i).take 1)[0]? = some (.int .u32 z) := by rw [e1]; rfl
    simpa [Value.cells] using e2
  refine ⟨fun i => intOf (cs[i]?.getD undef), ?_, ?_⟩
  · congr 1
    apply Array.ext_getElem?
    intro i
    by_cases hi : i < 96
    · obtain ⟨z, hz, _⟩ := each i hi
      have := dv_get (fun i => intOf (cs[i]?.getD undef)) i hi
      rw [hz]
      simp only [da, List.getElem?_toArray]
      rw [this, hz]
      rfl
    · rw [Array.getElem?_eq_none (by omega), Array.getElem?_eq_none (by rw [da_size]; omega)]
  · intro i hi
    obtain ⟨z, hz, hw⟩ := each i hi
    simp only [hz, Option.getD_some, intOf]
    exact bounds_u32 hw
end Go.Proofs.YtcepjiglhlmgdaaDoor
