import Derived.Test.YtcepjiglhlmgdaaGreatDoorGbs
import Derived.Test.YtcepjiglhlmgdaaGreatDoorGbr
import Derived.Test.YtcepjiglhlmgdaaGreatDoorGan
import Derived.Test.YtcepjiglhlmgdaaGreatDoorGal
namespace Go.Proofs.YtcepjiglhlmgdaaGreatDoor
open Go.RowKit

/-- a slice's address, at whatever offset, under which pairs of numbers lie -/
def SO (w : World) (A : Option Addr) (n : Nat) (zs : List Int) : Prop := ∀ k, k < n → ∃ b o, A = some ⟨b, o, none⟩ ∧ b < w.heap.size ∧ w.cell? ⟨b, o + k * 2, none⟩ = some (.int .i64 (zAt zs (k * 2))) ∧ w.cell? ⟨b, o + k * 2 + 1, none⟩ = some (.int .i64 (zAt zs (k * 2 + 1)))
theorem SO.below {w w' : World} {A : Option Addr} {n : Nat} {zs : List Int} (h : SO w A n zs) (hb : Below w.heap.size w w') : SO w' A n zs := fun k hk => by
  obtain ⟨b, o, h1, h2, h3, h4⟩ := h k hk
  exact ⟨b, o, h1, Nat.lt_of_lt_of_le h2 hb.size, (hb.cell (p := ⟨b, _, none⟩) h2).trans h3, (hb.cell (p := ⟨b, _, none⟩) h2).trans h4⟩
def zup (zs : List Int) (k : Nat) : List Int := (List.range zs.length).map fun i => if i < k then zAt zs i else 0
theorem zup_length (zs : List Int) (k : Nat) : (zup zs k).length = zs.length := by simp [zup]
theorem zup_all (zs : List Int) : zup zs zs.length = zs := by
  apply List.ext_getElem?
  intro i
  by_cases h : i < zs.length
  · simp [zup, zAt, h]
  · rw [List.getElem?_eq_none (by rw [zup_length]; omega), List.getElem?_eq_none (by omega)]
theorem zup_set (zs : List Int) (k : Nat) (h : k < zs.length) : (zup zs k).set k (zAt zs k) = zup zs (k + 1) := by
  apply List.ext_getElem?
  intro i
  rw [List.getElem?_set, zup_length]
  by_cases e : k = i
  · subst e
    simp [zup, h]
  · rw [if_neg e]
    by_cases hi : i < zs.length
    · have : (i < k) ↔ (i < k + 1) := by omega
      simp [zup, hi, this]
    · rw [List.getElem?_eq_none (by rw [zup_length]; omega), List.getElem?_eq_none (by rw [zup_length]; omega)]
theorem zup_zero (zs : List Int) (n : Nat) (h : zs.length = n * 2) : icells (zup zs 0) = (madeCells #[.int .i64 0, .int .i64 0] (n * 2)).toList := by
  apply List.ext_getElem?
  intro j
  by_cases hj : j < n * 2
  · have hm : j % 2 = 0 ∨ j % 2 = 1 := by omega
    rcases hm with hm | hm <;> simp [icells, zup, madeCells, h, hj, hm]
  · rw [List.getElem?_eq_none (by rw [icells_length, zup_length]; omega), List.getElem?_eq_none (by simp [madeCells]; omega)]

end Go.Proofs.YtcepjiglhlmgdaaGreatDoor
namespace Go.Proofs.YtcepjiglhlmgdaaGreatDoor
open Go.ChangeShapes Go.WideShapes Go.ChangeAt Go.RowKit Go.Deep Go.Proofs.YtcepjiglhlmgdaaGreatDoor
theorem cellsL : Tryz.prog.cellsOf 52 = 96 := by kernel_rfl
set_option maxRecDepth 100000 in
theorem drum_of {H : Type} {enc : TypeId × Value → H} {W : World} {base b0 : Nat} {r : Reach} {spare : Nat → Bool} {held : Bool} {fuel : Nat} {v : Value} {x : DataW H × List MemPlace}
    (hv : Value.okWide Tryz.prog W r b0 52 v) (h : DataW.trod enc Tryz.prog W base spare held fuel 52 v.cells.toList = some x) :
    ∃ q : Nat → Int, v = .agg (da q) ∧ DWF q := by
  have hv' := hv
  simp only [Value.okWide, Tryz.underlying52] at hv'
  obtain ⟨cs, rfl, hcs, _⟩ := hv'
  rw [cellsL] at hcs
  obtain ⟨xs, m, _, _, _, hl, hel⟩ := DataW.trod_array Tryz.underlying52 h
  have each : ∀ i, i < 96 → ∃ z : Int, cs[i]? = some (.int .u32 z) ∧ (Lit.int .u32 z).wf = true := by
    intro i hi
    have hE := hel i hi
    rw [cellsU, Nat.mul_one, List.getElem?_eq_getElem (by omega)] at hE
    obtain ⟨z, e1, _, hw⟩ := DataW.trod_int Tryz.underlying51 hE
    refine ⟨z, ?_, hw⟩
    have e2 : (((Value.agg cs).cells.toList.drop i).take 1)[0]? = some (.int .u32 z) := by rw [e1]; rfl
    simpa [Value.cells] using e2
  refine ⟨fun i => intOf (cs[i]?.getD undef), ?_, ?_⟩
  · congr 1
    apply Array.ext_getElem?
    intro i
    by_cases hi : i < 96
    · obtain ⟨z, hz, _⟩ := each i hi
      have := dv_get (fun i => intOf (cs[i]?.getD undef)) i hi
      rw [hz]
      simp only [da, List.getElem?_toArray]
      rw [this, hz]
      rfl
    · rw [Array.getElem?_eq_none (by omega), Array.getElem?_eq_none (by rw [da_size]; omega)]
  · intro i hi
    obtain ⟨z, hz, hw⟩ := each i hi
    simp only [hz, Option.getD_some, intOf]
    exact bounds_u32 hw
end Go.Proofs.YtcepjiglhlmgdaaGreatDoor
namespace Go.Proofs.YtcepjiglhlmgdaaGreatDoor
open Go.ChangeShapes Go.WideShapes Go.ChangeAt Go.RowKit Go.Deep
/-- the seven errors lie somewhere -/
def ErrW (w : World) : Prop := ∃ p, ErrP p w
theorem ErrW.keep {w w' : World} (h : ErrW w) (hb : Below w.heap.size w w') : ErrW w' := let ⟨p, hp⟩ := h; ⟨p, hp.keep hb⟩
theorem cellsI : Tryz.prog.cellsOf 2 = 1 := by kernel_rfl
end Go.Proofs.YtcepjiglhlmgdaaGreatDoor
