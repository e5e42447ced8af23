import Derived.Test.YtehmkablandefaaGreatDoorGak
import Derived.Test.YtehmkablandefaaGreatDoorGaj
import Derived.Test.YtehmkablandefaaGreatDoorGba
namespace Go.Proofs.YtehmkablandefaaGreatDoor
open Go.ChangeShapes Go.WideShapes Go.ChangeAt Go.RowKit Go.Deep Go.Proofs.YtehmkablandefaaGreatDoor
theorem cellsL : Tryz.prog.cellsOf 27 = 96 := by kernel_rfl
set_option maxRecDepth 100000 in
theorem drum_of {H : Type} {enc : TypeId × Value → H} {W : World} {base b0 : Nat} {r : Reach} {spare : Nat → Bool} {held : Bool} {fuel : Nat} {v : Value} {x : DataW H × List MemPlace}
    (hv : Value.okWide Tryz.prog W r b0 27 v) (h : DataW.trod enc Tryz.prog W base spare held fuel 27 v.cells.toList = some x) :
    ∃ q : Nat → Int, v = .agg (da q) ∧ DWF q := by
  have hv' := hv
  simp only [Value.okWide, Tryz.underlying27] at hv'
  obtain ⟨cs, rfl, hcs, _⟩ := hv'
  rw [cellsL] at hcs
  obtain ⟨xs, m, _, _, _, hl, hel⟩ := DataW.trod_array Tryz.underlying27 h
  have each : ∀ i, i < 96 → ∃ z : Int, cs[i]? = some (.int .u32 z) ∧ (Lit.int .u32 z).wf = true := by
    intro i hi
    have hE := hel i hi
    rw [cellsU, Nat.mul_one, List.getElem?_eq_getElem (by omega)] at hE
    obtain ⟨z, e1, _, hw⟩ := DataW.trod_int Tryz.underlying26 hE
    refine ⟨z, ?_, hw⟩
    have e2 : (((Value.agg cs).cells.toList.drop i).take 1)[0]? = some (.int .u32 z) := by rw [e1]; rfl
    simpa [Value.cells] using e2
  refine ⟨fun i => intOf (cs[i]?.getD undef), ?_, ?_⟩
  · congr 1
    apply Array.ext_getElem?
    intro i
    by_cases hi : i < 96
    · obtain ⟨z, hz, _⟩ := each i hi
      have := dv_get (fun i => intOf (cs[i]?.getD undef)) i hi
      rw [hz]
      simp only [da, List.getElem?_toArray]
      rw [this, hz]
      rfl
    · rw [Array.getElem?_eq_none (by omega), Array.getElem?_eq_none (by rw [da_size]; omega)]
  · intro i hi
    obtain ⟨z, hz, hw⟩ := each i hi
    simp only [hz, Option.getD_some, intOf]
    exact bounds_u32 hw
end Go.Proofs.YtehmkablandefaaGreatDoor
namespace Go.Proofs.YtehmkablandefaaGreatDoor
open Go.ChangeShapes Go.WideShapes Go.ChangeAt Go.RowKit Go.Deep Go.Proofs.YtehmkablandefaaGreatDoor

theorem Tryz.cells109 : Tryz.prog.cellsOf 109 = 2 := by kernel_rfl
theorem Tryz.cells32 : Tryz.prog.cellsOf 32 = 49 := by kernel_rfl
theorem Tryz.cells28 : Tryz.prog.cellsOf 28 = 1 := by kernel_rfl
theorem Tryz.cells30 : Tryz.prog.cellsOf 30 = 48 := by kernel_rfl

theorem secs_of {H : Type} {enc : TypeId × Value → H} {W : World} {base : Nat} {spare : Nat → Bool} {held : Bool} {fuel : Nat} {y : Value} {x : DataW H × List MemPlace}
    (h : DataW.trod enc Tryz.prog W base spare held fuel 28 [y] = some x) :
    ∃ (A : Option Addr) (cap : Nat) (l : List (Int × Int)), y = .slice A l.length cap ∧ l.length ≤ maxLen ∧ SecA W A l ∧ SWF l := by
  rcases open_slice_pairs Tryz.underlying28 Tryz.underlying109 Tryz.cells109 rfl rfl Tryz.cells22 Tryz.cells22 h with ⟨hcs, _⟩ | ⟨a, len, cap, m, n, V0, V1, D0, D1, P0, P1, hcs, _, hl, hm, hmm, _, hi⟩
  · simp at hcs
    subst hcs
    exact ⟨none, 0, [], rfl, by decide, fun k hk => absurd hk (by simp), fun k hk => absurd hk (by simp)⟩
  · simp at hcs
    subst hcs
    have hlm : len ≤ m := by rw [hmm]; split <;> omega
    have each : ∀ i, i < len → ∃ a0 p0 : Int, V0 i = .int .i16 a0 ∧ V1 i = .int .i16 p0 ∧ (-32768 ≤ a0 ∧ a0 ≤ 32767) ∧ (-32768 ≤ p0 ∧ p0 ≤ 32767) := by
      intro i hilt
      obtain ⟨_, _, g0, g1⟩ := hi i (by omega)
      obtain ⟨a0, e0, _, w0⟩ := DataW.trod_int Tryz.underlying22 g0
      obtain ⟨p0, e1, _, w1⟩ := DataW.trod_int Tryz.underlying22 g1
      simp only [List.cons.injEq, and_true] at e0 e1
      exact ⟨a0, p0, e0, e1, bounds_i16 w0, bounds_i16 w1⟩
    refine ⟨some a, cap, (List.range len).map fun i => (intOf (V0 i), intOf (V1 i)), by simp, by simp; omega, ?_, ?_⟩
    · intro k hk
      have hk' : k < len := by simpa using hk
      obtain ⟨a0, p0, e0, e1, _⟩ := each k hk'
      obtain ⟨c0, c1, _⟩ := hi k (by omega)
      obtain ⟨z0, _, _⟩ := hi 0 (by omega)
      obtain ⟨b, off, spot⟩ := a
      have hspot : spot = none := by simpa [Addr.add] using World.cell?_spot z0
      subst hspot
      have hlt := World.block_lt_of_cell? W _ z0
      refine ⟨b, off, rfl, by simpa [Addr.add] using hlt, ?_, ?_⟩
      · rw [Addr.add_lit] at c0
        rw [c0, e0]; simp [secF, List.getD, hk', e0, intOf]
      · rw [Addr.add_lit] at c1
        rw [← Nat.add_assoc] at c1
        rw [c1, e1]; simp [secS, List.getD, hk', e1, intOf]
    · intro k hk
      have hk' : k < len := by simpa using hk
      obtain ⟨a0, p0, e0, e1, b0, b1⟩ := each k hk'
      simp [secF, secS, List.getD, hk', e0, e1, intOf]
      exact ⟨b0, b1⟩

set_option maxRecDepth 100000 in
theorem ord_of {H : Type} {enc : TypeId × Value → H} {W : World} {base : Nat} {spare : Nat → Bool} {held : Bool} {fuel : Nat} {ys : List Value} {x : DataW H × List MemPlace} (hl : ys.length = 48)
    (h : DataW.trod enc Tryz.prog W base spare held fuel 30 ys = some x) : ∃ o : Nat → Int, ys = o48 o ∧ OWF o := by
  obtain ⟨xs, m, _, _, _, hxl, hel⟩ := DataW.trod_array Tryz.underlying30 h
  have each : ∀ i, i < 48 → ∃ z : Int, ys[i]? = some (.int .i8 z) ∧ (Lit.int .i8 z).wf = true := by
    intro i hi
    have hE := hel i hi
    rw [Tryz.cells29, Nat.mul_one, List.getElem?_eq_getElem (by omega)] at hE
    obtain ⟨z, e1, _, hw⟩ := DataW.trod_int Tryz.underlying29 hE
    refine ⟨z, ?_, hw⟩
    have e2 : ((ys.drop i).take 1)[0]? = some (.int .i8 z) := by rw [e1]; rfl
    simpa using e2
  refine ⟨fun i => intOf (ys[i]?.getD undef), ?_, ?_⟩
  · apply List.ext_getElem?
    intro i
    by_cases hi : i < 48
    · obtain ⟨z, hz, _⟩ := each i hi
      rw [o48_get _ i hi, hz]
      rfl
    · rw [List.getElem?_eq_none (by omega), List.getElem?_eq_none (by rw [o48_length]; omega)]
  · intro i hi
    obtain ⟨z, hz, hw⟩ := each i hi
    simp only [hz, Option.getD_some, intOf]
    exact bounds_i8 hw

set_option maxRecDepth 100000 in
theorem programme_of {H : Type} {enc : TypeId × Value → H} {W : World} {base b0 : Nat} {r : Reach} {spare : Nat → Bool} {held : Bool} {fuel : Nat} {v : Value} {x : DataW H × List MemPlace}
    (hv : Value.okWide Tryz.prog W r b0 32 v) (h : DataW.trod enc Tryz.prog W base spare held fuel 32 v.cells.toList = some x) :
    ∃ (A : Option Addr) (cap : Nat) (l : List (Int × Int)) (o : Nat → Int), v = .agg (prA A l.length cap o) ∧ l.length ≤ maxLen ∧ SecA W A l ∧ SWF l ∧ OWF o := by
  obtain ⟨cs, rfl, hcs⟩ := okWide_struct Tryz.underlying32 hv
  rw [Tryz.cells32] at hcs
  obtain ⟨y0, y1, n, _, _, h0, h1⟩ := trod_struct2 Tryz.underlying32 h
  obtain ⟨a, r, hab⟩ : ∃ a r, cs = (a :: r).toArray := by
    obtain ⟨ls⟩ := cs
    match ls, hcs with
    | a :: r, _ => exact ⟨a, r, rfl⟩
  subst hab
  have hr : r.length = 48 := by simpa using hcs
  simp only [Value.cells, List.drop_zero, Tryz.cells28, Tryz.cells30, List.take_succ_cons, List.take_zero] at h0
  have h1' : DataW.trod enc Tryz.prog W base spare held n 30 r = some y1 := by
    have e : (((Value.agg (a :: r).toArray).cells.toList.drop 1).take (Tryz.prog.cellsOf 30)) = r := by
      rw [Tryz.cells30]
      simp [Value.cells, ← hr]
    rw [← e]
    exact h1
  obtain ⟨A, cap, l, rfl, hl, hA, hwf⟩ := secs_of h0
  obtain ⟨o, rfl, ho⟩ := ord_of hr h1'
  exact ⟨A, cap, l, o, rfl, hl, hA, hwf, ho⟩
end Go.Proofs.YtehmkablandefaaGreatDoor
