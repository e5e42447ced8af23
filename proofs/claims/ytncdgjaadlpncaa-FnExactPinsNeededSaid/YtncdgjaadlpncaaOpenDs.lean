import Derived.Test.YtncdgjaadlpncaaOpenD
import Derived.Test.YtncdgjaadlpncaaDs
namespace Go.Proofs.Ytncdgjaadlpncaa
open Go.ChangeShapes Go.WideShapes Go.ChangeAt Go.RowKit Go.Deep Go.Proofs.Ytncdgjaadlpncaa
set_option maxRecDepth 100000 in
theorem drum_cells {H : Type} {enc : TypeId × Value → H} {W : World} {base : Nat} {spare : Nat → Bool} {held : Bool} {fuel : Nat} {cs : List Value} {x : DataW H × List MemPlace}
    (hcs : cs.length = 96) (h : DataW.trod enc Try.prog W base spare held fuel 27 cs = some x) : ∃ q : Nat → Int, cs = dv q ∧ DWF q := by
  obtain ⟨xs, m, _, _, _, hl, hel⟩ := DataW.trod_array Try.underlying27 h
  have each : ∀ i, i < 96 → ∃ z : Int, cs[i]? = some (.int .u32 z) ∧ (Lit.int .u32 z).wf = true := by
    intro i hi
    have hE := hel i hi
    rw [cellsU, Nat.mul_one, List.getElem?_eq_getElem (by omega)] at hE
    obtain ⟨z, e1, _, hw⟩ := DataW.trod_int Try.underlying26 hE
    refine ⟨z, ?_, hw⟩
    have e2 : ((cs.drop i).take 1)[0]? = some (.int .u32 z) := by rw [e1]; rfl
    simpa using e2
  refine ⟨fun i => intOf (cs[i]?.getD undef), ?_, ?_⟩
  · apply List.ext_getElem?
    intro i
    by_cases hi : i < 96
    · obtain ⟨z, hz, _⟩ := each i hi
      rw [dv_get _ i hi, hz]
      rfl
    · rw [List.getElem?_eq_none (by omega), List.getElem?_eq_none (by rw [dv_length]; omega)]
  · intro i hi
    obtain ⟨z, hz, hw⟩ := each i hi
    simp only [hz, Option.getD_some, intOf]
    exact bounds_u32 hw
set_option maxRecDepth 100000 in
theorem drums_of {H : Type} {enc : TypeId × Value → H} {W : World} {base b0 : Nat} {r : Reach} {spare : Nat → Bool} {held : Bool} {fuel : Nat} {v : Value} {x : DataW H × List MemPlace}
    (hv : Value.okWide Try.prog W r b0 57 v) (h : DataW.trod enc Try.prog W base spare held fuel 57 v.cells.toList = some x) :
    ∃ (A : Option Addr) (cap : Nat) (ds : List (Nat → Int)), v = .slice A ds.length cap ∧ ds.length ≤ maxLen ∧ DsA W A ds ∧ DsWF ds := by
  obtain ⟨a0, n0, c0, rfl⟩ := okWide_slice Try.underlying57 hv
  rcases open_slice Try.underlying57 (by simpa [Value.cells] using h) with ⟨hcs, _⟩ | ⟨a, len, cap, m, n, D, Pl, hcs, _, hl, hm, hmm, _, hi⟩
  · simp at hcs
    obtain ⟨rfl, rfl, rfl⟩ := hcs
    exact ⟨none, 0, [], rfl, by decide, fun k hk => absurd hk (by simp), fun k hk => absurd hk (by simp)⟩
  · simp at hcs
    obtain ⟨rfl, rfl, rfl⟩ := hcs
    have hlm : n0 ≤ m := by rw [hmm]; split <;> omega
    have each : ∀ i, i < m → ∃ q : Nat → Int, DWF q ∧ ∀ j, j < 96 → W.cell? ((a.add (i * 96)).add j) = some (.int .u32 (q j)) := by
      intro i him
      obtain ⟨cs', h1, h2⟩ := hi i him
      rw [cellsL] at h1
      obtain ⟨_, hlen, hcell⟩ := World.cells?_some h1
      obtain ⟨q, rfl, hq⟩ := drum_cells hlen h2
      exact ⟨q, hq, fun j hj => (hcell j hj).trans (dv_get q j hj)⟩
    obtain ⟨Q, hQ⟩ := choose_lt (α := Nat → Int) (p := fun i q => DWF q ∧ ∀ j, j < 96 → W.cell? ((a.add (i * 96)).add j) = some (.int .u32 (q j))) each
    have hget : ∀ k, k < n0 → ((List.range n0).map Q).getD k (fun _ => 0) = Q k := fun k hk => by simp [List.getD, hk]
    refine ⟨some a, c0, (List.range n0).map Q, by simp, by simp; omega, ?_, ?_⟩
    · intro k hk
      have hk' : k < n0 := by simpa using hk
      obtain ⟨b, off, spot⟩ := a
      have z0 := (hQ 0 (by omega)).2 0 (by omega)
      have hspot : spot = none := by simpa [Addr.add] using World.cell?_spot z0
      subst hspot
      have hlt := World.block_lt_of_cell? W _ z0
      refine ⟨b, off, rfl, by simpa [Addr.add] using hlt, ?_⟩
      rw [hget k hk']
      intro j v hv
      have hj : j < 96 := by
        rcases Nat.lt_or_ge j 96 with h | h
        · exact h
        · rw [List.getElem?_eq_none (by rw [dv_length]; exact h)] at hv; cases hv
      rw [dv_get _ j hj] at hv
      have c1 := (hQ k (by omega)).2 j hj
      rw [Addr.add_mid, Addr.add_mid] at c1
      rw [c1, hv]
    · intro k hk
      have hk' : k < n0 := by simpa using hk
      rw [hget k hk']
      exact (hQ k (by omega)).1
end Go.Proofs.Ytncdgjaadlpncaa
