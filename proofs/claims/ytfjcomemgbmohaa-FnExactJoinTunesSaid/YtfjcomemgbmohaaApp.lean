import Derived.Test.YtfjcomemgbmohaaSrd
import Derived.Lib.AppendZeros
namespace Go.Proofs.Ytfjcomemgbmohaa
open Go.RowKit
theorem NA.cells {w : World} {ad : Addr} {l : List (Int × Int)} (h : NA w (some ad) l) : ∀ j u, (cellsOf l)[j]? = some u → w.cell? (ad.add j) = some u := by
  intro j u hu
  have hj : j < (cellsOf l).length := (List.getElem?_eq_some_iff.1 hu).1
  rw [cellsOf_length] at hj
  obtain ⟨b, o, e, _, c1, c2⟩ := h (j / 2) (by omega)
  obtain rfl : ad = ⟨b, o, none⟩ := Option.some.inj e
  rcases Nat.mod_two_eq_zero_or_one j with h0 | h0
  · have e0 : j = j / 2 * 2 := by omega
    have hv := cellsOf_even l (j / 2) (by omega)
    rw [← e0, hu] at hv
    rw [← e0] at c1
    rw [Option.some.inj hv]
    rw [Addr.add_lit]
    exact c1
  · have e0 : j = j / 2 * 2 + 1 := by omega
    have hv := cellsOf_odd l (j / 2) (by omega)
    rw [← e0, hu] at hv
    have e1 : o + j / 2 * 2 + 1 = o + j := by omega
    rw [e1] at c2
    rw [Option.some.inj hv]
    rw [Addr.add_lit]
    exact c2
theorem NA.none {w : World} {l : List (Int × Int)} (h : NA w none l) : l = [] := by
  rcases Nat.eq_zero_or_pos l.length with e | e
  · exact List.length_eq_zero_iff.1 e
  · obtain ⟨b, o, h1, _⟩ := h 0 e
    cases h1
theorem append_second {P : Program} (w : World) (t t2 ty e e2 : TypeId) (ht : P.underlying t = some (.slice e)) (ht2 : P.underlying t2 = some (.slice e2)) (i : TypeInfo) (hi : P.info? e = some i) (B : Option Addr) (n c : Nat) (x : Value) :
    (Builtin.append_ #[t, t2] ty #[.slice B n c, x]).run P w = (Builtin.append_ #[t, t] ty #[.slice B n c, x]).run P w := by
  simp [Builtin.append_, run_underlying ht, run_underlying ht2, Go.sizeOf, typeInfo, hi]
theorem run_append_none {P : Program} (w : World) (t ty e : TypeId) (i : TypeInfo) (ht : P.underlying t = some (.slice e)) (hi : P.info? e = some i) (base : Nat) (size n m c : Nat) (xs : List Value) (v : Value) (hown : w.ownsRow base e size v n xs) (hm : m = 0) :
    (Builtin.append_ #[t, t] ty #[v, .slice none m c]).run P w = .ok v w := by
  subst hm
  rcases hown.2 with ⟨rfl, rfl⟩ | ⟨g, cap, cur, rfl, _, _, hnc, _⟩
  · simp [Builtin.append_, run_underlying ht, Go.sizeOf, typeInfo, hi, Builtin.lenOf, Builtin.firstCells]
  · simp [Builtin.append_, run_underlying ht, Go.sizeOf, typeInfo, hi, Builtin.lenOf, Builtin.firstCells, hnc, storeCells]
/-- append of notes that lie somewhere to a row of the call's own -/
theorem run_append_na (w : World) (t t2 : TypeId) (e2 : TypeId) (ht : Try.prog.underlying t = some (.slice 46)) (ht2 : Try.prog.underlying t2 = some (.slice e2)) (base : Nat) (i0 : TypeInfo) (hi : Try.prog.info? 46 = some i0)
    (hz0 : i0.zero = some (.agg #[.int .i16 0, .int .i8 0])) (hz1 : i0.size = 2) (hz2 : i0.bytes = 4) (v : Value) (n : Nat) (xs : List Value) (hown : w.ownsRow base 46 2 v n xs) (A : Option Addr) (c : Nat) (l : List (Int × Int)) (hA : NA w A l)
    (hn : n ≤ 4194304) (hl : l.length ≤ 4194304) (hb : base ≤ w.heap.size) :
    ∃ A' c' w', (∀ ty, (Builtin.append_ #[t, t2] ty #[v, .slice A l.length c]).run Try.prog w = .ok (.slice A' (n + l.length) c') w') ∧ w'.ownsRow base 46 2 (.slice A' (n + l.length) c') (n + l.length) (xs ++ cellsOf l) ∧ w.grownBy w' v.ownBlock := by
  cases A with
  | none =>
    obtain rfl := NA.none hA
    obtain ⟨A', c', rfl⟩ := own_shapeT hown
    refine ⟨A', c', w, fun ty => ?_, ?_, ?_⟩
    · rw [append_second w t t2 ty _ e2 ht ht2 i0 hi]
      exact run_append_none w t ty _ i0 ht hi base 2 n _ c xs _ hown rfl
    · simpa [cellsOf_nil] using hown
    · exact grown_refl _ _
  | some ad =>
    obtain ⟨Av, cv, rfl⟩ := own_shapeT hown
    have key : ∀ ty, ∃ v' w', (Builtin.append_ #[t, t] ty #[.slice Av n cv, .slice (some ad) l.length c]).run Try.prog w = .ok v' w' ∧ w'.ownsRow base 46 2 v' (n + l.length) (xs ++ cellsOf l) ∧ w.grownBy w' (Value.slice Av n cv).ownBlock ∧ (v' = .slice none 0 0 ↔ Value.slice Av n cv = .slice none 0 0 ∧ l.length = 0) := fun ty =>
      run_append_own w base t ty 46 i0 (.agg #[.int .i16 0, .int .i8 0]) 2 4 ht hi hz0 hz1 hz2 rfl (by decide) _ n xs hown ad l.length c (cellsOf l) (cellsOf_length l) (NA.cells hA) (cellsOf_one l) (by unfold maxLen; omega) (by omega) hb
    obtain ⟨v', w', hr, h2, h3, _⟩ := key 0
    obtain ⟨A', c', rfl⟩ := own_shapeT h2
    refine ⟨A', c', w', fun ty => ?_, h2, h3⟩
    rw [append_second w t t2 ty _ e2 ht ht2 i0 hi]
    exact hr
theorem WF.append {l m : List (Int × Int)} (hl : WF l) (hm : WF m) : WF (l ++ m) := by
  intro k hk
  rw [List.length_append] at hk
  rcases Nat.lt_or_ge k l.length with h | h
  · have := hl k h
    simpa [nAt, nPi, List.getD, List.getElem?_append_left h] using this
  · have := hm (k - l.length) (by omega)
    simpa [nAt, nPi, List.getD, List.getElem?_append_right h] using this
end Go.Proofs.Ytfjcomemgbmohaa
