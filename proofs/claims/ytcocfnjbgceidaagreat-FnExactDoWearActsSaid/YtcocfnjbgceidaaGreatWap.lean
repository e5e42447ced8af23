import Derived.Test.YtcocfnjbgceidaaGreatGav
import Derived.Test.YtcocfnjbgceidaaGreatGat
namespace Go.Proofs.YtcocfnjbgceidaaGreat
open Go.RowKit Go.Maps
theorem wnA_none {w : World} {l : List (Int × Int × Int)} (h : WnA w none l) : l = [] := by
  rcases Nat.eq_zero_or_pos l.length with e | e
  · exact List.length_eq_zero_iff.1 e
  · obtain ⟨b, o, h1, _⟩ := h 0 e
    cases h1
theorem WnA.cells {w : World} {ad : Addr} {l : List (Int × Int × Int)} (h : WnA w (some ad) l) : ∀ j u, (wnC l)[j]? = some u → w.cell? (ad.add j) = some u := by
  intro j u hu
  have hj : j < (wnC l).length := (List.getElem?_eq_some_iff.1 hu).1
  rw [wnC_length] at hj
  obtain ⟨b, o, e, _, c1, c2, c3⟩ := h (j / 3) (by omega)
  obtain ⟨v1, v2, v3⟩ := wnC_at l (j / 3) (by omega)
  obtain rfl : ad = ⟨b, o, none⟩ := Option.some.inj e
  rw [Addr.add_lit]
  have hm : j % 3 = 0 ∨ j % 3 = 1 ∨ j % 3 = 2 := by omega
  rcases hm with h0 | h0 | h0
  · have e0 : j / 3 * 3 = j := by omega
    rw [e0] at c1 v1
    rw [c1, ← hu, v1]
  · have e0 : j / 3 * 3 + 1 = j := by omega
    have e1 : o + j / 3 * 3 + 1 = o + j := by omega
    rw [e0] at v2
    rw [e1] at c2
    rw [c2, ← hu, v2]
  · have e0 : j / 3 * 3 + 2 = j := by omega
    have e1 : o + j / 3 * 3 + 2 = o + j := by omega
    rw [e0] at v3
    rw [e1] at c3
    rw [c3, ← hu, v3]
theorem wnC_one (l : List (Int × Int × Int)) : ∀ u ∈ wnC l, u.oneCell' = true := by
  intro u hu
  simp only [wnC, List.mem_flatMap] at hu
  obtain ⟨n, _, hu⟩ := hu
  simp at hu
  rcases hu with rfl | rfl | rfl <;> rfl
/-- append of worn pins that lie somewhere to a row of the call's own -/
theorem run_append_wn (w : World) (t : TypeId) (ht : Tryz.prog.underlying t = some (.slice 97)) (base : Nat) (i0 : TypeInfo) (hi : Tryz.prog.info? 97 = some i0)
    (hz0 : i0.zero = some (.agg #[.int .i8 0, .int .i8 0, .int .i64 0])) (hz1 : i0.size = 3) (hz2 : i0.bytes = 16) (v : Value) (n : Nat) (xs : List Value) (hown : w.ownsRow base 97 3 v n xs) (A : Option Addr) (c : Nat) (l : List (Int × Int × Int)) (hA : WnA w A l)
    (hn : n ≤ 4194304) (hl : l.length ≤ 4194304) (hb : base ≤ w.heap.size) :
    ∃ A' c' w', (∀ ty, (Builtin.append_ #[t, t] ty #[v, .slice A l.length c]).run Tryz.prog w = .ok (.slice A' (n + l.length) c') w') ∧ w'.ownsRow base 97 3 (.slice A' (n + l.length) c') (n + l.length) (xs ++ wnC l) ∧ w.grownBy w' v.ownBlock := by
  obtain ⟨Av, cv, rfl⟩ := own_shapeZ hown
  cases A with
  | none =>
    obtain rfl := wnA_none hA
    refine ⟨Av, cv, w, fun ty => ?_, ?_, ?_⟩
    · exact run_append_none w t ty _ i0 ht hi base 3 n _ c xs _ hown rfl
    · simpa [wnC_nil] using hown
    · exact ⟨rfl, rfl, rfl, Nat.le_refl _, fun _ _ _ => rfl⟩
  | some ad =>
    have key : ∀ ty, ∃ v' w', (Builtin.append_ #[t, t] ty #[.slice Av n cv, .slice (some ad) l.length c]).run Tryz.prog w = .ok v' w' ∧ w'.ownsRow base 97 3 v' (n + l.length) (xs ++ wnC l) ∧ w.grownBy w' (Value.slice Av n cv).ownBlock ∧ (v' = .slice none 0 0 ↔ Value.slice Av n cv = .slice none 0 0 ∧ l.length = 0) := fun ty =>
      run_append_own w base t ty 97 i0 (.agg #[.int .i8 0, .int .i8 0, .int .i64 0]) 3 16 ht hi hz0 hz1 hz2 rfl (by decide) _ n xs hown ad l.length c (wnC l) (wnC_length l) (WnA.cells hA) (wnC_one l) (by unfold maxLen; omega) (by omega) hb
    obtain ⟨v', w', hr, h2, h3, _⟩ := key 0
    obtain ⟨A', c', rfl⟩ := own_shapeZ h2
    exact ⟨A', c', w', fun ty => hr, h2, h3⟩
/-- the like for numbers, of a slice that may be nil -/
theorem run_append_zn (w : World) (t : TypeId) (ht : Tryz.prog.underlying t = some (.slice 2)) (base : Nat) (i0 : TypeInfo) (hi : Tryz.prog.info? 2 = some i0)
    (hz0 : i0.zero = some (.int .i64 0)) (hz1 : i0.size = 1) (hz2 : i0.bytes = 8) (v : Value) (n : Nat) (xs : List Value) (hown : w.ownsRow base 2 1 v n xs) (A : Option Addr) (c : Nat) (l : List Int) (hA : SZ w A l)
    (hn : n ≤ 4194304) (hl : l.length ≤ 4194304) (hb : base ≤ w.heap.size) :
    ∃ A' c' w', (∀ ty, (Builtin.append_ #[t, t] ty #[v, .slice A l.length c]).run Tryz.prog w = .ok (.slice A' (n + l.length) c') w') ∧ w'.ownsRow base 2 1 (.slice A' (n + l.length) c') (n + l.length) (xs ++ icells l) ∧ w.grownBy w' v.ownBlock := by
  cases A with
  | none =>
    obtain ⟨Av, cv, rfl⟩ := own_shapeZ hown
    obtain rfl := SZ.none hA
    refine ⟨Av, cv, w, fun ty => ?_, ?_, ?_⟩
    · exact run_append_none w t ty _ i0 ht hi base 1 n _ c xs _ hown rfl
    · simpa [icells] using hown
    · exact ⟨rfl, rfl, rfl, Nat.le_refl _, fun _ _ _ => rfl⟩
  | some ad => exact run_append_z w t ht base i0 hi hz0 hz1 hz2 v n xs hown ad c l hA hn hl hb
end Go.Proofs.YtcocfnjbgceidaaGreat
