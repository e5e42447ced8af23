import Derived.Test.YtehcghaficbhiaaFrm
import Derived.Test.YtehcghaficbhiaaApg
import Derived.Maps.OwnOps
import Derived.Lib.SliceRun
namespace Go.Proofs.Ytehcghaficbhiaa
open Go.RowKit
theorem HA.cells {w : World} {ad : Addr} {l : List (Int × Int)} (h : HA w (some ad) l) : ∀ j u, (hcells l)[j]? = some u → w.cell? (ad.add j) = some u := by
  intro j u hu
  have hj : j < (hcells l).length := (List.getElem?_eq_some_iff.1 hu).1
  rw [hcells_length] at hj
  obtain ⟨b, o, e, _, c1, c2⟩ := h (j / 2) (by omega)
  obtain rfl : ad = ⟨b, o, none⟩ := Option.some.inj e
  rcases Nat.mod_two_eq_zero_or_one j with h0 | h0
  · have e0 : j = j / 2 * 2 := by omega
    have hv := hcells_even l (j / 2) (by omega)
    rw [← e0, hu] at hv
    rw [← e0] at c1
    rw [Option.some.inj hv]
    rw [Addr.add_lit]
    exact c1
  · have e0 : j = j / 2 * 2 + 1 := by omega
    have hv := hcells_odd l (j / 2) (by omega)
    rw [← e0, hu] at hv
    have e1 : o + j / 2 * 2 + 1 = o + j := by omega
    rw [e1] at c2
    rw [Option.some.inj hv]
    rw [Addr.add_lit]
    exact c2
theorem HA.none {w : World} {l : List (Int × Int)} (h : HA w none l) : l = [] := by
  rcases Nat.eq_zero_or_pos l.length with e | e
  · exact List.length_eq_zero_iff.1 e
  · obtain ⟨b, o, h1, _⟩ := h 0 e
    cases h1
theorem hcells_one (l : List (Int × Int)) : ∀ u ∈ hcells l, u.oneCell' = true := by
  intro u hu
  simp only [hcells, List.mem_flatMap] at hu
  obtain ⟨n, _, hu⟩ := hu
  simp at hu
  rcases hu with rfl | rfl <;> rfl
theorem own_shapeH {w : World} {base : Nat} {e : TypeId} {size n : Nat} {v : Value} {xs : List Value} (h : w.ownsRow base e size v n xs) : ∃ A c, v = .slice A n c := by
  rcases h.2 with ⟨rfl, rfl⟩ | ⟨g, cap, cur, rfl, _⟩
  · exact ⟨_, _, rfl⟩
  · exact ⟨_, _, rfl⟩
theorem own_emptyH {w : World} {base : Nat} (t : TypeId) (size : Nat) (h : base ≤ w.heap.size) : (w.alloc (.cells #[] t)).ownsRow base t size (.slice (some ⟨w.heap.size, 0, none⟩) 0 0) 0 [] :=
  World.ownsRow_made w #[] 0 h (by unfold maxLen; omega) (by simp)
/-- append of hammers that lie somewhere to a row of the call's own -/
theorem run_append_ha (w : World) (t t2 : TypeId) (e2 : TypeId) (ht : Try.prog.underlying t = some (.slice 49)) (ht2 : Try.prog.underlying t2 = some (.slice e2)) (base : Nat) (i0 : TypeInfo) (hi : Try.prog.info? 49 = some i0)
    (hz0 : i0.zero = some (.agg #[.int .i8 0, .int .i8 0])) (hz1 : i0.size = 2) (hz2 : i0.bytes = 2) (v : Value) (n : Nat) (xs : List Value) (hown : w.ownsRow base 49 2 v n xs) (A : Option Addr) (c : Nat) (l : List (Int × Int)) (hA : HA w A l)
    (hn : n ≤ 4194304) (hl : l.length ≤ 4194304) (hb : base ≤ w.heap.size) :
    ∃ A' c' w', (∀ ty, (Builtin.append_ #[t, t2] ty #[v, .slice A l.length c]).run Try.prog w = .ok (.slice A' (n + l.length) c') w') ∧ w'.ownsRow base 49 2 (.slice A' (n + l.length) c') (n + l.length) (xs ++ hcells l) ∧ w.grownBy w' v.ownBlock := by
  cases A with
  | none =>
    obtain rfl := HA.none hA
    obtain ⟨A', c', rfl⟩ := own_shapeH hown
    refine ⟨A', c', w, fun ty => ?_, ?_, ?_⟩
    · rw [append_second w t t2 ty _ e2 ht ht2 i0 hi]
      exact run_append_none w t ty _ i0 ht hi base 2 n _ c xs _ hown rfl
    · simpa [hcells_nil] using hown
    · exact ⟨rfl, rfl, rfl, Nat.le_refl _, fun _ _ _ => rfl⟩
  | some ad =>
    obtain ⟨Av, cv, rfl⟩ := own_shapeH hown
    have key : ∀ ty, ∃ v' w', (Builtin.append_ #[t, t] ty #[.slice Av n cv, .slice (some ad) l.length c]).run Try.prog w = .ok v' w' ∧ w'.ownsRow base 49 2 v' (n + l.length) (xs ++ hcells l) ∧ w.grownBy w' (Value.slice Av n cv).ownBlock ∧ (v' = .slice none 0 0 ↔ Value.slice Av n cv = .slice none 0 0 ∧ l.length = 0) := fun ty =>
      run_append_own w base t ty 49 i0 (.agg #[.int .i8 0, .int .i8 0]) 2 2 ht hi hz0 hz1 hz2 rfl (by decide) _ n xs hown ad l.length c (hcells l) (hcells_length l) (HA.cells hA) (hcells_one l) (by unfold maxLen; omega) (by omega) hb
    obtain ⟨v', w', hr, h2, h3, _⟩ := key 0
    obtain ⟨A', c', rfl⟩ := own_shapeH h2
    refine ⟨A', c', w', fun ty => ?_, h2, h3⟩
    rw [append_second w t t2 ty _ e2 ht ht2 i0 hi]
    exact hr
/-- hammers of the call's own -/
def OwnH (w : World) (l : List (Int × Int)) (e : Ending) (w' : World) : Prop := ∃ (C : Option Addr) (q : Nat), e = .returned (.slice C l.length q) ∧ w'.ownsRow w.heap.size 49 2 (.slice C l.length q) l.length (hcells l) ∧ Below w.heap.size w w'
set_option maxRecDepth 20000 in
theorem cloneH_any (A : Option Addr) (c : Nat) (l : List (Int × Int)) (w : World) (hA : HA w A l) (hn : l.length ≤ 1048576) :
    Calls Try.prog 22 #[.slice A l.length c] w (OwnH w l) := by
  obtain ⟨i0, hi, hz0, hz1, hz2⟩ := info_parts info49
  have q22 : ∀ (w : World) (a : Option Addr) (n c n' c' : Nat), (binOp .eql 29 (.slice a n c) (.slice none n' c')).run Try.prog w = .ok (.bool a.isNone) w := fun w a n c n' c' => Lib.run_eql_slice_nil w _ _ a n c n' c' Try.underlying29
  cases A with
  | none =>
    obtain rfl := HA.none hA
    go_enter Try.func22, Try.ntmps22
    go_wp2
    go_ret
    exact ⟨none, 0, rfl, World.ownsRow_nil _ _ _ _, Below.refl _ _⟩
  | some ad =>
    have hal : Below w.heap.size w (w.alloc (.cells #[] 49)) := (Below.refl _ _).alloc (Nat.le_refl _) _
    have hE : (w.alloc (.cells #[] 49)).ownsRow w.heap.size 49 2 (.slice (some ⟨w.heap.size, 0, none⟩) 0 0) 0 [] := own_emptyH _ _ (Nat.le_refl _)
    obtain ⟨A3, c3, w3, hr3, own3, gr3⟩ := run_append_ha _ 29 29 49 Try.underlying29 Try.underlying29 w.heap.size i0 hi hz0 hz1 hz2 _ 0 [] hE (some ad) c l (hA.below hal) (by omega) (by omega) hal.size
    simp only [Nat.zero_add, List.nil_append] at hr3 own3
    have hb3 : Below w.heap.size w w3 := hal.grown gr3 hal.size (fun j hj => (hE.lt j hj).1)
    clear hE gr3 hal
    go_enter Try.func22, Try.ntmps22
    go_wp2_with (at_builtin; refine Lib.wpList_append_run _ rfl _ _ _ _ rfl _ _ rfl rfl _ _ (hr3 _) ?_)
    go_ret
    exact ⟨A3, c3, rfl, own3, hb3⟩
end Go.Proofs.Ytehcghaficbhiaa
