import Derived.Test.YtcocfnjbgceidaaDoorGaa
import Derived.Lib.AppendZeros
import Derived.Test.YtcocfnjbgceidaaDoorFrm
import Derived.Maps.OwnOps
import Derived.Lib.SliceRun
import Derived.Test.YtcocfnjbgceidaaDoorGbc
import Derived.Test.YtcocfnjbgceidaaDoorGba
import Derived.Test.YtcocfnjbgceidaaDoorGax
import Derived.Test.YtcocfnjbgceidaaDoorSl
import Derived.IntWalk
namespace Go.Proofs.YtcocfnjbgceidaaDoor
open Go.RowKit
theorem append_second {P : Program} (w : World) (t t2 ty e e2 : TypeId) (ht : P.underlying t = some (.slice e)) (ht2 : P.underlying t2 = some (.slice e2)) (i : TypeInfo) (hi : P.info? e = some i) (B : Option Addr) (n c : Nat) (x : Value) :
    (Builtin.append_ #[t, t2] ty #[.slice B n c, x]).run P w = (Builtin.append_ #[t, t] ty #[.slice B n c, x]).run P w := by
  simp [Builtin.append_, run_underlying ht, run_underlying ht2, Go.sizeOf, typeInfo, hi]
theorem run_append_none {P : Program} (w : World) (t ty e : TypeId) (i : TypeInfo) (ht : P.underlying t = some (.slice e)) (hi : P.info? e = some i) (base : Nat) (size n m c : Nat) (xs : List Value) (v : Value) (hown : w.ownsRow base e size v n xs) (hm : m = 0) :
    (Builtin.append_ #[t, t] ty #[v, .slice none m c]).run P w = .ok v w := by
  subst hm
  rcases hown.2 with ⟨rfl, rfl⟩ | ⟨g, cap, cur, rfl, _, _, hnc, _⟩
  · simp [Builtin.append_, run_underlying ht, Go.sizeOf, typeInfo, hi, Builtin.lenOf, Builtin.firstCells]
  · simp [Builtin.append_, run_underlying ht, Go.sizeOf, typeInfo, hi, Builtin.lenOf, Builtin.firstCells, hnc, storeCells]
end Go.Proofs.YtcocfnjbgceidaaDoor
namespace Go.Proofs.YtcocfnjbgceidaaDoor
open Go.RowKit
theorem HA.cells {w : World} {ad : Addr} {l : List (Int × Int)} (h : HA w (some ad) l) : ∀ j u, (hcells l)[j]? = some u → w.cell? (ad.add j) = some u := by
  intro j u hu
  have hj : j < (hcells l).length := (List.getElem?_eq_some_iff.1 hu).1
  rw [hcells_length] at hj
  obtain ⟨b, o, e, _, c1, c2⟩ := h (j / 2) (by omega)
  obtain rfl : ad = ⟨b, o, none⟩ := Option.some.inj e
  rcases Nat.mod_two_eq_zero_or_one j with h0 | h0
  · have e0 : j = j / 2 * 2 := by omega
    have hv := hcells_even l (j / 2) (by omega)
    rw [← e0, hu] at hv
    rw [← e0] at c1
    rw [Option.some.inj hv]
    rw [Addr.add_lit]
    exact c1
  · have e0 : j = j / 2 * 2 + 1 := by omega
    have hv := hcells_odd l (j / 2) (by omega)
    rw [← e0, hu] at hv
    have e1 : o + j / 2 * 2 + 1 = o + j := by omega
    rw [e1] at c2
    rw [Option.some.inj hv]
    rw [Addr.add_lit]
    exact c2
theorem HA.none {w : World} {l : List (Int × Int)} (h : HA w none l) : l = [] := by
  rcases Nat.eq_zero_or_pos l.length with e | e
  · exact List.length_eq_zero_iff.1 e
  · obtain ⟨b, o, h1, _⟩ := h 0 e
    cases h1
theorem hcells_one (l : List (Int × Int)) : ∀ u ∈ hcells l, u.oneCell' = true := by
  intro u hu
  simp only [hcells, List.mem_flatMap] at hu
  obtain ⟨n, _, hu⟩ := hu
  simp at hu
  rcases hu with rfl | rfl <;> rfl
theorem own_shapeH {w : World} {base : Nat} {e : TypeId} {size n : Nat} {v : Value} {xs : List Value} (h : w.ownsRow base e size v n xs) : ∃ A c, v = .slice A n c := by
  rcases h.2 with ⟨rfl, rfl⟩ | ⟨g, cap, cur, rfl, _⟩
  · exact ⟨_, _, rfl⟩
  · exact ⟨_, _, rfl⟩
theorem own_emptyH {w : World} {base : Nat} (t : TypeId) (size : Nat) (h : base ≤ w.heap.size) : (w.alloc (.cells #[] t)).ownsRow base t size (.slice (some ⟨w.heap.size, 0, none⟩) 0 0) 0 [] :=
  World.ownsRow_made w #[] 0 h (by unfold maxLen; omega) (by simp)
/-- append of hammers that lie somewhere to a row of the call's own -/
theorem run_append_ha (w : World) (t t2 : TypeId) (e2 : TypeId) (ht : Tryd.prog.underlying t = some (.slice 80)) (ht2 : Tryd.prog.underlying t2 = some (.slice e2)) (base : Nat) (i0 : TypeInfo) (hi : Tryd.prog.info? 80 = some i0)
    (hz0 : i0.zero = some (.agg #[.int .i8 0, .int .i8 0])) (hz1 : i0.size = 2) (hz2 : i0.bytes = 2) (v : Value) (n : Nat) (xs : List Value) (hown : w.ownsRow base 80 2 v n xs) (A : Option Addr) (c : Nat) (l : List (Int × Int)) (hA : HA w A l)
    (hn : n ≤ 4194304) (hl : l.length ≤ 4194304) (hb : base ≤ w.heap.size) :
    ∃ A' c' w', (∀ ty, (Builtin.append_ #[t, t2] ty #[v, .slice A l.length c]).run Tryd.prog w = .ok (.slice A' (n + l.length) c') w') ∧ w'.ownsRow base 80 2 (.slice A' (n + l.length) c') (n + l.length) (xs ++ hcells l) ∧ w.grownBy w' v.ownBlock := by
  cases A with
  | none =>
    obtain rfl := HA.none hA
    obtain ⟨A', c', rfl⟩ := own_shapeH hown
    refine ⟨A', c', w, fun ty => ?_, ?_, ?_⟩
    · rw [append_second w t t2 ty _ e2 ht ht2 i0 hi]
      exact run_append_none w t ty _ i0 ht hi base 2 n _ c xs _ hown rfl
    · simpa [hcells_nil] using hown
    · exact ⟨rfl, rfl, rfl, Nat.le_refl _, fun _ _ _ => rfl⟩
  | some ad =>
    obtain ⟨Av, cv, rfl⟩ := own_shapeH hown
    have key : ∀ ty, ∃ v' w', (Builtin.append_ #[t, t] ty #[.slice Av n cv, .slice (some ad) l.length c]).run Tryd.prog w = .ok v' w' ∧ w'.ownsRow base 80 2 v' (n + l.length) (xs ++ hcells l) ∧ w.grownBy w' (Value.slice Av n cv).ownBlock ∧ (v' = .slice none 0 0 ↔ Value.slice Av n cv = .slice none 0 0 ∧ l.length = 0) := fun ty =>
      run_append_own w base t ty 80 i0 (.agg #[.int .i8 0, .int .i8 0]) 2 2 ht hi hz0 hz1 hz2 rfl (by decide) _ n xs hown ad l.length c (hcells l) (hcells_length l) (HA.cells hA) (hcells_one l) (by unfold maxLen; omega) (by omega) hb
    obtain ⟨v', w', hr, h2, h3, _⟩ := key 0
    obtain ⟨A', c', rfl⟩ := own_shapeH h2
    refine ⟨A', c', w', fun ty => ?_, h2, h3⟩
    rw [append_second w t t2 ty _ e2 ht ht2 i0 hi]
    exact hr
/-- hammers of the call's own -/
def OwnH (w : World) (l : List (Int × Int)) (e : Ending) (w' : World) : Prop := ∃ (C : Option Addr) (q : Nat), e = .returned (.slice C l.length q) ∧ w'.ownsRow w.heap.size 80 2 (.slice C l.length q) l.length (hcells l) ∧ Below w.heap.size w w'
end Go.Proofs.YtcocfnjbgceidaaDoor
namespace Go.Proofs.YtcocfnjbgceidaaDoor
open Go.RowKit

/-- a row without a track -/
def dropD (d : Nat → Int) (t k : Nat) : Int := bits .or .u32 (bits .and .u32 (d k) (2 ^ t - 1)) (bits .andNot .u32 (d k / 2) (2 ^ t - 1))
def drT (d : Nat → Int) (t k i : Nat) : Int := if i < k then dropD d t i else d i
theorem drT_step (d : Nat → Int) (t k i : Nat) : (if i = k then dropD d t k else drT d t k i) = drT d t (k + 1) i := by
  unfold drT
  by_cases h : i = k
  · subst h; simp
  · rw [if_neg h]
    by_cases h1 : i < k
    · rw [if_pos h1, if_pos (by omega)]
    · rw [if_neg h1, if_neg (by omega)]
theorem drT_zero (d : Nat → Int) (t : Nat) : drT d t 0 = d := by funext i; simp [drT]
theorem drT_at (d : Nat → Int) (t k : Nat) : drT d t k k = d k := by simp [drT]
theorem pow_u32 (t : Nat) (ht : t < 32) : (2 : Int) ^ t % 4294967296 = (2 : Int) ^ t := (pow_nat t ht).trans (by push_cast; rfl)
theorem pow_pos' (t : Nat) : (1 : Int) ≤ (2 : Int) ^ t := by
  have : (1 : Nat) ≤ 2 ^ t := Nat.one_le_two_pow
  exact_mod_cast this
theorem pow_sub (t : Nat) (ht : t < 32) : ((2 : Int) ^ t - 1) % 4294967296 = (2 : Int) ^ t - 1 := by
  have h1 := pow_u32 t ht
  have h2 := pow_pos' t
  have h3 : (2 : Int) ^ t % 4294967296 < 4294967296 := Int.emod_lt_of_pos _ (by decide)
  exact Int.emod_eq_of_lt (by omega) (by omega)

end Go.Proofs.YtcocfnjbgceidaaDoor
namespace Go.Proofs.YtcocfnjbgceidaaDoor
open Go.RowKit
theorem ownH_of {w w' : World} (A : Option Addr) (c n : Nat) (l : List (Int × Int)) (hn : n = l.length) (h : w'.ownsRow w.heap.size 80 2 (.slice A n c) n (hcells l)) (hb : Below w.heap.size w w') : OwnH w l (.returned (.slice A n c)) w' := by
  subst hn
  exact ⟨A, c, rfl, h, hb⟩
def OwnZH (w : World) (e : Ending) (w' : World) : Prop := ∃ (C : Option Addr) (q : Nat), e = .returned (.slice C 0 q) ∧ w'.ownsRow w.heap.size 80 2 (.slice C 0 q) 0 [] ∧ Below w.heap.size w w'
end Go.Proofs.YtcocfnjbgceidaaDoor
