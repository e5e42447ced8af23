import Derived.Test.YtmjpecneaenlpaaDoorCgs
import Derived.Maps.OwnOps
import Derived.Lib.SliceRun
import Derived.Lib.AppendZeros
import Derived.StillTailTactics
import Derived.IntWalk
import Derived.Deep.RegionHeld3
namespace Go.Proofs.YtmjpecneaenlpaaDoor
open Go.RowKit

theorem CgA.cells {w : World} {ad : Addr} {l : List (Int × Int × Bool)} (h : CgA w (some ad) l) : ∀ j u, (cgC l)[j]? = some u → w.cell? (ad.add j) = some u := by
  intro j u hu
  have hj : j < (cgC l).length := (List.getElem?_eq_some_iff.1 hu).1
  rw [cgC_length] at hj
  obtain ⟨b, o, e, _, c0, c1, c2⟩ := h (j / 3) (by omega)
  obtain rfl : ad = ⟨b, o, none⟩ := Option.some.inj e
  obtain ⟨v0, v1, v2⟩ := cgC_at l (j / 3) (by omega)
  have hm : j % 3 = 0 ∨ j % 3 = 1 ∨ j % 3 = 2 := by omega
  rw [Addr.add_lit]
  rcases hm with h0 | h0 | h0
  · have e0 : j = j / 3 * 3 := by omega
    rw [← e0] at c0 v0
    rw [c0, ← hu, v0]
  · have e0 : j = j / 3 * 3 + 1 := by omega
    rw [← e0] at v1
    rw [show o + j / 3 * 3 + 1 = o + j by omega] at c1
    rw [c1, ← hu, v1]
  · have e0 : j = j / 3 * 3 + 2 := by omega
    rw [← e0] at v2
    rw [show o + j / 3 * 3 + 2 = o + j by omega] at c2
    rw [c2, ← hu, v2]
theorem CgA.none {w : World} {l : List (Int × Int × Bool)} (h : CgA w none l) : l = [] := by
  rcases Nat.eq_zero_or_pos l.length with e | e
  · exact List.length_eq_zero_iff.1 e
  · obtain ⟨b, o, h1, _⟩ := h 0 e
    cases h1
theorem cgC_one (l : List (Int × Int × Bool)) : ∀ u ∈ cgC l, u.oneCell' = true := by
  intro u hu
  simp only [cgC, List.mem_flatMap] at hu
  obtain ⟨n, _, hu⟩ := hu
  simp at hu
  rcases hu with rfl | rfl | rfl <;> rfl
theorem own_shapeC {w : World} {base : Nat} {e : TypeId} {size n : Nat} {v : Value} {xs : List Value} (h : w.ownsRow base e size v n xs) : ∃ A c, v = .slice A n c := by
  rcases h.2 with ⟨rfl, rfl⟩ | ⟨g, cap, cur, rfl, _⟩
  · exact ⟨_, _, rfl⟩
  · exact ⟨_, _, rfl⟩
theorem own_emptyC {w : World} {base : Nat} (t : TypeId) (size : Nat) (h : base ≤ w.heap.size) : (w.alloc (.cells #[] t)).ownsRow base t size (.slice (some ⟨w.heap.size, 0, none⟩) 0 0) 0 [] :=
  World.ownsRow_made w #[] 0 h (by unfold maxLen; omega) (by simp)
/-- append of changes that lie somewhere to a row of the call's own -/
theorem run_append_cg (w : World) (t : TypeId) (ht : Tryd.prog.underlying t = some (.slice 84)) (base : Nat) (i0 : TypeInfo) (hi : Tryd.prog.info? 84 = some i0)
    (hz0 : i0.zero = some (.agg #[.int .i16 0, .int .i8 0, .bool false])) (hz1 : i0.size = 3) (hz2 : i0.bytes = 4) (v : Value) (n : Nat) (xs : List Value) (hown : w.ownsRow base 84 3 v n xs) (ad : Addr) (c : Nat) (l : List (Int × Int × Bool)) (hA : CgA w (some ad) l)
    (hn : n ≤ 4194304) (hl : l.length ≤ 4194304) (hb : base ≤ w.heap.size) :
    ∃ A' c' w', (∀ ty, (Builtin.append_ #[t, t] ty #[v, .slice (some ad) l.length c]).run Tryd.prog w = .ok (.slice A' (n + l.length) c') w') ∧ w'.ownsRow base 84 3 (.slice A' (n + l.length) c') (n + l.length) (xs ++ cgC l) ∧ w.grownBy w' v.ownBlock := by
  obtain ⟨Av, cv, rfl⟩ := own_shapeC hown
  have key : ∀ ty, ∃ v' w', (Builtin.append_ #[t, t] ty #[.slice Av n cv, .slice (some ad) l.length c]).run Tryd.prog w = .ok v' w' ∧ w'.ownsRow base 84 3 v' (n + l.length) (xs ++ cgC l) ∧ w.grownBy w' (Value.slice Av n cv).ownBlock ∧ (v' = .slice none 0 0 ↔ Value.slice Av n cv = .slice none 0 0 ∧ l.length = 0) := fun ty =>
    run_append_own w base t ty 84 i0 (.agg #[.int .i16 0, .int .i8 0, .bool false]) 3 4 ht hi hz0 hz1 hz2 rfl (by decide) _ n xs hown ad l.length c (cgC l) (cgC_length l) (CgA.cells hA) (cgC_one l) (by unfold maxLen; omega) (by omega) hb
  obtain ⟨v', w', hr, h2, h3, _⟩ := key 0
  obtain ⟨A', c', rfl⟩ := own_shapeC h2
  exact ⟨A', c', w', fun ty => hr, h2, h3⟩
/-- changes of the call's own -/
def OwnC (w : World) (l : List (Int × Int × Bool)) (e : Ending) (w' : World) : Prop := ∃ (C : Option Addr) (q : Nat), e = .returned (.slice C l.length q) ∧ w'.ownsRow w.heap.size 84 3 (.slice C l.length q) l.length (cgC l) ∧ Below w.heap.size w w'
/-- the first and the last k changes exchanged -/
def rvT (l : List (Int × Int × Bool)) (k : Nat) : List (Int × Int × Bool) := (List.range l.length).map fun i => if i < k ∨ l.length - 1 - i < k then l.getD (l.length - 1 - i) (0, 0, false) else l.getD i (0, 0, false)
theorem rvT_length (l : List (Int × Int × Bool)) (k : Nat) : (rvT l k).length = l.length := by simp [rvT]
theorem rvT_get (l : List (Int × Int × Bool)) (k i : Nat) (h : i < l.length) : (rvT l k)[i]? = some (if i < k ∨ l.length - 1 - i < k then l.getD (l.length - 1 - i) (0, 0, false) else l.getD i (0, 0, false)) := by simp [rvT, h]
theorem rvT_zero (l : List (Int × Int × Bool)) : rvT l 0 = l := by
  apply List.ext_getElem?
  intro i
  by_cases h : i < l.length
  · rw [rvT_get l 0 i h]; simp [h]
  · rw [List.getElem?_eq_none (by rw [rvT_length]; omega), List.getElem?_eq_none (by omega)]
theorem rvT_all (l : List (Int × Int × Bool)) (k : Nat) (h : l.length ≤ 2 * k + 1) : rvT l k = l.reverse := by
  apply List.ext_getElem?
  intro i
  by_cases hi : i < l.length
  · rw [rvT_get l k i hi, List.getElem?_reverse hi, List.getElem?_eq_getElem (by omega)]
    have e : l.getD (l.length - 1 - i) (0, 0, false) = l[l.length - 1 - i] := by simp [List.getD, show l.length - 1 - i < l.length by omega]
    by_cases h1 : i < k ∨ l.length - 1 - i < k
    · rw [if_pos h1, e]
    · rw [if_neg h1]
      have : l.length - 1 - i = i := by omega
      rw [← e, this]
  · rw [List.getElem?_eq_none (by rw [rvT_length]; omega), List.getElem?_eq_none (by rw [List.length_reverse]; omega)]
theorem rvT_set (l : List (Int × Int × Bool)) (k : Nat) (h : 2 * k + 1 < l.length) : ((rvT l k).set k (l.getD (l.length - 1 - k) (0, 0, false))).set (l.length - 1 - k) (l.getD k (0, 0, false)) = rvT l (k + 1) := by
  apply List.ext_getElem?
  intro i
  rw [List.getElem?_set, List.getElem?_set, List.length_set, rvT_length]
  by_cases hi : i < l.length
  · rw [rvT_get l k i hi, rvT_get l (k + 1) i hi]
    by_cases e1 : l.length - 1 - k = i
    · subst e1
      rw [if_pos rfl, if_pos hi, if_pos (Or.inr (by omega)), show l.length - 1 - (l.length - 1 - k) = k by omega]
    · rw [if_neg e1]
      by_cases e2 : k = i
      · subst e2
        rw [if_pos rfl, if_pos hi, if_pos (Or.inl (by omega))]
      · rw [if_neg e2]
        by_cases h3 : i < k ∨ l.length - 1 - i < k
        · rw [if_pos h3, if_pos (by omega)]
        · rw [if_neg h3, if_neg (by omega)]
  · rw [if_neg (by omega), if_neg (by omega), List.getElem?_eq_none (by rw [rvT_length]; omega), List.getElem?_eq_none (by rw [rvT_length]; omega)]
theorem rv_own (l : List (Int × Int × Bool)) (k j : Nat) (h : ¬ (j < k ∨ l.length - 1 - j < k)) (hj : j < l.length) : cgS (rvT l k) j = cgS l j ∧ cgT (rvT l k) j = cgT l j ∧ cgP (rvT l k) j = cgP l j := by
  have e := rvT_get l k j hj
  rw [if_neg h] at e
  have e2 : (rvT l k).getD j (0, 0, false) = l.getD j (0, 0, false) := by rw [List.getD, e]; rfl
  simp only [cgS, cgT, cgP, e2, and_self]

theorem cgC_set2 (l : List (Int × Int × Bool)) : ∀ (k : Nat) (q : Bool), k < l.length → cgC (l.set k (cgS l k, cgT l k, q)) = (cgC l).set (k * 3 + 2) (.bool q) := by
  induction l with
  | nil => intro k q h; simp at h
  | cons n l ih =>
    intro k q h
    cases k with
    | zero => simp [cgC_cons, cgS, cgT]
    | succ k =>
      have := ih k q (by simpa using h)
      rw [show (k + 1) * 3 + 2 = (k * 3 + 2) + 1 + 1 + 1 from by omega]
      simpa [cgC_cons, cgS, cgT] using this
/-- the first k the other way -/
def ngT (l : List (Int × Int × Bool)) (k : Nat) : List (Int × Int × Bool) := (l.take k).map (fun c => (c.1, c.2.1, !c.2.2)) ++ l.drop k
theorem ngT_length (l : List (Int × Int × Bool)) (k : Nat) (h : k ≤ l.length) : (ngT l k).length = l.length := by simp [ngT]; omega
theorem ngT_at (l : List (Int × Int × Bool)) (k : Nat) (h : k < l.length) : cgS (ngT l k) k = cgS l k ∧ cgT (ngT l k) k = cgT l k ∧ cgP (ngT l k) k = cgP l k := by
  have e : (ngT l k).getD k (0, 0, false) = l.getD k (0, 0, false) := by
    rw [ngT, List.getD, List.getD, List.getElem?_append_right (by simp; omega), List.getElem?_drop]
    congr 2
    simp; omega
  simp only [cgS, cgT, cgP, e, and_self]
theorem ngT_set (l : List (Int × Int × Bool)) (k : Nat) (h : k < l.length) : (ngT l k).set k (cgS (ngT l k) k, cgT (ngT l k) k, !cgP l k) = ngT l (k + 1) := by
  rw [(ngT_at l k h).1, (ngT_at l k h).2.1, ngT, ngT, List.set_append_right _ _ (by simp; omega), List.drop_eq_getElem_cons h, List.take_succ_eq_append_getElem h, List.map_append, List.length_map, List.length_take, show k - min k l.length = 0 by omega, List.set_cons_zero]
  simp [cgS, cgT, cgP, List.getD, h]
/-- what undoes changes -/
def unL (l : List (Int × Int × Bool)) : List (Int × Int × Bool) := if l.length ≤ 2400 then l.reverse.map (fun c => (c.1, c.2.1, !c.2.2)) else []
def unLC (l : List (Int × Int × Bool)) : Int := if l.length ≤ 2400 then 0 else 3
theorem unL_len (l : List (Int × Int × Bool)) : (unL l).length ≤ 1048576 := by
  unfold unL
  split
  · simp; omega
  · simp
theorem ngT_all (l : List (Int × Int × Bool)) : ngT l l.length = l.map (fun c => (c.1, c.2.1, !c.2.2)) := by simp [ngT]
/-- changes of the call's own, and a code -/
def OwnCC (w : World) (l : List (Int × Int × Bool)) (x : Int) (e : Ending) (w' : World) : Prop := ∃ (C : Option Addr) (q : Nat), e = .returned (.tuple #[.slice C l.length q, .int .i64 x]) ∧ w'.ownsRow w.heap.size 84 3 (.slice C l.length q) l.length (cgC l) ∧ Below w.heap.size w w'
theorem cell_three_new (w : World) (u v x : Value) (t : TypeId) : ∀ j y, [u, v, x][j]? = some y → (w.alloc (.cells #[u, v, x] t)).cell? ((⟨w.heap.size, 0, none⟩ : Addr).add j) = some y := by
  intro j y hy
  rw [Addr.add_lit, Nat.zero_add, cell_of_row _ _ _ _ _ _ (heap_alloc_new w _)]
  simpa using hy
theorem ret2' {x x' y y' : Value} (h1 : x = x') (h2 : y = y') : Ending.returned (.tuple #[x, y]) = .returned (.tuple #[x', y']) := by rw [h1, h2]
/-- the first k of what undoes the changes -/
def udT (l : List (Int × Int × Bool)) (k : Nat) : List (Int × Int × Bool) := (List.range k).map fun i => (cgS l (l.length - 1 - i), cgT l (l.length - 1 - i), !cgP l (l.length - 1 - i))
theorem udT_length (l : List (Int × Int × Bool)) (k : Nat) : (udT l k).length = k := by simp [udT]
theorem udT_succ (l : List (Int × Int × Bool)) (k : Nat) : udT l (k + 1) = udT l k ++ [(cgS l (l.length - 1 - k), cgT l (l.length - 1 - k), !cgP l (l.length - 1 - k))] := by simp [udT, List.range_succ]
theorem udT_all (l : List (Int × Int × Bool)) : udT l l.length = l.reverse.map (fun c => (c.1, c.2.1, !c.2.2)) := by
  apply List.ext_getElem?
  intro i
  by_cases hi : i < l.length
  · rw [List.getElem?_map, List.getElem?_reverse hi, List.getElem?_eq_getElem (show l.length - 1 - i < l.length by omega)]
    simp [udT, hi, cgS, cgT, cgP, List.getD, show l.length - 1 - i < l.length by omega]
  · rw [List.getElem?_eq_none (by rw [udT_length]; omega), List.getElem?_eq_none (by simp; omega)]
end Go.Proofs.YtmjpecneaenlpaaDoor
