import Derived.Test.YtcocfnjbgceidaaGreatGah
import Derived.Deep.CutRange
import Derived.Test.YtcocfnjbgceidaaGreatGaa
import Derived.Lib.AppendZeros
import Derived.Test.YtcocfnjbgceidaaGreatGab
import Derived.Maps.OwnOps
import Derived.Lib.SliceRun
import Derived.IntWalk
namespace Go.Proofs.YtcocfnjbgceidaaGreat
open Go.RowKit

section
variable {w0 w1 w2 : World} {s : Int} {A : Option Addr} {n c : Nat} {d : Nat → Int}
theorem range_keep {w w' : World} {b o : Nat} {cs : List Value} (h : w.rangeAt b o cs) (hb : Below w.heap.size w w') : w'.rangeAt b o cs := fun j v hv =>
  (hb.cell (p := ⟨b, o + j, none⟩) (World.block_lt_of_cell? w _ (h j v hv))).trans (h j v hv)
theorem sl_keep (h : w1.cell? ⟨w0.heap.size, 0, none⟩ = some (.int .i16 s) ∧ w1.cell? ⟨w0.heap.size, 1, none⟩ = some (.slice A n c) ∧ w1.rangeAt (w0.heap.size + 1) 0 (dv d) ∧ Below w0.heap.size w0 w1 ∧ w0.heap.size + 2 ≤ w1.heap.size) (hb : Below w1.heap.size w1 w2) :
    w2.cell? ⟨w0.heap.size, 0, none⟩ = some (.int .i16 s) ∧ w2.cell? ⟨w0.heap.size, 1, none⟩ = some (.slice A n c) ∧ w2.rangeAt (w0.heap.size + 1) 0 (dv d) ∧ Below w0.heap.size w0 w2 ∧ w0.heap.size + 2 ≤ w2.heap.size :=
  ⟨(hb.cell (p := ⟨_, _, none⟩) (World.block_lt_of_cell? _ _ h.1)).trans h.1, (hb.cell (p := ⟨_, _, none⟩) (World.block_lt_of_cell? _ _ h.2.1)).trans h.2.1, range_keep h.2.2.1 hb, step_below hb h.2.2.2.1, Nat.le_trans h.2.2.2.2 hb.size⟩
theorem sl_keep' (hb : Below w1.heap.size w1 w2) (h : w1.cell? ⟨w0.heap.size, 0, none⟩ = some (.int .i16 s) ∧ w1.cell? ⟨w0.heap.size, 1, none⟩ = some (.slice A n c) ∧ w1.rangeAt (w0.heap.size + 1) 0 (dv d) ∧ Below w0.heap.size w0 w1 ∧ w0.heap.size + 2 ≤ w1.heap.size) :
    w2.cell? ⟨w0.heap.size, 0, none⟩ = some (.int .i16 s) ∧ w2.cell? ⟨w0.heap.size, 1, none⟩ = some (.slice A n c) ∧ w2.rangeAt (w0.heap.size + 1) 0 (dv d) ∧ Below w0.heap.size w0 w2 ∧ w0.heap.size + 2 ≤ w2.heap.size := sl_keep h hb
theorem al_below (w : World) (o : Obj) : Below w.heap.size w (w.alloc o) := (Below.refl _ _).alloc (Nat.le_refl _) _
theorem sl_alloc {o : Obj} (h : w1.cell? ⟨w0.heap.size, 0, none⟩ = some (.int .i16 s) ∧ w1.cell? ⟨w0.heap.size, 1, none⟩ = some (.slice A n c) ∧ w1.rangeAt (w0.heap.size + 1) 0 (dv d) ∧ Below w0.heap.size w0 w1 ∧ w0.heap.size + 2 ≤ w1.heap.size) :
    (w1.alloc o).cell? ⟨w0.heap.size, 0, none⟩ = some (.int .i16 s) ∧ (w1.alloc o).cell? ⟨w0.heap.size, 1, none⟩ = some (.slice A n c) ∧ (w1.alloc o).rangeAt (w0.heap.size + 1) 0 (dv d) ∧ Below w0.heap.size w0 (w1.alloc o) ∧ w0.heap.size + 2 ≤ (w1.alloc o).heap.size := sl_keep h (al_below _ _)
theorem sl_drewal {o : Obj} (h : w1.cell? ⟨w0.heap.size, 0, none⟩ = some (.int .i16 s) ∧ w1.cell? ⟨w0.heap.size, 1, none⟩ = some (.slice A n c) ∧ w1.rangeAt (w0.heap.size + 1) 0 (dv d) ∧ Below w0.heap.size w0 w1 ∧ w0.heap.size + 2 ≤ w1.heap.size) :
    (w1.alloc o).drew.cell? ⟨w0.heap.size, 0, none⟩ = some (.int .i16 s) ∧ (w1.alloc o).drew.cell? ⟨w0.heap.size, 1, none⟩ = some (.slice A n c) ∧ (w1.alloc o).drew.rangeAt (w0.heap.size + 1) 0 (dv d) ∧ Below w0.heap.size w0 (w1.alloc o).drew ∧ w0.heap.size + 2 ≤ (w1.alloc o).drew.heap.size := sl_keep (sl_alloc h) ((Below.refl _ _).drew)
theorem below_setCells {B g : Nat} {w w' : World} (h : Below B w w') (hg : B ≤ g) (o : Nat) (cs : List Value) : Below B w (w'.setCells g o cs) := by
  induction cs generalizing w' o with
  | nil => exact h
  | cons v r ih => exact ih (h.setCell (p := ⟨g, o, none⟩) hg v) (o + 1)
theorem sl_set {g : Nat} {cs : List Value} (h : w1.cell? ⟨w0.heap.size, 0, none⟩ = some (.int .i16 s) ∧ w1.cell? ⟨w0.heap.size, 1, none⟩ = some (.slice A n c) ∧ w1.rangeAt (w0.heap.size + 1) 0 (dv d) ∧ Below w0.heap.size w0 w1 ∧ w0.heap.size + 2 ≤ w1.heap.size) (hg : w0.heap.size + 2 ≤ g) :
    (w1.setCells g 0 cs).cell? ⟨w0.heap.size, 0, none⟩ = some (.int .i16 s) ∧ (w1.setCells g 0 cs).cell? ⟨w0.heap.size, 1, none⟩ = some (.slice A n c) ∧ (w1.setCells g 0 cs).rangeAt (w0.heap.size + 1) 0 (dv d) ∧ Below w0.heap.size w0 (w1.setCells g 0 cs) ∧ w0.heap.size + 2 ≤ (w1.setCells g 0 cs).heap.size := by
  have hz : w1.heap.size ≤ (w1.setCells g 0 cs).heap.size := (below_setCells (B := 0) (Below.refl _ w1) (Nat.zero_le _) 0 cs).size
  refine ⟨?_, ?_, World.rangeAt_setCells_apart h.2.2.1 g 0 cs (Or.inl (by omega)), below_setCells h.2.2.2.1 (by omega) 0 cs, by have := h.2.2.2.2; omega⟩
  · rw [World.cell?_setCells_out g cs 0 w1 _ (fun h1 _ => absurd h1 (by dsimp only; omega))]; exact h.1
  · rw [World.cell?_setCells_out g cs 0 w1 _ (fun h1 _ => absurd h1 (by dsimp only; omega))]; exact h.2.1
theorem sl_below (h : w1.cell? ⟨w0.heap.size, 0, none⟩ = some (.int .i16 s) ∧ w1.cell? ⟨w0.heap.size, 1, none⟩ = some (.slice A n c) ∧ w1.rangeAt (w0.heap.size + 1) 0 (dv d) ∧ Below w0.heap.size w0 w1 ∧ w0.heap.size + 2 ≤ w1.heap.size) : Below w0.heap.size w0 w1 := h.2.2.2.1
theorem sl_size (h : w1.cell? ⟨w0.heap.size, 0, none⟩ = some (.int .i16 s) ∧ w1.cell? ⟨w0.heap.size, 1, none⟩ = some (.slice A n c) ∧ w1.rangeAt (w0.heap.size + 1) 0 (dv d) ∧ Below w0.heap.size w0 w1 ∧ w0.heap.size + 2 ≤ w1.heap.size) : w0.heap.size + 2 ≤ w1.heap.size := h.2.2.2.2
theorem th_new (w : World) (t : TypeId) : (w.alloc (.cells za t)).there w.heap.size 0 96 := by
  have h : Dr (w.alloc (.cells za t)) w.heap.size t (fun _ => 0) := by rw [za_eq]; exact heap_new' _ _ _ rfl
  intro j hj
  rw [Nat.zero_add, h.cell hj]
  exact ⟨rfl, h.frozen j⟩
theorem th_newd (w : World) (t : TypeId) : ((w.alloc (.cells za t)).drew).there w.heap.size 0 96 := (World.there_drew _ _ _ _).2 (th_new w t)
theorem th_keep {w w' : World} {b o k : Nat} (h : w.there b o k) (hb : Below w.heap.size w w') : w'.there b o k := fun j hj => by
  obtain ⟨h1, h2⟩ := h j hj
  obtain ⟨u, hu⟩ := Option.isSome_iff_exists.1 h1
  have hl := World.block_lt_of_cell? w _ hu
  exact ⟨by rw [(hb.cell (p := ⟨b, o + j, none⟩) hl).trans hu]; rfl, (hb.frozen (p := ⟨b, o + j, none⟩) hl).trans h2⟩
theorem sx_keep {X : World} {b1 b2 : Nat} (h : w1.cell? ⟨b1, 0, none⟩ = some (.int .i16 s) ∧ w1.cell? ⟨b1, 1, none⟩ = some (.slice A n c) ∧ w1.rangeAt b2 0 (dv d) ∧ Below X.heap.size X w1 ∧ X.heap.size ≤ w1.heap.size) (hb : Below w1.heap.size w1 w2) :
    w2.cell? ⟨b1, 0, none⟩ = some (.int .i16 s) ∧ w2.cell? ⟨b1, 1, none⟩ = some (.slice A n c) ∧ w2.rangeAt b2 0 (dv d) ∧ Below X.heap.size X w2 ∧ X.heap.size ≤ w2.heap.size :=
  ⟨(hb.cell (p := ⟨_, _, none⟩) (World.block_lt_of_cell? _ _ h.1)).trans h.1, (hb.cell (p := ⟨_, _, none⟩) (World.block_lt_of_cell? _ _ h.2.1)).trans h.2.1, range_keep h.2.2.1 hb, h.2.2.2.1.trans (hb.mono h.2.2.2.2), Nat.le_trans h.2.2.2.2 hb.size⟩
theorem sx_keep' {X : World} {b1 b2 : Nat} (hb : Below w1.heap.size w1 w2) (h : w1.cell? ⟨b1, 0, none⟩ = some (.int .i16 s) ∧ w1.cell? ⟨b1, 1, none⟩ = some (.slice A n c) ∧ w1.rangeAt b2 0 (dv d) ∧ Below X.heap.size X w1 ∧ X.heap.size ≤ w1.heap.size) :
    w2.cell? ⟨b1, 0, none⟩ = some (.int .i16 s) ∧ w2.cell? ⟨b1, 1, none⟩ = some (.slice A n c) ∧ w2.rangeAt b2 0 (dv d) ∧ Below X.heap.size X w2 ∧ X.heap.size ≤ w2.heap.size := sx_keep h hb
theorem sx_alloc {X : World} {b1 b2 : Nat} {o : Obj} (h : w1.cell? ⟨b1, 0, none⟩ = some (.int .i16 s) ∧ w1.cell? ⟨b1, 1, none⟩ = some (.slice A n c) ∧ w1.rangeAt b2 0 (dv d) ∧ Below X.heap.size X w1 ∧ X.heap.size ≤ w1.heap.size) :
    (w1.alloc o).cell? ⟨b1, 0, none⟩ = some (.int .i16 s) ∧ (w1.alloc o).cell? ⟨b1, 1, none⟩ = some (.slice A n c) ∧ (w1.alloc o).rangeAt b2 0 (dv d) ∧ Below X.heap.size X (w1.alloc o) ∧ X.heap.size ≤ (w1.alloc o).heap.size := sx_keep h (al_below _ _)
theorem sx_drewal {X : World} {b1 b2 : Nat} {o : Obj} (h : w1.cell? ⟨b1, 0, none⟩ = some (.int .i16 s) ∧ w1.cell? ⟨b1, 1, none⟩ = some (.slice A n c) ∧ w1.rangeAt b2 0 (dv d) ∧ Below X.heap.size X w1 ∧ X.heap.size ≤ w1.heap.size) :
    (w1.alloc o).drew.cell? ⟨b1, 0, none⟩ = some (.int .i16 s) ∧ (w1.alloc o).drew.cell? ⟨b1, 1, none⟩ = some (.slice A n c) ∧ (w1.alloc o).drew.rangeAt b2 0 (dv d) ∧ Below X.heap.size X (w1.alloc o).drew ∧ X.heap.size ≤ (w1.alloc o).drew.heap.size := sx_keep (sx_alloc h) ((Below.refl _ _).drew)
theorem sx_set {X : World} {b1 b2 g : Nat} {cs : List Value} (h : w1.cell? ⟨b1, 0, none⟩ = some (.int .i16 s) ∧ w1.cell? ⟨b1, 1, none⟩ = some (.slice A n c) ∧ w1.rangeAt b2 0 (dv d) ∧ Below X.heap.size X w1 ∧ X.heap.size ≤ w1.heap.size) (h1 : b1 < X.heap.size) (h2 : b2 < X.heap.size) (hg : X.heap.size ≤ g) :
    (w1.setCells g 0 cs).cell? ⟨b1, 0, none⟩ = some (.int .i16 s) ∧ (w1.setCells g 0 cs).cell? ⟨b1, 1, none⟩ = some (.slice A n c) ∧ (w1.setCells g 0 cs).rangeAt b2 0 (dv d) ∧ Below X.heap.size X (w1.setCells g 0 cs) ∧ X.heap.size ≤ (w1.setCells g 0 cs).heap.size := by
  have hz : w1.heap.size ≤ (w1.setCells g 0 cs).heap.size := (below_setCells (B := 0) (Below.refl _ w1) (Nat.zero_le _) 0 cs).size
  refine ⟨?_, ?_, World.rangeAt_setCells_apart h.2.2.1 g 0 cs (Or.inl (by omega)), below_setCells h.2.2.2.1 hg 0 cs, by have := h.2.2.2.2; omega⟩
  · rw [World.cell?_setCells_out g cs 0 w1 _ (fun h1 _ => absurd h1 (by dsimp only; omega))]; exact h.1
  · rw [World.cell?_setCells_out g cs 0 w1 _ (fun h1 _ => absurd h1 (by dsimp only; omega))]; exact h.2.1
theorem sx_size {X : World} {b1 b2 : Nat} (h : w1.cell? ⟨b1, 0, none⟩ = some (.int .i16 s) ∧ w1.cell? ⟨b1, 1, none⟩ = some (.slice A n c) ∧ w1.rangeAt b2 0 (dv d) ∧ Below X.heap.size X w1 ∧ X.heap.size ≤ w1.heap.size) : X.heap.size ≤ w1.heap.size := h.2.2.2.2
theorem sx_below {X : World} {b1 b2 : Nat} (h : w1.cell? ⟨b1, 0, none⟩ = some (.int .i16 s) ∧ w1.cell? ⟨b1, 1, none⟩ = some (.slice A n c) ∧ w1.rangeAt b2 0 (dv d) ∧ Below X.heap.size X w1 ∧ X.heap.size ≤ w1.heap.size) : Below X.heap.size X w1 := h.2.2.2.1
theorem range_lt {w : World} {b o : Nat} {v : Value} {cs : List Value} (h : w.rangeAt b o (v :: cs)) : b < w.heap.size := World.block_lt_of_cell? w _ (h 0 v rfl)
theorem dv_lt {w : World} {b : Nat} (h : w.rangeAt b 0 (dv d)) : b < w.heap.size := World.block_lt_of_cell? w _ (h 0 _ (dv_get d 0 (by decide)))
theorem range_below {w w' : World} {b o : Nat} {cs : List Value} (h : w.rangeAt b o cs) (hb : Below w.heap.size w w') : w'.rangeAt b o cs := range_keep h hb
end
end Go.Proofs.YtcocfnjbgceidaaGreat
namespace Go.Proofs.YtcocfnjbgceidaaGreat
open Go.RowKit
theorem append_second {P : Program} (w : World) (t t2 ty e e2 : TypeId) (ht : P.underlying t = some (.slice e)) (ht2 : P.underlying t2 = some (.slice e2)) (i : TypeInfo) (hi : P.info? e = some i) (B : Option Addr) (n c : Nat) (x : Value) :
    (Builtin.append_ #[t, t2] ty #[.slice B n c, x]).run P w = (Builtin.append_ #[t, t] ty #[.slice B n c, x]).run P w := by
  simp [Builtin.append_, run_underlying ht, run_underlying ht2, Go.sizeOf, typeInfo, hi]
theorem run_append_none {P : Program} (w : World) (t ty e : TypeId) (i : TypeInfo) (ht : P.underlying t = some (.slice e)) (hi : P.info? e = some i) (base : Nat) (size n m c : Nat) (xs : List Value) (v : Value) (hown : w.ownsRow base e size v n xs) (hm : m = 0) :
    (Builtin.append_ #[t, t] ty #[v, .slice none m c]).run P w = .ok v w := by
  subst hm
  rcases hown.2 with ⟨rfl, rfl⟩ | ⟨g, cap, cur, rfl, _, _, hnc, _⟩
  · simp [Builtin.append_, run_underlying ht, Go.sizeOf, typeInfo, hi, Builtin.lenOf, Builtin.firstCells]
  · simp [Builtin.append_, run_underlying ht, Go.sizeOf, typeInfo, hi, Builtin.lenOf, Builtin.firstCells, hnc, storeCells]
end Go.Proofs.YtcocfnjbgceidaaGreat
namespace Go.Proofs.YtcocfnjbgceidaaGreat
open Go.RowKit
theorem HA.cells {w : World} {ad : Addr} {l : List (Int × Int)} (h : HA w (some ad) l) : ∀ j u, (hcells l)[j]? = some u → w.cell? (ad.add j) = some u := by
  intro j u hu
  have hj : j < (hcells l).length := (List.getElem?_eq_some_iff.1 hu).1
  rw [hcells_length] at hj
  obtain ⟨b, o, e, _, c1, c2⟩ := h (j / 2) (by omega)
  obtain rfl : ad = ⟨b, o, none⟩ := Option.some.inj e
  rcases Nat.mod_two_eq_zero_or_one j with h0 | h0
  · have e0 : j = j / 2 * 2 := by omega
    have hv := hcells_even l (j / 2) (by omega)
    rw [← e0, hu] at hv
    rw [← e0] at c1
    rw [Option.some.inj hv]
    rw [Addr.add_lit]
    exact c1
  · have e0 : j = j / 2 * 2 + 1 := by omega
    have hv := hcells_odd l (j / 2) (by omega)
    rw [← e0, hu] at hv
    have e1 : o + j / 2 * 2 + 1 = o + j := by omega
    rw [e1] at c2
    rw [Option.some.inj hv]
    rw [Addr.add_lit]
    exact c2
theorem HA.none {w : World} {l : List (Int × Int)} (h : HA w none l) : l = [] := by
  rcases Nat.eq_zero_or_pos l.length with e | e
  · exact List.length_eq_zero_iff.1 e
  · obtain ⟨b, o, h1, _⟩ := h 0 e
    cases h1
theorem hcells_one (l : List (Int × Int)) : ∀ u ∈ hcells l, u.oneCell' = true := by
  intro u hu
  simp only [hcells, List.mem_flatMap] at hu
  obtain ⟨n, _, hu⟩ := hu
  simp at hu
  rcases hu with rfl | rfl <;> rfl
theorem own_shapeH {w : World} {base : Nat} {e : TypeId} {size n : Nat} {v : Value} {xs : List Value} (h : w.ownsRow base e size v n xs) : ∃ A c, v = .slice A n c := by
  rcases h.2 with ⟨rfl, rfl⟩ | ⟨g, cap, cur, rfl, _⟩
  · exact ⟨_, _, rfl⟩
  · exact ⟨_, _, rfl⟩
theorem own_emptyH {w : World} {base : Nat} (t : TypeId) (size : Nat) (h : base ≤ w.heap.size) : (w.alloc (.cells #[] t)).ownsRow base t size (.slice (some ⟨w.heap.size, 0, none⟩) 0 0) 0 [] :=
  World.ownsRow_made w #[] 0 h (by unfold maxLen; omega) (by simp)
/-- append of hammers that lie somewhere to a row of the call's own -/
theorem run_append_ha (w : World) (t t2 : TypeId) (e2 : TypeId) (ht : Tryz.prog.underlying t = some (.slice 127)) (ht2 : Tryz.prog.underlying t2 = some (.slice e2)) (base : Nat) (i0 : TypeInfo) (hi : Tryz.prog.info? 127 = some i0)
    (hz0 : i0.zero = some (.agg #[.int .i8 0, .int .i8 0])) (hz1 : i0.size = 2) (hz2 : i0.bytes = 2) (v : Value) (n : Nat) (xs : List Value) (hown : w.ownsRow base 127 2 v n xs) (A : Option Addr) (c : Nat) (l : List (Int × Int)) (hA : HA w A l)
    (hn : n ≤ 4194304) (hl : l.length ≤ 4194304) (hb : base ≤ w.heap.size) :
    ∃ A' c' w', (∀ ty, (Builtin.append_ #[t, t2] ty #[v, .slice A l.length c]).run Tryz.prog w = .ok (.slice A' (n + l.length) c') w') ∧ w'.ownsRow base 127 2 (.slice A' (n + l.length) c') (n + l.length) (xs ++ hcells l) ∧ w.grownBy w' v.ownBlock := by
  cases A with
  | none =>
    obtain rfl := HA.none hA
    obtain ⟨A', c', rfl⟩ := own_shapeH hown
    refine ⟨A', c', w, fun ty => ?_, ?_, ?_⟩
    · rw [append_second w t t2 ty _ e2 ht ht2 i0 hi]
      exact run_append_none w t ty _ i0 ht hi base 2 n _ c xs _ hown rfl
    · simpa [hcells_nil] using hown
    · exact ⟨rfl, rfl, rfl, Nat.le_refl _, fun _ _ _ => rfl⟩
  | some ad =>
    obtain ⟨Av, cv, rfl⟩ := own_shapeH hown
    have key : ∀ ty, ∃ v' w', (Builtin.append_ #[t, t] ty #[.slice Av n cv, .slice (some ad) l.length c]).run Tryz.prog w = .ok v' w' ∧ w'.ownsRow base 127 2 v' (n + l.length) (xs ++ hcells l) ∧ w.grownBy w' (Value.slice Av n cv).ownBlock ∧ (v' = .slice none 0 0 ↔ Value.slice Av n cv = .slice none 0 0 ∧ l.length = 0) := fun ty =>
      run_append_own w base t ty 127 i0 (.agg #[.int .i8 0, .int .i8 0]) 2 2 ht hi hz0 hz1 hz2 rfl (by decide) _ n xs hown ad l.length c (hcells l) (hcells_length l) (HA.cells hA) (hcells_one l) (by unfold maxLen; omega) (by omega) hb
    obtain ⟨v', w', hr, h2, h3, _⟩ := key 0
    obtain ⟨A', c', rfl⟩ := own_shapeH h2
    refine ⟨A', c', w', fun ty => ?_, h2, h3⟩
    rw [append_second w t t2 ty _ e2 ht ht2 i0 hi]
    exact hr
/-- hammers of the call's own -/
def OwnH (w : World) (l : List (Int × Int)) (e : Ending) (w' : World) : Prop := ∃ (C : Option Addr) (q : Nat), e = .returned (.slice C l.length q) ∧ w'.ownsRow w.heap.size 127 2 (.slice C l.length q) l.length (hcells l) ∧ Below w.heap.size w w'
end Go.Proofs.YtcocfnjbgceidaaGreat
namespace Go.Proofs.YtcocfnjbgceidaaGreat
open Go.RowKit

/-- a row without a track -/
def dropD (d : Nat → Int) (t k : Nat) : Int := bits .or .u32 (bits .and .u32 (d k) (2 ^ t - 1)) (bits .andNot .u32 (d k / 2) (2 ^ t - 1))
def drT (d : Nat → Int) (t k i : Nat) : Int := if i < k then dropD d t i else d i
theorem drT_step (d : Nat → Int) (t k i : Nat) : (if i = k then dropD d t k else drT d t k i) = drT d t (k + 1) i := by
  unfold drT
  by_cases h : i = k
  · subst h; simp
  · rw [if_neg h]
    by_cases h1 : i < k
    · rw [if_pos h1, if_pos (by omega)]
    · rw [if_neg h1, if_neg (by omega)]
theorem drT_zero (d : Nat → Int) (t : Nat) : drT d t 0 = d := by funext i; simp [drT]
theorem drT_at (d : Nat → Int) (t k : Nat) : drT d t k k = d k := by simp [drT]
theorem pow_u32 (t : Nat) (ht : t < 32) : (2 : Int) ^ t % 4294967296 = (2 : Int) ^ t := (pow_nat t ht).trans (by push_cast; rfl)
theorem pow_pos' (t : Nat) : (1 : Int) ≤ (2 : Int) ^ t := by
  have : (1 : Nat) ≤ 2 ^ t := Nat.one_le_two_pow
  exact_mod_cast this
theorem pow_sub (t : Nat) (ht : t < 32) : ((2 : Int) ^ t - 1) % 4294967296 = (2 : Int) ^ t - 1 := by
  have h1 := pow_u32 t ht
  have h2 := pow_pos' t
  have h3 : (2 : Int) ^ t % 4294967296 < 4294967296 := Int.emod_lt_of_pos _ (by decide)
  exact Int.emod_eq_of_lt (by omega) (by omega)

end Go.Proofs.YtcocfnjbgceidaaGreat
namespace Go.Proofs.YtcocfnjbgceidaaGreat
open Go.RowKit
theorem ownH_of {w w' : World} (A : Option Addr) (c n : Nat) (l : List (Int × Int)) (hn : n = l.length) (h : w'.ownsRow w.heap.size 127 2 (.slice A n c) n (hcells l)) (hb : Below w.heap.size w w') : OwnH w l (.returned (.slice A n c)) w' := by
  subst hn
  exact ⟨A, c, rfl, h, hb⟩
def OwnZH (w : World) (e : Ending) (w' : World) : Prop := ∃ (C : Option Addr) (q : Nat), e = .returned (.slice C 0 q) ∧ w'.ownsRow w.heap.size 127 2 (.slice C 0 q) 0 [] ∧ Below w.heap.size w w'
end Go.Proofs.YtcocfnjbgceidaaGreat
