import Derived.Test.YtcepjiglhlmgdaaGreatDoorGau
import Derived.Deep.CutRange
namespace Go.Proofs.YtcepjiglhlmgdaaGreatDoor
open Go.RowKit

section
variable {w0 w1 w2 : World} {s : Int} {A : Option Addr} {n c : Nat} {d : Nat → Int}
theorem range_keep {w w' : World} {b o : Nat} {cs : List Value} (h : w.rangeAt b o cs) (hb : Below w.heap.size w w') : w'.rangeAt b o cs := fun j v hv =>
  (hb.cell (p := ⟨b, o + j, none⟩) (World.block_lt_of_cell? w _ (h j v hv))).trans (h j v hv)
theorem sl_keep (h : w1.cell? ⟨w0.heap.size, 0, none⟩ = some (.int .i16 s) ∧ w1.cell? ⟨w0.heap.size, 1, none⟩ = some (.slice A n c) ∧ w1.rangeAt (w0.heap.size + 1) 0 (dv d) ∧ Below w0.heap.size w0 w1 ∧ w0.heap.size + 2 ≤ w1.heap.size) (hb : Below w1.heap.size w1 w2) :
    w2.cell? ⟨w0.heap.size, 0, none⟩ = some (.int .i16 s) ∧ w2.cell? ⟨w0.heap.size, 1, none⟩ = some (.slice A n c) ∧ w2.rangeAt (w0.heap.size + 1) 0 (dv d) ∧ Below w0.heap.size w0 w2 ∧ w0.heap.size + 2 ≤ w2.heap.size :=
  ⟨(hb.cell (p := ⟨_, _, none⟩) (World.block_lt_of_cell? _ _ h.1)).trans h.1, (hb.cell (p := ⟨_, _, none⟩) (World.block_lt_of_cell? _ _ h.2.1)).trans h.2.1, range_keep h.2.2.1 hb, step_below hb h.2.2.2.1, Nat.le_trans h.2.2.2.2 hb.size⟩
theorem sl_keep' (hb : Below w1.heap.size w1 w2) (h : w1.cell? ⟨w0.heap.size, 0, none⟩ = some (.int .i16 s) ∧ w1.cell? ⟨w0.heap.size, 1, none⟩ = some (.slice A n c) ∧ w1.rangeAt (w0.heap.size + 1) 0 (dv d) ∧ Below w0.heap.size w0 w1 ∧ w0.heap.size + 2 ≤ w1.heap.size) :
    w2.cell? ⟨w0.heap.size, 0, none⟩ = some (.int .i16 s) ∧ w2.cell? ⟨w0.heap.size, 1, none⟩ = some (.slice A n c) ∧ w2.rangeAt (w0.heap.size + 1) 0 (dv d) ∧ Below w0.heap.size w0 w2 ∧ w0.heap.size + 2 ≤ w2.heap.size := sl_keep h hb
theorem al_below (w : World) (o : Obj) : Below w.heap.size w (w.alloc o) := (Below.refl _ _).alloc (Nat.le_refl _) _
theorem sl_alloc {o : Obj} (h : w1.cell? ⟨w0.heap.size, 0, none⟩ = some (.int .i16 s) ∧ w1.cell? ⟨w0.heap.size, 1, none⟩ = some (.slice A n c) ∧ w1.rangeAt (w0.heap.size + 1) 0 (dv d) ∧ Below w0.heap.size w0 w1 ∧ w0.heap.size + 2 ≤ w1.heap.size) :
    (w1.alloc o).cell? ⟨w0.heap.size, 0, none⟩ = some (.int .i16 s) ∧ (w1.alloc o).cell? ⟨w0.heap.size, 1, none⟩ = some (.slice A n c) ∧ (w1.alloc o).rangeAt (w0.heap.size + 1) 0 (dv d) ∧ Below w0.heap.size w0 (w1.alloc o) ∧ w0.heap.size + 2 ≤ (w1.alloc o).heap.size := sl_keep h (al_below _ _)
theorem sl_drewal {o : Obj} (h : w1.cell? ⟨w0.heap.size, 0, none⟩ = some (.int .i16 s) ∧ w1.cell? ⟨w0.heap.size, 1, none⟩ = some (.slice A n c) ∧ w1.rangeAt (w0.heap.size + 1) 0 (dv d) ∧ Below w0.heap.size w0 w1 ∧ w0.heap.size + 2 ≤ w1.heap.size) :
    (w1.alloc o).drew.cell? ⟨w0.heap.size, 0, none⟩ = some (.int .i16 s) ∧ (w1.alloc o).drew.cell? ⟨w0.heap.size, 1, none⟩ = some (.slice A n c) ∧ (w1.alloc o).drew.rangeAt (w0.heap.size + 1) 0 (dv d) ∧ Below w0.heap.size w0 (w1.alloc o).drew ∧ w0.heap.size + 2 ≤ (w1.alloc o).drew.heap.size := sl_keep (sl_alloc h) ((Below.refl _ _).drew)
theorem below_setCells {B g : Nat} {w w' : World} (h : Below B w w') (hg : B ≤ g) (o : Nat) (cs : List Value) : Below B w (w'.setCells g o cs) := by
  induction cs generalizing w' o with
  | nil => exact h
  | cons v r ih => exact ih (h.setCell (p := ⟨g, o, none⟩) hg v) (o + 1)
theorem sl_set {g : Nat} {cs : List Value} (h : w1.cell? ⟨w0.heap.size, 0, none⟩ = some (.int .i16 s) ∧ w1.cell? ⟨w0.heap.size, 1, none⟩ = some (.slice A n c) ∧ w1.rangeAt (w0.heap.size + 1) 0 (dv d) ∧ Below w0.heap.size w0 w1 ∧ w0.heap.size + 2 ≤ w1.heap.size) (hg : w0.heap.size + 2 ≤ g) :
    (w1.setCells g 0 cs).cell? ⟨w0.heap.size, 0, none⟩ = some (.int .i16 s) ∧ (w1.setCells g 0 cs).cell? ⟨w0.heap.size, 1, none⟩ = some (.slice A n c) ∧ (w1.setCells g 0 cs).rangeAt (w0.heap.size + 1) 0 (dv d) ∧ Below w0.heap.size w0 (w1.setCells g 0 cs) ∧ w0.heap.size + 2 ≤ (w1.setCells g 0 cs).heap.size := by
  have hz : w1.heap.size ≤ (w1.setCells g 0 cs).heap.size := (below_setCells (B := 0) (Below.refl _ w1) (Nat.zero_le _) 0 cs).size
  refine ⟨?_, ?_, World.rangeAt_setCells_apart h.2.2.1 g 0 cs (Or.inl (by omega)), below_setCells h.2.2.2.1 (by omega) 0 cs, by have := h.2.2.2.2; omega⟩
  · rw [World.cell?_setCells_out g cs 0 w1 _ (fun h1 _ => absurd h1 (by dsimp only; omega))]; exact h.1
  · rw [World.cell?_setCells_out g cs 0 w1 _ (fun h1 _ => absurd h1 (by dsimp only; omega))]; exact h.2.1
theorem sl_below (h : w1.cell? ⟨w0.heap.size, 0, none⟩ = some (.int .i16 s) ∧ w1.cell? ⟨w0.heap.size, 1, none⟩ = some (.slice A n c) ∧ w1.rangeAt (w0.heap.size + 1) 0 (dv d) ∧ Below w0.heap.size w0 w1 ∧ w0.heap.size + 2 ≤ w1.heap.size) : Below w0.heap.size w0 w1 := h.2.2.2.1
theorem sl_size (h : w1.cell? ⟨w0.heap.size, 0, none⟩ = some (.int .i16 s) ∧ w1.cell? ⟨w0.heap.size, 1, none⟩ = some (.slice A n c) ∧ w1.rangeAt (w0.heap.size + 1) 0 (dv d) ∧ Below w0.heap.size w0 w1 ∧ w0.heap.size + 2 ≤ w1.heap.size) : w0.heap.size + 2 ≤ w1.heap.size := h.2.2.2.2
theorem th_new (w : World) (t : TypeId) : (w.alloc (.cells za t)).there w.heap.size 0 96 := by
  have h : Dr (w.alloc (.cells za t)) w.heap.size t (fun _ => 0) := by rw [za_eq]; exact heap_new' _ _ _ rfl
  intro j hj
  rw [Nat.zero_add, h.cell hj]
  exact ⟨rfl, h.frozen j⟩
theorem th_newd (w : World) (t : TypeId) : ((w.alloc (.cells za t)).drew).there w.heap.size 0 96 := (World.there_drew _ _ _ _).2 (th_new w t)
theorem th_keep {w w' : World} {b o k : Nat} (h : w.there b o k) (hb : Below w.heap.size w w') : w'.there b o k := fun j hj => by
  obtain ⟨h1, h2⟩ := h j hj
  obtain ⟨u, hu⟩ := Option.isSome_iff_exists.1 h1
  have hl := World.block_lt_of_cell? w _ hu
  exact ⟨by rw [(hb.cell (p := ⟨b, o + j, none⟩) hl).trans hu]; rfl, (hb.frozen (p := ⟨b, o + j, none⟩) hl).trans h2⟩
theorem sx_keep {X : World} {b1 b2 : Nat} (h : w1.cell? ⟨b1, 0, none⟩ = some (.int .i16 s) ∧ w1.cell? ⟨b1, 1, none⟩ = some (.slice A n c) ∧ w1.rangeAt b2 0 (dv d) ∧ Below X.heap.size X w1 ∧ X.heap.size ≤ w1.heap.size) (hb : Below w1.heap.size w1 w2) :
    w2.cell? ⟨b1, 0, none⟩ = some (.int .i16 s) ∧ w2.cell? ⟨b1, 1, none⟩ = some (.slice A n c) ∧ w2.rangeAt b2 0 (dv d) ∧ Below X.heap.size X w2 ∧ X.heap.size ≤ w2.heap.size :=
  ⟨(hb.cell (p := ⟨_, _, none⟩) (World.block_lt_of_cell? _ _ h.1)).trans h.1, (hb.cell (p := ⟨_, _, none⟩) (World.block_lt_of_cell? _ _ h.2.1)).trans h.2.1, range_keep h.2.2.1 hb, h.2.2.2.1.trans (hb.mono h.2.2.2.2), Nat.le_trans h.2.2.2.2 hb.size⟩
theorem sx_keep' {X : World} {b1 b2 : Nat} (hb : Below w1.heap.size w1 w2) (h : w1.cell? ⟨b1, 0, none⟩ = some (.int .i16 s) ∧ w1.cell? ⟨b1, 1, none⟩ = some (.slice A n c) ∧ w1.rangeAt b2 0 (dv d) ∧ Below X.heap.size X w1 ∧ X.heap.size ≤ w1.heap.size) :
    w2.cell? ⟨b1, 0, none⟩ = some (.int .i16 s) ∧ w2.cell? ⟨b1, 1, none⟩ = some (.slice A n c) ∧ w2.rangeAt b2 0 (dv d) ∧ Below X.heap.size X w2 ∧ X.heap.size ≤ w2.heap.size := sx_keep h hb
theorem sx_alloc {X : World} {b1 b2 : Nat} {o : Obj} (h : w1.cell? ⟨b1, 0, none⟩ = some (.int .i16 s) ∧ w1.cell? ⟨b1, 1, none⟩ = some (.slice A n c) ∧ w1.rangeAt b2 0 (dv d) ∧ Below X.heap.size X w1 ∧ X.heap.size ≤ w1.heap.size) :
    (w1.alloc o).cell? ⟨b1, 0, none⟩ = some (.int .i16 s) ∧ (w1.alloc o).cell? ⟨b1, 1, none⟩ = some (.slice A n c) ∧ (w1.alloc o).rangeAt b2 0 (dv d) ∧ Below X.heap.size X (w1.alloc o) ∧ X.heap.size ≤ (w1.alloc o).heap.size := sx_keep h (al_below _ _)
theorem sx_drewal {X : World} {b1 b2 : Nat} {o : Obj} (h : w1.cell? ⟨b1, 0, none⟩ = some (.int .i16 s) ∧ w1.cell? ⟨b1, 1, none⟩ = some (.slice A n c) ∧ w1.rangeAt b2 0 (dv d) ∧ Below X.heap.size X w1 ∧ X.heap.size ≤ w1.heap.size) :
    (w1.alloc o).drew.cell? ⟨b1, 0, none⟩ = some (.int .i16 s) ∧ (w1.alloc o).drew.cell? ⟨b1, 1, none⟩ = some (.slice A n c) ∧ (w1.alloc o).drew.rangeAt b2 0 (dv d) ∧ Below X.heap.size X (w1.alloc o).drew ∧ X.heap.size ≤ (w1.alloc o).drew.heap.size := sx_keep (sx_alloc h) ((Below.refl _ _).drew)
theorem sx_set {X : World} {b1 b2 g : Nat} {cs : List Value} (h : w1.cell? ⟨b1, 0, none⟩ = some (.int .i16 s) ∧ w1.cell? ⟨b1, 1, none⟩ = some (.slice A n c) ∧ w1.rangeAt b2 0 (dv d) ∧ Below X.heap.size X w1 ∧ X.heap.size ≤ w1.heap.size) (h1 : b1 < X.heap.size) (h2 : b2 < X.heap.size) (hg : X.heap.size ≤ g) :
    (w1.setCells g 0 cs).cell? ⟨b1, 0, none⟩ = some (.int .i16 s) ∧ (w1.setCells g 0 cs).cell? ⟨b1, 1, none⟩ = some (.slice A n c) ∧ (w1.setCells g 0 cs).rangeAt b2 0 (dv d) ∧ Below X.heap.size X (w1.setCells g 0 cs) ∧ X.heap.size ≤ (w1.setCells g 0 cs).heap.size := by
  have hz : w1.heap.size ≤ (w1.setCells g 0 cs).heap.size := (below_setCells (B := 0) (Below.refl _ w1) (Nat.zero_le _) 0 cs).size
  refine ⟨?_, ?_, World.rangeAt_setCells_apart h.2.2.1 g 0 cs (Or.inl (by omega)), below_setCells h.2.2.2.1 hg 0 cs, by have := h.2.2.2.2; omega⟩
  · rw [World.cell?_setCells_out g cs 0 w1 _ (fun h1 _ => absurd h1 (by dsimp only; omega))]; exact h.1
  · rw [World.cell?_setCells_out g cs 0 w1 _ (fun h1 _ => absurd h1 (by dsimp only; omega))]; exact h.2.1
theorem sx_size {X : World} {b1 b2 : Nat} (h : w1.cell? ⟨b1, 0, none⟩ = some (.int .i16 s) ∧ w1.cell? ⟨b1, 1, none⟩ = some (.slice A n c) ∧ w1.rangeAt b2 0 (dv d) ∧ Below X.heap.size X w1 ∧ X.heap.size ≤ w1.heap.size) : X.heap.size ≤ w1.heap.size := h.2.2.2.2
theorem sx_below {X : World} {b1 b2 : Nat} (h : w1.cell? ⟨b1, 0, none⟩ = some (.int .i16 s) ∧ w1.cell? ⟨b1, 1, none⟩ = some (.slice A n c) ∧ w1.rangeAt b2 0 (dv d) ∧ Below X.heap.size X w1 ∧ X.heap.size ≤ w1.heap.size) : Below X.heap.size X w1 := h.2.2.2.1
theorem range_lt {w : World} {b o : Nat} {v : Value} {cs : List Value} (h : w.rangeAt b o (v :: cs)) : b < w.heap.size := World.block_lt_of_cell? w _ (h 0 v rfl)
theorem dv_lt {w : World} {b : Nat} (h : w.rangeAt b 0 (dv d)) : b < w.heap.size := World.block_lt_of_cell? w _ (h 0 _ (dv_get d 0 (by decide)))
theorem range_below {w w' : World} {b o : Nat} {cs : List Value} (h : w.rangeAt b o cs) (hb : Below w.heap.size w w') : w'.rangeAt b o cs := range_keep h hb
end
end Go.Proofs.YtcepjiglhlmgdaaGreatDoor
