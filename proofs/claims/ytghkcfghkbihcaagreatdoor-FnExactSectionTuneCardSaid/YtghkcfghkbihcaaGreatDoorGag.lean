import Derived.Test.YtghkcfghkbihcaaGreatDoorSec
import Derived.Deep.MidRow
import Derived.Great.Ranges
import Derived.Great.BuildSlice
import Derived.Test.YtghkcfghkbihcaaGreatDoorFre
import Derived.Deep.RegionHeld3
namespace Go.Proofs.YtghkcfghkbihcaaGreatDoor
open Go.RowKit

/-- block g holds these cells -/
def Bk (w : World) (g : Nat) (t : TypeId) (cs : Array Value) : Prop := w.heap[g]? = some (.cells cs t (0, 0))
theorem Bk.lt {w : World} {g : Nat} {t : TypeId} {cs : Array Value} (h : Bk w g t cs) : g < w.heap.size := (Array.getElem?_eq_some_iff.1 h).1
theorem Bk.cell {w : World} {g : Nat} {t : TypeId} {cs : Array Value} (h : Bk w g t cs) {i : Nat} {v : Value} (hv : cs[i]? = some v) : w.cell? ⟨g, i, none⟩ = some v := (cell_of_row w g i _ _ _ h).trans hv
theorem Bk.frozen {w : World} {g : Nat} {t : TypeId} {cs : Array Value} (h : Bk w g t cs) (i : Nat) : w.frozen? ⟨g, i, none⟩ = false := frozen_of_row w g i _ _ h
theorem Bk.grown {w w' : World} {g : Nat} {t : TypeId} {cs : Array Value} {row : Option Nat} (h : Bk w g t cs) (hg : w.grownBy w' row) (hne : row ≠ some g) : Bk w' g t cs := (hg.block g h.lt (fun e => hne e.symm)).trans h
theorem Bk.keep {w w' : World} {g : Nat} {t : TypeId} {cs : Array Value} (h : Bk w g t cs) (hb : Below w.heap.size w w') : Bk w' g t cs := (hb.block g h.lt).trans h
theorem Bk.other {w : World} {g b k : Nat} {t : TypeId} {cs : Array Value} (h : Bk w g t cs) (hne : g ≠ b) (v : Value) : Bk (w.setCell ⟨b, k, none⟩ v) g t cs := by
  unfold Bk at h ⊢
  rw [← h]
  exact heap_setCell_other w ⟨b, k, none⟩ g v hne
theorem Bk.new (w : World) (t : TypeId) (cs : Array Value) {k : Nat} (h : k = w.heap.size) : Bk (w.alloc (.cells cs t)) k t cs := heap_new' _ _ _ h
theorem Bk.old {w : World} {g : Nat} {t : TypeId} {cs : Array Value} (h : Bk w g t cs) (o : Obj) : Bk (w.alloc o) g t cs := heap_old' h
theorem Bk.range {w : World} {g : Nat} {t : TypeId} {cs : Array Value} (h : Bk w g t cs) (o : Nat) (l : List Value) (hl : ∀ j v, l[j]? = some v → cs[o + j]? = some v) : w.rangeAt g o l := fun j v hv => h.cell (hl j v hv)
theorem Bk.whole {w : World} {g : Nat} {t : TypeId} {cs : Array Value} (h : Bk w g t cs) : w.rangeAt g 0 cs.toList := h.range 0 _ (fun j v hv => by rw [Nat.zero_add]; simpa using hv)
theorem Bk.setRow {w : World} {g : Nat} {t : TypeId} {cs : Array Value} (h : Bk w g t cs) (cs' : Array Value) : Bk (w.setRow g cs') g t cs' := setRow_heap _ _ _ _ _ _ h
theorem below_setRow' {B g : Nat} {w w' : World} {cs : Array Value} (h : Below B w w') (hg : B ≤ g) : Below B w (w'.setRow g cs) :=
  h.trans ⟨rfl, rfl, rfl, by simp, fun k hk => setRow_other _ _ _ _ (by omega)⟩
theorem below_setCells' {B g : Nat} {w w' : World} (h : Below B w w') (hg : B ≤ g) (o : Nat) (cs : List Value) : Below B w (w'.setCells g o cs) := by
  induction cs generalizing w' o with
  | nil => exact h
  | cons v r ih => exact ih (h.setCell (p := ⟨g, o, none⟩) hg v) (o + 1)
theorem range_keep' {w w' : World} {b o : Nat} {cs : List Value} (h : w.rangeAt b o cs) (hb : Below w.heap.size w w') : w'.rangeAt b o cs := fun j v hv =>
  (hb.cell (p := ⟨b, o + j, none⟩) (World.block_lt_of_cell? w _ (h j v hv))).trans (h j v hv)
theorem range_lt' {w : World} {b o : Nat} {v : Value} {cs : List Value} (h : w.rangeAt b o (v :: cs)) : b < w.heap.size := World.block_lt_of_cell? w _ (h 0 v rfl)
end Go.Proofs.YtghkcfghkbihcaaGreatDoor
namespace Go.Proofs.YtghkcfghkbihcaaGreatDoor
open Go.RowKit
/-- szFrame from any number on -/
theorem szFrame_at_small (s : Int) (A : Option Addr) (n c : Nat) (x : Int) (h0 : 0 ≤ x) (h1 : x ≤ 1048576) (hm : n ≤ maxLen) (hs : (n : Int) ≤ x) (w : World) :
    Calls Tryz.prog 6 #[.agg #[.int .i16 s, .slice A n c], .int .i64 x] w fun e w' => e = .returned (.int .i64 (x - n)) ∧ Below w.heap.size w w' := by
  have hb0 : Below w.heap.size w (w.alloc (.cells #[.int .i16 s, .slice A n c] 25)) := (Below.refl _ _).alloc (Nat.le_refl _) _
  have hlt : decide (x - (n : Int) < 0) = false := by simp; omega
  go_enter Tryz.func6, Tryz.ntmps6
  go_wp2_with (go_at_call 24; refine (szHammerS_small A n c x h0 h1 hm hs _).mono ?_; rintro e w' ⟨rfl, rfl⟩)
  go_ret
  exact ⟨rfl, hb0⟩
theorem szFrame_at_big (s : Int) (A : Option Addr) (n c : Nat) (x : Int) (h0 : 0 ≤ x) (h1 : x ≤ 1048576) (hm : n ≤ maxLen) (hs : x < (n : Int)) (w : World) :
    Calls Tryz.prog 6 #[.agg #[.int .i16 s, .slice A n c], .int .i64 x] w fun e w' => e = .returned (.int .i64 (-1)) ∧ Below w.heap.size w w' := by
  have hb0 : Below w.heap.size w (w.alloc (.cells #[.int .i16 s, .slice A n c] 25)) := (Below.refl _ _).alloc (Nat.le_refl _) _
  go_enter Tryz.func6, Tryz.ntmps6
  go_wp2_with (go_at_call 24; refine (szHammerS_big A n c x h0 h1 hm hs _).mono ?_; rintro e w' ⟨rfl, rfl⟩)
  go_ret
  exact ⟨rfl, hb0⟩
end Go.Proofs.YtghkcfghkbihcaaGreatDoor
namespace Go.Proofs.YtghkcfghkbihcaaGreatDoor
open Go.RowKit

/-- an order's cells -/
def o48 (d : Nat → Int) : List Value := (List.range 48).map fun i => .int .i8 (d i)
theorem o48_length (d : Nat → Int) : (o48 d).length = 48 := by simp [o48]
theorem o48_get (d : Nat → Int) (i : Nat) (h : i < 48) : (o48 d)[i]? = some (.int .i8 (d i)) := by simp [o48, h]
theorem o48_one (d : Nat → Int) : ∀ v ∈ o48 d, v.oneCell' = true := by
  intro v hv
  simp only [o48, List.mem_map] at hv
  obtain ⟨i, _, rfl⟩ := hv
  rfl
theorem o48_set (d : Nat → Int) (k : Nat) (x : Int) : (o48 d).set k (.int .i8 x) = o48 (fun i => if i = k then x else d i) := by
  apply List.ext_getElem?
  intro i
  by_cases hi : i < 48
  · rw [o48_get _ _ hi, List.getElem?_set, o48_get _ _ hi, o48_length]
    by_cases e : k = i
    · subst e; simp [hi]
    · rw [if_neg e, if_neg (fun h => e h.symm)]
  · rw [List.getElem?_eq_none (by rw [List.length_set, o48_length]; omega), List.getElem?_eq_none (by rw [o48_length]; omega)]
theorem o48_congr {d d' : Nat → Int} (h : ∀ i, i < 48 → d i = d' i) : o48 d = o48 d' := by
  apply List.map_congr_left
  intro i hi
  rw [h i (List.mem_range.1 hi)]
/-- as an array -/
def oa (d : Nat → Int) : Array Value := (o48 d).toArray
theorem oa_one (d : Nat → Int) : (oa d).all (·.oneCell') = true := all_oneCell_toArray (o48_one d)
theorem oa_size (d : Nat → Int) : (oa d).size = 48 := by simp [oa, o48_length]
/-- block g holds an order, as a row of a type -/
def Oc (w : World) (g : Nat) (t : TypeId) (d : Nat → Int) : Prop := w.heap[g]? = some (.cells (oa d) t (0, 0))
theorem Oc.lt {w : World} {g : Nat} {t : TypeId} {d : Nat → Int} (h : Oc w g t d) : g < w.heap.size := (Array.getElem?_eq_some_iff.1 h).1
theorem Oc.cell {w : World} {g : Nat} {t : TypeId} {d : Nat → Int} (h : Oc w g t d) {i : Nat} (hi : i < 48) : w.cell? ⟨g, i, none⟩ = some (.int .i8 (d i)) := by
  rw [cell_of_row w g i _ _ _ h]
  simpa [oa] using o48_get d i hi
theorem Oc.frozen {w : World} {g : Nat} {t : TypeId} {d : Nat → Int} (h : Oc w g t d) (i : Nat) : w.frozen? ⟨g, i, none⟩ = false := frozen_of_row w g i _ _ h
theorem Oc.keep {w w' : World} {g : Nat} {t : TypeId} {d : Nat → Int} (h : Oc w g t d) (hb : Below w.heap.size w w') : Oc w' g t d := (hb.block g h.lt).trans h
theorem Oc.set {w : World} {g : Nat} {t : TypeId} {d : Nat → Int} (h : Oc w g t d) (k : Nat) (x : Int) : Oc (w.setCell ⟨g, k, none⟩ (.int .i8 x)) g t (fun i => if i = k then x else d i) := by
  have := heap_setCell_same w g k _ _ (.int .i8 x) h
  unfold Oc
  rw [this, oa, oa, ← o48_set]
  simp
theorem Oc.other {w : World} {g b k : Nat} {t : TypeId} {d : Nat → Int} (h : Oc w g t d) (hne : g ≠ b) (v : Value) : Oc (w.setCell ⟨b, k, none⟩ v) g t d := by
  unfold Oc at h ⊢
  rw [← h]
  exact heap_setCell_other w ⟨b, k, none⟩ g v hne
theorem Oc.congr {w : World} {g : Nat} {t : TypeId} {d d' : Nat → Int} (h : Oc w g t d) (he : ∀ i, i < 48 → d i = d' i) : Oc w g t d' := by
  unfold Oc oa at *
  rw [h, o48_congr he]

def z48 : Array Value := (List.replicate 48 (.int .i8 0)).toArray
theorem z48_eq : z48 = oa fun _ => 0 := by
  unfold z48 oa o48
  simp [List.map_const']
theorem zeroOrd (w : World) : (zeroValue 30).run Tryz.prog w = .ok (.agg z48) w := by kernel_rfl
theorem info30 : (Tryz.prog.info? 30).map (·.size) = some 48 := by kernel_rfl
theorem oInfoA (o : Nat → Int) : (Tryz.prog.info? 30).map (·.size) = some (oa o).size := by rw [oa_size]; exact info30
theorem oInfo (o : Nat → Int) : (Tryz.prog.info? 30).map (·.size) = some (o48 o).length := by rw [o48_length]; exact info30
theorem Oc.range {w : World} {g : Nat} {t : TypeId} {d : Nat → Int} (h : Oc w g t d) : w.rangeAt g 0 (o48 d) := by
  intro i v hv
  have hi : i < 48 := by
    rcases Nat.lt_or_ge i 48 with h | h
    · exact h
    · rw [List.getElem?_eq_none (by rw [o48_length]; exact h)] at hv; cases hv
  rw [o48_get _ i hi] at hv
  rw [Nat.zero_add, h.cell hi]
  exact hv
set_option maxRecDepth 20000 in
set_option maxHeartbeats 1000000 in
theorem toInt8A48_any (d : Nat → Int) (w : World) :
    Calls Tryz.prog 32 #[.agg (oa d)] w fun e w' => e = .returned (.agg (oa d)) ∧ Below w.heap.size w w' := by
  have hz := zeroOrd
  go_enter Tryz.func32, Tryz.ntmps32
  go_wp2_with fail
  clear hz
  have hb0 : Below w.heap.size w (((w.alloc (.cells (oa d) 30)).alloc (.cells z48 30)).alloc (.cells z48 30)) := (((Below.refl _ _).alloc (Nat.le_refl _) _).alloc (by simp) _).alloc (by simp; omega) _
  go_loopw [4] (fun i wr => ∃ k : Nat, k ≤ 48 ∧ i = .int .i64 k ∧ Oc wr w.heap.size 30 d ∧ Oc wr (w.heap.size + 1) 30 (fun _ => 0) ∧ Oc wr (w.heap.size + 1 + 1) 30 (fun i => if i < k then d i else 0) ∧ Below w.heap.size w wr)
    (fun i _ => 48 - (intOf i).toNat)
  case atStart => exact ⟨0, Nat.zero_le _, rfl, heap_old' (heap_old' (heap_new' _ _ _ rfl)), by rw [z48_eq]; exact heap_old' (heap_new' _ _ _ (by simp)), by rw [z48_eq]; exact heap_new' _ _ _ (by simp), hb0⟩
  case round =>
    obtain ⟨k, hk, rfl, D1, D2, D3, hb⟩ := hrel
    by_cases hlt : k < 48
    · have c1 := D1.cell hlt
      have c3 := D3.cell hlt
      have f3 := D3.frozen k
      go_wp2
      go_roundw
      case rel =>
        refine ⟨k + 1, hlt, by go_num, D1.other (by omega) _, D2.other (by omega) _, (D3.set k (d k)).congr fun i hi => ?_, hb.setCell (p := ⟨_, _, none⟩) (by dsimp only; omega) _⟩
        by_cases e : i = k
        · subst e; rw [if_pos rfl, if_pos (by omega)]
        · rw [if_neg e]
          by_cases h2 : i < k
          · rw [if_pos h2, if_pos (by omega)]
          · rw [if_neg h2, if_neg (by omega)]
      case measure => simp [intOf]; omega
    · obtain rfl : k = 48 := by omega
      have R2 : wr.heap[w.heap.size + 1]? = some (.cells (oa fun _ => 0) 30 (0, 0)) := D2
      have R3 : wr.heap[w.heap.size + 1 + 1]? = some (.cells (oa d) 30 (0, 0)) := (D3.congr (d' := d) fun i hi => by rw [if_pos hi] : Oc _ _ _ d)
      have HR2 := hide R2
      have HR3 := hide R3
      clear R2 R3
      go_wp2_with (first | (with_reducible refine wpList_load_row rfl 30 (.tmp 3) rfl (w.heap.size + 1 + 1) rfl 30 (oa d) (0, 0) _ HR3.out Tryz.underlying30 rfl (oInfoA _) ?_) | (with_reducible refine wpList_store_row rfl 30 (.tmp 2) (.tmp 14) rfl (w.heap.size + 1) (oa d) rfl rfl 30 _ HR2.out (oInfoA _) (by rw [oa_size, oa_size]) (oa_one d) ?_))
      exact bodyPost_ret (v := .agg (oa d)) (results_cell_row Tryz.results32 _ _ (w.heap.size + 1) 30 (oa d) (0, 0) _ (by simp [Act.put]) (setRow_heap _ _ _ _ _ _ HR2.out) Tryz.underlying30 rfl (oInfoA _)) rfl ⟨rfl, below_setRow' hb (by omega)⟩
set_option maxRecDepth 20000 in
set_option maxHeartbeats 1000000 in
theorem eqInt8A48_any (r : Nat → Int) (w : World) :
    Calls Tryz.prog 39 #[.agg (oa r), .agg (oa r)] w (Says true w) := by
  have hb0 : Below w.heap.size w ((w.alloc (.cells (oa r) 30)).alloc (.cells (oa r) 30)) := ((Below.refl _ _).alloc (Nat.le_refl _) _).alloc (by simp) _
  have A0 : Oc ((w.alloc (.cells (oa r) 30)).alloc (.cells (oa r) 30)) w.heap.size 30 r := heap_old' (heap_new' _ _ _ rfl)
  have B0 : Oc ((w.alloc (.cells (oa r) 30)).alloc (.cells (oa r) 30)) (w.heap.size + 1) 30 r := heap_new' _ _ _ (by simp)
  go_enter Tryz.func39, Tryz.ntmps39
  go_wp2_with fail
  go_loopw [5] (fun i wr => ∃ k : Nat, k ≤ 48 ∧ i = .int .i64 k ∧ Oc wr w.heap.size 30 r ∧ Oc wr (w.heap.size + 1) 30 r ∧ Below w.heap.size w wr)
    (fun i _ => 48 - (intOf i).toNat)
  case atStart => exact ⟨0, Nat.zero_le _, rfl, A0, B0, hb0⟩
  case round =>
    obtain ⟨k, hk, rfl, D1, D2, hb⟩ := hrel
    by_cases hlt : k < 48
    · have c1 := Later.cell (D1.cell hlt)
      have c2 := Later.cell (D2.cell hlt)
      have hne : (r k != r k) = false := by simp
      have hsz := hb.size
      go_wp2_with fail
      refine wp_region_later (by kernel_rfl) (by kernel_rfl) ?_
      repeat (go_big_quiet_step (fail))
      refine wpQuiet_nil ?_
      rintro _ ⟨⟨wq, hq⟩, rfl⟩
      go_wp2
      go_roundw
      case rel => exact ⟨k + 1, hlt, by go_num, D1.keep hq, D2.keep hq, hb.trans (hq.mono hsz)⟩
      case measure => simp [intOf]; omega
    · obtain rfl : k = 48 := by omega
      go_wp2
      go_ret
      exact ⟨rfl, hb⟩
end Go.Proofs.YtghkcfghkbihcaaGreatDoor
