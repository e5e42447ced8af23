import Derived.Test.YtcepjiglhlmgdaaDoorFre
import Derived.Deep.MidRow
import Derived.Great.Ranges
import Derived.Great.BuildSlice
namespace Go.Proofs.YtcepjiglhlmgdaaDoor
open Go.RowKit

/-- a drum's cells -/
def dv (d : Nat → Int) : List Value := (List.range 96).map fun i => .int .u32 (d i)
theorem dv_length (d : Nat → Int) : (dv d).length = 96 := by simp [dv]
theorem dv_get (d : Nat → Int) (i : Nat) (h : i < 96) : (dv d)[i]? = some (.int .u32 (d i)) := by simp [dv, h]
theorem dv_one (d : Nat → Int) : ∀ v ∈ dv d, v.oneCell' = true := by
  intro v hv
  simp only [dv, List.mem_map] at hv
  obtain ⟨i, _, rfl⟩ := hv
  rfl
theorem dv_set (d : Nat → Int) (k : Nat) (x : Int) : (dv d).set k (.int .u32 x) = dv (fun i => if i = k then x else d i) := by
  apply List.ext_getElem?
  intro i
  by_cases hi : i < 96
  · rw [dv_get _ _ hi, List.getElem?_set, dv_get _ _ hi, dv_length]
    by_cases e : k = i
    · subst e; simp [hi]
    · rw [if_neg e, if_neg (fun h => e h.symm)]
  · rw [List.getElem?_eq_none (by rw [List.length_set, dv_length]; omega), List.getElem?_eq_none (by rw [dv_length]; omega)]
theorem dv_congr {d d' : Nat → Int} (h : ∀ i, i < 96 → d i = d' i) : dv d = dv d' := by
  apply List.map_congr_left
  intro i hi
  rw [h i (List.mem_range.1 hi)]
/-- as an array -/
def da (d : Nat → Int) : Array Value := (dv d).toArray
theorem da_one (d : Nat → Int) : (da d).all (·.oneCell') = true := all_oneCell_toArray (dv_one d)
theorem da_size (d : Nat → Int) : (da d).size = 96 := by simp [da, dv_length]
/-- block g holds a drum, as a row of a type -/
def Dr (w : World) (g : Nat) (t : TypeId) (d : Nat → Int) : Prop := w.heap[g]? = some (.cells (da d) t (0, 0))
theorem Dr.lt {w : World} {g : Nat} {t : TypeId} {d : Nat → Int} (h : Dr w g t d) : g < w.heap.size := (Array.getElem?_eq_some_iff.1 h).1
theorem Dr.cell {w : World} {g : Nat} {t : TypeId} {d : Nat → Int} (h : Dr w g t d) {i : Nat} (hi : i < 96) : w.cell? ⟨g, i, none⟩ = some (.int .u32 (d i)) := by
  rw [cell_of_row w g i _ _ _ h]
  simpa [da] using dv_get d i hi
theorem Dr.frozen {w : World} {g : Nat} {t : TypeId} {d : Nat → Int} (h : Dr w g t d) (i : Nat) : w.frozen? ⟨g, i, none⟩ = false := frozen_of_row w g i _ _ h
theorem Dr.keep {w w' : World} {g : Nat} {t : TypeId} {d : Nat → Int} (h : Dr w g t d) (hb : Below w.heap.size w w') : Dr w' g t d := (hb.block g h.lt).trans h
theorem Dr.set {w : World} {g : Nat} {t : TypeId} {d : Nat → Int} (h : Dr w g t d) (k : Nat) (x : Int) : Dr (w.setCell ⟨g, k, none⟩ (.int .u32 x)) g t (fun i => if i = k then x else d i) := by
  have := heap_setCell_same w g k _ _ (.int .u32 x) h
  unfold Dr
  rw [this, da, da, ← dv_set]
  simp
theorem Dr.other {w : World} {g b k : Nat} {t : TypeId} {d : Nat → Int} (h : Dr w g t d) (hne : g ≠ b) (v : Value) : Dr (w.setCell ⟨b, k, none⟩ v) g t d := by
  unfold Dr at h ⊢
  rw [← h]
  exact heap_setCell_other w ⟨b, k, none⟩ g v hne
theorem Dr.congr {w : World} {g : Nat} {t : TypeId} {d d' : Nat → Int} (h : Dr w g t d) (he : ∀ i, i < 96 → d i = d' i) : Dr w g t d' := by
  unfold Dr da at *
  rw [h, dv_congr he]

def za : Array Value := (List.replicate 96 (.int .u32 0)).toArray
theorem rep_range (n : Nat) (v : Value) : List.replicate n v = (List.range n).map fun _ => v := by simp [List.map_const']
theorem za_eq : za = da fun _ => 0 := by
  unfold za da dv
  rw [rep_range]
theorem below_setRow {B g : Nat} {w w' : World} {cs : Array Value} (h : Below B w w') (hg : B ≤ g) : Below B w (w'.setRow g cs) :=
  h.trans ⟨rfl, rfl, rfl, by simp, fun k hk => setRow_other _ _ _ _ (by omega)⟩
theorem zeroDrum (w : World) : (zeroValue 49).run Tryd.prog w = .ok (.agg za) w := by kernel_rfl
theorem info49 : (Tryd.prog.info? 49).map (·.size) = some 96 := by kernel_rfl
theorem info45 : (Tryd.prog.info? 45).map (·.size) = some 96 := by kernel_rfl

set_option maxRecDepth 20000 in
set_option maxHeartbeats 1000000 in
theorem toDrum_any (d : Nat → Int) (w : World) :
    Calls Tryd.prog 16 #[.agg (da d)] w fun e w' => e = .returned (.agg (da d)) ∧ Below w.heap.size w w' := by
  have hz := zeroDrum
  go_enter Tryd.func16, Tryd.ntmps16
  go_wp2_with fail
  clear hz
  have hb0 : Below w.heap.size w (((w.alloc (.cells (da d) 45)).alloc (.cells za 49)).alloc (.cells za 49)) := (((Below.refl _ _).alloc (Nat.le_refl _) _).alloc (by simp) _).alloc (by simp; omega) _
  go_loopw [4] (fun i wr => ∃ k : Nat, k ≤ 96 ∧ i = .int .i64 k ∧ Dr wr w.heap.size 45 d ∧ Dr wr (w.heap.size + 1) 49 (fun _ => 0) ∧ Dr wr (w.heap.size + 1 + 1) 49 (fun i => if i < k then d i else 0) ∧ Below w.heap.size w wr)
    (fun i _ => 96 - (intOf i).toNat)
  case atStart => exact ⟨0, Nat.zero_le _, rfl, heap_old' (heap_old' (heap_new' _ _ _ rfl)), by rw [za_eq]; exact heap_old' (heap_new' _ _ _ (by simp)), by rw [za_eq]; exact heap_new' _ _ _ (by simp), hb0⟩
  case round =>
    obtain ⟨k, hk, rfl, D1, D2, D3, hb⟩ := hrel
    by_cases hlt : k < 96
    · have c1 := D1.cell hlt
      have c3 := D3.cell hlt
      have f3 := D3.frozen k
      go_wp2
      go_roundw
      case rel =>
        refine ⟨k + 1, hlt, by go_num, D1.other (by omega) _, D2.other (by omega) _, (D3.set k (d k)).congr fun i hi => ?_, hb.setCell (p := ⟨_, _, none⟩) (by dsimp only; omega) _⟩
        by_cases e : i = k
        · subst e; rw [if_pos rfl, if_pos (by omega)]
        · rw [if_neg e]
          by_cases h2 : i < k
          · rw [if_pos h2, if_pos (by omega)]
          · rw [if_neg h2, if_neg (by omega)]
      case measure => simp [intOf]; omega
    · obtain rfl : k = 96 := by omega
      have R2 : wr.heap[w.heap.size + 1]? = some (.cells (da fun _ => 0) 49 (0, 0)) := D2
      have R3 : wr.heap[w.heap.size + 1 + 1]? = some (.cells (da d) 49 (0, 0)) := (D3.congr (d' := d) fun i hi => by rw [if_pos hi] : Dr _ _ _ d)
      have HR2 := hide R2
      have HR3 := hide R3
      clear R2 R3
      go_wp2_with (first | (with_reducible refine wpList_load_row rfl 49 (.tmp 3) rfl (w.heap.size + 1 + 1) rfl 49 (da d) (0, 0) _ HR3.out Tryd.underlying49 rfl (by rw [da_size]; exact info49) ?_) | (with_reducible refine wpList_store_row rfl 49 (.tmp 2) (.tmp 14) rfl (w.heap.size + 1) (da d) rfl rfl 49 _ HR2.out (by rw [da_size]; exact info49) (by rw [da_size, da_size]) (da_one d) ?_))
      exact bodyPost_ret (v := .agg (da d)) (results_cell_row Tryd.results16 _ _ (w.heap.size + 1) 49 (da d) (0, 0) _ (by simp [Act.put]) (setRow_heap _ _ _ _ _ _ HR2.out) Tryd.underlying49 rfl (by rw [da_size]; exact info49)) rfl ⟨rfl, below_setRow hb (by omega)⟩
end Go.Proofs.YtcepjiglhlmgdaaDoor
