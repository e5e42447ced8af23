import Derived.Test.YtcepjiglhlmgdaaGreatDoorFre
import Derived.Deep.MidRow
import Derived.Great.Ranges
import Derived.Great.BuildSlice
import Derived.Test.YtcepjiglhlmgdaaGreatDoorGag
import Derived.StillTailTactics
import Derived.Test.YtcepjiglhlmgdaaGreatDoorGaa
import Derived.Test.YtcepjiglhlmgdaaGreatDoorRows
import Derived.ProofKit
import Derived.Deep.SlicePairs
import Derived.OpenShut
import Derived.ChangeSlices
namespace Go.Proofs.YtcepjiglhlmgdaaGreatDoor
open Go.RowKit

/-- a drum's cells -/
def dv (d : Nat → Int) : List Value := (List.range 96).map fun i => .int .u32 (d i)
theorem dv_length (d : Nat → Int) : (dv d).length = 96 := by simp [dv]
theorem dv_get (d : Nat → Int) (i : Nat) (h : i < 96) : (dv d)[i]? = some (.int .u32 (d i)) := by simp [dv, h]
theorem dv_one (d : Nat → Int) : ∀ v ∈ dv d, v.oneCell' = true := by
  intro v hv
  simp only [dv, List.mem_map] at hv
  obtain ⟨i, _, rfl⟩ := hv
  rfl
theorem dv_set (d : Nat → Int) (k : Nat) (x : Int) : (dv d).set k (.int .u32 x) = dv (fun i => if i = k then x else d i) := by
  apply List.ext_getElem?
  intro i
  by_cases hi : i < 96
  · rw [dv_get _ _ hi, List.getElem?_set, dv_get _ _ hi, dv_length]
    by_cases e : k = i
    · subst e; simp [hi]
    · rw [if_neg e, if_neg (fun h => e h.symm)]
  · rw [List.getElem?_eq_none (by rw [List.length_set, dv_length]; omega), List.getElem?_eq_none (by rw [dv_length]; omega)]
theorem dv_congr {d d' : Nat → Int} (h : ∀ i, i < 96 → d i = d' i) : dv d = dv d' := by
  apply List.map_congr_left
  intro i hi
  rw [h i (List.mem_range.1 hi)]
/-- as an array -/
def da (d : Nat → Int) : Array Value := (dv d).toArray
theorem da_one (d : Nat → Int) : (da d).all (·.oneCell') = true := all_oneCell_toArray (dv_one d)
theorem da_size (d : Nat → Int) : (da d).size = 96 := by simp [da, dv_length]
/-- block g holds a drum, as a row of a type -/
def Dr (w : World) (g : Nat) (t : TypeId) (d : Nat → Int) : Prop := w.heap[g]? = some (.cells (da d) t (0, 0))
theorem Dr.lt {w : World} {g : Nat} {t : TypeId} {d : Nat → Int} (h : Dr w g t d) : g < w.heap.size := (Array.getElem?_eq_some_iff.1 h).1
theorem Dr.cell {w : World} {g : Nat} {t : TypeId} {d : Nat → Int} (h : Dr w g t d) {i : Nat} (hi : i < 96) : w.cell? ⟨g, i, none⟩ = some (.int .u32 (d i)) := by
  rw [cell_of_row w g i _ _ _ h]
  simpa [da] using dv_get d i hi
theorem Dr.frozen {w : World} {g : Nat} {t : TypeId} {d : Nat → Int} (h : Dr w g t d) (i : Nat) : w.frozen? ⟨g, i, none⟩ = false := frozen_of_row w g i _ _ h
theorem Dr.keep {w w' : World} {g : Nat} {t : TypeId} {d : Nat → Int} (h : Dr w g t d) (hb : Below w.heap.size w w') : Dr w' g t d := (hb.block g h.lt).trans h
theorem Dr.set {w : World} {g : Nat} {t : TypeId} {d : Nat → Int} (h : Dr w g t d) (k : Nat) (x : Int) : Dr (w.setCell ⟨g, k, none⟩ (.int .u32 x)) g t (fun i => if i = k then x else d i) := by
  have := heap_setCell_same w g k _ _ (.int .u32 x) h
  unfold Dr
  rw [this, da, da, ← dv_set]
  simp
theorem Dr.other {w : World} {g b k : Nat} {t : TypeId} {d : Nat → Int} (h : Dr w g t d) (hne : g ≠ b) (v : Value) : Dr (w.setCell ⟨b, k, none⟩ v) g t d := by
  unfold Dr at h ⊢
  rw [← h]
  exact heap_setCell_other w ⟨b, k, none⟩ g v hne
theorem Dr.congr {w : World} {g : Nat} {t : TypeId} {d d' : Nat → Int} (h : Dr w g t d) (he : ∀ i, i < 96 → d i = d' i) : Dr w g t d' := by
  unfold Dr da at *
  rw [h, dv_congr he]

def za : Array Value := (List.replicate 96 (.int .u32 0)).toArray
theorem rep_range (n : Nat) (v : Value) : List.replicate n v = (List.range n).map fun _ => v := by simp [List.map_const']
theorem za_eq : za = da fun _ => 0 := by
  unfold za da dv
  rw [rep_range]
theorem below_setRow {B g : Nat} {w w' : World} {cs : Array Value} (h : Below B w w') (hg : B ≤ g) : Below B w (w'.setRow g cs) :=
  h.trans ⟨rfl, rfl, rfl, by simp, fun k hk => setRow_other _ _ _ _ (by omega)⟩
theorem zeroDrum (w : World) : (zeroValue 53).run Tryz.prog w = .ok (.agg za) w := by kernel_rfl
theorem info53 : (Tryz.prog.info? 53).map (·.size) = some 96 := by kernel_rfl
theorem info52 : (Tryz.prog.info? 52).map (·.size) = some 96 := by kernel_rfl

end Go.Proofs.YtcepjiglhlmgdaaGreatDoor
namespace Go.Proofs.YtcepjiglhlmgdaaGreatDoor
open Go.RowKit

/-- the pins of a step are where there may be pins -/
def stepB (s : Int) (n : Nat) (d : Nat → Int) (k : Nat) : Bool := decide (d k / 2 ^ n = 0) && (decide ((k : Int) < s) || decide (d k = 0))
def drB (s : Int) (n : Nat) (d : Nat → Int) : Bool := (List.range 96).all (stepB s n d)
def DG (s : Int) (n : Nat) (d : Nat → Int) (k : Nat) : Prop := ∀ j, j < k → stepB s n d j = true
theorem DG_succ {s : Int} {n : Nat} {d : Nat → Int} {k : Nat} (h : DG s n d k) (h' : stepB s n d k = true) : DG s n d (k + 1) := fun j hj => by
  rcases Nat.lt_or_ge j k with h1 | h1
  · exact h j h1
  · rw [show j = k by omega]; exact h'
theorem drB_yes {s : Int} {n : Nat} {d : Nat → Int} (h : DG s n d 96) : drB s n d = true := by simp only [drB, List.all_eq_true, List.mem_range]; exact h
theorem drB_no {s : Int} {n : Nat} {d : Nat → Int} {k : Nat} (hk : k < 96) (h : stepB s n d k = false) : drB s n d = false := by
  rw [drB, List.all_eq_false]
  exact ⟨k, List.mem_range.2 hk, by simp [h]⟩
theorem drB_all {s : Int} {n : Nat} {d : Nat → Int} (h : drB s n d = true) : DG s n d 96 := fun j hj => by
  simp only [drB, List.all_eq_true, List.mem_range] at h
  exact h j hj
def DWF (d : Nat → Int) : Prop := ∀ i, i < 96 → 0 ≤ d i ∧ d i ≤ 4294967295

theorem Dr.range0 {w : World} {g : Nat} {t : TypeId} {d : Nat → Int} (h : Dr w g t d) : w.rangeAt g 0 (dv d) := by
  intro i v hv
  have hi : i < 96 := by
    rcases Nat.lt_or_ge i 96 with h | h
    · exact h
    · rw [List.getElem?_eq_none (by rw [dv_length]; exact h)] at hv; cases hv
  rw [dv_get _ i hi] at hv
  rw [Nat.zero_add, h.cell hi]
  exact hv
/-- a number comes back -/
def SaysI (x : Int) (w : World) (e : Ending) (w' : World) : Prop := e = .returned (.int .i64 x) ∧ Below w.heap.size w w'
/-- the frame is valid, and the drum for it -/
def askB (s : Int) (l : List (Int × Int)) (d : Nat → Int) : Bool := frB s l && drB s l.length d
end Go.Proofs.YtcepjiglhlmgdaaGreatDoor
namespace Go.Proofs.YtcepjiglhlmgdaaGreatDoor
open Go.RowKit

/-- what is kept of a step: the bits of the tracks that there are -/
def keptI (n : Nat) (x : Int) : Int := bits .and .u32 x ((2 ^ n - 1) % 4294967296)
def keptD (s : Int) (n : Nat) (d : Nat → Int) (i : Nat) : Int := if (i : Int) < s then keptI n (d i) else 0

set_option maxRecDepth 20000 in
set_option maxHeartbeats 1000000 in
theorem cut_any (s : Int) (A : Option Addr) (n c : Nat) (d : Nat → Int) (w : World) (hn : n ≤ 24) (hs : 2 ≤ s ∧ s ≤ 96) (hd : DWF d) :
    Calls Tryz.prog 73 #[.agg #[.int .i64 s, .slice A n c], .agg (da d)] w fun e w' => e = .returned (.agg (da (keptD s n d))) ∧ Below w.heap.size w w' := by
  have hz := zeroDrum
  have HT := fun W => tracks_any A n c (by omega) W
  obtain ⟨hs1, hs2⟩ := hs
  obtain ⟨S, hS⟩ : ∃ S : Nat, s = (S : Int) := ⟨s.toNat, by omega⟩
  subst hS
  go_enter Tryz.func73, Tryz.ntmps73
  go_wp2_with fail
  clear hz
  have hb0 : Below w.heap.size w ((((w.alloc (.cells #[.int .i64 S, .slice A n c] 93)).alloc (.cells (da d) 53)).alloc (.cells za 53)).alloc (.cells za 53)) := ((((Below.refl _ _).alloc (Nat.le_refl _) _).alloc (by simp) _).alloc (by simp; omega) _).alloc (by simp; omega) _
  go_loopw [6, 9] (fun _ i wr => ∃ k : Nat, k ≤ S ∧ i = .int .i64 k ∧ wr.cell? ⟨w.heap.size, 1, none⟩ = some (.slice A n c) ∧ Dr wr (w.heap.size + 1) 53 d ∧ Dr wr (w.heap.size + 1 + 1) 53 (fun _ => 0) ∧ Dr wr (w.heap.size + 1 + 1 + 1) 53 (fun i => if i < k then keptI n (d i) else 0) ∧ Below w.heap.size w wr)
    (fun _ i _ => S - (intOf i).toNat)
  case atStart => exact ⟨0, Nat.zero_le _, rfl, by simp [go_sem], heap_old' (heap_old' (heap_new' _ _ _ (by simp))), by rw [za_eq]; exact heap_old' (heap_new' _ _ _ (by simp)), by rw [za_eq]; exact heap_new' _ _ _ (by simp), hb0⟩
  case round =>
    obtain ⟨k, hk, rfl, c0, D1, D2, D3, hb⟩ := hrel
    by_cases hlt : k < S
    · have hk96 : k < 96 := by omega
      have c1 := D1.cell hk96
      have c3 := D3.cell hk96
      have f3 := D3.frozen k
      obtain ⟨x1, x2⟩ := hd k hk96
      go_wp2_with fail
      refine wp_region_still_tail 11 (by kernel_rfl) (by kernel_rfl) ?_
      change wpStill _ _ wr.drew (fun a' => wpList _ _ _ _ a' wr.drew) _ _
      simp only [List.take_succ_cons, List.take_zero, List.drop_succ_cons, List.drop_zero]
      have hdr : Below wr.heap.size wr wr.drew := (Below.refl _ _).drew
      have c0d : wr.drew.cell? ⟨w.heap.size, 1, none⟩ = some (.slice A n c) := c0
      have D1d := D1.keep hdr
      have D2d := D2.keep hdr
      have D3d := D3.keep hdr
      have hbd := hb.drew
      have hki : (k : Int) < 96 := by omega
      have HTd : Calls Tryz.prog 55 #[.slice A n c] wr.drew fun e w' => e = .returned (.int .i64 n) ∧ w' = wr.drew := (HT _).mono fun e w' ⟨a, b⟩ => ⟨a, b.symm⟩
      clear c0 D1 D2 D3 hb hdr c1 c3 f3
      generalize wr.drew = wd at *
      have c1 := D1d.cell hk96
      have c3 := D3d.cell hk96
      have f3 := D3d.frozen k
      repeat (first | still_call HTd | still_step)
      refine wpStill_nil ?_
      go_wp2
      go_roundw
      case rel =>
        refine ⟨k + 1, hlt, by go_num, by simp [go_sem, c0d], D1d.other (by omega) _, D2d.other (by omega) _, (D3d.set k _).congr fun i hi => ?_, hbd.setCell (p := ⟨_, _, none⟩) (by dsimp only; omega) _⟩
        change (if i = k then keptI n (d k) else _) = _
        by_cases e : i = k
        · subst e; rw [if_pos rfl, if_pos (by omega)]
        · rw [if_neg e]
          by_cases h2 : i < k
          · rw [if_pos h2, if_pos (by omega)]
          · rw [if_neg h2, if_neg (by omega)]
      case measure => simp [intOf]; omega
    · obtain rfl : k = S := by omega
      have R2 : wr.heap[w.heap.size + 1 + 1]? = some (.cells (da fun _ => 0) 53 (0, 0)) := D2
      have R3 : wr.heap[w.heap.size + 1 + 1 + 1]? = some (.cells (da (keptD k n d)) 53 (0, 0)) := (D3.congr (d' := keptD k n d) fun i hi => by unfold keptD; by_cases h : i < k <;> simp [h] : Dr _ _ _ _)
      have HR2 := hide R2
      have HR3 := hide R3
      clear R2 R3
      go_wp2_with (first | (with_reducible refine wpList_load_row rfl 53 (.tmp 5) rfl (w.heap.size + 1 + 1 + 1) rfl 53 (da (keptD k n d)) (0, 0) _ HR3.out Tryz.underlying53 rfl (by rw [da_size]; exact info53) ?_) | (with_reducible refine wpList_store_row rfl 53 (.tmp 4) (.tmp 24) rfl (w.heap.size + 1 + 1) (da (keptD k n d)) rfl rfl 53 _ HR2.out (by rw [da_size]; exact info53) (by rw [da_size, da_size]) (da_one _) ?_))
      exact bodyPost_ret (v := .agg (da (keptD k n d))) (results_cell_row Tryz.results73 _ _ (w.heap.size + 1 + 1) 53 (da (keptD k n d)) (0, 0) _ (by simp [Act.put]) (setRow_heap _ _ _ _ _ _ HR2.out) Tryz.underlying53 rfl (by rw [da_size]; exact info53)) rfl ⟨rfl, below_setRow hb (by omega)⟩
end Go.Proofs.YtcepjiglhlmgdaaGreatDoor
namespace Go.Proofs.YtcepjiglhlmgdaaGreatDoor
open Go.ChangeShapes Go.WideShapes Go.ChangeAt Go.RowKit Go.Deep Go.Proofs.YtcepjiglhlmgdaaGreatDoor

theorem Tryz.own : ownKnob Tryz.prog.godebug = none := by kernel_rfl
theorem Tryz.laidOut : laidOutB Tryz.prog = true := by kernel_rfl
theorem Tryz.cells22 : Tryz.prog.cellsOf 22 = 1 := by kernel_rfl
theorem Tryz.cells57 : Tryz.prog.cellsOf 57 = 1 := by kernel_rfl
theorem Tryz.cells2 : Tryz.prog.cellsOf 2 = 1 := by kernel_rfl
end Go.Proofs.YtcepjiglhlmgdaaGreatDoor
