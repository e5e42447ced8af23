import Derived.Test.YtehcghaficbhiaaWl
namespace Go.Proofs.Ytehcghaficbhiaa
open Go.RowKit

set_option maxRecDepth 20000 in
set_option maxHeartbeats 4000000 in
theorem withoutF_any (s : Int) (A : Option Addr) (l : List (Int × Int)) (t : Nat) (w : World) (hA : HA w A l) (hn : l.length ≤ 1048576) (ht : t < l.length) :
    Calls Try.prog 32 #[.agg #[.int .i16 s, .slice A l.length l.length], .int .i64 t] w (OwnFr s (dropL l t) w) := by
  obtain ⟨B, o, rfl, _⟩ := hA t ht
  obtain ⟨R, hR, hA2⟩ := ha_rest hA t ht
  obtain ⟨X1, hX1⟩ : ∃ X, X = (w.alloc (.cells #[.int .i16 s, .slice (some ⟨B, o, none⟩) l.length l.length] 31)).alloc (.cells #[.int .i16 0, .slice none 0 0] 31) := ⟨_, rfl⟩
  have bX : Below w.heap.size w X1 := by rw [hX1]; exact ((Below.refl _ _).alloc (Nat.le_refl _) _).alloc (by simp) _
  have rX : X1.heap[w.heap.size]? = some (.cells #[.int .i16 s, .slice (some ⟨B, o, none⟩) l.length l.length] 31 (0, 0)) := by rw [hX1]; exact heap_old' (heap_alloc_new _ _)
  have rY : X1.heap[w.heap.size + 1]? = some (.cells #[.int .i16 0, .slice none 0 0] 31 (0, 0)) := by rw [hX1]; exact heap_new' _ _ _ (by simp)
  have hgX : w.heap.size < X1.heap.size := (Array.getElem?_eq_some_iff.1 rX).1
  have hgY : w.heap.size + 1 < X1.heap.size := (Array.getElem?_eq_some_iff.1 rY).1
  go_enter Try.func32, Try.ntmps32
  go_upto_region 1 with fail
  rw [← hX1]
  clear hX1
  obtain ⟨W5, hW5⟩ : ∃ W, W = (X1.alloc (.cells #[.slice (some ⟨B, o, none⟩) t l.length, .slice (some R) (l.length - (t + 1)) (l.length - (t + 1))] 29)).drew := ⟨_, rfl⟩
  have hb5 : Below X1.heap.size X1 W5 := by rw [hW5]; exact ((Below.refl _ _).alloc (Nat.le_refl _) _).drew
  have r5 : W5.heap[X1.heap.size]? = some (.cells #[.slice (some ⟨B, o, none⟩) t l.length, .slice (some R) (l.length - (t + 1)) (l.length - (t + 1))] 29 (0, 0)) := by rw [hW5]; exact heap_alloc_new _ _
  have g0 := cell_of_row _ _ 0 _ _ _ r5
  have g1 := cell_of_row _ _ 1 _ _ _ r5
  simp at g0 g1
  have x1 : X1.cell? ⟨w.heap.size, 1, none⟩ = some (.slice (some ⟨B, o, none⟩) l.length l.length) := by rw [cell_of_row _ _ 1 _ _ _ rX]; simp
  have s1 : X1.drew.cell? ⟨w.heap.size, 1, none⟩ = some (.slice (some ⟨B, o, none⟩) l.length l.length) := x1
  have s5 := (hb5.cell (p := ⟨w.heap.size, 1, none⟩) hgX).trans x1
  have H1 := (ha_take (hA.below bX) t).below hb5
  have H2 := (hA2.below bX).below hb5
  have e1 : (l.take t).length = t := by rw [List.length_take]; omega
  have e2 : (l.drop (t + 1)).length = l.length - (t + 1) := List.length_drop
  have KC := concatH_any X1.heap.size (some ⟨B, o, none⟩) l.length (l.take t) (some R) (l.length - (t + 1)) (l.drop (t + 1)) W5 (by rw [e1]; exact g0) (by rw [e2]; exact g1) (Array.getElem?_eq_some_iff.1 r5).1 H1 H2 (by omega) (by omega)
  change Calls _ _ _ _ (OwnH W5 (dropL l t)) at KC
  have hw1 : IntKind.i64.wrap ((t : Int) + 1) = (t : Int) + 1 := IntWalk.i64_in _ (by omega)
  have ht1 : ((t : Int) + 1).toNat = t + 1 := by omega
  have ht2 : (t : Int) ≤ (l.length : Int) := by omega
  have ht3 : (t : Int) + 1 ≤ (l.length : Int) := by omega
  clear e1 e2 H1 H2 g0 g1 r5
  have hW5x : X1.heap.size ≤ W5.heap.size := hb5.size
  have hW5s : w.heap.size ≤ W5.heap.size := by omega
  have hneg : ¬ ((t : Int) + 1 < 0) := by omega
  rcases hR with ⟨hR1, rfl⟩ | ⟨hR1, rfl⟩
  · have e0 : l.length - (t + 1) = 0 := by omega
    rw [e0] at hW5
    have hR2 := hR1.symm
    clear hR1 e0
    go_wp2_with fail
    refine wp_region_still_tail 9 (by kernel_rfl) (by kernel_rfl) ?_
    change wpStill _ _ X1.drew (fun a' => wpList _ _ _ _ a' X1.drew) _ _
    simp only [List.take_succ_cons, List.take_zero, List.drop_succ_cons, List.drop_zero]
    repeat still_step
    refine wpStill_nil ?_
    go_wp2_with (go_at_call 42; (rw [← hW5]; refine KC.mono ?_; rintro e w6 ⟨C6, q6, rfl, hown6, hb6'⟩; have hb6 := step_below hb6' hb5; have p7 := (hb6.block _ hgX).trans rX; have q7 := (hb6.block _ hgY).trans rY; have f71 := frozen_of_row w6 w.heap.size 1 _ _ p7; have c71 : w6.cell? ⟨w.heap.size, 1, none⟩ = some (.slice (some ⟨B, o, none⟩) l.length l.length) := (by rw [cell_of_row _ _ 1 _ _ _ p7] <;> simp); have p8 := heap_setCell_same w6 w.heap.size 1 _ _ (.slice C6 (dropL l t).length q6) p7; have q8 : (w6.setCell ⟨w.heap.size, 1, none⟩ (.slice C6 (dropL l t).length q6)).heap[w.heap.size + 1]? = some (.cells #[.int .i16 0, .slice none 0 0] 31 (0, 0)) := (heap_setCell_other _ ⟨w.heap.size, 1, none⟩ _ _ (by show w.heap.size + 1 ≠ w.heap.size; omega)).trans q7; have c80 : (w6.setCell ⟨w.heap.size, 1, none⟩ (.slice C6 (dropL l t).length q6)).cell? ⟨w.heap.size, 0, none⟩ = some (.int .i16 s) := (by rw [cell_of_row _ _ 0 _ _ _ p8] <;> simp); have c81 : (w6.setCell ⟨w.heap.size, 1, none⟩ (.slice C6 (dropL l t).length q6)).cell? ⟨w.heap.size, 1, none⟩ = some (.slice C6 (dropL l t).length q6) := (by rw [cell_of_row _ _ 1 _ _ _ p8] <;> simp); have c90 : (w6.setCell ⟨w.heap.size, 1, none⟩ (.slice C6 (dropL l t).length q6)).cell? ⟨w.heap.size + 1, 0, none⟩ = some (.int .i16 0) := (by rw [cell_of_row _ _ 0 _ _ _ q8] <;> simp); have c91 : (w6.setCell ⟨w.heap.size, 1, none⟩ (.slice C6 (dropL l t).length q6)).cell? ⟨w.heap.size + 1, 1, none⟩ = some (.slice none 0 0) := (by rw [cell_of_row _ _ 1 _ _ _ q8] <;> simp); have f90 := frozen_of_row _ (w.heap.size + 1) 0 _ _ q8; have f91 := frozen_of_row _ (w.heap.size + 1) 1 _ _ q8; have q9 := heap_setCell_same _ (w.heap.size + 1) 0 _ _ (.int .i16 s) q8; have q10 := heap_setCell_same _ (w.heap.size + 1) 1 _ _ (.slice C6 (dropL l t).length q6) q9; have ow := own_base (own_keepS (own_keepS (own_keepS hown6 (by omega : w.heap.size < W5.heap.size) (.slice C6 (dropL l t).length q6) 1) (by omega : w.heap.size + 1 < W5.heap.size) (.int .i16 s) 0) (by omega : w.heap.size + 1 < W5.heap.size) (.slice C6 (dropL l t).length q6) 1) hW5s; have bz := (((step_below hb6 bX).setCell (p := ⟨w.heap.size, 1, none⟩) (Nat.le_refl _) (.slice C6 (dropL l t).length q6)).setCell (p := ⟨w.heap.size + 1, 0, none⟩) (Nat.le_succ _) (.int .i16 s)).setCell (p := ⟨w.heap.size + 1, 1, none⟩) (Nat.le_succ _) (.slice C6 (dropL l t).length q6); have HQ := hide q10; clear p7 p8 q7 q8 q9 q10 hb6' hA hA2 rX rY))
    have HQ' := HQ.out
    clear HQ
    simp at HQ'
    exact bodyPost_ret (v := .agg #[.int .i16 s, .slice C6 (dropL l t).length q6]) (results_cell_row Try.results32 _ _ (w.heap.size + 1) 31 #[.int .i16 s, .slice C6 (dropL l t).length q6] (0, 0) _ (by simp [Act.put]) HQ' Try.underlying31 rfl infoFr) rfl ⟨C6, q6, rfl, ow, bz⟩
  · skip
    go_wp2_with fail
    refine wp_region_still_tail 9 (by kernel_rfl) (by kernel_rfl) ?_
    change wpStill _ _ X1.drew (fun a' => wpList _ _ _ _ a' X1.drew) _ _
    simp only [List.take_succ_cons, List.take_zero, List.drop_succ_cons, List.drop_zero]
    repeat still_step
    refine wpStill_nil ?_
    go_wp2_with (go_at_call 42; (rw [← hW5]; refine KC.mono ?_; rintro e w6 ⟨C6, q6, rfl, hown6, hb6'⟩; have hb6 := step_below hb6' hb5; have p7 := (hb6.block _ hgX).trans rX; have q7 := (hb6.block _ hgY).trans rY; have f71 := frozen_of_row w6 w.heap.size 1 _ _ p7; have c71 : w6.cell? ⟨w.heap.size, 1, none⟩ = some (.slice (some ⟨B, o, none⟩) l.length l.length) := (by rw [cell_of_row _ _ 1 _ _ _ p7] <;> simp); have p8 := heap_setCell_same w6 w.heap.size 1 _ _ (.slice C6 (dropL l t).length q6) p7; have q8 : (w6.setCell ⟨w.heap.size, 1, none⟩ (.slice C6 (dropL l t).length q6)).heap[w.heap.size + 1]? = some (.cells #[.int .i16 0, .slice none 0 0] 31 (0, 0)) := (heap_setCell_other _ ⟨w.heap.size, 1, none⟩ _ _ (by show w.heap.size + 1 ≠ w.heap.size; omega)).trans q7; have c80 : (w6.setCell ⟨w.heap.size, 1, none⟩ (.slice C6 (dropL l t).length q6)).cell? ⟨w.heap.size, 0, none⟩ = some (.int .i16 s) := (by rw [cell_of_row _ _ 0 _ _ _ p8] <;> simp); have c81 : (w6.setCell ⟨w.heap.size, 1, none⟩ (.slice C6 (dropL l t).length q6)).cell? ⟨w.heap.size, 1, none⟩ = some (.slice C6 (dropL l t).length q6) := (by rw [cell_of_row _ _ 1 _ _ _ p8] <;> simp); have c90 : (w6.setCell ⟨w.heap.size, 1, none⟩ (.slice C6 (dropL l t).length q6)).cell? ⟨w.heap.size + 1, 0, none⟩ = some (.int .i16 0) := (by rw [cell_of_row _ _ 0 _ _ _ q8] <;> simp); have c91 : (w6.setCell ⟨w.heap.size, 1, none⟩ (.slice C6 (dropL l t).length q6)).cell? ⟨w.heap.size + 1, 1, none⟩ = some (.slice none 0 0) := (by rw [cell_of_row _ _ 1 _ _ _ q8] <;> simp); have f90 := frozen_of_row _ (w.heap.size + 1) 0 _ _ q8; have f91 := frozen_of_row _ (w.heap.size + 1) 1 _ _ q8; have q9 := heap_setCell_same _ (w.heap.size + 1) 0 _ _ (.int .i16 s) q8; have q10 := heap_setCell_same _ (w.heap.size + 1) 1 _ _ (.slice C6 (dropL l t).length q6) q9; have ow := own_base (own_keepS (own_keepS (own_keepS hown6 (by omega : w.heap.size < W5.heap.size) (.slice C6 (dropL l t).length q6) 1) (by omega : w.heap.size + 1 < W5.heap.size) (.int .i16 s) 0) (by omega : w.heap.size + 1 < W5.heap.size) (.slice C6 (dropL l t).length q6) 1) hW5s; have bz := (((step_below hb6 bX).setCell (p := ⟨w.heap.size, 1, none⟩) (Nat.le_refl _) (.slice C6 (dropL l t).length q6)).setCell (p := ⟨w.heap.size + 1, 0, none⟩) (Nat.le_succ _) (.int .i16 s)).setCell (p := ⟨w.heap.size + 1, 1, none⟩) (Nat.le_succ _) (.slice C6 (dropL l t).length q6); have HQ := hide q10; clear p7 p8 q7 q8 q9 q10 hb6' hA hA2 rX rY))
    have HQ' := HQ.out
    clear HQ
    simp at HQ'
    exact bodyPost_ret (v := .agg #[.int .i16 s, .slice C6 (dropL l t).length q6]) (results_cell_row Try.results32 _ _ (w.heap.size + 1) 31 #[.int .i16 s, .slice C6 (dropL l t).length q6] (0, 0) _ (by simp [Act.put]) HQ' Try.underlying31 rfl infoFr) rfl ⟨C6, q6, rfl, ow, bz⟩
end Go.Proofs.Ytehcghaficbhiaa
