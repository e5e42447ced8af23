import Derived.Test.YtehcghaficbhiaaHcat
import Derived.Test.YtehcghaficbhiaaPin
namespace Go.Proofs.Ytehcghaficbhiaa
open Go.RowKit

def dropL (l : List (Int × Int)) (t : Nat) : List (Int × Int) := l.take t ++ l.drop (t + 1)
theorem dropL_length (l : List (Int × Int)) (t : Nat) (h : t < l.length) : (dropL l t).length = t + (l.length - (t + 1)) := by
  simp [dropL]; omega
theorem ha_at {w : World} {B o : Nat} {l : List (Int × Int)} (h : HA w (some ⟨B, o, none⟩) l) (k : Nat) (hk : k < l.length) : B < w.heap.size ∧ w.cell? ⟨B, o + k * 2, none⟩ = some (.int .i8 (hPi l k)) ∧ w.cell? ⟨B, o + k * 2 + 1, none⟩ = some (.int .i8 (hRe l k)) := by
  obtain ⟨b, o', e, h1, h2, h3⟩ := h k hk
  cases e
  exact ⟨h1, h2, h3⟩
theorem ha_take {w : World} {B o : Nat} {l : List (Int × Int)} (h : HA w (some ⟨B, o, none⟩) l) (t : Nat) : HA w (some ⟨B, o, none⟩) (l.take t) := by
  intro k hk
  rw [List.length_take] at hk
  obtain ⟨h1, h2, h3⟩ := ha_at h k (by omega)
  have e : (l.take t).getD k (0, 0) = l.getD k (0, 0) := by
    simp only [List.getD_eq_getElem?_getD, List.getElem?_take]
    rw [if_pos (by omega)]
  exact ⟨B, o, rfl, h1, by rw [hPi, e]; exact h2, by rw [hRe, e]; exact h3⟩
theorem ha_drop {w : World} {B o : Nat} {l : List (Int × Int)} (h : HA w (some ⟨B, o, none⟩) l) (t : Nat) : HA w (some ⟨B, o + t * 2, none⟩) (l.drop t) := by
  intro k hk
  rw [List.length_drop] at hk
  obtain ⟨h1, h2, h3⟩ := ha_at h (t + k) (by omega)
  have e : (l.drop t).getD k (0, 0) = l.getD (t + k) (0, 0) := by
    simp only [List.getD_eq_getElem?_getD, List.getElem?_drop]
  rw [show o + (t + k) * 2 = o + t * 2 + k * 2 by omega] at h2 h3
  exact ⟨B, o + t * 2, rfl, h1, by rw [hPi, e]; exact h2, by rw [hRe, e]; exact h3⟩
theorem ha_rest {w : World} {B o : Nat} {l : List (Int × Int)} (h : HA w (some ⟨B, o, none⟩) l) (t : Nat) (ht : t < l.length) : ∃ R : Addr, ((l.length = t + 1 ∧ R = ⟨B, o, none⟩) ∨ (¬ l.length = t + 1 ∧ R = ⟨B, o + (t + 1) * 2, none⟩)) ∧ HA w (some R) (l.drop (t + 1)) := by
  by_cases e : l.length = t + 1
  · refine ⟨_, Or.inl ⟨e, rfl⟩, ?_⟩
    intro k hk
    rw [List.length_drop] at hk
    omega
  · exact ⟨_, Or.inr ⟨e, rfl⟩, ha_drop h (t + 1)⟩
theorem own_keepS {w : World} {base g n : Nat} {e : TypeId} {size : Nat} {v : Value} {xs : List Value} (h : w.ownsRow base e size v n xs) (hg : g < base) (u : Value) (i : Nat) : (w.setCell ⟨g, i, none⟩ u).ownsRow base e size v n xs := ownsRow_setCell_below (a := ⟨g, i, none⟩) h hg u
theorem infoFr : (Try.prog.info? 31).map (·.size) = some 2 := by kernel_rfl
/-- a frame of the call's own -/
def OwnFr (s : Int) (m : List (Int × Int)) (w : World) (e : Ending) (w' : World) : Prop := ∃ (C : Option Addr) (q : Nat), e = .returned (.agg #[.int .i16 s, .slice C m.length q]) ∧ w'.ownsRow w.heap.size 49 2 (.slice C m.length q) m.length (hcells m) ∧ Below w.heap.size w w'

set_option maxRecDepth 20000 in
set_option maxHeartbeats 4000000 in
theorem l03Less_any (b : Nat) (s : Int) (A : Option Addr) (l : List (Int × Int)) (t : Nat) (w : World) (hF : FP w b s A l.length l.length) (hA : HA w A l) (hn : l.length ≤ 1048576) (ht : t < l.length) :
    Calls Try.prog 29 #[.pointer (some ⟨b, 0, none⟩), .int .i64 t] w (OwnFr s (dropL l t) w) := by
  obtain ⟨i0, hi, hz0, hz1, hz2⟩ := info_parts info49
  obtain ⟨B, o, rfl, _⟩ := hA t ht
  obtain ⟨R, hR, hA2⟩ := ha_rest hA t ht
  obtain ⟨e0, e1⟩ := hF
  have hbl : b < w.heap.size := World.block_lt_of_cell? w _ e1
  obtain ⟨X1, hX1⟩ : ∃ X, X = (w.alloc (.cells #[.int .i16 0, .slice none 0 0] 31)) := ⟨_, rfl⟩
  have bX : Below w.heap.size w X1 := by rw [hX1]; exact (Below.refl _ _).alloc (Nat.le_refl _) _
  have rX : X1.heap[w.heap.size]? = some (.cells #[.int .i16 0, .slice none 0 0] 31 (0, 0)) := by rw [hX1]; exact heap_alloc_new _ _
  go_enter Try.func29, Try.ntmps29
  go_upto_region 1 with fail
  rw [← hX1]
  clear hX1
  obtain ⟨W5, hW5⟩ : ∃ W, W = (X1.alloc (.cells #[] 49)).drew := ⟨_, rfl⟩
  have hb5 : Below X1.heap.size X1 W5 := by rw [hW5]; exact ((Below.refl _ _).alloc (Nat.le_refl _) _).drew
  have own5 : W5.ownsRow X1.heap.size 49 2 (.slice (some ⟨X1.heap.size, 0, none⟩) 0 0) 0 [] := by rw [hW5]; exact own_keep (own_emptyH _ _ (Nat.le_refl _)) (Below.refl _ _).drew
  have s1 := (bX.drew.cell (p := ⟨b, 1, none⟩) hbl).trans e1
  have hbx := Nat.lt_of_lt_of_le hbl bX.size
  have x0 := (bX.cell (p := ⟨b, 0, none⟩) hbl).trans e0
  have x1 := (bX.cell (p := ⟨b, 1, none⟩) hbl).trans e1
  have s5 := (hb5.cell (p := ⟨b, 1, none⟩) hbx).trans x1
  have hgX : w.heap.size < X1.heap.size := (Array.getElem?_eq_some_iff.1 rX).1
  have hAX := hA.below bX
  have hA2X := hA2.below bX
  have H5 := (ha_take hAX t).below hb5
  have hw1 : IntKind.i64.wrap ((t : Int) + 1) = (t : Int) + 1 := IntWalk.i64_in _ (by omega)
  have ht1 : ((t : Int) + 1).toNat = t + 1 := by omega
  have ht2 : (t : Int) ≤ (l.length : Int) := by omega
  have ht3 : (t : Int) + 1 ≤ (l.length : Int) := by omega
  go_wp2_with fail
  refine wp_region_held_drew (S := fun w' => w'.cell? ⟨b, 1, none⟩ = some (.slice (some ⟨B, o, none⟩) l.length l.length)) (by kernel_rfl) s1 fun hS1 => ?_
  refine wpAnyH_take (i := 1) (v := Value.pointer (some ⟨b, 0, none⟩)) rfl (by kernel_rfl) (by kernel_rfl) (by kernel_rfl) (fun _ _ _ h => h) (Or.inl ⟨by rfl, fun w' _ => by go_simp⟩) hS1 ?_
  change wpAnyH _ _ _ _ _ _ _ (Act.put _ (some 7) _) _
  simp only [Act.put, List.setIfInBounds_toArray, List.set_cons_zero, List.set_cons_succ]
  refine wpAnyH_take (i := 2) (v := Value.pointer (some ⟨b, 0, none⟩)) rfl (by kernel_rfl) (by kernel_rfl) (by kernel_rfl) (fun _ _ _ h => h) (Or.inl ⟨by rfl, fun w' _ => by go_simp⟩) hS1 ?_
  change wpAnyH _ _ _ _ _ _ _ (Act.put _ (some 8) _) _
  simp only [Act.put, List.setIfInBounds_toArray, List.set_cons_zero, List.set_cons_succ]
  refine wpAnyH_take (i := 3) (v := Value.pointer (some ⟨b, 1, none⟩)) rfl (by kernel_rfl) (by kernel_rfl) (by kernel_rfl) (fun _ _ _ h => h) (Or.inl ⟨by rfl, fun w' _ => by go_simp⟩) hS1 ?_
  change wpAnyH _ _ _ _ _ _ _ (Act.put _ (some 9) _) _
  simp only [Act.put, List.setIfInBounds_toArray, List.set_cons_zero, List.set_cons_succ]
  refine wpAnyH_take (i := 4) (v := .slice (some ⟨B, o, none⟩) l.length l.length) rfl (by kernel_rfl) (by kernel_rfl) (by kernel_rfl) (fun _ _ _ h => h) (Or.inl ⟨by rfl, fun w' h => ?_⟩) hS1 ?_
  · have c0 := h
    clear h
    go_simp
  change wpAnyH _ _ _ _ _ _ _ (Act.put _ (some 10) _) _
  simp only [Act.put, List.setIfInBounds_toArray, List.set_cons_zero, List.set_cons_succ]
  refine wpAnyH_take (i := 5) (v := .int .i64 t) rfl (by kernel_rfl) (by kernel_rfl) (by kernel_rfl) (fun _ _ _ h => h) (Or.inl ⟨by rfl, fun w' _ => by go_simp⟩) hS1 ?_
  change wpAnyH _ _ _ _ _ _ _ (Act.put _ (some 11) _) _
  simp only [Act.put, List.setIfInBounds_toArray, List.set_cons_zero, List.set_cons_succ]
  refine wpAnyH_take (i := 6) (v := .slice (some ⟨B, o, none⟩) t l.length) rfl (by kernel_rfl) (by kernel_rfl) (by kernel_rfl) (fun _ _ _ h => h) (Or.inl ⟨by rfl, fun w' _ => ?_⟩) hS1 ?_
  · go_simp
  change wpAnyH _ _ _ _ _ _ _ (Act.put _ (some 12) _) _
  simp only [Act.put, List.setIfInBounds_toArray, List.set_cons_zero, List.set_cons_succ]
  refine wpAnyH_take (i := 8) (v := Value.pointer (some ⟨b, 0, none⟩)) rfl (by kernel_rfl) (by kernel_rfl) (by kernel_rfl) (fun _ _ _ h => h) (Or.inl ⟨by rfl, fun w' _ => by go_simp⟩) hS1 ?_
  change wpAnyH _ _ _ _ _ _ _ (Act.put _ (some 14) _) _
  simp only [Act.put, List.setIfInBounds_toArray, List.set_cons_zero, List.set_cons_succ]
  refine wpAnyH_take (i := 9) (v := Value.pointer (some ⟨b, 0, none⟩)) rfl (by kernel_rfl) (by kernel_rfl) (by kernel_rfl) (fun _ _ _ h => h) (Or.inl ⟨by rfl, fun w' _ => by go_simp⟩) hS1 ?_
  change wpAnyH _ _ _ _ _ _ _ (Act.put _ (some 15) _) _
  simp only [Act.put, List.setIfInBounds_toArray, List.set_cons_zero, List.set_cons_succ]
  refine wpAnyH_take (i := 10) (v := Value.pointer (some ⟨b, 1, none⟩)) rfl (by kernel_rfl) (by kernel_rfl) (by kernel_rfl) (fun _ _ _ h => h) (Or.inl ⟨by rfl, fun w' _ => by go_simp⟩) hS1 ?_
  change wpAnyH _ _ _ _ _ _ _ (Act.put _ (some 16) _) _
  simp only [Act.put, List.setIfInBounds_toArray, List.set_cons_zero, List.set_cons_succ]
  refine wpAnyH_take (i := 11) (v := .slice (some ⟨B, o, none⟩) l.length l.length) rfl (by kernel_rfl) (by kernel_rfl) (by kernel_rfl) (fun _ _ _ h => h) (Or.inl ⟨by rfl, fun w' h => ?_⟩) hS1 ?_
  · have c0 := h
    clear h
    go_simp
  change wpAnyH _ _ _ _ _ _ _ (Act.put _ (some 17) _) _
  simp only [Act.put, List.setIfInBounds_toArray, List.set_cons_zero, List.set_cons_succ]
  refine wpAnyH_take (i := 12) (v := .int .i64 t) rfl (by kernel_rfl) (by kernel_rfl) (by kernel_rfl) (fun _ _ _ h => h) (Or.inl ⟨by rfl, fun w' _ => by go_simp⟩) hS1 ?_
  change wpAnyH _ _ _ _ _ _ _ (Act.put _ (some 18) _) _
  simp only [Act.put, List.setIfInBounds_toArray, List.set_cons_zero, List.set_cons_succ]
  refine wpAnyH_take (i := 13) (v := .int .i64 ((t : Int) + 1)) rfl (by kernel_rfl) (by kernel_rfl) (by kernel_rfl) (fun _ _ _ h => h) (Or.inl ⟨by rfl, fun w' _ => by go_simp⟩) hS1 ?_
  change wpAnyH _ _ _ _ _ _ _ (Act.put _ (some 19) _) _
  simp only [Act.put, List.setIfInBounds_toArray, List.set_cons_zero, List.set_cons_succ]
  refine wpAnyH_take (i := 14) (v := .slice (some R) (l.length - (t + 1)) (l.length - (t + 1))) rfl (by kernel_rfl) (by kernel_rfl) (by kernel_rfl) (fun _ _ _ h => h) (Or.inl ⟨by rfl, fun w' _ => ?_⟩) hS1 ?_
  · rcases hR with ⟨hR1, rfl⟩ | ⟨hR1, rfl⟩ <;> (go_simp; try (intro hneg; omega))
  change wpAnyH _ _ _ _ _ _ _ (Act.put _ (some 20) _) _
  simp only [Act.put, List.setIfInBounds_toArray, List.set_cons_zero, List.set_cons_succ]
  refine wpAnyH_ready (rs := [0]) (by kernel_rfl) (by simp) (AllReadyH.cons rfl ?_ AllReadyH.nil)
  intro K hK
  rw [if_pos (by rfl)]
  go_simp
  rw [← hW5]
  clear hW5
  refine hK.out _ _ s5 (fun hS2 => ?_)
  clear hK K hS1
  refine wpAnyH_ready (rs := [7]) (by kernel_rfl) (by simp) (AllReadyH.cons rfl ?_ AllReadyH.nil)
  intro K hK
  rw [if_pos (by rfl)]
  refine wp_append_own W5 (.tmp 6) (.tmp 12) 29 rfl X1.heap.size 49 i0 (.agg #[.int .i8 0, .int .i8 0]) 2 2 Try.underlying29 hi hz0 hz1 hz2 rfl (by decide) _ _ _ rfl own5 ⟨B, o, none⟩ t l.length (hcells (l.take t)) rfl (by rw [hcells_length, List.length_take]; omega) (HA.cells H5) (hcells_one _) (by unfold maxLen; omega) (by omega) hb5.size ?_
  intro v6 w6 hown6 hgr6 hnil6
  have hb6 : Below X1.heap.size X1 w6 := hb5.grown hgr6 hb5.size (fun j hj => (own5.lt j hj).1)
  have s6 := (hb6.cell (p := ⟨b, 1, none⟩) hbx).trans x1
  refine hK.out _ _ s6 (fun hS3 => ?_)
  clear hK K hS2
  refine wpAnyH_ready (rs := [15]) (by kernel_rfl) (by simp) (AllReadyH.cons rfl ?_ AllReadyH.nil)
  intro K hK
  rw [if_pos (by rfl)]
  refine wp_append_own w6 (.tmp 13) (.tmp 20) 29 rfl X1.heap.size 49 i0 (.agg #[.int .i8 0, .int .i8 0]) 2 2 Try.underlying29 hi hz0 hz1 hz2 rfl (by decide) _ _ _ rfl hown6 R (l.length - (t + 1)) (l.length - (t + 1)) (hcells (l.drop (t + 1))) rfl (by rw [hcells_length, List.length_drop]) (HA.cells (hA2X.below hb6)) (hcells_one _) (by unfold maxLen; omega) (by omega) hb6.size ?_
  intro v7 w7 hown7 hgr7 hnil7
  have hb7 : Below X1.heap.size X1 w7 := hb6.grown hgr7 hb6.size (fun j hj => (hown6.lt j hj).1)
  have s7 := (hb7.cell (p := ⟨b, 1, none⟩) hbx).trans x1
  have s8 := (hb7.cell (p := ⟨b, 0, none⟩) hbx).trans x0
  have q7 := (hb7.block _ hgX).trans rX
  refine hK.out _ _ s7 (fun hS4 => ?_)
  clear hK K hS3
  obtain ⟨A7, c7, rfl⟩ := own_shapeH hown7
  refine wpAnyH_take (i := 16) (v := .slice A7 (0 + t + (l.length - (t + 1))) c7) rfl (by kernel_rfl) (by kernel_rfl) (by kernel_rfl) (fun _ _ _ h => h) (Or.inl ⟨by rfl, fun w' _ => by go_simp⟩) hS4 ?_
  change wpAnyH _ _ _ _ _ _ _ (Act.put _ (some 5) _) _
  simp only [Act.put, List.setIfInBounds_toArray, List.set_cons_zero, List.set_cons_succ]
  refine wpAnyH_done (by kernel_rfl) ?_ _
  have bb := step_below hb7 bX
  have c70 := cell_of_row _ _ 0 _ _ _ q7
  have c71 := cell_of_row _ _ 1 _ _ _ q7
  simp at c70 c71
  have f70 := frozen_of_row w7 w.heap.size 0 _ _ q7
  have f71 := frozen_of_row w7 w.heap.size 1 _ _ q7
  have q8 := heap_setCell_same w7 w.heap.size 0 _ _ (.int .i16 s) q7
  simp only [Nat.zero_add, List.nil_append, ← hcells_append] at hown7
  have q9 := heap_setCell_same _ w.heap.size 1 _ _ (.slice A7 (t + (l.length - (t + 1))) c7) q8
  have hln := dropL_length l t ht
  have ow := own_base (own_keepS (own_keepS hown7 hgX (.int .i16 s) 0) hgX (.slice A7 (t + (l.length - (t + 1))) c7) 1) bX.size
  have bz := (bb.setCell (p := ⟨w.heap.size, 0, none⟩) (Nat.le_refl _) (.int .i16 s)).setCell (p := ⟨w.heap.size, 1, none⟩) (Nat.le_refl _) (.slice A7 (t + (l.length - (t + 1))) c7)
  simp at q9
  clear q7 q8
  have HQ := hide q9
  clear q9
  go_wp2
  exact bodyPost_ret (v := .agg #[.int .i16 s, .slice A7 (t + (l.length - (t + 1))) c7]) (results_cell_row Try.results29 _ _ w.heap.size 31 #[.int .i16 s, .slice A7 (t + (l.length - (t + 1))) c7] (0, 0) _ (by simp [Act.put]) HQ.out Try.underlying31 rfl infoFr) rfl ⟨A7, c7, by rw [hln], by rw [hln]; exact ow, bz⟩
end Go.Proofs.Ytehcghaficbhiaa
