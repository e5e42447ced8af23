import Derived.Test.YtcocfnjbgceidaaGreatGaw
namespace Go.Proofs.YtcocfnjbgceidaaGreat
open Go.RowKit Go.Maps
theorem own_apart {w : World} {base n m : Nat} {e f : TypeId} {size size' : Nat} {v u : Value} {xs ys : List Value} (h : w.ownsRow base e size v n xs) (h' : w.ownsRow base f size' u m ys) (hne : e ≠ f) : v.ownBlock = none ∨ v.ownBlock ≠ u.ownBlock := by
  rcases h.2 with ⟨rfl, _⟩ | ⟨g, cap, cur, rfl, _, hg, _⟩
  · exact Or.inl rfl
  · right
    rcases h'.2 with ⟨rfl, _⟩ | ⟨g', cap', cur', rfl, _, hg', _⟩
    · simp [Value.ownBlock]
    · intro e1
      have e2 : g = g' := by simpa [Value.ownBlock] using e1
      subst e2
      rw [hg] at hg'
      simp at hg'
      exact hne hg'.2
set_option maxRecDepth 20000 in
set_option maxHeartbeats 8000000 in
theorem l06Copy_any (g : Nat) (P : Option Addr) (d : Nat) (l : List (Int × Int × Int)) (U : Option Addr) (v : Nat) (z : List Int) (w : World) (hPw : w.cell? ⟨g, 0, none⟩ = some (.slice P l.length d)) (hUw : w.cell? ⟨g, 1, none⟩ = some (.slice U z.length v)) (hLw : WnA w P l) (hZw : SZ w U z) (hl : l.length ≤ 1048576) (hz : z.length ≤ 1048576) :
    Calls Tryz.prog 47 #[.pointer (some ⟨g, 0, none⟩)] w (OwnWear w l z) := by
  obtain ⟨i0, hi, hz0, hz1, hz2⟩ := info_parts info97
  obtain ⟨j0, ji, jz0, jz1, jz2⟩ := info_parts info2
  obtain ⟨w0, hw0⟩ : ∃ X, X = w.alloc (.cells #[.slice none 0 0, .slice none 0 0] 34) := ⟨_, rfl⟩
  have b0 : Below w.heap.size w w0 := by rw [hw0]; exact (Below.refl _ _).alloc (Nat.le_refl _) _
  have R0 : Bk w0 w.heap.size 34 #[.slice none 0 0, .slice none 0 0] := by rw [hw0]; exact Bk.new _ _ _ rfl
  have hgw : g < w.heap.size := World.block_lt_of_cell? w _ hPw
  have hg : g < w0.heap.size := Nat.lt_of_lt_of_le hgw b0.size
  have hP := (b0.cell (p := ⟨g, 0, none⟩) hgw).trans hPw
  have hU0 := (b0.cell (p := ⟨g, 1, none⟩) hgw).trans hUw
  have hL := hLw.below b0
  have hU := hZw.below b0
  go_enter Tryz.func47, Tryz.ntmps47
  go_upto_region 1 with fail
  rw [← hw0]
  clear hw0
  obtain ⟨v2, hv2⟩ : ∃ X, X = w0.drew := ⟨_, rfl⟩
  have tb2 : Below w0.heap.size w0 v2 := by rw [hv2]; exact (Below.refl _ _).drew
  have q1 := (tb2.cell (p := ⟨g, 0, none⟩) hg).trans hP
  have q2 := (tb2.cell (p := ⟨g, 1, none⟩) hg).trans hU0
  refine wp_region_held_drew (S := fun w' => w'.cell? ⟨g, 0, none⟩ = some (.slice P l.length d) ∧ w'.cell? ⟨g, 1, none⟩ = some (.slice U z.length v)) (by kernel_rfl) (by rw [← hv2]; exact ⟨q1, q2⟩) fun hS1 => ?_
  rw [← hv2] at hS1 ⊢
  clear hv2 q1 q2
  refine wpAnyH_take (i := 1) (v := .pointer (some ⟨g, 0, none⟩)) rfl (by kernel_rfl) (by kernel_rfl) (by kernel_rfl) (fun _ _ _ h => h) (Or.inl ⟨by rfl, fun w' _ => by go_simp⟩) hS1 ?_
  change wpAnyH _ _ _ _ _ _ _ (Act.put _ (some 4) _) _
  simp only [Act.put, List.setIfInBounds_toArray, List.set_cons_zero, List.set_cons_succ]
  refine wpAnyH_take (i := 2) (v := .pointer (some ⟨g, 0, none⟩)) rfl (by kernel_rfl) (by kernel_rfl) (by kernel_rfl) (fun _ _ _ h => h) (Or.inl ⟨by rfl, fun w' _ => by go_simp⟩) hS1 ?_
  change wpAnyH _ _ _ _ _ _ _ (Act.put _ (some 5) _) _
  simp only [Act.put, List.setIfInBounds_toArray, List.set_cons_zero, List.set_cons_succ]
  refine wpAnyH_take (i := 3) (v := .pointer (some ⟨g, 0, none⟩)) rfl (by kernel_rfl) (by kernel_rfl) (by kernel_rfl) (fun _ _ _ h => h) (Or.inl ⟨by rfl, fun w' _ => by go_simp⟩) hS1 ?_
  change wpAnyH _ _ _ _ _ _ _ (Act.put _ (some 6) _) _
  simp only [Act.put, List.setIfInBounds_toArray, List.set_cons_zero, List.set_cons_succ]
  refine wpAnyH_take (i := 4) (v := .slice P l.length d) rfl (by kernel_rfl) (by kernel_rfl) (by kernel_rfl) (fun _ _ _ h => h) (Or.inl ⟨by rfl, fun w' h => ?_⟩) hS1 ?_
  · have c0 := h.1
    clear h
    go_simp
  change wpAnyH _ _ _ _ _ _ _ (Act.put _ (some 7) _) _
  simp only [Act.put, List.setIfInBounds_toArray, List.set_cons_zero, List.set_cons_succ]
  refine wpAnyH_take (i := 7) (v := .pointer (some ⟨g, 0, none⟩)) rfl (by kernel_rfl) (by kernel_rfl) (by kernel_rfl) (fun _ _ _ h => h) (Or.inl ⟨by rfl, fun w' _ => by go_simp⟩) hS1 ?_
  change wpAnyH _ _ _ _ _ _ _ (Act.put _ (some 10) _) _
  simp only [Act.put, List.setIfInBounds_toArray, List.set_cons_zero, List.set_cons_succ]
  refine wpAnyH_take (i := 8) (v := .pointer (some ⟨g, 0, none⟩)) rfl (by kernel_rfl) (by kernel_rfl) (by kernel_rfl) (fun _ _ _ h => h) (Or.inl ⟨by rfl, fun w' _ => by go_simp⟩) hS1 ?_
  change wpAnyH _ _ _ _ _ _ _ (Act.put _ (some 11) _) _
  simp only [Act.put, List.setIfInBounds_toArray, List.set_cons_zero, List.set_cons_succ]
  refine wpAnyH_take (i := 9) (v := .pointer (some ⟨g, 1, none⟩)) rfl (by kernel_rfl) (by kernel_rfl) (by kernel_rfl) (fun _ _ _ h => h) (Or.inl ⟨by rfl, fun w' _ => by go_simp⟩) hS1 ?_
  change wpAnyH _ _ _ _ _ _ _ (Act.put _ (some 12) _) _
  simp only [Act.put, List.setIfInBounds_toArray, List.set_cons_zero, List.set_cons_succ]
  refine wpAnyH_take (i := 10) (v := .slice U z.length v) rfl (by kernel_rfl) (by kernel_rfl) (by kernel_rfl) (fun _ _ _ h => h) (Or.inl ⟨by rfl, fun w' h => ?_⟩) hS1 ?_
  · have c0 := h.2
    clear h
    go_simp
  change wpAnyH _ _ _ _ _ _ _ (Act.put _ (some 13) _) _
  simp only [Act.put, List.setIfInBounds_toArray, List.set_cons_zero, List.set_cons_succ]
  refine wpAnyH_ready (rs := [0, 6]) (by kernel_rfl) (by simp) (AllReadyH.cons rfl ?_ (AllReadyH.cons rfl ?_ AllReadyH.nil))
  · skip
    obtain ⟨v3, hX3⟩ : ∃ X, X = v2.alloc (.cells #[] 97) := ⟨_, rfl⟩
    have hb3 : Below v2.heap.size v2 v3 := by rw [hX3]; exact (Below.refl _ _).alloc (Nat.le_refl _) _
    have tb3 := tb2.trans (hb3.mono tb2.size)
    have gs3 : w0.heap.size ≤ v2.heap.size := tb2.size
    have own13 : v3.ownsRow w0.heap.size 97 3 (.slice (some ⟨v2.heap.size, 0, none⟩) 0 0) 0 [] := by rw [hX3]; exact World.ownsRow_made v2 #[] 0 gs3 (by unfold maxLen; omega) (by simp)
    intro K hK
    rw [if_pos (by rfl)]
    go_simp
    rw [← hX3]
    clear hX3
    refine hK.out _ _ ⟨(tb3.cell (p := ⟨g, 0, none⟩) hg).trans hP, (tb3.cell (p := ⟨g, 1, none⟩) hg).trans hU0⟩ (fun hS3 => ?_)
    clear hK K
    refine wpAnyH_ready (rs := [5, 6]) (by kernel_rfl) (by simp) (AllReadyH.cons rfl ?_ (AllReadyH.cons rfl ?_ AllReadyH.nil))
    · skip
      obtain ⟨A1, c1, v4, hr4, own14, gr4⟩ := run_append_wn v3 32 Tryz.underlying32 w0.heap.size i0 hi hz0 hz1 hz2 _ 0 [] own13 P d l (hL.below tb3) (by omega) (by omega) tb3.size
      simp only [Nat.zero_add, List.nil_append] at hr4 own14
      have tb4 : Below w0.heap.size w0 v4 := tb3.grown gr4 tb3.size (fun j hj => (own13.lt j hj).1)
      intro K hK
      rw [if_pos (by rfl)]
      refine Lib.wp_append_run v3 (.tmp 3) (.tmp 7) 32 32 rfl _ _ rfl rfl _ _ (hr4 _) ?_
      clear hr4 gr4
      refine hK.out _ _ ⟨(tb4.cell (p := ⟨g, 0, none⟩) hg).trans hP, (tb4.cell (p := ⟨g, 1, none⟩) hg).trans hU0⟩ (fun hS4 => ?_)
      clear hK K
      change wpAnyH _ _ _ _ _ _ _ (Act.put _ (some 8) _) _
      simp only [Act.put, List.setIfInBounds_toArray, List.set_cons_zero, List.set_cons_succ]
      refine wpAnyH_ready (rs := [6]) (by kernel_rfl) (by simp) (AllReadyH.cons rfl ?_ AllReadyH.nil)
      obtain ⟨v5, hX5⟩ : ∃ X, X = v4.alloc (.cells #[] 2) := ⟨_, rfl⟩
      have hb5 : Below v4.heap.size v4 v5 := by rw [hX5]; exact (Below.refl _ _).alloc (Nat.le_refl _) _
      have tb5 := tb4.trans (hb5.mono tb4.size)
      have gs5 : w0.heap.size ≤ v4.heap.size := tb4.size
      have own25 : v5.ownsRow w0.heap.size 2 1 (.slice (some ⟨v4.heap.size, 0, none⟩) 0 0) 0 [] := by rw [hX5]; exact World.ownsRow_made v4 #[] 0 gs5 (by unfold maxLen; omega) (by simp)
      have own15 := own_keep own14 hb5
      intro K hK
      rw [if_pos (by rfl)]
      go_simp
      rw [← hX5]
      clear hX5
      refine hK.out _ _ ⟨(tb5.cell (p := ⟨g, 0, none⟩) hg).trans hP, (tb5.cell (p := ⟨g, 1, none⟩) hg).trans hU0⟩ (fun hS5 => ?_)
      clear hK K
      refine wpAnyH_ready (rs := [11]) (by kernel_rfl) (by simp) (AllReadyH.cons rfl ?_ AllReadyH.nil)
      obtain ⟨A2, c2, v6, hr6, own26, gr6⟩ := run_append_zn v5 27 Tryz.underlying27 w0.heap.size j0 ji jz0 jz1 jz2 _ 0 [] own25 U v z (hU.below tb5) (by omega) (by omega) tb5.size
      simp only [Nat.zero_add, List.nil_append] at hr6 own26
      have tb6 : Below w0.heap.size w0 v6 := tb5.grown gr6 tb5.size (fun j hj => (own25.lt j hj).1)
      have own16 := own15.kept gr6 (own_apart own15 own25 (by decide))
      intro K hK
      rw [if_pos (by rfl)]
      refine Lib.wp_append_run v5 (.tmp 9) (.tmp 13) 27 27 rfl _ _ rfl rfl _ _ (hr6 _) ?_
      clear hr6 gr6
      refine hK.out _ _ ⟨(tb6.cell (p := ⟨g, 0, none⟩) hg).trans hP, (tb6.cell (p := ⟨g, 1, none⟩) hg).trans hU0⟩ (fun hS6 => ?_)
      clear hK K
      change wpAnyH _ _ _ _ _ _ _ (Act.put _ (some 14) _) _
      simp only [Act.put, List.setIfInBounds_toArray, List.set_cons_zero, List.set_cons_succ]
      refine wpAnyH_take (i := 12) (v := .agg #[.slice A1 l.length c1, .slice A2 z.length c2]) rfl (by kernel_rfl) (by kernel_rfl) (by kernel_rfl) (fun _ _ _ h => h) (Or.inl ⟨by rfl, fun w' _ => by go_simp⟩) hS6 ?_
      change wpAnyH _ _ _ _ _ _ _ (Act.put _ (some 15) _) _
      simp only [Act.put, List.setIfInBounds_toArray, List.set_cons_zero, List.set_cons_succ]
      refine wpAnyH_ready (rs := [13]) (by kernel_rfl) (by simp) (AllReadyH.cons rfl ?_ AllReadyH.nil)
      intro K hK
      rw [if_pos (by rfl)]
      have EZ := R0.keep tb6
      refine wp_store_row 34 (.tmp 2) (.tmp 15) rfl w.heap.size #[.slice A1 l.length c1, .slice A2 z.length c2] rfl rfl 34 _ EZ (infoWear _ _) (szWear _ _ _ _) (oneWear _ _ _ _ _ _) ?_
      have hs0 : w.heap.size < w0.heap.size := R0.lt
      have owP := own_base (own_keepW own16 hs0 #[.slice A1 l.length c1, .slice A2 z.length c2]) (Nat.le_of_lt hs0)
      have owC := own_base (own_keepW own26 hs0 #[.slice A1 l.length c1, .slice A2 z.length c2]) (Nat.le_of_lt hs0)
      have bE := below_setRow (cs := #[.slice A1 l.length c1, .slice A2 z.length c2]) (g := w.heap.size) (step_below tb6 b0) (Nat.le_refl _)
      have HE := hide (setRow_heap _ _ _ #[.slice A1 l.length c1, .slice A2 z.length c2] _ _ EZ)
      refine hK.out _ _ ⟨(bE.cell (p := ⟨g, 0, none⟩) hgw).trans hPw, (bE.cell (p := ⟨g, 1, none⟩) hgw).trans hUw⟩ (fun hSE => ?_)
      clear hK K EZ
      refine wpAnyH_done (by kernel_rfl) ?_ _
      go_wp2
      exact bodyPost_ret (v := .agg #[.slice A1 l.length c1, .slice A2 z.length c2]) (results_cell_row Tryz.results47 _ _ w.heap.size 34 #[.slice A1 l.length c1, .slice A2 z.length c2] (0, 0) _ (by simp [Act.put]) HE.out Tryz.underlying34 rfl infoWe2) rfl ⟨A1, c1, A2, c2, rfl, owP, owC, bE⟩
    · skip
      obtain ⟨v7, hX7⟩ : ∃ X, X = v3.alloc (.cells #[] 2) := ⟨_, rfl⟩
      have hb7 : Below v3.heap.size v3 v7 := by rw [hX7]; exact (Below.refl _ _).alloc (Nat.le_refl _) _
      have tb7 := tb3.trans (hb7.mono tb3.size)
      have gs7 : w0.heap.size ≤ v3.heap.size := tb3.size
      have own27 : v7.ownsRow w0.heap.size 2 1 (.slice (some ⟨v3.heap.size, 0, none⟩) 0 0) 0 [] := by rw [hX7]; exact World.ownsRow_made v3 #[] 0 gs7 (by unfold maxLen; omega) (by simp)
      have own17 := own_keep own13 hb7
      intro K hK
      rw [if_pos (by rfl)]
      go_simp
      rw [← hX7]
      clear hX7
      refine hK.out _ _ ⟨(tb7.cell (p := ⟨g, 0, none⟩) hg).trans hP, (tb7.cell (p := ⟨g, 1, none⟩) hg).trans hU0⟩ (fun hS7 => ?_)
      clear hK K
      refine wpAnyH_ready (rs := [5]) (by kernel_rfl) (by simp) (AllReadyH.cons rfl ?_ AllReadyH.nil)
      obtain ⟨A1, c1, v8, hr8, own18, gr8⟩ := run_append_wn v7 32 Tryz.underlying32 w0.heap.size i0 hi hz0 hz1 hz2 _ 0 [] own17 P d l (hL.below tb7) (by omega) (by omega) tb7.size
      simp only [Nat.zero_add, List.nil_append] at hr8 own18
      have tb8 : Below w0.heap.size w0 v8 := tb7.grown gr8 tb7.size (fun j hj => (own17.lt j hj).1)
      have own28 := own27.kept gr8 (own_apart own27 own17 (by decide))
      intro K hK
      rw [if_pos (by rfl)]
      refine Lib.wp_append_run v7 (.tmp 3) (.tmp 7) 32 32 rfl _ _ rfl rfl _ _ (hr8 _) ?_
      clear hr8 gr8
      refine hK.out _ _ ⟨(tb8.cell (p := ⟨g, 0, none⟩) hg).trans hP, (tb8.cell (p := ⟨g, 1, none⟩) hg).trans hU0⟩ (fun hS8 => ?_)
      clear hK K
      change wpAnyH _ _ _ _ _ _ _ (Act.put _ (some 8) _) _
      simp only [Act.put, List.setIfInBounds_toArray, List.set_cons_zero, List.set_cons_succ]
      refine wpAnyH_ready (rs := [11]) (by kernel_rfl) (by simp) (AllReadyH.cons rfl ?_ AllReadyH.nil)
      obtain ⟨A2, c2, v9, hr9, own29, gr9⟩ := run_append_zn v8 27 Tryz.underlying27 w0.heap.size j0 ji jz0 jz1 jz2 _ 0 [] own28 U v z (hU.below tb8) (by omega) (by omega) tb8.size
      simp only [Nat.zero_add, List.nil_append] at hr9 own29
      have tb9 : Below w0.heap.size w0 v9 := tb8.grown gr9 tb8.size (fun j hj => (own28.lt j hj).1)
      have own19 := own18.kept gr9 (own_apart own18 own28 (by decide))
      intro K hK
      rw [if_pos (by rfl)]
      refine Lib.wp_append_run v8 (.tmp 9) (.tmp 13) 27 27 rfl _ _ rfl rfl _ _ (hr9 _) ?_
      clear hr9 gr9
      refine hK.out _ _ ⟨(tb9.cell (p := ⟨g, 0, none⟩) hg).trans hP, (tb9.cell (p := ⟨g, 1, none⟩) hg).trans hU0⟩ (fun hS9 => ?_)
      clear hK K
      change wpAnyH _ _ _ _ _ _ _ (Act.put _ (some 14) _) _
      simp only [Act.put, List.setIfInBounds_toArray, List.set_cons_zero, List.set_cons_succ]
      refine wpAnyH_take (i := 12) (v := .agg #[.slice A1 l.length c1, .slice A2 z.length c2]) rfl (by kernel_rfl) (by kernel_rfl) (by kernel_rfl) (fun _ _ _ h => h) (Or.inl ⟨by rfl, fun w' _ => by go_simp⟩) hS9 ?_
      change wpAnyH _ _ _ _ _ _ _ (Act.put _ (some 15) _) _
      simp only [Act.put, List.setIfInBounds_toArray, List.set_cons_zero, List.set_cons_succ]
      refine wpAnyH_ready (rs := [13]) (by kernel_rfl) (by simp) (AllReadyH.cons rfl ?_ AllReadyH.nil)
      intro K hK
      rw [if_pos (by rfl)]
      have EZ := R0.keep tb9
      refine wp_store_row 34 (.tmp 2) (.tmp 15) rfl w.heap.size #[.slice A1 l.length c1, .slice A2 z.length c2] rfl rfl 34 _ EZ (infoWear _ _) (szWear _ _ _ _) (oneWear _ _ _ _ _ _) ?_
      have hs0 : w.heap.size < w0.heap.size := R0.lt
      have owP := own_base (own_keepW own19 hs0 #[.slice A1 l.length c1, .slice A2 z.length c2]) (Nat.le_of_lt hs0)
      have owC := own_base (own_keepW own29 hs0 #[.slice A1 l.length c1, .slice A2 z.length c2]) (Nat.le_of_lt hs0)
      have bE := below_setRow (cs := #[.slice A1 l.length c1, .slice A2 z.length c2]) (g := w.heap.size) (step_below tb9 b0) (Nat.le_refl _)
      have HE := hide (setRow_heap _ _ _ #[.slice A1 l.length c1, .slice A2 z.length c2] _ _ EZ)
      refine hK.out _ _ ⟨(bE.cell (p := ⟨g, 0, none⟩) hgw).trans hPw, (bE.cell (p := ⟨g, 1, none⟩) hgw).trans hUw⟩ (fun hSE => ?_)
      clear hK K EZ
      refine wpAnyH_done (by kernel_rfl) ?_ _
      go_wp2
      exact bodyPost_ret (v := .agg #[.slice A1 l.length c1, .slice A2 z.length c2]) (results_cell_row Tryz.results47 _ _ w.heap.size 34 #[.slice A1 l.length c1, .slice A2 z.length c2] (0, 0) _ (by simp [Act.put]) HE.out Tryz.underlying34 rfl infoWe2) rfl ⟨A1, c1, A2, c2, rfl, owP, owC, bE⟩
  · skip
    obtain ⟨v10, hX10⟩ : ∃ X, X = v2.alloc (.cells #[] 2) := ⟨_, rfl⟩
    have hb10 : Below v2.heap.size v2 v10 := by rw [hX10]; exact (Below.refl _ _).alloc (Nat.le_refl _) _
    have tb10 := tb2.trans (hb10.mono tb2.size)
    have gs10 : w0.heap.size ≤ v2.heap.size := tb2.size
    have own210 : v10.ownsRow w0.heap.size 2 1 (.slice (some ⟨v2.heap.size, 0, none⟩) 0 0) 0 [] := by rw [hX10]; exact World.ownsRow_made v2 #[] 0 gs10 (by unfold maxLen; omega) (by simp)
    intro K hK
    rw [if_pos (by rfl)]
    go_simp
    rw [← hX10]
    clear hX10
    refine hK.out _ _ ⟨(tb10.cell (p := ⟨g, 0, none⟩) hg).trans hP, (tb10.cell (p := ⟨g, 1, none⟩) hg).trans hU0⟩ (fun hS10 => ?_)
    clear hK K
    refine wpAnyH_ready (rs := [0]) (by kernel_rfl) (by simp) (AllReadyH.cons rfl ?_ AllReadyH.nil)
    obtain ⟨v11, hX11⟩ : ∃ X, X = v10.alloc (.cells #[] 97) := ⟨_, rfl⟩
    have hb11 : Below v10.heap.size v10 v11 := by rw [hX11]; exact (Below.refl _ _).alloc (Nat.le_refl _) _
    have tb11 := tb10.trans (hb11.mono tb10.size)
    have gs11 : w0.heap.size ≤ v10.heap.size := tb10.size
    have own111 : v11.ownsRow w0.heap.size 97 3 (.slice (some ⟨v10.heap.size, 0, none⟩) 0 0) 0 [] := by rw [hX11]; exact World.ownsRow_made v10 #[] 0 gs11 (by unfold maxLen; omega) (by simp)
    have own211 := own_keep own210 hb11
    intro K hK
    rw [if_pos (by rfl)]
    go_simp
    rw [← hX11]
    clear hX11
    refine hK.out _ _ ⟨(tb11.cell (p := ⟨g, 0, none⟩) hg).trans hP, (tb11.cell (p := ⟨g, 1, none⟩) hg).trans hU0⟩ (fun hS11 => ?_)
    clear hK K
    refine wpAnyH_ready (rs := [5]) (by kernel_rfl) (by simp) (AllReadyH.cons rfl ?_ AllReadyH.nil)
    obtain ⟨A1, c1, v12, hr12, own112, gr12⟩ := run_append_wn v11 32 Tryz.underlying32 w0.heap.size i0 hi hz0 hz1 hz2 _ 0 [] own111 P d l (hL.below tb11) (by omega) (by omega) tb11.size
    simp only [Nat.zero_add, List.nil_append] at hr12 own112
    have tb12 : Below w0.heap.size w0 v12 := tb11.grown gr12 tb11.size (fun j hj => (own111.lt j hj).1)
    have own212 := own211.kept gr12 (own_apart own211 own111 (by decide))
    intro K hK
    rw [if_pos (by rfl)]
    refine Lib.wp_append_run v11 (.tmp 3) (.tmp 7) 32 32 rfl _ _ rfl rfl _ _ (hr12 _) ?_
    clear hr12 gr12
    refine hK.out _ _ ⟨(tb12.cell (p := ⟨g, 0, none⟩) hg).trans hP, (tb12.cell (p := ⟨g, 1, none⟩) hg).trans hU0⟩ (fun hS12 => ?_)
    clear hK K
    change wpAnyH _ _ _ _ _ _ _ (Act.put _ (some 8) _) _
    simp only [Act.put, List.setIfInBounds_toArray, List.set_cons_zero, List.set_cons_succ]
    refine wpAnyH_ready (rs := [11]) (by kernel_rfl) (by simp) (AllReadyH.cons rfl ?_ AllReadyH.nil)
    obtain ⟨A2, c2, v13, hr13, own213, gr13⟩ := run_append_zn v12 27 Tryz.underlying27 w0.heap.size j0 ji jz0 jz1 jz2 _ 0 [] own212 U v z (hU.below tb12) (by omega) (by omega) tb12.size
    simp only [Nat.zero_add, List.nil_append] at hr13 own213
    have tb13 : Below w0.heap.size w0 v13 := tb12.grown gr13 tb12.size (fun j hj => (own212.lt j hj).1)
    have own113 := own112.kept gr13 (own_apart own112 own212 (by decide))
    intro K hK
    rw [if_pos (by rfl)]
    refine Lib.wp_append_run v12 (.tmp 9) (.tmp 13) 27 27 rfl _ _ rfl rfl _ _ (hr13 _) ?_
    clear hr13 gr13
    refine hK.out _ _ ⟨(tb13.cell (p := ⟨g, 0, none⟩) hg).trans hP, (tb13.cell (p := ⟨g, 1, none⟩) hg).trans hU0⟩ (fun hS13 => ?_)
    clear hK K
    change wpAnyH _ _ _ _ _ _ _ (Act.put _ (some 14) _) _
    simp only [Act.put, List.setIfInBounds_toArray, List.set_cons_zero, List.set_cons_succ]
    refine wpAnyH_take (i := 12) (v := .agg #[.slice A1 l.length c1, .slice A2 z.length c2]) rfl (by kernel_rfl) (by kernel_rfl) (by kernel_rfl) (fun _ _ _ h => h) (Or.inl ⟨by rfl, fun w' _ => by go_simp⟩) hS13 ?_
    change wpAnyH _ _ _ _ _ _ _ (Act.put _ (some 15) _) _
    simp only [Act.put, List.setIfInBounds_toArray, List.set_cons_zero, List.set_cons_succ]
    refine wpAnyH_ready (rs := [13]) (by kernel_rfl) (by simp) (AllReadyH.cons rfl ?_ AllReadyH.nil)
    intro K hK
    rw [if_pos (by rfl)]
    have EZ := R0.keep tb13
    refine wp_store_row 34 (.tmp 2) (.tmp 15) rfl w.heap.size #[.slice A1 l.length c1, .slice A2 z.length c2] rfl rfl 34 _ EZ (infoWear _ _) (szWear _ _ _ _) (oneWear _ _ _ _ _ _) ?_
    have hs0 : w.heap.size < w0.heap.size := R0.lt
    have owP := own_base (own_keepW own113 hs0 #[.slice A1 l.length c1, .slice A2 z.length c2]) (Nat.le_of_lt hs0)
    have owC := own_base (own_keepW own213 hs0 #[.slice A1 l.length c1, .slice A2 z.length c2]) (Nat.le_of_lt hs0)
    have bE := below_setRow (cs := #[.slice A1 l.length c1, .slice A2 z.length c2]) (g := w.heap.size) (step_below tb13 b0) (Nat.le_refl _)
    have HE := hide (setRow_heap _ _ _ #[.slice A1 l.length c1, .slice A2 z.length c2] _ _ EZ)
    refine hK.out _ _ ⟨(bE.cell (p := ⟨g, 0, none⟩) hgw).trans hPw, (bE.cell (p := ⟨g, 1, none⟩) hgw).trans hUw⟩ (fun hSE => ?_)
    clear hK K EZ
    refine wpAnyH_done (by kernel_rfl) ?_ _
    go_wp2
    exact bodyPost_ret (v := .agg #[.slice A1 l.length c1, .slice A2 z.length c2]) (results_cell_row Tryz.results47 _ _ w.heap.size 34 #[.slice A1 l.length c1, .slice A2 z.length c2] (0, 0) _ (by simp [Act.put]) HE.out Tryz.underlying34 rfl infoWe2) rfl ⟨A1, c1, A2, c2, rfl, owP, owC, bE⟩
end Go.Proofs.YtcocfnjbgceidaaGreat
