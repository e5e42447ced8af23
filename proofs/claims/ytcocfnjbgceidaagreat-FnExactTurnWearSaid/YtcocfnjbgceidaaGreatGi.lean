import Derived.Test.YtcocfnjbgceidaaGreatGh
import Derived.Test.YtcocfnjbgceidaaGreatGg
namespace Go.Proofs.YtcocfnjbgceidaaGreat
open Go.RowKit Go.Maps
theorem wnA_none {w : World} {l : List (Int × Int × Int)} (h : WnA w none l) : l = [] := by
  rcases Nat.eq_zero_or_pos l.length with e | e
  · exact List.length_eq_zero_iff.1 e
  · obtain ⟨b, o, h1, _⟩ := h 0 e
    cases h1
theorem WnA.cells {w : World} {ad : Addr} {l : List (Int × Int × Int)} (h : WnA w (some ad) l) : ∀ j u, (wnC l)[j]? = some u → w.cell? (ad.add j) = some u := by
  intro j u hu
  have hj : j < (wnC l).length := (List.getElem?_eq_some_iff.1 hu).1
  rw [wnC_length] at hj
  obtain ⟨b, o, e, _, c1, c2, c3⟩ := h (j / 3) (by omega)
  obtain ⟨v1, v2, v3⟩ := wnC_at l (j / 3) (by omega)
  obtain rfl : ad = ⟨b, o, none⟩ := Option.some.inj e
  rw [Addr.add_lit]
  have hm : j % 3 = 0 ∨ j % 3 = 1 ∨ j % 3 = 2 := by omega
  rcases hm with h0 | h0 | h0
  · have e0 : j / 3 * 3 = j := by omega
    rw [e0] at c1 v1
    rw [c1, ← hu, v1]
  · have e0 : j / 3 * 3 + 1 = j := by omega
    have e1 : o + j / 3 * 3 + 1 = o + j := by omega
    rw [e0] at v2
    rw [e1] at c2
    rw [c2, ← hu, v2]
  · have e0 : j / 3 * 3 + 2 = j := by omega
    have e1 : o + j / 3 * 3 + 2 = o + j := by omega
    rw [e0] at v3
    rw [e1] at c3
    rw [c3, ← hu, v3]
theorem wnC_one (l : List (Int × Int × Int)) : ∀ u ∈ wnC l, u.oneCell' = true := by
  intro u hu
  simp only [wnC, List.mem_flatMap] at hu
  obtain ⟨n, _, hu⟩ := hu
  simp at hu
  rcases hu with rfl | rfl | rfl <;> rfl
/-- append of worn pins that lie somewhere to a row of the call's own -/
theorem run_append_wn (w : World) (t : TypeId) (ht : Tryz.prog.underlying t = some (.slice 97)) (base : Nat) (i0 : TypeInfo) (hi : Tryz.prog.info? 97 = some i0)
    (hz0 : i0.zero = some (.agg #[.int .i8 0, .int .i8 0, .int .i64 0])) (hz1 : i0.size = 3) (hz2 : i0.bytes = 16) (v : Value) (n : Nat) (xs : List Value) (hown : w.ownsRow base 97 3 v n xs) (A : Option Addr) (c : Nat) (l : List (Int × Int × Int)) (hA : WnA w A l)
    (hn : n ≤ 4194304) (hl : l.length ≤ 4194304) (hb : base ≤ w.heap.size) :
    ∃ A' c' w', (∀ ty, (Builtin.append_ #[t, t] ty #[v, .slice A l.length c]).run Tryz.prog w = .ok (.slice A' (n + l.length) c') w') ∧ w'.ownsRow base 97 3 (.slice A' (n + l.length) c') (n + l.length) (xs ++ wnC l) ∧ w.grownBy w' v.ownBlock := by
  obtain ⟨Av, cv, rfl⟩ := own_shapeZ hown
  cases A with
  | none =>
    obtain rfl := wnA_none hA
    refine ⟨Av, cv, w, fun ty => ?_, ?_, ?_⟩
    · exact run_append_none w t ty _ i0 ht hi base 3 n _ c xs _ hown rfl
    · simpa [wnC_nil] using hown
    · exact ⟨rfl, rfl, rfl, Nat.le_refl _, fun _ _ _ => rfl⟩
  | some ad =>
    have key : ∀ ty, ∃ v' w', (Builtin.append_ #[t, t] ty #[.slice Av n cv, .slice (some ad) l.length c]).run Tryz.prog w = .ok v' w' ∧ w'.ownsRow base 97 3 v' (n + l.length) (xs ++ wnC l) ∧ w.grownBy w' (Value.slice Av n cv).ownBlock ∧ (v' = .slice none 0 0 ↔ Value.slice Av n cv = .slice none 0 0 ∧ l.length = 0) := fun ty =>
      run_append_own w base t ty 97 i0 (.agg #[.int .i8 0, .int .i8 0, .int .i64 0]) 3 16 ht hi hz0 hz1 hz2 rfl (by decide) _ n xs hown ad l.length c (wnC l) (wnC_length l) (WnA.cells hA) (wnC_one l) (by unfold maxLen; omega) (by omega) hb
    obtain ⟨v', w', hr, h2, h3, _⟩ := key 0
    obtain ⟨A', c', rfl⟩ := own_shapeZ h2
    exact ⟨A', c', w', fun ty => hr, h2, h3⟩
/-- the like for numbers, of a slice that may be nil -/
theorem run_append_zn (w : World) (t : TypeId) (ht : Tryz.prog.underlying t = some (.slice 2)) (base : Nat) (i0 : TypeInfo) (hi : Tryz.prog.info? 2 = some i0)
    (hz0 : i0.zero = some (.int .i64 0)) (hz1 : i0.size = 1) (hz2 : i0.bytes = 8) (v : Value) (n : Nat) (xs : List Value) (hown : w.ownsRow base 2 1 v n xs) (A : Option Addr) (c : Nat) (l : List Int) (hA : SZ w A l)
    (hn : n ≤ 4194304) (hl : l.length ≤ 4194304) (hb : base ≤ w.heap.size) :
    ∃ A' c' w', (∀ ty, (Builtin.append_ #[t, t] ty #[v, .slice A l.length c]).run Tryz.prog w = .ok (.slice A' (n + l.length) c') w') ∧ w'.ownsRow base 2 1 (.slice A' (n + l.length) c') (n + l.length) (xs ++ icells l) ∧ w.grownBy w' v.ownBlock := by
  cases A with
  | none =>
    obtain ⟨Av, cv, rfl⟩ := own_shapeZ hown
    obtain rfl := SZ.none hA
    refine ⟨Av, cv, w, fun ty => ?_, ?_, ?_⟩
    · exact run_append_none w t ty _ i0 ht hi base 1 n _ c xs _ hown rfl
    · simpa [icells] using hown
    · exact ⟨rfl, rfl, rfl, Nat.le_refl _, fun _ _ _ => rfl⟩
  | some ad => exact run_append_z w t ht base i0 hi hz0 hz1 hz2 v n xs hown ad c l hA hn hl hb
end Go.Proofs.YtcocfnjbgceidaaGreat
namespace Go.Proofs.YtcocfnjbgceidaaGreat
open Go.RowKit Go.Maps
theorem own_apart {w : World} {base n m : Nat} {e f : TypeId} {size size' : Nat} {v u : Value} {xs ys : List Value} (h : w.ownsRow base e size v n xs) (h' : w.ownsRow base f size' u m ys) (hne : e ≠ f) : v.ownBlock = none ∨ v.ownBlock ≠ u.ownBlock := by
  rcases h.2 with ⟨rfl, _⟩ | ⟨g, cap, cur, rfl, _, hg, _⟩
  · exact Or.inl rfl
  · right
    rcases h'.2 with ⟨rfl, _⟩ | ⟨g', cap', cur', rfl, _, hg', _⟩
    · simp [Value.ownBlock]
    · intro e1
      have e2 : g = g' := by simpa [Value.ownBlock] using e1
      subst e2
      rw [hg] at hg'
      simp at hg'
      exact hne hg'.2
set_option maxRecDepth 20000 in
set_option maxHeartbeats 8000000 in
theorem l06Copy_any (g : Nat) (P : Option Addr) (d : Nat) (l : List (Int × Int × Int)) (U : Option Addr) (v : Nat) (z : List Int) (w : World) (hPw : w.cell? ⟨g, 0, none⟩ = some (.slice P l.length d)) (hUw : w.cell? ⟨g, 1, none⟩ = some (.slice U z.length v)) (hLw : WnA w P l) (hZw : SZ w U z) (hl : l.length ≤ 1048576) (hz : z.length ≤ 1048576) :
    Calls Tryz.prog 47 #[.pointer (some ⟨g, 0, none⟩)] w (OwnWear w l z) := by
  obtain ⟨i0, hi, hz0, hz1, hz2⟩ := info_parts info97
  obtain ⟨j0, ji, jz0, jz1, jz2⟩ := info_parts info2
  obtain ⟨w0, hw0⟩ : ∃ X, X = w.alloc (.cells #[.slice none 0 0, .slice none 0 0] 34) := ⟨_, rfl⟩
  have b0 : Below w.heap.size w w0 := by rw [hw0]; exact (Below.refl _ _).alloc (Nat.le_refl _) _
  have R0 : Bk w0 w.heap.size 34 #[.slice none 0 0, .slice none 0 0] := by rw [hw0]; exact Bk.new _ _ _ rfl
  have hgw : g < w.heap.size := World.block_lt_of_cell? w _ hPw
  have hg : g < w0.heap.size := Nat.lt_of_lt_of_le hgw b0.size
  have hP := (b0.cell (p := ⟨g, 0, none⟩) hgw).trans hPw
  have hU0 := (b0.cell (p := ⟨g, 1, none⟩) hgw).trans hUw
  have hL := hLw.below b0
  have hU := hZw.below b0
  go_enter Tryz.func47, Tryz.ntmps47
  go_upto_region 1 with fail
  rw [← hw0]
  clear hw0
  obtain ⟨v2, hv2⟩ : ∃ X, X = w0.drew := ⟨_, rfl⟩
  have tb2 : Below w0.heap.size w0 v2 := by rw [hv2]; exact (Below.refl _ _).drew
  have q1 := (tb2.cell (p := ⟨g, 0, none⟩) hg).trans hP
  have q2 := (tb2.cell (p := ⟨g, 1, none⟩) hg).trans hU0
  refine wp_region_held_drew (S := fun w' => w'.cell? ⟨g, 0, none⟩ = some (.slice P l.length d) ∧ w'.cell? ⟨g, 1, none⟩ = some (.slice U z.length v)) (by kernel_rfl) (by rw [← hv2]; exact ⟨q1, q2⟩) fun hS1 => ?_
  rw [← hv2] at hS1 ⊢
  clear hv2 q1 q2
  refine wpAnyH_take (i := 1) (v := .pointer (some ⟨g, 0, none⟩)) rfl (by kernel_rfl) (by kernel_rfl) (by kernel_rfl) (fun _ _ _ h => h) (Or.inl ⟨by rfl, fun w' _ => by go_simp⟩) hS1 ?_
  change wpAnyH _ _ _ _ _ _ _ (Act.put _ (some 4) _) _
  simp only [Act.put, List.setIfInBounds_toArray, List.set_cons_zero, List.set_cons_succ]
  refine wpAnyH_take (i := 2) (v := .pointer (some ⟨g, 0, none⟩)) rfl (by kernel_rfl) (by kernel_rfl) (by kernel_rfl) (fun _ _ _ h => h) (Or.inl ⟨by rfl, fun w' _ => by go_simp⟩) hS1 ?_
  change wpAnyH _ _ _ _ _ _ _ (Act.put _ (some 5) _) _
  simp only [Act.put, List.setIfInBounds_toArray, List.set_cons_zero, List.set_cons_succ]
  refine wpAnyH_take (i := 3) (v := .pointer (some ⟨g, 0, none⟩)) rfl (by kernel_rfl) (by kernel_rfl) (by kernel_rfl) (fun _ _ _ h => h) (Or.inl ⟨by rfl, fun w' _ => by go_simp⟩) hS1 ?_
  change wpAnyH _ _ _ _ _ _ _ (Act.put _ (some 6) _) _
  simp only [Act.put, List.setIfInBounds_toArray, List.set_cons_zero, List.set_cons_succ]
  refine wpAnyH_take (i := 4) (v := .slice P l.length d) rfl (by kernel_rfl) (by kernel_rfl) (by kernel_rfl) (fun _ _ _ h => h) (Or.inl ⟨by rfl, fun w' h => ?_⟩) hS1 ?_
  · have c0 := h.1
    clear h
    go_simp
  change wpAnyH _ _ _ _ _ _ _ (Act.put _ (some 7) _) _
  simp only [Act.put, List.setIfInBounds_toArray, List.set_cons_zero, List.set_cons_succ]
  refine wpAnyH_take (i := 7) (v := .pointer (some ⟨g, 0, none⟩)) rfl (by kernel_rfl) (by kernel_rfl) (by kernel_rfl) (fun _ _ _ h => h) (Or.inl ⟨by rfl, fun w' _ => by go_simp⟩) hS1 ?_
  change wpAnyH _ _ _ _ _ _ _ (Act.put _ (some 10) _) _
  simp only [Act.put, List.setIfInBounds_toArray, List.set_cons_zero, List.set_cons_succ]
  refine wpAnyH_take (i := 8) (v := .pointer (some ⟨g, 0, none⟩)) rfl (by kernel_rfl) (by kernel_rfl) (by kernel_rfl) (fun _ _ _ h => h) (Or.inl ⟨by rfl, fun w' _ => by go_simp⟩) hS1 ?_
  change wpAnyH _ _ _ _ _ _ _ (Act.put _ (some 11) _) _
  simp only [Act.put, List.setIfInBounds_toArray, List.set_cons_zero, List.set_cons_succ]
  refine wpAnyH_take (i := 9) (v := .pointer (some ⟨g, 1, none⟩)) rfl (by kernel_rfl) (by kernel_rfl) (by kernel_rfl) (fun _ _ _ h => h) (Or.inl ⟨by rfl, fun w' _ => by go_simp⟩) hS1 ?_
  change wpAnyH _ _ _ _ _ _ _ (Act.put _ (some 12) _) _
  simp only [Act.put, List.setIfInBounds_toArray, List.set_cons_zero, List.set_cons_succ]
  refine wpAnyH_take (i := 10) (v := .slice U z.length v) rfl (by kernel_rfl) (by kernel_rfl) (by kernel_rfl) (fun _ _ _ h => h) (Or.inl ⟨by rfl, fun w' h => ?_⟩) hS1 ?_
  · have c0 := h.2
    clear h
    go_simp
  change wpAnyH _ _ _ _ _ _ _ (Act.put _ (some 13) _) _
  simp only [Act.put, List.setIfInBounds_toArray, List.set_cons_zero, List.set_cons_succ]
  refine wpAnyH_ready (rs := [0, 6]) (by kernel_rfl) (by simp) (AllReadyH.cons rfl ?_ (AllReadyH.cons rfl ?_ AllReadyH.nil))
  · skip
    obtain ⟨v3, hX3⟩ : ∃ X, X = v2.alloc (.cells #[] 97) := ⟨_, rfl⟩
    have hb3 : Below v2.heap.size v2 v3 := by rw [hX3]; exact (Below.refl _ _).alloc (Nat.le_refl _) _
    have tb3 := tb2.trans (hb3.mono tb2.size)
    have gs3 : w0.heap.size ≤ v2.heap.size := tb2.size
    have own13 : v3.ownsRow w0.heap.size 97 3 (.slice (some ⟨v2.heap.size, 0, none⟩) 0 0) 0 [] := by rw [hX3]; exact World.ownsRow_made v2 #[] 0 gs3 (by unfold maxLen; omega) (by simp)
    intro K hK
    rw [if_pos (by rfl)]
    go_simp
    rw [← hX3]
    clear hX3
    refine hK.out _ _ ⟨(tb3.cell (p := ⟨g, 0, none⟩) hg).trans hP, (tb3.cell (p := ⟨g, 1, none⟩) hg).trans hU0⟩ (fun hS3 => ?_)
    clear hK K
    refine wpAnyH_ready (rs := [5, 6]) (by kernel_rfl) (by simp) (AllReadyH.cons rfl ?_ (AllReadyH.cons rfl ?_ AllReadyH.nil))
    · skip
      obtain ⟨A1, c1, v4, hr4, own14, gr4⟩ := run_append_wn v3 32 Tryz.underlying32 w0.heap.size i0 hi hz0 hz1 hz2 _ 0 [] own13 P d l (hL.below tb3) (by omega) (by omega) tb3.size
      simp only [Nat.zero_add, List.nil_append] at hr4 own14
      have tb4 : Below w0.heap.size w0 v4 := tb3.grown gr4 tb3.size (fun j hj => (own13.lt j hj).1)
      intro K hK
      rw [if_pos (by rfl)]
      refine Lib.wp_append_run v3 (.tmp 3) (.tmp 7) 32 32 rfl _ _ rfl rfl _ _ (hr4 _) ?_
      clear hr4 gr4
      refine hK.out _ _ ⟨(tb4.cell (p := ⟨g, 0, none⟩) hg).trans hP, (tb4.cell (p := ⟨g, 1, none⟩) hg).trans hU0⟩ (fun hS4 => ?_)
      clear hK K
      change wpAnyH _ _ _ _ _ _ _ (Act.put _ (some 8) _) _
      simp only [Act.put, List.setIfInBounds_toArray, List.set_cons_zero, List.set_cons_succ]
      refine wpAnyH_ready (rs := [6]) (by kernel_rfl) (by simp) (AllReadyH.cons rfl ?_ AllReadyH.nil)
      obtain ⟨v5, hX5⟩ : ∃ X, X = v4.alloc (.cells #[] 2) := ⟨_, rfl⟩
      have hb5 : Below v4.heap.size v4 v5 := by rw [hX5]; exact (Below.refl _ _).alloc (Nat.le_refl _) _
      have tb5 := tb4.trans (hb5.mono tb4.size)
      have gs5 : w0.heap.size ≤ v4.heap.size := tb4.size
      have own25 : v5.ownsRow w0.heap.size 2 1 (.slice (some ⟨v4.heap.size, 0, none⟩) 0 0) 0 [] := by rw [hX5]; exact World.ownsRow_made v4 #[] 0 gs5 (by unfold maxLen; omega) (by simp)
      have own15 := own_keep own14 hb5
      intro K hK
      rw [if_pos (by rfl)]
      go_simp
      rw [← hX5]
      clear hX5
      refine hK.out _ _ ⟨(tb5.cell (p := ⟨g, 0, none⟩) hg).trans hP, (tb5.cell (p := ⟨g, 1, none⟩) hg).trans hU0⟩ (fun hS5 => ?_)
      clear hK K
      refine wpAnyH_ready (rs := [11]) (by kernel_rfl) (by simp) (AllReadyH.cons rfl ?_ AllReadyH.nil)
      obtain ⟨A2, c2, v6, hr6, own26, gr6⟩ := run_append_zn v5 27 Tryz.underlying27 w0.heap.size j0 ji jz0 jz1 jz2 _ 0 [] own25 U v z (hU.below tb5) (by omega) (by omega) tb5.size
      simp only [Nat.zero_add, List.nil_append] at hr6 own26
      have tb6 : Below w0.heap.size w0 v6 := tb5.grown gr6 tb5.size (fun j hj => (own25.lt j hj).1)
      have own16 := own15.kept gr6 (own_apart own15 own25 (by decide))
      intro K hK
      rw [if_pos (by rfl)]
      refine Lib.wp_append_run v5 (.tmp 9) (.tmp 13) 27 27 rfl _ _ rfl rfl _ _ (hr6 _) ?_
      clear hr6 gr6
      refine hK.out _ _ ⟨(tb6.cell (p := ⟨g, 0, none⟩) hg).trans hP, (tb6.cell (p := ⟨g, 1, none⟩) hg).trans hU0⟩ (fun hS6 => ?_)
      clear hK K
      change wpAnyH _ _ _ _ _ _ _ (Act.put _ (some 14) _) _
      simp only [Act.put, List.setIfInBounds_toArray, List.set_cons_zero, List.set_cons_succ]
      refine wpAnyH_take (i := 12) (v := .agg #[.slice A1 l.length c1, .slice A2 z.length c2]) rfl (by kernel_rfl) (by kernel_rfl) (by kernel_rfl) (fun _ _ _ h => h) (Or.inl ⟨by rfl, fun w' _ => by go_simp⟩) hS6 ?_
      change wpAnyH _ _ _ _ _ _ _ (Act.put _ (some 15) _) _
      simp only [Act.put, List.setIfInBounds_toArray, List.set_cons_zero, List.set_cons_succ]
      refine wpAnyH_ready (rs := [13]) (by kernel_rfl) (by simp) (AllReadyH.cons rfl ?_ AllReadyH.nil)
      intro K hK
      rw [if_pos (by rfl)]
      have EZ := R0.keep tb6
      refine wp_store_row 34 (.tmp 2) (.tmp 15) rfl w.heap.size #[.slice A1 l.length c1, .slice A2 z.length c2] rfl rfl 34 _ EZ (infoWear _ _) (szWear _ _ _ _) (oneWear _ _ _ _ _ _) ?_
      have hs0 : w.heap.size < w0.heap.size := R0.lt
      have owP := own_base (own_keepW own16 hs0 #[.slice A1 l.length c1, .slice A2 z.length c2]) (Nat.le_of_lt hs0)
      have owC := own_base (own_keepW own26 hs0 #[.slice A1 l.length c1, .slice A2 z.length c2]) (Nat.le_of_lt hs0)
      have bE := below_setRow (cs := #[.slice A1 l.length c1, .slice A2 z.length c2]) (g := w.heap.size) (step_below tb6 b0) (Nat.le_refl _)
      have HE := hide (setRow_heap _ _ _ #[.slice A1 l.length c1, .slice A2 z.length c2] _ _ EZ)
      refine hK.out _ _ ⟨(bE.cell (p := ⟨g, 0, none⟩) hgw).trans hPw, (bE.cell (p := ⟨g, 1, none⟩) hgw).trans hUw⟩ (fun hSE => ?_)
      clear hK K EZ
      refine wpAnyH_done (by kernel_rfl) ?_ _
      go_wp2
      exact bodyPost_ret (v := .agg #[.slice A1 l.length c1, .slice A2 z.length c2]) (results_cell_row Tryz.results47 _ _ w.heap.size 34 #[.slice A1 l.length c1, .slice A2 z.length c2] (0, 0) _ (by simp [Act.put]) HE.out Tryz.underlying34 rfl infoWe2) rfl ⟨A1, c1, A2, c2, rfl, owP, owC, bE⟩
    · skip
      obtain ⟨v7, hX7⟩ : ∃ X, X = v3.alloc (.cells #[] 2) := ⟨_, rfl⟩
      have hb7 : Below v3.heap.size v3 v7 := by rw [hX7]; exact (Below.refl _ _).alloc (Nat.le_refl _) _
      have tb7 := tb3.trans (hb7.mono tb3.size)
      have gs7 : w0.heap.size ≤ v3.heap.size := tb3.size
      have own27 : v7.ownsRow w0.heap.size 2 1 (.slice (some ⟨v3.heap.size, 0, none⟩) 0 0) 0 [] := by rw [hX7]; exact World.ownsRow_made v3 #[] 0 gs7 (by unfold maxLen; omega) (by simp)
      have own17 := own_keep own13 hb7
      intro K hK
      rw [if_pos (by rfl)]
      go_simp
      rw [← hX7]
      clear hX7
      refine hK.out _ _ ⟨(tb7.cell (p := ⟨g, 0, none⟩) hg).trans hP, (tb7.cell (p := ⟨g, 1, none⟩) hg).trans hU0⟩ (fun hS7 => ?_)
      clear hK K
      refine wpAnyH_ready (rs := [5]) (by kernel_rfl) (by simp) (AllReadyH.cons rfl ?_ AllReadyH.nil)
      obtain ⟨A1, c1, v8, hr8, own18, gr8⟩ := run_append_wn v7 32 Tryz.underlying32 w0.heap.size i0 hi hz0 hz1 hz2 _ 0 [] own17 P d l (hL.below tb7) (by omega) (by omega) tb7.size
      simp only [Nat.zero_add, List.nil_append] at hr8 own18
      have tb8 : Below w0.heap.size w0 v8 := tb7.grown gr8 tb7.size (fun j hj => (own17.lt j hj).1)
      have own28 := own27.kept gr8 (own_apart own27 own17 (by decide))
      intro K hK
      rw [if_pos (by rfl)]
      refine Lib.wp_append_run v7 (.tmp 3) (.tmp 7) 32 32 rfl _ _ rfl rfl _ _ (hr8 _) ?_
      clear hr8 gr8
      refine hK.out _ _ ⟨(tb8.cell (p := ⟨g, 0, none⟩) hg).trans hP, (tb8.cell (p := ⟨g, 1, none⟩) hg).trans hU0⟩ (fun hS8 => ?_)
      clear hK K
      change wpAnyH _ _ _ _ _ _ _ (Act.put _ (some 8) _) _
      simp only [Act.put, List.setIfInBounds_toArray, List.set_cons_zero, List.set_cons_succ]
      refine wpAnyH_ready (rs := [11]) (by kernel_rfl) (by simp) (AllReadyH.cons rfl ?_ AllReadyH.nil)
      obtain ⟨A2, c2, v9, hr9, own29, gr9⟩ := run_append_zn v8 27 Tryz.underlying27 w0.heap.size j0 ji jz0 jz1 jz2 _ 0 [] own28 U v z (hU.below tb8) (by omega) (by omega) tb8.size
      simp only [Nat.zero_add, List.nil_append] at hr9 own29
      have tb9 : Below w0.heap.size w0 v9 := tb8.grown gr9 tb8.size (fun j hj => (own28.lt j hj).1)
      have own19 := own18.kept gr9 (own_apart own18 own28 (by decide))
      intro K hK
      rw [if_pos (by rfl)]
      refine Lib.wp_append_run v8 (.tmp 9) (.tmp 13) 27 27 rfl _ _ rfl rfl _ _ (hr9 _) ?_
      clear hr9 gr9
      refine hK.out _ _ ⟨(tb9.cell (p := ⟨g, 0, none⟩) hg).trans hP, (tb9.cell (p := ⟨g, 1, none⟩) hg).trans hU0⟩ (fun hS9 => ?_)
      clear hK K
      change wpAnyH _ _ _ _ _ _ _ (Act.put _ (some 14) _) _
      simp only [Act.put, List.setIfInBounds_toArray, List.set_cons_zero, List.set_cons_succ]
      refine wpAnyH_take (i := 12) (v := .agg #[.slice A1 l.length c1, .slice A2 z.length c2]) rfl (by kernel_rfl) (by kernel_rfl) (by kernel_rfl) (fun _ _ _ h => h) (Or.inl ⟨by rfl, fun w' _ => by go_simp⟩) hS9 ?_
      change wpAnyH _ _ _ _ _ _ _ (Act.put _ (some 15) _) _
      simp only [Act.put, List.setIfInBounds_toArray, List.set_cons_zero, List.set_cons_succ]
      refine wpAnyH_ready (rs := [13]) (by kernel_rfl) (by simp) (AllReadyH.cons rfl ?_ AllReadyH.nil)
      intro K hK
      rw [if_pos (by rfl)]
      have EZ := R0.keep tb9
      refine wp_store_row 34 (.tmp 2) (.tmp 15) rfl w.heap.size #[.slice A1 l.length c1, .slice A2 z.length c2] rfl rfl 34 _ EZ (infoWear _ _) (szWear _ _ _ _) (oneWear _ _ _ _ _ _) ?_
      have hs0 : w.heap.size < w0.heap.size := R0.lt
      have owP := own_base (own_keepW own19 hs0 #[.slice A1 l.length c1, .slice A2 z.length c2]) (Nat.le_of_lt hs0)
      have owC := own_base (own_keepW own29 hs0 #[.slice A1 l.length c1, .slice A2 z.length c2]) (Nat.le_of_lt hs0)
      have bE := below_setRow (cs := #[.slice A1 l.length c1, .slice A2 z.length c2]) (g := w.heap.size) (step_below tb9 b0) (Nat.le_refl _)
      have HE := hide (setRow_heap _ _ _ #[.slice A1 l.length c1, .slice A2 z.length c2] _ _ EZ)
      refine hK.out _ _ ⟨(bE.cell (p := ⟨g, 0, none⟩) hgw).trans hPw, (bE.cell (p := ⟨g, 1, none⟩) hgw).trans hUw⟩ (fun hSE => ?_)
      clear hK K EZ
      refine wpAnyH_done (by kernel_rfl) ?_ _
      go_wp2
      exact bodyPost_ret (v := .agg #[.slice A1 l.length c1, .slice A2 z.length c2]) (results_cell_row Tryz.results47 _ _ w.heap.size 34 #[.slice A1 l.length c1, .slice A2 z.length c2] (0, 0) _ (by simp [Act.put]) HE.out Tryz.underlying34 rfl infoWe2) rfl ⟨A1, c1, A2, c2, rfl, owP, owC, bE⟩
  · skip
    obtain ⟨v10, hX10⟩ : ∃ X, X = v2.alloc (.cells #[] 2) := ⟨_, rfl⟩
    have hb10 : Below v2.heap.size v2 v10 := by rw [hX10]; exact (Below.refl _ _).alloc (Nat.le_refl _) _
    have tb10 := tb2.trans (hb10.mono tb2.size)
    have gs10 : w0.heap.size ≤ v2.heap.size := tb2.size
    have own210 : v10.ownsRow w0.heap.size 2 1 (.slice (some ⟨v2.heap.size, 0, none⟩) 0 0) 0 [] := by rw [hX10]; exact World.ownsRow_made v2 #[] 0 gs10 (by unfold maxLen; omega) (by simp)
    intro K hK
    rw [if_pos (by rfl)]
    go_simp
    rw [← hX10]
    clear hX10
    refine hK.out _ _ ⟨(tb10.cell (p := ⟨g, 0, none⟩) hg).trans hP, (tb10.cell (p := ⟨g, 1, none⟩) hg).trans hU0⟩ (fun hS10 => ?_)
    clear hK K
    refine wpAnyH_ready (rs := [0]) (by kernel_rfl) (by simp) (AllReadyH.cons rfl ?_ AllReadyH.nil)
    obtain ⟨v11, hX11⟩ : ∃ X, X = v10.alloc (.cells #[] 97) := ⟨_, rfl⟩
    have hb11 : Below v10.heap.size v10 v11 := by rw [hX11]; exact (Below.refl _ _).alloc (Nat.le_refl _) _
    have tb11 := tb10.trans (hb11.mono tb10.size)
    have gs11 : w0.heap.size ≤ v10.heap.size := tb10.size
    have own111 : v11.ownsRow w0.heap.size 97 3 (.slice (some ⟨v10.heap.size, 0, none⟩) 0 0) 0 [] := by rw [hX11]; exact World.ownsRow_made v10 #[] 0 gs11 (by unfold maxLen; omega) (by simp)
    have own211 := own_keep own210 hb11
    intro K hK
    rw [if_pos (by rfl)]
    go_simp
    rw [← hX11]
    clear hX11
    refine hK.out _ _ ⟨(tb11.cell (p := ⟨g, 0, none⟩) hg).trans hP, (tb11.cell (p := ⟨g, 1, none⟩) hg).trans hU0⟩ (fun hS11 => ?_)
    clear hK K
    refine wpAnyH_ready (rs := [5]) (by kernel_rfl) (by simp) (AllReadyH.cons rfl ?_ AllReadyH.nil)
    obtain ⟨A1, c1, v12, hr12, own112, gr12⟩ := run_append_wn v11 32 Tryz.underlying32 w0.heap.size i0 hi hz0 hz1 hz2 _ 0 [] own111 P d l (hL.below tb11) (by omega) (by omega) tb11.size
    simp only [Nat.zero_add, List.nil_append] at hr12 own112
    have tb12 : Below w0.heap.size w0 v12 := tb11.grown gr12 tb11.size (fun j hj => (own111.lt j hj).1)
    have own212 := own211.kept gr12 (own_apart own211 own111 (by decide))
    intro K hK
    rw [if_pos (by rfl)]
    refine Lib.wp_append_run v11 (.tmp 3) (.tmp 7) 32 32 rfl _ _ rfl rfl _ _ (hr12 _) ?_
    clear hr12 gr12
    refine hK.out _ _ ⟨(tb12.cell (p := ⟨g, 0, none⟩) hg).trans hP, (tb12.cell (p := ⟨g, 1, none⟩) hg).trans hU0⟩ (fun hS12 => ?_)
    clear hK K
    change wpAnyH _ _ _ _ _ _ _ (Act.put _ (some 8) _) _
    simp only [Act.put, List.setIfInBounds_toArray, List.set_cons_zero, List.set_cons_succ]
    refine wpAnyH_ready (rs := [11]) (by kernel_rfl) (by simp) (AllReadyH.cons rfl ?_ AllReadyH.nil)
    obtain ⟨A2, c2, v13, hr13, own213, gr13⟩ := run_append_zn v12 27 Tryz.underlying27 w0.heap.size j0 ji jz0 jz1 jz2 _ 0 [] own212 U v z (hU.below tb12) (by omega) (by omega) tb12.size
    simp only [Nat.zero_add, List.nil_append] at hr13 own213
    have tb13 : Below w0.heap.size w0 v13 := tb12.grown gr13 tb12.size (fun j hj => (own212.lt j hj).1)
    have own113 := own112.kept gr13 (own_apart own112 own212 (by decide))
    intro K hK
    rw [if_pos (by rfl)]
    refine Lib.wp_append_run v12 (.tmp 9) (.tmp 13) 27 27 rfl _ _ rfl rfl _ _ (hr13 _) ?_
    clear hr13 gr13
    refine hK.out _ _ ⟨(tb13.cell (p := ⟨g, 0, none⟩) hg).trans hP, (tb13.cell (p := ⟨g, 1, none⟩) hg).trans hU0⟩ (fun hS13 => ?_)
    clear hK K
    change wpAnyH _ _ _ _ _ _ _ (Act.put _ (some 14) _) _
    simp only [Act.put, List.setIfInBounds_toArray, List.set_cons_zero, List.set_cons_succ]
    refine wpAnyH_take (i := 12) (v := .agg #[.slice A1 l.length c1, .slice A2 z.length c2]) rfl (by kernel_rfl) (by kernel_rfl) (by kernel_rfl) (fun _ _ _ h => h) (Or.inl ⟨by rfl, fun w' _ => by go_simp⟩) hS13 ?_
    change wpAnyH _ _ _ _ _ _ _ (Act.put _ (some 15) _) _
    simp only [Act.put, List.setIfInBounds_toArray, List.set_cons_zero, List.set_cons_succ]
    refine wpAnyH_ready (rs := [13]) (by kernel_rfl) (by simp) (AllReadyH.cons rfl ?_ AllReadyH.nil)
    intro K hK
    rw [if_pos (by rfl)]
    have EZ := R0.keep tb13
    refine wp_store_row 34 (.tmp 2) (.tmp 15) rfl w.heap.size #[.slice A1 l.length c1, .slice A2 z.length c2] rfl rfl 34 _ EZ (infoWear _ _) (szWear _ _ _ _) (oneWear _ _ _ _ _ _) ?_
    have hs0 : w.heap.size < w0.heap.size := R0.lt
    have owP := own_base (own_keepW own113 hs0 #[.slice A1 l.length c1, .slice A2 z.length c2]) (Nat.le_of_lt hs0)
    have owC := own_base (own_keepW own213 hs0 #[.slice A1 l.length c1, .slice A2 z.length c2]) (Nat.le_of_lt hs0)
    have bE := below_setRow (cs := #[.slice A1 l.length c1, .slice A2 z.length c2]) (g := w.heap.size) (step_below tb13 b0) (Nat.le_refl _)
    have HE := hide (setRow_heap _ _ _ #[.slice A1 l.length c1, .slice A2 z.length c2] _ _ EZ)
    refine hK.out _ _ ⟨(bE.cell (p := ⟨g, 0, none⟩) hgw).trans hPw, (bE.cell (p := ⟨g, 1, none⟩) hgw).trans hUw⟩ (fun hSE => ?_)
    clear hK K EZ
    refine wpAnyH_done (by kernel_rfl) ?_ _
    go_wp2
    exact bodyPost_ret (v := .agg #[.slice A1 l.length c1, .slice A2 z.length c2]) (results_cell_row Tryz.results47 _ _ w.heap.size 34 #[.slice A1 l.length c1, .slice A2 z.length c2] (0, 0) _ (by simp [Act.put]) HE.out Tryz.underlying34 rfl infoWe2) rfl ⟨A1, c1, A2, c2, rfl, owP, owC, bE⟩
end Go.Proofs.YtcocfnjbgceidaaGreat
namespace Go.Proofs.YtcocfnjbgceidaaGreat
open Go.RowKit Go.Maps
set_option maxRecDepth 20000 in
set_option maxHeartbeats 8000000 in
theorem specNewHammer_any (s : Int) (A : Option Addr) (c : Nat) (h : List (Int × Int)) (P : Option Addr) (d : Nat) (l : List (Int × Int × Int)) (U : Option Addr) (v : Nat) (z : List Int) (x : Int) (w : World)
    (hA : HA w A h) (hn : h.length ≤ 1048576) (hwf : HWF h) (hs : -32768 ≤ s ∧ s ≤ 32767) (hL : WnA w P l) (hU : SZ w U z) (hl : l.length ≤ 1048576) (hz : z.length ≤ 1048576) (hlw : WnWF l) (hzw : ZWF z) :
    Calls Tryz.prog 12 #[.agg #[.int .i16 s, .slice A h.length c], .agg #[.slice P l.length d, .slice U z.length v], .int .i64 x] w (WeC (nhT s h l z x) (nhZ s h l z x) (nhC s h l z x) w) := by
  obtain ⟨X, hX⟩ : ∃ X, X = ((w.alloc (.cells #[.int .i16 s, .slice A h.length c] 39)).alloc (.cells #[.slice P l.length d, .slice U z.length v] 34)).alloc (.cells #[.slice none 0 0, .slice none 0 0] 34) := ⟨_, rfl⟩
  have hb0 : Below w.heap.size w X := by rw [hX]; exact (((Below.refl _ _).alloc (Nat.le_refl _) _).alloc (by simp) _).alloc (by simp; omega) _
  have P0 : Bk X w.heap.size 39 #[.int .i16 s, .slice A h.length c] := by rw [hX]; exact ((Bk.new _ _ _ rfl).old _).old _
  have P1 : Bk X (w.heap.size + 1) 34 #[.slice P l.length d, .slice U z.length v] := by rw [hX]; exact (Bk.new _ _ _ (by simp)).old _
  have P3 : Bk X (w.heap.size + 1 + 1) 34 #[.slice none 0 0, .slice none 0 0] := by rw [hX]; exact Bk.new _ _ _ (by simp)
  have hX3 := P3.lt
  have KW := l06Ok_any w.heap.size (w.heap.size + 1) s A c h P d l U v z X ⟨P0.cell (i := 0) rfl, P0.cell (i := 1) rfl⟩ (P1.cell (i := 0) rfl) (P1.cell (i := 1) rfl) (hA.below hb0) (hL.below hb0) (hU.below hb0) hn hl hz hwf hs hlw
  go_enter Tryz.func12, Tryz.ntmps12
  go_upto_region 1 with fail
  rw [← hX]
  clear hX
  go_wp2_with fail
  refine KW.mono ?_
  rintro e w2 ⟨rfl, hb2⟩
  have b2 := step_below hb2 hb0
  have Q0 := P0.keep hb2
  have Q1 := P1.keep hb2
  have hs2 := hb2.size
  have KI0 := fun W => l00In_any x 0 ((h.length : Int) - 1) W
  clear KW
  cases hwe : weB s h l z
  · skip
    have KI := KI0
    have HX := hide (show nhC s h l z x = 1 by simp [nhC, hwe])
    have HT := hide (show nhT s h l z x = [] by rw [nhT, if_neg (by rw [HX.out]; decide)])
    have HZZ := hide (show nhZ s h l z x = [] by rw [nhZ, if_neg (by rw [HX.out]; decide)])
    have HZ := hide (show w2.heap[w.heap.size + 1 + 1]? = some (.cells #[.slice none 0 0, .slice none 0 0] 34 (0, 0)) from P3.keep hb2)
    go_wp2_with (first | (go_at_call 46; with_reducible refine (KI _).mono ?_; rintro e w' ⟨rfl, rfl⟩) | (with_reducible refine wpList_build0 rfl rfl ?_) | (with_reducible refine wpList_store_row rfl 34 (.tmp 6) (.tmp 11) rfl (w.heap.size + 1 + 1) #[.slice none 0 0, .slice none 0 0] rfl rfl 34 _ HZ.out (infoWear _ _) (szWear _ _ _ _) (oneWear _ _ _ _ _ _) ?_))
    exact bodyPost_ret (v := .tuple #[.agg #[.slice none 0 0, .slice none 0 0], .int .i64 1]) (results_we Tryz.results12 _ _ (w.heap.size + 1 + 1) 34 #[.slice none 0 0, .slice none 0 0] _ rfl (by simp [Act.put]) (by simp [Act.put]) (setRow_heap _ _ _ _ _ _ HZ.out)) rfl ⟨none, 0, none, 0, by rw [HX.out, HT.out, HZZ.out]; rfl, by rw [HT.out]; exact World.ownsRow_nil _ _ _ _, by rw [HZZ.out]; exact World.ownsRow_nil _ _ _ _, below_setRow b2 (by omega)⟩
  have c1 := Q0.cell (i := 1) rfl
  cases hin : inB x 0 ((h.length : Int) - 1)
  · skip
    have KI : ∀ W, Calls Tryz.prog 46 #[.int .i64 x, .int .i64 0, .int .i64 ((h.length : Int) - 1)] W fun e w' => e = .returned (.bool false) ∧ W = w' := fun W => by rw [← hin]; exact l00In_any _ _ _ W
    clear KI0
    have HX := hide (show nhC s h l z x = 2 by simp [nhC, hwe, rnC, hin])
    have HT := hide (show nhT s h l z x = [] by rw [nhT, if_neg (by rw [HX.out]; decide)])
    have HZZ := hide (show nhZ s h l z x = [] by rw [nhZ, if_neg (by rw [HX.out]; decide)])
    have HZ := hide (show w2.heap[w.heap.size + 1 + 1]? = some (.cells #[.slice none 0 0, .slice none 0 0] 34 (0, 0)) from P3.keep hb2)
    go_wp2_with (first | (go_at_call 46; with_reducible refine (KI _).mono ?_; rintro e w' ⟨rfl, rfl⟩) | (with_reducible refine wpList_build0 rfl rfl ?_) | (with_reducible refine wpList_store_row rfl 34 (.tmp 6) (.tmp 19) rfl (w.heap.size + 1 + 1) #[.slice none 0 0, .slice none 0 0] rfl rfl 34 _ HZ.out (infoWear _ _) (szWear _ _ _ _) (oneWear _ _ _ _ _ _) ?_))
    exact bodyPost_ret (v := .tuple #[.agg #[.slice none 0 0, .slice none 0 0], .int .i64 2]) (results_we Tryz.results12 _ _ (w.heap.size + 1 + 1) 34 #[.slice none 0 0, .slice none 0 0] _ rfl (by simp [Act.put]) (by simp [Act.put]) (setRow_heap _ _ _ _ _ _ HZ.out)) rfl ⟨none, 0, none, 0, by rw [HX.out, HT.out, HZZ.out]; rfl, by rw [HT.out]; exact World.ownsRow_nil _ _ _ _, by rw [HZZ.out]; exact World.ownsRow_nil _ _ _ _, below_setRow b2 (by omega)⟩
  have KI : ∀ W, Calls Tryz.prog 46 #[.int .i64 x, .int .i64 0, .int .i64 ((h.length : Int) - 1)] W fun e w' => e = .returned (.bool true) ∧ W = w' := fun W => by rw [← hin]; exact l00In_any _ _ _ W
  have hzn : z.length = h.length := by
    simp only [weB, Bool.and_eq_true, decide_eq_true_eq] at hwe
    exact hwe.1.1.2
  obtain ⟨k, rfl⟩ : ∃ k : Nat, x = (k : Int) := ⟨x.toNat, by simp [inB] at hin; omega⟩
  have hk : k < z.length := by simp [inB] at hin; omega
  have HX := hide (show nhC s h l z (k : Int) = 0 by simp [nhC, hwe, rnC, hin])
  have HT := hide (show nhT s h l z (k : Int) = l by rw [nhT, if_pos HX.out])
  have HZZ := hide (show nhZ s h l z (k : Int) = z.set k 0 by rw [nhZ, if_pos HX.out, Int.toNat_natCast])
  have KC := l06Copy_any (w.heap.size + 1) P d l U v z w2 (Q1.cell (i := 0) rfl) (Q1.cell (i := 1) rfl) ((hL.below hb0).below hb2) ((hU.below hb0).below hb2) hl hz
  clear KI0 hwe hin hzn
  go_wp2_with (go_at_call 46; with_reducible refine (KI _).mono ?_; rintro e w' ⟨rfl, rfl⟩)
  clear KI c1
  refine KC.mono ?_
  rintro e w3 ⟨P1', q1, P2', q2, rfl, ownP, ownC, hb3⟩
  have b3 := step_below hb3 b2
  have R3 := (P3.keep hb2).keep hb3
  obtain ⟨Y, hY⟩ : ∃ Y, Y = w3.alloc (.cells #[.slice P1' l.length q1, .slice P2' z.length q2] 34) := ⟨_, rfl⟩
  have hbY : Below w3.heap.size w3 Y := by rw [hY]; exact (Below.refl _ _).alloc (Nat.le_refl _) _
  have bY := step_below hbY b3
  have RY := R3.keep hbY
  have oP := own_keep ownP hbY
  have oC := own_keep ownC hbY
  have NY : Bk Y w3.heap.size 34 #[.slice P1' l.length q1, .slice P2' z.length q2] := by rw [hY]; exact Bk.new _ _ _ rfl
  go_upto_region 6 with (first | (with_reducible refine wpList_store_newA rfl 34 (.tmp 8) (.tmp 20) rfl #[.slice P1' l.length q1, .slice P2' z.length q2] rfl rfl 34 _ (infoWear _ _) (szWear _ _ _ _) (oneWear _ _ _ _ _ _) ?_))
  rw [← hY]
  clear hY
  obtain ⟨gz, rfl⟩ : ∃ gz, P2' = some ⟨gz, 0, none⟩ := by
    rcases oC.2 with ⟨h', h0⟩ | ⟨g', cap, cur, h', hgb, _⟩
    · omega
    · simp at h'
      exact ⟨g', h'.1⟩
  have hgz := (oC.lt gz rfl)
  have hgz3 : w2.heap.size ≤ gz := hgz.1
  have hne1 : w3.heap.size ≠ gz := fun e => own_neW oC NY (by decide) (by rw [e]; rfl)
  have hneP : (Value.slice P1' l.length q1).ownBlock ≠ some gz := by
    rcases own_apart oP oC (by decide) with hh | hh
    · rw [hh]; simp
    · exact hh
  have n1 := NY.cell (i := 1) rfl
  have ck := (oC.cellAt k (by omega)).trans (icells_get z k hk)
  have fk := oC.frozenAt k
  have hki : (k : Int) < (z.length : Int) := by omega
  have oC2 := (oC.stored k (.int .i64 0)).1
  rw [icells_set] at oC2
  have oP2 := own_setW (o := k) oP hneP (.int .i64 0)
  have N2 := NY.other (k := k) hne1 (.int .i64 0)
  have R2 := RY.other (k := k) (show w.heap.size + 1 + 1 ≠ gz by omega) (.int .i64 0)
  have bZ := bY.setCell (p := ⟨gz, k, none⟩) (by dsimp only; omega) (.int .i64 0)
  obtain ⟨V, hV⟩ : ∃ V, V = Y.setCell ⟨gz, k, none⟩ (.int .i64 0) := ⟨_, rfl⟩
  have HC := hide oC2
  have HP := hide oP2
  clear oC2 oP2
  go_upto_region 7 with fail
  rw [← hV] at HC HP N2 R2 bZ ⊢
  clear hV
  have m0 := N2.cell (i := 0) rfl
  have m1 := N2.cell (i := 1) rfl
  have HZ := hide (show V.heap[w.heap.size + 1 + 1]? = some (.cells #[.slice none 0 0, .slice none 0 0] 34 (0, 0)) from R2)
  have owP := own_base (own_keepW HP.out (show w.heap.size + 1 + 1 < w2.heap.size by omega) #[.slice P1' l.length q1, .slice (some ⟨gz, 0, none⟩) z.length q2]) (show w.heap.size ≤ w2.heap.size by omega)
  have owC := own_base (own_keepW HC.out (show w.heap.size + 1 + 1 < w2.heap.size by omega) #[.slice P1' l.length q1, .slice (some ⟨gz, 0, none⟩) z.length q2]) (show w.heap.size ≤ w2.heap.size by omega)
  clear n1 ck fk
  go_wp2_with (with_reducible refine wpList_store_row rfl 34 (.tmp 6) (.tmp 25) rfl (w.heap.size + 1 + 1) #[.slice P1' l.length q1, .slice (some ⟨gz, 0, none⟩) z.length q2] rfl rfl 34 _ HZ.out (infoWear _ _) (szWear _ _ _ _) (oneWear _ _ _ _ _ _) ?_)
  exact bodyPost_ret (v := .tuple #[.agg #[.slice P1' l.length q1, .slice (some ⟨gz, 0, none⟩) z.length q2], .int .i64 0]) (results_we Tryz.results12 _ _ (w.heap.size + 1 + 1) 34 #[.slice P1' l.length q1, .slice (some ⟨gz, 0, none⟩) z.length q2] _ rfl (by simp [Act.put]) (by simp [Act.put]) (setRow_heap _ _ _ _ _ _ HZ.out)) rfl ⟨P1', q1, some ⟨gz, 0, none⟩, q2, by rw [HX.out, HT.out, HZZ.out, List.length_set], by rw [HT.out]; exact owP, by rw [HZZ.out, List.length_set]; exact owC, below_setRow bZ (by omega)⟩
end Go.Proofs.YtcocfnjbgceidaaGreat
