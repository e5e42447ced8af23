import Derived.Test.YtcocfnjbgceidaaGreatSnp
import Derived.IntWalk
namespace Go.Proofs.YtcocfnjbgceidaaGreat
open Go.RowKit Go.Maps
set_option maxRecDepth 20000 in
set_option maxHeartbeats 8000000 in
theorem specMovePin_any (s : Int) (A : Option Addr) (c : Nat) (h : List (Int × Int)) (P : Option Addr) (d : Nat) (l : List Wp) (U : Option Addr) (v : Nat) (z : List Int) (a b c2 d2 : Int) (w : World)
    (hA : HA w A h) (hn : h.length ≤ 1048576) (hwf : HWF h) (hs : -32768 ≤ s ∧ s ≤ 32767) (hL : WnA w P l) (hU : SZ w U z) (hl : l.length ≤ 1048576) (hz : z.length ≤ 1048576) (hlw : WnWF l) (hzw : ZWF z) :
    Calls Tryz.prog 23 #[.agg #[.int .i16 s, .slice A h.length c], .agg #[.slice P l.length d, .slice U z.length v], .int .i64 a, .int .i64 b, .int .i64 c2, .int .i64 d2] w (WeC (waT s h l z (mvC s h.length l a b c2 d2) (mvT l a b c2 d2)) (waZ s h l z (mvC s h.length l a b c2 d2) z) (waC s h l z (mvC s h.length l a b c2 d2)) w) := by
  obtain ⟨i0, hi0, hz0, hz1, hz2⟩ := info_parts info97
  obtain ⟨X, hX⟩ : ∃ X, X = ((w.alloc (.cells #[.int .i16 s, .slice A h.length c] 39)).alloc (.cells #[.slice P l.length d, .slice U z.length v] 34)).alloc (.cells #[.slice none 0 0, .slice none 0 0] 34) := ⟨_, rfl⟩
  have hb0 : Below w.heap.size w X := by rw [hX]; exact (((Below.refl _ _).alloc (Nat.le_refl _) _).alloc (by simp) _).alloc (by simp; omega) _
  have P0 : Bk X w.heap.size 39 #[.int .i16 s, .slice A h.length c] := by rw [hX]; exact ((Bk.new _ _ _ rfl).old _).old _
  have P1 : Bk X (w.heap.size + 1) 34 #[.slice P l.length d, .slice U z.length v] := by rw [hX]; exact (Bk.new _ _ _ (by simp)).old _
  have P3 : Bk X (w.heap.size + 1 + 1) 34 #[.slice none 0 0, .slice none 0 0] := by rw [hX]; exact Bk.new _ _ _ (by simp)
  have hX3 := P3.lt
  have KW := l06Ok_any w.heap.size (w.heap.size + 1) s A c h P d l U v z X ⟨P0.cell (i := 0) rfl, P0.cell (i := 1) rfl⟩ (P1.cell (i := 0) rfl) (P1.cell (i := 1) rfl) (hA.below hb0) (hL.below hb0) (hU.below hb0) hn hl hz hwf hs hlw
  go_enter Tryz.func23, Tryz.ntmps23
  go_upto_region 1 with fail
  rw [← hX]
  clear hX
  go_wp2_with fail
  refine KW.mono ?_
  rintro e w2 ⟨rfl, hb2⟩
  have b2 := step_below hb2 hb0
  have Q0 := P0.keep hb2
  have Q1 := P1.keep hb2
  have Q3 := P3.keep hb2
  have hs2 := hb2.size
  have KPl := l06Place_any w.heap.size s A h.length c a b w2 ⟨Q0.cell (i := 0) rfl, Q0.cell (i := 1) rfl⟩ hs hn
  clear KW
  cases hwe : weB s h l z
  · skip
    clear KPl
    have HX := hide (show waC s h l z (mvC s h.length l a b c2 d2) = 1 by simp [waC, hwe])
    have HT := hide (show waT s h l z (mvC s h.length l a b c2 d2) (mvT l a b c2 d2) = [] by rw [waT, if_neg (by rw [HX.out]; decide)])
    have HZZ := hide (show waZ s h l z (mvC s h.length l a b c2 d2) z = [] by rw [waZ, if_neg (by rw [HX.out]; decide)])
    have HZ := hide (show w2.heap[(w.heap.size + 1 + 1)]? = some (.cells #[.slice none 0 0, .slice none 0 0] 34 (0, 0)) from Q3)
    go_wp2_with (first | (with_reducible refine wpList_build0 rfl rfl ?_) | (with_reducible refine wpList_store_row rfl 34 (.tmp 12) (.tmp 19) rfl (w.heap.size + 1 + 1) #[.slice none 0 0, .slice none 0 0] rfl rfl 34 _ HZ.out (infoWear _ _) (szWear _ _ _ _) (oneWear _ _ _ _ _ _) ?_))
    exact bodyPost_ret (v := .tuple #[.agg #[.slice none 0 0, .slice none 0 0], .int .i64 1]) (results_we Tryz.results23 _ _ (w.heap.size + 1 + 1) 34 #[.slice none 0 0, .slice none 0 0] _ rfl (by simp [Act.put]) (by simp [Act.put]) (setRow_heap _ _ _ _ _ _ HZ.out)) rfl ⟨none, 0, none, 0, by rw [HX.out, HT.out, HZZ.out]; rfl, by rw [HT.out]; exact World.ownsRow_nil _ _ _ _, by rw [HZZ.out]; exact World.ownsRow_nil _ _ _ _, below_setRow b2 (by omega)⟩
  go_wp2_with fail
  refine KPl.mono ?_
  rintro e w3 ⟨rfl, hb3⟩
  have b3 := step_below hb3 b2
  have R0 := Q0.keep hb3
  have R1 := Q1.keep hb3
  have R3 := Q3.keep hb3
  have hs3 := hb3.size
  clear KPl
  cases hpl : plW s h.length a b
  · skip
    have HX := hide (show waC s h l z (mvC s h.length l a b c2 d2) = 2 by simp [waC, hwe, mvC, hpl])
    have HT := hide (show waT s h l z (mvC s h.length l a b c2 d2) (mvT l a b c2 d2) = [] by rw [waT, if_neg (by rw [HX.out]; decide)])
    have HZZ := hide (show waZ s h l z (mvC s h.length l a b c2 d2) z = [] by rw [waZ, if_neg (by rw [HX.out]; decide)])
    have HZ := hide (show w3.heap[(w.heap.size + 1 + 1)]? = some (.cells #[.slice none 0 0, .slice none 0 0] 34 (0, 0)) from R3)
    go_wp2_with (first | (with_reducible refine wpList_build0 rfl rfl ?_) | (with_reducible refine wpList_store_row rfl 34 (.tmp 12) (.tmp 30) rfl (w.heap.size + 1 + 1) #[.slice none 0 0, .slice none 0 0] rfl rfl 34 _ HZ.out (infoWear _ _) (szWear _ _ _ _) (oneWear _ _ _ _ _ _) ?_))
    exact bodyPost_ret (v := .tuple #[.agg #[.slice none 0 0, .slice none 0 0], .int .i64 2]) (results_we Tryz.results23 _ _ (w.heap.size + 1 + 1) 34 #[.slice none 0 0, .slice none 0 0] _ rfl (by simp [Act.put]) (by simp [Act.put]) (setRow_heap _ _ _ _ _ _ HZ.out)) rfl ⟨none, 0, none, 0, by rw [HX.out, HT.out, HZZ.out]; rfl, by rw [HT.out]; exact World.ownsRow_nil _ _ _ _, by rw [HZZ.out]; exact World.ownsRow_nil _ _ _ _, below_setRow b3 (by omega)⟩
  have KPm := l06Place_any w.heap.size s A h.length c c2 d2 w3 ⟨R0.cell (i := 0) rfl, R0.cell (i := 1) rfl⟩ hs hn
  go_wp2_with fail
  refine KPm.mono ?_
  rintro e w4 ⟨rfl, hb4⟩
  have b4 := step_below hb4 b3
  have S1 := R1.keep hb4
  have S3 := R3.keep hb4
  have hs4 := hb4.size
  clear KPm
  cases hpm : plW s h.length c2 d2
  · skip
    have HX := hide (show waC s h l z (mvC s h.length l a b c2 d2) = 2 by simp [waC, hwe, mvC, hpl, hpm])
    have HT := hide (show waT s h l z (mvC s h.length l a b c2 d2) (mvT l a b c2 d2) = [] by rw [waT, if_neg (by rw [HX.out]; decide)])
    have HZZ := hide (show waZ s h l z (mvC s h.length l a b c2 d2) z = [] by rw [waZ, if_neg (by rw [HX.out]; decide)])
    have HZ := hide (show w4.heap[(w.heap.size + 1 + 1)]? = some (.cells #[.slice none 0 0, .slice none 0 0] 34 (0, 0)) from S3)
    go_wp2_with (first | (with_reducible refine wpList_build0 rfl rfl ?_) | (with_reducible refine wpList_store_row rfl 34 (.tmp 12) (.tmp 30) rfl (w.heap.size + 1 + 1) #[.slice none 0 0, .slice none 0 0] rfl rfl 34 _ HZ.out (infoWear _ _) (szWear _ _ _ _) (oneWear _ _ _ _ _ _) ?_))
    exact bodyPost_ret (v := .tuple #[.agg #[.slice none 0 0, .slice none 0 0], .int .i64 2]) (results_we Tryz.results23 _ _ (w.heap.size + 1 + 1) 34 #[.slice none 0 0, .slice none 0 0] _ rfl (by simp [Act.put]) (by simp [Act.put]) (setRow_heap _ _ _ _ _ _ HZ.out)) rfl ⟨none, 0, none, 0, by rw [HX.out, HT.out, HZZ.out]; rfl, by rw [HT.out]; exact World.ownsRow_nil _ _ _ _, by rw [HZZ.out]; exact World.ownsRow_nil _ _ _ _, below_setRow b4 (by omega)⟩
  have hasc := (weB_VT hwe).1.1
  have hvt := (weB_VT hwe).1
  have hfr := weB_fr hwe
  have hin := plW_iff.1 hpl
  have hin2 := plW_iff.1 hpm
  have hwa : IntKind.i8.wrap c2 = c2 := w8_wrap (by omega)
  have hwb : IntKind.i8.wrap d2 = d2 := w8_wrap (by omega)
  have hL4 := (hL.below hb0).below (hb2.trans ((hb3.trans (hb4.mono hs3)).mono hs2))
  have hU4 := (hU.below hb0).below (hb2.trans ((hb3.trans (hb4.mono hs3)).mono hs2))
  have KF := l06Find_any (w.heap.size + 1) P d l a b w4 (S1.cell (i := 0) rfl) hL4 hl hlw
  have KG := l06Find_any (w.heap.size + 1) P d l c2 d2 w4 (S1.cell (i := 0) rfl) hL4 hl hlw
  go_wp2_with fail
  refine KF.mono ?_
  rintro e _ ⟨rfl, rfl⟩
  clear KF
  cases hhas : hasP l a b
  · have HF := hide (fiJ_no hhas)
    rw [HF.out]
    have HX := hide (show waC s h l z (mvC s h.length l a b c2 d2) = 4 by simp [waC, hwe, mvC, hpl, hpm, hhas])
    have HT := hide (show waT s h l z (mvC s h.length l a b c2 d2) (mvT l a b c2 d2) = [] by rw [waT, if_neg (by rw [HX.out]; decide)])
    have HZZ := hide (show waZ s h l z (mvC s h.length l a b c2 d2) z = [] by rw [waZ, if_neg (by rw [HX.out]; decide)])
    have HZ := hide (show w4.heap[(w.heap.size + 1 + 1)]? = some (.cells #[.slice none 0 0, .slice none 0 0] 34 (0, 0)) from S3)
    go_wp2_with (first | (with_reducible refine wpList_build0 rfl rfl ?_) | (with_reducible refine wpList_store_row rfl 34 (.tmp 12) (.tmp 42) rfl (w.heap.size + 1 + 1) #[.slice none 0 0, .slice none 0 0] rfl rfl 34 _ HZ.out (infoWear _ _) (szWear _ _ _ _) (oneWear _ _ _ _ _ _) ?_))
    exact bodyPost_ret (v := .tuple #[.agg #[.slice none 0 0, .slice none 0 0], .int .i64 4]) (results_we Tryz.results23 _ _ (w.heap.size + 1 + 1) 34 #[.slice none 0 0, .slice none 0 0] _ rfl (by simp [Act.put]) (by simp [Act.put]) (setRow_heap _ _ _ _ _ _ HZ.out)) rfl ⟨none, 0, none, 0, by rw [HX.out, HT.out, HZZ.out]; rfl, by rw [HT.out]; exact World.ownsRow_nil _ _ _ _, by rw [HZZ.out]; exact World.ownsRow_nil _ _ _ _, below_setRow b4 (by omega)⟩
  obtain ⟨i, hi, hil, hi1, hi2⟩ := fiJ_at hhas
  have HF := hide hi
  have hii : ¬ (i : Int) < 0 := by omega
  rw [HF.out]
  cases hha2 : hasP l c2 d2
  rotate_left
  · obtain ⟨i', hi', hil', _⟩ := fiJ_at hha2
    have hii' : (0 : Int) ≤ (i' : Int) := by omega
    rw [hi'] at KG
    go_wp2_with fail
    refine KG.mono ?_
    rintro e _ ⟨rfl, rfl⟩
    clear KG hi'
    have HX := hide (show waC s h l z (mvC s h.length l a b c2 d2) = 4 by simp [waC, hwe, mvC, hpl, hpm, hhas, hha2])
    have HT := hide (show waT s h l z (mvC s h.length l a b c2 d2) (mvT l a b c2 d2) = [] by rw [waT, if_neg (by rw [HX.out]; decide)])
    have HZZ := hide (show waZ s h l z (mvC s h.length l a b c2 d2) z = [] by rw [waZ, if_neg (by rw [HX.out]; decide)])
    have HZ := hide (show w4.heap[(w.heap.size + 1 + 1)]? = some (.cells #[.slice none 0 0, .slice none 0 0] 34 (0, 0)) from S3)
    go_wp2_with (first | (with_reducible refine wpList_build0 rfl rfl ?_) | (with_reducible refine wpList_store_row rfl 34 (.tmp 12) (.tmp 42) rfl (w.heap.size + 1 + 1) #[.slice none 0 0, .slice none 0 0] rfl rfl 34 _ HZ.out (infoWear _ _) (szWear _ _ _ _) (oneWear _ _ _ _ _ _) ?_))
    exact bodyPost_ret (v := .tuple #[.agg #[.slice none 0 0, .slice none 0 0], .int .i64 4]) (results_we Tryz.results23 _ _ (w.heap.size + 1 + 1) 34 #[.slice none 0 0, .slice none 0 0] _ rfl (by simp [Act.put]) (by simp [Act.put]) (setRow_heap _ _ _ _ _ _ HZ.out)) rfl ⟨none, 0, none, 0, by rw [HX.out, HT.out, HZZ.out]; rfl, by rw [HT.out]; exact World.ownsRow_nil _ _ _ _, by rw [HZZ.out]; exact World.ownsRow_nil _ _ _ _, below_setRow b4 (by omega)⟩
  have HG := hide (fiJ_no hha2)
  rw [HG.out] at KG
  go_wp2_with fail
  refine KG.mono ?_
  rintro e _ ⟨rfl, rfl⟩
  clear KG
  have HX := hide (show waC s h l z (mvC s h.length l a b c2 d2) = 0 by simp [waC, hwe, mvC, hpl, hpm, hhas, hha2])
  have HZZ := hide (show waZ s h l z (mvC s h.length l a b c2 d2) z = z by rw [waZ, if_pos HX.out])
  have hdel := erase_delP hasc hil hi1 hi2
  have htur : turP l a b = wnP l i := by
    have := turP_eq hasc (List.getElem_mem hil)
    rw [hi1, hi2] at this
    rw [this, wn_get l i hil]
  have HT := hide (show waT s h l z (mvC s h.length l a b c2 d2) (mvT l a b c2 d2) = insP (delP l a b) (c2, d2, wnP l i) by rw [waT, if_pos HX.out, mvT, htur])
  have HDL := hide hdel
  have hwfd : WnWF (delP l a b) := (hvt.del a b).wf hfr.1 hfr.2
  have hdl : (delP l a b).length ≤ l.length := List.length_filter_le _ _
  have KC := l06Copy_any (w.heap.size + 1) P d l U v z w4 (S1.cell (i := 0) rfl) (S1.cell (i := 1) rfl) hL4 hU4 hl hz
  have hiL : (i : Int) < (l.length : Int) := by omega
  clear hwe hpl hpm hin hin2 hhas hha2 hdel htur hasc hvt
  go_wp2_with fail
  refine KC.mono ?_
  rintro e w5 ⟨P1', q1, P2', q2, rfl, ownP, ownC, hb5⟩
  have b5 := step_below hb5 b4
  have T1 := S1.keep hb5
  have T3 := S3.keep hb5
  clear KC
  obtain ⟨Y, hY⟩ : ∃ Y, Y = w5.alloc (.cells #[.slice P1' l.length q1, .slice P2' z.length q2] 34) := ⟨_, rfl⟩
  have hbY : Below w5.heap.size w5 Y := by rw [hY]; exact (Below.refl _ _).alloc (Nat.le_refl _) _
  have bY := step_below hbY b5
  have SY1 := T1.keep hbY
  have SY3 := T3.keep hbY
  have oP := own_keep ownP hbY
  have oC := own_keep ownC hbY
  have NY : Bk Y w5.heap.size 34 #[.slice P1' l.length q1, .slice P2' z.length q2] := by rw [hY]; exact Bk.new _ _ _ rfl
  have hYw5 := NY.lt
  have hs5 := hb5.size
  have hLY := hL4.below (hb5.trans (hbY.mono hs5))
  have hq1 : l.length ≤ q1 := by
    rcases oP.2 with ⟨h', h0⟩ | ⟨g', cap, cur, h', hgb, _, hcap, _⟩
    · omega
    · simp at h'
      omega
  obtain ⟨G, hG⟩ : ∃ G, G = w5.heap.size := ⟨_, rfl⟩
  have hGw : w4.heap.size ≤ G := by omega
  go_upto_region 9 with (first | (with_reducible refine wpList_store_newA rfl 34 (.tmp 15) (.tmp 43) rfl #[.slice P1' l.length q1, .slice P2' z.length q2] rfl rfl 34 _ (infoWear _ _) (szWear _ _ _ _) (oneWear _ _ _ _ _ _) ?_))
  rw [← hY]
  rw [← hG] at NY hYw5 ⊢
  clear hY hG
  have hwi : IntKind.i64.wrap ((i : Int) + 1) = (i : Int) + 1 := IntWalk.i64_in _ (by omega)
  obtain ⟨v2, hv2⟩ : ∃ X, X = Y.drew := ⟨_, rfl⟩
  have tb2 : Below Y.heap.size Y v2 := by rw [hv2]; exact (Below.refl _ _).drew
  have N2 := NY.keep tb2
  have oP2 := own_keep oP tb2
  have tl := fun W => tl_run P1' l.length q1 (i + 1) (by omega) hq1 W
  have hd2 := fun W => hd_run P1' l.length q1 i (by omega) W
  have tl' : ∀ W, (Instr.slice 32 (.slice P1' l.length q1) (some (.int .i64 ((i : Int) + 1))) none none).run Tryz.prog W = .ok (.slice (tlA P1' q1 (i + 1)) (l.length - (i + 1)) (q1 - (i + 1))) W := fun W => by have := tl W; rwa [show ((i + 1 : Nat) : Int) = (i : Int) + 1 by omega] at this
  refine wp_region_held_drew (S := fun w' => w'.cell? ⟨G, 0, none⟩ = some (.slice P1' l.length q1)) (by kernel_rfl) (by rw [← hv2]; exact N2.cell (i := 0) rfl) fun hS1 => ?_
  rw [← hv2] at hS1 ⊢
  clear hv2 tl
  refine wpAnyH_take (i := 1) (v := .pointer (some ⟨G, 0, none⟩)) rfl (by kernel_rfl) (by kernel_rfl) (by kernel_rfl) (fun _ _ _ h => h) (Or.inl ⟨by rfl, fun w' _ => by go_simp⟩) hS1 ?_
  change wpAnyH _ _ _ _ _ _ _ (Act.put _ (some 45) _) _
  simp only [Act.put, List.setIfInBounds_toArray, List.set_cons_zero, List.set_cons_succ]
  refine wpAnyH_take (i := 2) (v := .slice P1' l.length q1) rfl (by kernel_rfl) (by kernel_rfl) (by kernel_rfl) (fun _ _ _ h => h) (Or.inl ⟨by rfl, fun w' h => ?_⟩) hS1 ?_
  · have c0 := h
    clear h
    go_simp
  change wpAnyH _ _ _ _ _ _ _ (Act.put _ (some 46) _) _
  simp only [Act.put, List.setIfInBounds_toArray, List.set_cons_zero, List.set_cons_succ]
  refine wpAnyH_take (i := 3) (v := .int .i64 (i : Nat)) rfl (by kernel_rfl) (by kernel_rfl) (by kernel_rfl) (fun _ _ _ h => h) (Or.inl ⟨by rfl, fun w' _ => by go_simp⟩) hS1 ?_
  change wpAnyH _ _ _ _ _ _ _ (Act.put _ (some 47) _) _
  simp only [Act.put, List.setIfInBounds_toArray, List.set_cons_zero, List.set_cons_succ]
  refine wpAnyH_take (i := 4) (v := .slice (tlA P1' q1 0) i q1) rfl (by kernel_rfl) (by kernel_rfl) (by kernel_rfl) (fun _ _ _ h => h) (Or.inl ⟨by rfl, fun w' _ => by go_simp⟩) hS1 ?_
  change wpAnyH _ _ _ _ _ _ _ (Act.put _ (some 48) _) _
  simp only [Act.put, List.setIfInBounds_toArray, List.set_cons_zero, List.set_cons_succ]
  refine wpAnyH_take (i := 6) (v := .pointer (some ⟨G, 0, none⟩)) rfl (by kernel_rfl) (by kernel_rfl) (by kernel_rfl) (fun _ _ _ h => h) (Or.inl ⟨by rfl, fun w' _ => by go_simp⟩) hS1 ?_
  change wpAnyH _ _ _ _ _ _ _ (Act.put _ (some 50) _) _
  simp only [Act.put, List.setIfInBounds_toArray, List.set_cons_zero, List.set_cons_succ]
  refine wpAnyH_take (i := 7) (v := .slice P1' l.length q1) rfl (by kernel_rfl) (by kernel_rfl) (by kernel_rfl) (fun _ _ _ h => h) (Or.inl ⟨by rfl, fun w' h => ?_⟩) hS1 ?_
  · have c0 := h
    clear h
    go_simp
  change wpAnyH _ _ _ _ _ _ _ (Act.put _ (some 51) _) _
  simp only [Act.put, List.setIfInBounds_toArray, List.set_cons_zero, List.set_cons_succ]
  refine wpAnyH_take (i := 8) (v := .int .i64 (i : Nat)) rfl (by kernel_rfl) (by kernel_rfl) (by kernel_rfl) (fun _ _ _ h => h) (Or.inl ⟨by rfl, fun w' _ => by go_simp⟩) hS1 ?_
  change wpAnyH _ _ _ _ _ _ _ (Act.put _ (some 52) _) _
  simp only [Act.put, List.setIfInBounds_toArray, List.set_cons_zero, List.set_cons_succ]
  refine wpAnyH_take (i := 9) (v := .int .i64 ((i : Int) + 1)) rfl (by kernel_rfl) (by kernel_rfl) (by kernel_rfl) (fun _ _ _ h => h) (Or.inl ⟨by rfl, fun w' _ => by go_simp⟩) hS1 ?_
  change wpAnyH _ _ _ _ _ _ _ (Act.put _ (some 53) _) _
  simp only [Act.put, List.setIfInBounds_toArray, List.set_cons_zero, List.set_cons_succ]
  refine wpAnyH_take (i := 10) (v := .slice (tlA P1' q1 (i + 1)) (l.length - (i + 1)) (q1 - (i + 1))) rfl (by kernel_rfl) (by kernel_rfl) (by kernel_rfl) (fun _ _ _ h => h) (Or.inl ⟨by rfl, fun w' _ => by go_simp⟩) hS1 ?_
  change wpAnyH _ _ _ _ _ _ _ (Act.put _ (some 54) _) _
  simp only [Act.put, List.setIfInBounds_toArray, List.set_cons_zero, List.set_cons_succ]
  refine wpAnyH_ready (rs := [0]) (by kernel_rfl) (by simp) (AllReadyH.cons rfl ?_ AllReadyH.nil)
  obtain ⟨v3, hX3⟩ : ∃ X, X = v2.alloc (.cells #[] 97) := ⟨_, rfl⟩
  have hb3' : Below v2.heap.size v2 v3 := by rw [hX3]; exact (Below.refl _ _).alloc (Nat.le_refl _) _
  have tb3 := tb2.trans (hb3'.mono tb2.size)
  have hE : v3.ownsRow v2.heap.size 97 3 (.slice (some ⟨v2.heap.size, 0, none⟩) 0 0) 0 [] := by rw [hX3]; exact World.ownsRow_made v2 #[] 0 (Nat.le_refl _) (by unfold maxLen; omega) (by simp)
  have N3 := N2.keep hb3'
  have oP3 := own_keep oP2 hb3'
  intro K hK
  rw [if_pos (by rfl)]
  go_simp
  rw [← hX3]
  clear hX3
  refine hK.out _ _ (N3.cell (i := 0) rfl) (fun hS3 => ?_)
  clear hK K
  refine wpAnyH_ready (rs := [5]) (by kernel_rfl) (by simp) (AllReadyH.cons rfl ?_ AllReadyH.nil)
  obtain ⟨A4, c4, v4, hr4, own4, gr4⟩ := run_append_wn v3 32 Tryz.underlying32 v2.heap.size i0 hi0 hz0 hz1 hz2 _ 0 [] hE (tlA P1' q1 0) q1 (l.take i) ((WnA.of_own oP3).hd q1 i) (by omega) (by rw [List.length_take]; omega) hb3'.size
  simp only [Nat.zero_add, List.nil_append] at hr4 own4
  have hti : (l.take i).length = i := by rw [List.length_take]; omega
  rw [hti] at hr4 own4
  have hb4' : Below v2.heap.size v2 v4 := hb3'.grown gr4 hb3'.size (fun j hj => (hE.lt j hj).1)
  have N4 := N2.keep hb4'
  have oP4 := own_keep oP2 hb4'
  intro K hK
  rw [if_pos (by rfl)]
  refine Lib.wp_append_run v3 (.tmp 44) (.tmp 48) 32 32 rfl _ _ rfl rfl _ _ (hr4 _) ?_
  clear hr4 gr4
  refine hK.out _ _ (N4.cell (i := 0) rfl) (fun hS4 => ?_)
  clear hK K
  change wpAnyH _ _ _ _ _ _ _ (Act.put _ (some 49) _) _
  simp only [Act.put, List.setIfInBounds_toArray, List.set_cons_zero, List.set_cons_succ]
  refine wpAnyH_ready (rs := [11]) (by kernel_rfl) (by simp) (AllReadyH.cons rfl ?_ AllReadyH.nil)
  obtain ⟨A5, c5, v5, hr5, own5, gr5⟩ := run_append_wn v4 32 Tryz.underlying32 v2.heap.size i0 hi0 hz0 hz1 hz2 _ i _ own4 (tlA P1' q1 (i + 1)) (q1 - (i + 1)) (l.drop (i + 1)) ((WnA.of_own oP4).tl q1 (i + 1) hq1) (by omega) (by rw [List.length_drop]; omega) hb4'.size
  have hdn : (l.drop (i + 1)).length = l.length - (i + 1) := List.length_drop
  rw [hdn] at hr5
  have hb5' : Below v2.heap.size v2 v5 := hb4'.grown gr5 hb4'.size (fun j hj => (own4.lt j hj).1)
  rw [← wnC_append, HDL.out] at own5
  have hdlen : i + (l.drop (i + 1)).length = (delP l a b).length := by rw [← HDL.out, List.length_append, hti]
  rw [hdlen] at own5
  rw [hdn] at hdlen
  rw [hdlen] at hr5
  have N5 := N2.keep hb5'
  intro K hK
  rw [if_pos (by rfl)]
  refine Lib.wp_append_run v4 (.tmp 49) (.tmp 54) 32 32 rfl _ _ rfl rfl _ _ (hr5 _) ?_
  clear hr5 gr5
  refine hK.out _ _ (N5.cell (i := 0) rfl) (fun hS5 => ?_)
  clear hK K
  change wpAnyH _ _ _ _ _ _ _ (Act.put _ (some 55) _) _
  simp only [Act.put, List.setIfInBounds_toArray, List.set_cons_zero, List.set_cons_succ]
  refine wpAnyH_take (i := 12) (v := .slice A5 (delP l a b).length c5) rfl (by kernel_rfl) (by kernel_rfl) (by kernel_rfl) (fun _ _ _ h => h) (Or.inl ⟨by rfl, fun w' _ => by go_simp⟩) hS5 ?_
  change wpAnyH _ _ _ _ _ _ _ (Act.put _ (some 16) _) _
  simp only [Act.put, List.setIfInBounds_toArray, List.set_cons_zero, List.set_cons_succ]
  refine wpAnyH_done (by kernel_rfl) ?_ _
  have tb5 : Below Y.heap.size Y v5 := tb2.trans (hb5'.mono tb2.size)
  have b5v := step_below tb5 bY
  have U1 := SY1.keep tb5
  have U3 := SY3.keep tb5
  have NN := NY.keep tb5
  have oC5 := own_keep oC tb5
  have hL5 := hLY.below tb5
  have hc5 : (delP l a b).length ≤ c5 := by
    rcases own5.2 with ⟨h', h0⟩ | ⟨g', cap, cur, h', hgb, _, hcap, _⟩
    · omega
    · simp at h'
      omega
  have KPt := l06Put_any A5 c5 (delP l a b) c2 d2 (wnP l i) v5 (WnA.of_own own5) (by omega) hc5 hwfd
  obtain ⟨pb, po, hPe, hpb, x1, x2, x3⟩ := hL5 i hil
  subst hPe
  have u0 := U1.cell (i := 0) rfl
  have hvs := tb5.size
  clear hS1 hS3 hS4 hS5 N2 N3 N4 N5 oP2 oP3 oP4 own4 hE hb3' hb4' tb3 tl' hd2 hti hdn hdlen x1 x2
  go_wp2_with fail
  refine KPt.mono ?_
  rintro e w6 ⟨P6, q6, rfl, ownP6, hb6⟩
  have b6 := step_below hb6 b5v
  have N6 := NN.keep hb6
  have S6 := U3.keep hb6
  have oC6 := own_keep oC5 hb6
  have c0 := N6.cell (i := 0) rfl
  have f0 := N6.frozen 0
  have hneC : (Value.slice P2' z.length q2).ownBlock ≠ some G := own_neW oC6 N6 (by decide)
  obtain ⟨rT, hrT⟩ : ∃ rT, rT = insP (delP l a b) (c2, d2, wnP l i) := ⟨_, rfl⟩
  rw [← hrT] at ownP6 HT ⊢
  have hneP : (Value.slice P6 rT.length q6).ownBlock ≠ some G := own_neW ownP6 N6 (by decide)
  clear KPt u0 hrT
  obtain ⟨V, hV⟩ : ∃ V, V = w6.setCell ⟨G, 0, none⟩ (.slice P6 rT.length q6) := ⟨_, rfl⟩
  have NV : Bk V G 34 #[.slice P6 rT.length q6, .slice P2' z.length q2] := by rw [hV]; exact heap_setCell_same w6 G 0 _ _ _ N6
  have SV : Bk V (w.heap.size + 1 + 1) 34 #[.slice none 0 0, .slice none 0 0] := by rw [hV]; exact S6.other (k := 0) (by omega) _
  have oCV := own_setW (o := 0) oC6 hneC (.slice P6 rT.length q6)
  have oPV := own_setW (o := 0) ownP6 hneP (.slice P6 rT.length q6)
  have bV : Below w.heap.size w V := by rw [hV]; exact b6.setCell (p := ⟨G, 0, none⟩) (by dsimp only; omega) _
  rw [← hV] at oCV oPV
  go_upto_region 11 with fail
  rw [← hV]
  clear hV c0 f0
  have m0 := NV.cell (i := 0) rfl
  have m1 := NV.cell (i := 1) rfl
  have HZ := hide (show V.heap[w.heap.size + 1 + 1]? = some (.cells #[.slice none 0 0, .slice none 0 0] 34 (0, 0)) from SV)
  have owP := own_base (own_keepW oPV (show w.heap.size + 1 + 1 < v5.heap.size by omega) #[.slice P6 rT.length q6, .slice P2' z.length q2]) (show w.heap.size ≤ v5.heap.size by omega)
  have owC := own_base (own_keepW oCV (show w.heap.size + 1 + 1 < w4.heap.size by omega) #[.slice P6 rT.length q6, .slice P2' z.length q2]) (show w.heap.size ≤ w4.heap.size by omega)
  go_wp2_with (with_reducible refine wpList_store_row rfl 34 (.tmp 12) (.tmp 70) rfl (w.heap.size + 1 + 1) #[.slice P6 rT.length q6, .slice P2' z.length q2] rfl rfl 34 _ HZ.out (infoWear _ _) (szWear _ _ _ _) (oneWear _ _ _ _ _ _) ?_)
  exact bodyPost_ret (v := .tuple #[.agg #[.slice P6 rT.length q6, .slice P2' z.length q2], .int .i64 0]) (results_we Tryz.results23 _ _ (w.heap.size + 1 + 1) 34 #[.slice P6 rT.length q6, .slice P2' z.length q2] _ rfl (by simp [Act.put]) (by simp [Act.put]) (setRow_heap _ _ _ _ _ _ HZ.out)) rfl ⟨P6, q6, P2', q2, by rw [HX.out, HT.out, HZZ.out], by rw [HT.out]; exact owP, by rw [HZZ.out]; exact owC, below_setRow bV (by omega)⟩
end Go.Proofs.YtcocfnjbgceidaaGreat
