import Derived.Test.YtcocfnjbgceidaaGreatPut
import Derived.Test.YtcocfnjbgceidaaGreatDoa
namespace Go.Proofs.YtcocfnjbgceidaaGreat
open Go.RowKit Go.Maps
theorem place_uniq {l : List Wp} (h : AscL l) {i j : Nat} (hi : i < l.length) (hj : j < l.length) (h1 : l[i].1 = l[j].1) (h2 : l[i].2.1 = l[j].2.1) : i = j := by
  rcases Nat.lt_trichotomy i j with hl | hl | hl
  · have := befP_iff.1 (List.pairwise_iff_getElem.1 h i j hi hj hl)
    omega
  · exact hl
  · have := befP_iff.1 (List.pairwise_iff_getElem.1 h j i hj hi hl)
    omega
theorem set_setP {l : List Wp} (h : AscL l) {i : Nat} (hi : i < l.length) {a b : Int} (h1 : l[i].1 = a) (h2 : l[i].2.1 = b) (c : Int) : l.set i (a, b, c) = setP l a b c := by
  apply List.ext_getElem
  · simp [setP]
  · intro j hj1 hj2
    have hj : j < l.length := by simpa using hj1
    rw [List.getElem_set]
    simp only [setP, List.getElem_map]
    by_cases e : i = j
    · subst e
      rw [if_pos rfl, if_pos (atP_iff.2 ⟨h1, h2⟩)]
    · rw [if_neg e, if_neg (fun hh => e (by
        obtain ⟨q1, q2⟩ := atP_iff.1 hh
        exact place_uniq h hi hj (h1.trans q1.symm) (h2.trans q2.symm)))]
theorem erase_delP {l : List Wp} (h : AscL l) {i : Nat} (hi : i < l.length) {a b : Int} (h1 : l[i].1 = a) (h2 : l[i].2.1 = b) : l.take i ++ l.drop (i + 1) = delP l a b := by
  have e1 : delP (l.take i) a b = l.take i := by
    unfold delP
    rw [List.filter_eq_self]
    intro x hx
    obtain ⟨j, hj, rfl⟩ := List.mem_iff_getElem.1 hx
    rw [List.length_take] at hj
    rw [List.getElem_take]
    cases hh : atP a b l[j]
    · rfl
    · obtain ⟨q1, q2⟩ := atP_iff.1 hh
      have := place_uniq h hi (show j < l.length by omega) (h1.trans q1.symm) (h2.trans q2.symm)
      omega
  have e2 : delP (l.drop (i + 1)) a b = l.drop (i + 1) := by
    unfold delP
    rw [List.filter_eq_self]
    intro x hx
    obtain ⟨j, hj, rfl⟩ := List.mem_iff_getElem.1 hx
    rw [List.length_drop] at hj
    rw [List.getElem_drop]
    cases hh : atP a b l[i + 1 + j]
    · rfl
    · obtain ⟨q1, q2⟩ := atP_iff.1 hh
      have := place_uniq h hi (show i + 1 + j < l.length by omega) (h1.trans q1.symm) (h2.trans q2.symm)
      omega
  have e3 : l = l.take i ++ l[i] :: l.drop (i + 1) := by simp
  have e4 : delP l a b = delP (l.take i) a b ++ delP (l.drop (i + 1)) a b := by
    conv => lhs; rw [e3]
    unfold delP
    rw [List.filter_append, List.filter_cons, if_neg (by rw [atP_iff.2 ⟨h1, h2⟩]; decide)]
  rw [e4, e1, e2]
theorem fiJ_at {l : List Wp} {a b : Int} (h : hasP l a b = true) : ∃ i : Nat, fiJ l a b = i ∧ ∃ hi : i < l.length, l[i].1 = a ∧ l[i].2.1 = b := by
  obtain ⟨x, hx, h1, h2⟩ := hasP_iff.1 h
  have hlt := List.findIdx_lt_length_of_exists (p := atP a b) ⟨x, hx, atP_iff.2 ⟨h1, h2⟩⟩
  exact ⟨l.findIdx (atP a b), by rw [fiJ, if_pos h], hlt, atP_iff.1 (List.findIdx_getElem (w := hlt))⟩
theorem set_selfW {α : Type} {l : List α} {k : Nat} {v : α} (h : l[k]? = some v) : l.set k v = l := by
  obtain ⟨hk, rfl⟩ := List.getElem?_eq_some_iff.1 h
  exact List.set_getElem_self hk
theorem fiJ_no {l : List Wp} {a b : Int} (h : hasP l a b = false) : fiJ l a b = -1 := by rw [fiJ, if_neg (by rw [h]; decide)]
set_option maxRecDepth 20000 in
set_option maxHeartbeats 8000000 in
theorem specNewPin_any (s : Int) (A : Option Addr) (c : Nat) (h : List (Int × Int)) (P : Option Addr) (d : Nat) (l : List Wp) (U : Option Addr) (v : Nat) (z : List Int) (a b : Int) (w : World)
    (hA : HA w A h) (hn : h.length ≤ 1048576) (hwf : HWF h) (hs : -32768 ≤ s ∧ s ≤ 32767) (hL : WnA w P l) (hU : SZ w U z) (hl : l.length ≤ 1048576) (hz : z.length ≤ 1048576) (hlw : WnWF l) (hzw : ZWF z) :
    Calls Tryz.prog 21 #[.agg #[.int .i16 s, .slice A h.length c], .agg #[.slice P l.length d, .slice U z.length v], .int .i64 a, .int .i64 b] w (WeC (waT s h l z (plC s h.length a b) (plT l a b)) (waZ s h l z (plC s h.length a b) z) (waC s h l z (plC s h.length a b)) w) := by
  obtain ⟨X, hX⟩ : ∃ X, X = ((w.alloc (.cells #[.int .i16 s, .slice A h.length c] 39)).alloc (.cells #[.slice P l.length d, .slice U z.length v] 34)).alloc (.cells #[.slice none 0 0, .slice none 0 0] 34) := ⟨_, rfl⟩
  have hb0 : Below w.heap.size w X := by rw [hX]; exact (((Below.refl _ _).alloc (Nat.le_refl _) _).alloc (by simp) _).alloc (by simp; omega) _
  have P0 : Bk X w.heap.size 39 #[.int .i16 s, .slice A h.length c] := by rw [hX]; exact ((Bk.new _ _ _ rfl).old _).old _
  have P1 : Bk X (w.heap.size + 1) 34 #[.slice P l.length d, .slice U z.length v] := by rw [hX]; exact (Bk.new _ _ _ (by simp)).old _
  have P3 : Bk X (w.heap.size + 1 + 1) 34 #[.slice none 0 0, .slice none 0 0] := by rw [hX]; exact Bk.new _ _ _ (by simp)
  have hX3 := P3.lt
  have KW := l06Ok_any w.heap.size (w.heap.size + 1) s A c h P d l U v z X ⟨P0.cell (i := 0) rfl, P0.cell (i := 1) rfl⟩ (P1.cell (i := 0) rfl) (P1.cell (i := 1) rfl) (hA.below hb0) (hL.below hb0) (hU.below hb0) hn hl hz hwf hs hlw
  go_enter Tryz.func21, Tryz.ntmps21
  go_upto_region 1 with fail
  rw [← hX]
  clear hX
  go_wp2_with fail
  refine KW.mono ?_
  rintro e w2 ⟨rfl, hb2⟩
  have b2 := step_below hb2 hb0
  have Q0 := P0.keep hb2
  have Q1 := P1.keep hb2
  have Q3 := P3.keep hb2
  have hs2 := hb2.size
  have KPl := l06Place_any w.heap.size s A h.length c a b w2 ⟨Q0.cell (i := 0) rfl, Q0.cell (i := 1) rfl⟩ hs hn
  clear KW
  cases hwe : weB s h l z
  · skip
    clear KPl
    have HX := hide (show waC s h l z (plC s h.length a b) = 1 by simp [waC, hwe])
    have HT := hide (show waT s h l z (plC s h.length a b) (plT l a b) = [] by rw [waT, if_neg (by rw [HX.out]; decide)])
    have HZZ := hide (show waZ s h l z (plC s h.length a b) z = [] by rw [waZ, if_neg (by rw [HX.out]; decide)])
    have HZ := hide (show w2.heap[(w.heap.size + 1 + 1)]? = some (.cells #[.slice none 0 0, .slice none 0 0] 34 (0, 0)) from Q3)
    go_wp2_with (first | (with_reducible refine wpList_build0 rfl rfl ?_) | (with_reducible refine wpList_store_row rfl 34 (.tmp 8) (.tmp 14) rfl (w.heap.size + 1 + 1) #[.slice none 0 0, .slice none 0 0] rfl rfl 34 _ HZ.out (infoWear _ _) (szWear _ _ _ _) (oneWear _ _ _ _ _ _) ?_))
    exact bodyPost_ret (v := .tuple #[.agg #[.slice none 0 0, .slice none 0 0], .int .i64 1]) (results_we Tryz.results21 _ _ (w.heap.size + 1 + 1) 34 #[.slice none 0 0, .slice none 0 0] _ rfl (by simp [Act.put]) (by simp [Act.put]) (setRow_heap _ _ _ _ _ _ HZ.out)) rfl ⟨none, 0, none, 0, by rw [HX.out, HT.out, HZZ.out]; rfl, by rw [HT.out]; exact World.ownsRow_nil _ _ _ _, by rw [HZZ.out]; exact World.ownsRow_nil _ _ _ _, below_setRow b2 (by omega)⟩
  go_wp2_with fail
  refine KPl.mono ?_
  rintro e w3 ⟨rfl, hb3⟩
  have b3 := step_below hb3 b2
  have R1 := Q1.keep hb3
  have R3 := Q3.keep hb3
  have hs3 := hb3.size
  clear KPl
  cases hpl : plW s h.length a b
  · skip
    have HX := hide (show waC s h l z (plC s h.length a b) = 2 by simp [waC, hwe, plC, hpl])
    have HT := hide (show waT s h l z (plC s h.length a b) (plT l a b) = [] by rw [waT, if_neg (by rw [HX.out]; decide)])
    have HZZ := hide (show waZ s h l z (plC s h.length a b) z = [] by rw [waZ, if_neg (by rw [HX.out]; decide)])
    have HZ := hide (show w3.heap[(w.heap.size + 1 + 1)]? = some (.cells #[.slice none 0 0, .slice none 0 0] 34 (0, 0)) from R3)
    go_wp2_with (first | (with_reducible refine wpList_build0 rfl rfl ?_) | (with_reducible refine wpList_store_row rfl 34 (.tmp 8) (.tmp 19) rfl (w.heap.size + 1 + 1) #[.slice none 0 0, .slice none 0 0] rfl rfl 34 _ HZ.out (infoWear _ _) (szWear _ _ _ _) (oneWear _ _ _ _ _ _) ?_))
    exact bodyPost_ret (v := .tuple #[.agg #[.slice none 0 0, .slice none 0 0], .int .i64 2]) (results_we Tryz.results21 _ _ (w.heap.size + 1 + 1) 34 #[.slice none 0 0, .slice none 0 0] _ rfl (by simp [Act.put]) (by simp [Act.put]) (setRow_heap _ _ _ _ _ _ HZ.out)) rfl ⟨none, 0, none, 0, by rw [HX.out, HT.out, HZZ.out]; rfl, by rw [HT.out]; exact World.ownsRow_nil _ _ _ _, by rw [HZZ.out]; exact World.ownsRow_nil _ _ _ _, below_setRow b3 (by omega)⟩
  have hasc := (weB_VT hwe).1.1
  have hfr := weB_fr hwe
  have hin := plW_iff.1 hpl
  have hwa : IntKind.i8.wrap a = a := w8_wrap (by omega)
  have hwb : IntKind.i8.wrap b = b := w8_wrap (by omega)
  have HX := hide (show waC s h l z (plC s h.length a b) = 0 by simp [waC, hwe, plC, hpl])
  have HZZ := hide (show waZ s h l z (plC s h.length a b) z = z by rw [waZ, if_pos HX.out])
  have KC := l06Copy_any (w.heap.size + 1) P d l U v z w3 (R1.cell (i := 0) rfl) (R1.cell (i := 1) rfl) ((hL.below hb0).below (hb2.trans (hb3.mono hb2.size))) ((hU.below hb0).below (hb2.trans (hb3.mono hb2.size))) hl hz
  go_wp2_with fail
  refine KC.mono ?_
  rintro e w4 ⟨P1', q1, P2', q2, rfl, ownP, ownC, hb4⟩
  have b4 := step_below hb4 b3
  have S1 := R1.keep hb4
  have S3 := R3.keep hb4
  clear KC
  obtain ⟨Y, hY⟩ : ∃ Y, Y = w4.alloc (.cells #[.slice P1' l.length q1, .slice P2' z.length q2] 34) := ⟨_, rfl⟩
  have hbY : Below w4.heap.size w4 Y := by rw [hY]; exact (Below.refl _ _).alloc (Nat.le_refl _) _
  have bY := step_below hbY b4
  have SY1 := S1.keep hbY
  have SY := S3.keep hbY
  have oP := own_keep ownP hbY
  have oC := own_keep ownC hbY
  have NY : Bk Y w4.heap.size 34 #[.slice P1' l.length q1, .slice P2' z.length q2] := by rw [hY]; exact Bk.new _ _ _ rfl
  have hYw4 := NY.lt
  have hs4 := hb4.size
  go_upto_region 6 with (first | (with_reducible refine wpList_store_newA rfl 34 (.tmp 10) (.tmp 20) rfl #[.slice P1' l.length q1, .slice P2' z.length q2] rfl rfl 34 _ (infoWear _ _) (szWear _ _ _ _) (oneWear _ _ _ _ _ _) ?_))
  rw [← hY]
  clear hY
  have hLY := (hL.below hb0).below (hb2.trans ((hb3.trans ((hb4.trans (hbY.mono hb4.size)).mono hs3)).mono hs2))
  have KF := l06Find_any (w.heap.size + 1) P d l a b Y (SY1.cell (i := 0) rfl) hLY hl hlw
  go_wp2_with fail
  refine KF.mono ?_
  rintro e _ ⟨rfl, rfl⟩
  clear KF
  cases hhas : hasP l a b
  · have HF := hide (fiJ_no hhas)
    have HT := hide (show waT s h l z (plC s h.length a b) (plT l a b) = insP l (a, b, 0) by rw [waT, if_pos HX.out]; simp [plT, hhas])
    have hq1 : l.length ≤ q1 := by
      rcases oP.2 with ⟨h', h0⟩ | ⟨g', cap, cur, h', hgb, _, hcap, _⟩
      · omega
      · simp at h'
        omega
    have KPt := l06Put_any P1' q1 l a b 0 Y (WnA.of_own oP) hl hq1 hlw
    have n0 := NY.cell (i := 0) rfl
    have f0 := NY.frozen 0
    rw [HF.out]
    clear hhas hwe hpl hin
    go_wp2_with fail
    refine KPt.mono ?_
    rintro e w6 ⟨P6, q6, rfl, ownP6, hb6⟩
    have b6 := step_below hb6 bY
    have N6 := NY.keep hb6
    have S6 := SY.keep hb6
    have oC6 := own_keep oC hb6
    have c0 := N6.cell (i := 0) rfl
    have c1 := N6.cell (i := 1) rfl
    have f0 := N6.frozen 0
    have hneC : (Value.slice P2' z.length q2).ownBlock ≠ some w4.heap.size := own_neW oC6 N6 (by decide)
    have hneP : (Value.slice P6 (insP l (a, b, 0)).length q6).ownBlock ≠ some w4.heap.size := own_neW ownP6 N6 (by decide)
    clear KPt n0
    obtain ⟨V, hV⟩ : ∃ V, V = w6.setCell ⟨w4.heap.size, 0, none⟩ (.slice P6 (insP l (a, b, 0)).length q6) := ⟨_, rfl⟩
    have NV : Bk V w4.heap.size 34 #[.slice P6 (insP l (a, b, 0)).length q6, .slice P2' z.length q2] := by rw [hV]; exact heap_setCell_same w6 w4.heap.size 0 _ _ _ N6
    have SV : Bk V (w.heap.size + 1 + 1) 34 #[.slice none 0 0, .slice none 0 0] := by rw [hV]; exact S6.other (k := 0) (by omega) _
    have oCV := own_setW (o := 0) oC6 hneC (.slice P6 (insP l (a, b, 0)).length q6)
    have oPV := own_setW (o := 0) ownP6 hneP (.slice P6 (insP l (a, b, 0)).length q6)
    have bV : Below w.heap.size w V := by rw [hV]; exact b6.setCell (p := ⟨w4.heap.size, 0, none⟩) (by dsimp only; omega) _
    rw [← hV] at oCV oPV
    go_upto_region 11 with fail
    rw [← hV]
    clear hV c0 c1 f0
    have m0 := NV.cell (i := 0) rfl
    have m1 := NV.cell (i := 1) rfl
    have HZ := hide (show V.heap[w.heap.size + 1 + 1]? = some (.cells #[.slice none 0 0, .slice none 0 0] 34 (0, 0)) from SV)
    have owP := own_base (own_keepW oPV (show w.heap.size + 1 + 1 < Y.heap.size by omega) #[.slice P6 (insP l (a, b, 0)).length q6, .slice P2' z.length q2]) (show w.heap.size ≤ Y.heap.size by omega)
    have owC := own_base (own_keepW oCV (show w.heap.size + 1 + 1 < w3.heap.size by omega) #[.slice P6 (insP l (a, b, 0)).length q6, .slice P2' z.length q2]) (show w.heap.size ≤ w3.heap.size by omega)
    go_wp2_with (with_reducible refine wpList_store_row rfl 34 (.tmp 8) (.tmp 41) rfl (w.heap.size + 1 + 1) #[.slice P6 (insP l (a, b, 0)).length q6, .slice P2' z.length q2] rfl rfl 34 _ HZ.out (infoWear _ _) (szWear _ _ _ _) (oneWear _ _ _ _ _ _) ?_)
    exact bodyPost_ret (v := .tuple #[.agg #[.slice P6 (insP l (a, b, 0)).length q6, .slice P2' z.length q2], .int .i64 0]) (results_we Tryz.results21 _ _ (w.heap.size + 1 + 1) 34 #[.slice P6 (insP l (a, b, 0)).length q6, .slice P2' z.length q2] _ rfl (by simp [Act.put]) (by simp [Act.put]) (setRow_heap _ _ _ _ _ _ HZ.out)) rfl ⟨P6, q6, P2', q2, by rw [HX.out, HT.out, HZZ.out], by rw [HT.out]; exact owP, by rw [HZZ.out]; exact owC, below_setRow bV (by omega)⟩
  · obtain ⟨i, hi, hil, hi1, hi2⟩ := fiJ_at hhas
    have HF := hide hi
    have hst := set_setP hasc hil hi1 hi2 0
    have HT := hide (show waT s h l z (plC s h.length a b) (plT l a b) = l.set i (a, b, 0) by rw [waT, if_pos HX.out, hst]; simp [plT, hhas])
    have hii : (0 : Int) ≤ (i : Int) := by omega
    have hiL : (i : Int) < (l.length : Int) := by omega
    rw [HF.out]
    obtain ⟨gp, rfl⟩ : ∃ gp, P1' = some ⟨gp, 0, none⟩ := by
      rcases oP.2 with ⟨h', h0⟩ | ⟨g', cap, cur, h', hgb, _⟩
      · omega
      · simp at h'
        exact ⟨g', h'.1⟩
    have hgp := oP.lt gp rfl
    obtain ⟨e1, e2, e3⟩ := wnC_at l i hil
    rw [wn_get l i hil] at hi1 hi2
    simp only at hi1 hi2
    have ck := (oP.cellAt (i * 3 + 2) (by omega)).trans e3
    have fk := oP.frozenAt (i * 3 + 2)
    have n0 := NY.cell (i := 0) rfl
    have hne1 : w4.heap.size ≠ gp := fun e => own_neW oP NY (by decide) (by rw [e]; rfl)
    have hneC : (Value.slice P2' z.length q2).ownBlock ≠ some gp := by
      rcases own_apart oC oP (by decide) with hh | hh
      · rw [hh]; simp
      · exact hh
    have oP2 := (oP.stored (i * 3 + 2) (.int .i64 0)).1
    have hset : (wnC l).set (i * 3 + 2) (.int .i64 0) = wnC (l.set i (a, b, 0)) := by
      rw [wnC_set]
      congr 1
      rw [← hi1, ← hi2]
      have q1 : (wnC l)[i * 3]? = some (.int .i8 (wnS l i)) := e1
      rw [set_selfW q1]
      rw [set_selfW e2]
    rw [hset] at oP2
    have oC2 := own_setW (o := i * 3 + 2) oC hneC (.int .i64 0)
    have N2 := NY.other (k := i * 3 + 2) hne1 (.int .i64 0)
    have S2 := SY.other (k := i * 3 + 2) (show w.heap.size + 1 + 1 ≠ gp by omega) (.int .i64 0)
    have bZ := bY.setCell (p := ⟨gp, i * 3 + 2, none⟩) (by dsimp only; omega) (.int .i64 0)
    obtain ⟨V, hV⟩ : ∃ V, V = Y.setCell ⟨gp, i * 3 + 2, none⟩ (.int .i64 0) := ⟨_, rfl⟩
    have HC := hide oC2
    have HP := hide oP2
    clear oC2 oP2 hhas hwe hpl hin hi hst hset e1 e2 e3
    go_upto_region 9 with fail
    rw [← hV] at HC HP N2 S2 bZ ⊢
    clear hV
    have m0 := N2.cell (i := 0) rfl
    have m1 := N2.cell (i := 1) rfl
    have hll : (l.set i (a, b, 0)).length = l.length := by simp
    have HLL := hide hll
    have HZ := hide (show V.heap[w.heap.size + 1 + 1]? = some (.cells #[.slice none 0 0, .slice none 0 0] 34 (0, 0)) from S2)
    have owP := own_base (own_keepW HP.out (show w.heap.size + 1 + 1 < w3.heap.size by omega) #[.slice (some ⟨gp, 0, none⟩) l.length q1, .slice P2' z.length q2]) (show w.heap.size ≤ w3.heap.size by omega)
    have owC := own_base (own_keepW HC.out (show w.heap.size + 1 + 1 < w3.heap.size by omega) #[.slice (some ⟨gp, 0, none⟩) l.length q1, .slice P2' z.length q2]) (show w.heap.size ≤ w3.heap.size by omega)
    clear n0 ck fk hll
    go_wp2_with (with_reducible refine wpList_store_row rfl 34 (.tmp 8) (.tmp 31) rfl (w.heap.size + 1 + 1) #[.slice (some ⟨gp, 0, none⟩) l.length q1, .slice P2' z.length q2] rfl rfl 34 _ HZ.out (infoWear _ _) (szWear _ _ _ _) (oneWear _ _ _ _ _ _) ?_)
    exact bodyPost_ret (v := .tuple #[.agg #[.slice (some ⟨gp, 0, none⟩) l.length q1, .slice P2' z.length q2], .int .i64 0]) (results_we Tryz.results21 _ _ (w.heap.size + 1 + 1) 34 #[.slice (some ⟨gp, 0, none⟩) l.length q1, .slice P2' z.length q2] _ rfl (by simp [Act.put]) (by simp [Act.put]) (setRow_heap _ _ _ _ _ _ HZ.out)) rfl ⟨some ⟨gp, 0, none⟩, q1, P2', q2, by rw [HX.out, HT.out, HZZ.out, HLL.out], by rw [HT.out, HLL.out]; exact owP, by rw [HZZ.out]; exact owC, below_setRow bZ (by omega)⟩
end Go.Proofs.YtcocfnjbgceidaaGreat
