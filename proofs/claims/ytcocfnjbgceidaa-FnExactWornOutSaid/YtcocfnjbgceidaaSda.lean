import Derived.Test.YtcocfnjbgceidaaGbk
namespace Go.Proofs.Ytcocfnjbgceidaa
open Go.RowKit Go.Maps
theorem nh_wa (s : Int) (h : List (Int × Int)) (l : List Wp) (z : List Int) (x : Int) : nhC s h l z x = waC s h l z (rnC h.length x) ∧ nhT s h l z x = waT s h l z (rnC h.length x) l ∧ nhZ s h l z x = waZ s h l z (rnC h.length x) (rnZ h.length z x) := by
  refine ⟨rfl, rfl, ?_⟩
  unfold nhZ waZ
  have e : nhC s h l z x = waC s h l z (rnC h.length x) := rfl
  rw [e]
  by_cases hc : waC s h l z (rnC h.length x) = 0
  · rw [if_pos hc, if_pos hc]
    unfold waC at hc
    split at hc
    · unfold rnC at hc
      split at hc
      · rename_i hi
        rw [rnZ, if_pos hi]
      · omega
    · omega
  · rw [if_neg hc, if_neg hc]
set_option maxRecDepth 20000 in
set_option maxHeartbeats 8000000 in
theorem specDoWearAct_any (s : Int) (A : Option Addr) (c : Nat) (h : List (Int × Int)) (P : Option Addr) (d : Nat) (l : List Wp) (U : Option Addr) (v : Nat) (z : List Int) (k a b c2 d2 : Int) (w : World)
    (hA : HA w A h) (hn : h.length ≤ 1048576) (hwf : HWF h) (hs : -32768 ≤ s ∧ s ≤ 32767) (hL : WnA w P l) (hU : SZ w U z) (hl : l.length ≤ 1048576) (hz : z.length ≤ 1048576) (hlw : WnWF l) (hzw : ZWF z) (hv : AvWF k a b c2 d2) :
    Calls Try.prog 96 #[.agg #[.int .i16 s, .slice A h.length c], .agg #[.slice P l.length d, .slice U z.length v], .agg #[.int .i8 k, .int .i64 a, .int .i64 b, .int .i64 c2, .int .i64 d2]] w (WeC (waT s h l z (acC s h.length l z k a b c2 d2) (acT l k a b c2 d2)) (waZ s h l z (acC s h.length l z k a b c2 d2) (acZ h.length l z k a b c2 d2)) (waC s h l z (acC s h.length l z k a b c2 d2)) w) := by
  obtain ⟨⟨hk1, hk2⟩, _⟩ := hv
  obtain ⟨X, hX⟩ : ∃ X, X = (((w.alloc (.cells #[.int .i16 s, .slice A h.length c] 60)).alloc (.cells #[.slice P l.length d, .slice U z.length v] 64)).alloc (.cells #[.int .i8 k, .int .i64 a, .int .i64 b, .int .i64 c2, .int .i64 d2] 115)).alloc (.cells #[.slice none 0 0, .slice none 0 0] 64) := ⟨_, rfl⟩
  have hb0 : Below w.heap.size w X := by rw [hX]; exact ((((Below.refl _ _).alloc (Nat.le_refl _) _).alloc (by simp) _).alloc (by simp; omega) _).alloc (by simp; omega) _
  have P0 : Bk X w.heap.size 60 #[.int .i16 s, .slice A h.length c] := by rw [hX]; exact (((Bk.new _ _ _ rfl).old _).old _).old _
  have P1 : Bk X (w.heap.size + 1) 64 #[.slice P l.length d, .slice U z.length v] := by rw [hX]; exact ((Bk.new _ _ _ (by simp)).old _).old _
  have P2 : Bk X (w.heap.size + 1 + 1) 115 #[.int .i8 k, .int .i64 a, .int .i64 b, .int .i64 c2, .int .i64 d2] := by rw [hX]; exact (Bk.new _ _ _ (by simp)).old _
  have P3 : Bk X (w.heap.size + 1 + 1 + 1) 64 #[.slice none 0 0, .slice none 0 0] := by rw [hX]; exact Bk.new _ _ _ (by simp)
  have hX3 := P3.lt
  have KW := l06Ok_any w.heap.size (w.heap.size + 1) s A c h P d l U v z X ⟨P0.cell (i := 0) rfl, P0.cell (i := 1) rfl⟩ (P1.cell (i := 0) rfl) (P1.cell (i := 1) rfl) (hA.below hb0) (hL.below hb0) (hU.below hb0) hn hl hz hwf hs hlw
  go_enter Try.func96, Try.ntmps96
  go_upto_region 1 with fail
  rw [← hX]
  clear hX
  go_wp2_with fail
  refine KW.mono ?_
  rintro e w2 ⟨rfl, hb2⟩
  have b2 := step_below hb2 hb0
  have Q0 := P0.keep hb2
  have Q1 := P1.keep hb2
  have Q2 := P2.keep hb2
  have Q3 := P3.keep hb2
  have hs2 := hb2.size
  have hA2 := (hA.below hb0).below hb2
  have hL2 := (hL.below hb0).below hb2
  have hU2 := (hU.below hb0).below hb2
  clear KW
  cases hwe : weB s h l z
  · skip
    have HX := hide (show waC s h l z (acC s h.length l z k a b c2 d2) = 1 by simp [waC, hwe])
    have HT := hide (show waT s h l z (acC s h.length l z k a b c2 d2) (acT l k a b c2 d2) = [] by rw [waT, if_neg (by rw [HX.out]; decide)])
    have HZZ := hide (show waZ s h l z (acC s h.length l z k a b c2 d2) (acZ h.length l z k a b c2 d2) = [] by rw [waZ, if_neg (by rw [HX.out]; decide)])
    have HZ := hide (show w2.heap[(w.heap.size + 1 + 1 + 1)]? = some (.cells #[.slice none 0 0, .slice none 0 0] 64 (0, 0)) from Q3)
    go_wp2_with (first | (with_reducible refine wpList_build0 rfl rfl ?_) | (with_reducible refine wpList_store_row rfl 64 (.tmp 6) (.tmp 10) rfl (w.heap.size + 1 + 1 + 1) #[.slice none 0 0, .slice none 0 0] rfl rfl 64 _ HZ.out (infoWear _ _) (szWear _ _ _ _) (oneWear _ _ _ _ _ _) ?_))
    exact bodyPost_ret (v := .tuple #[.agg #[.slice none 0 0, .slice none 0 0], .int .i64 1]) (results_we Try.results96 _ _ (w.heap.size + 1 + 1 + 1) 64 #[.slice none 0 0, .slice none 0 0] _ rfl (by simp [Act.put]) (by simp [Act.put]) (setRow_heap _ _ _ _ _ _ HZ.out)) rfl ⟨none, 0, none, 0, by rw [HX.out, HT.out, HZZ.out]; rfl, by rw [HT.out]; exact World.ownsRow_nil _ _ _ _, by rw [HZZ.out]; exact World.ownsRow_nil _ _ _ _, below_setRow b2 (by omega)⟩
  have a0 := Q2.cell (i := 0) rfl
  have c0 := Q0.cell (i := 0) rfl
  have c1 := Q0.cell (i := 1) rfl
  have c2_ := Q1.cell (i := 0) rfl
  have c3 := Q1.cell (i := 1) rfl
  by_cases hk0 : k = 0
  · subst hk0
    have eC : (acC s h.length l z 0 a b c2 d2) = trC l z a := by simp [acC]
    have eT : acT l 0 a b c2 d2 = turT l a := by simp [acT]
    have eZ : acZ h.length l z 0 a b c2 d2 = turZ l z a := by simp [acZ]
    have KD := specTurnWear_any s A c h P d l U v z a w2 hA2 hn hwf hs hL2 hU2 hl hz hlw hzw
    obtain ⟨rc, hrc⟩ : ∃ x, x = waC s h l z (trC l z a) := ⟨_, rfl⟩
    obtain ⟨rT, hrT⟩ : ∃ x, x = waT s h l z (trC l z a) (turT l a) := ⟨_, rfl⟩
    obtain ⟨rz, hrz⟩ : ∃ x, x = waZ s h l z (trC l z a) (turZ l z a) := ⟨_, rfl⟩
    have HRc := hide (show waC s h l z (acC s h.length l z 0 a b c2 d2) = rc by rw [eC, hrc])
    have HRT := hide (show waT s h l z (acC s h.length l z 0 a b c2 d2) (acT l 0 a b c2 d2) = rT by rw [eC, eT, hrT])
    have HRZ := hide (show waZ s h l z (acC s h.length l z 0 a b c2 d2) (acZ h.length l z 0 a b c2 d2) = rz by rw [eC, eZ, hrz])
    rw [← hrc, ← hrT, ← hrz] at KD
    clear hrc hrT hrz
    have a1 := Q2.cell (i := 1) rfl
    clear eC eT eZ hwe
    go_wp2_with fail
    refine KD.mono ?_
    rintro e w6 ⟨Q1', q1, Q2', q2, rfl, ownP, ownC, hb6⟩
    have b6 := step_below hb6 b2
    have HZ := hide (show w6.heap[(w.heap.size + 1 + 1 + 1)]? = some (.cells #[.slice none 0 0, .slice none 0 0] 64 (0, 0)) from Q3.keep hb6)
    have owP := own_base (own_keepW ownP (show (w.heap.size + 1 + 1 + 1) < w2.heap.size by omega) #[.slice Q1' rT.length q1, .slice Q2' rz.length q2]) (show w.heap.size ≤ w2.heap.size by omega)
    have owC := own_base (own_keepW ownC (show (w.heap.size + 1 + 1 + 1) < w2.heap.size by omega) #[.slice Q1' rT.length q1, .slice Q2' rz.length q2]) (show w.heap.size ≤ w2.heap.size by omega)
    clear KD
    go_wp2_with (with_reducible refine wpList_store_row rfl 64 (.tmp 6) (.tmp 20) rfl (w.heap.size + 1 + 1 + 1) #[.slice Q1' rT.length q1, .slice Q2' rz.length q2] rfl rfl 64 _ HZ.out (infoWear _ _) (szWear _ _ _ _) (oneWear _ _ _ _ _ _) ?_)
    exact bodyPost_ret (v := .tuple #[.agg #[.slice Q1' rT.length q1, .slice Q2' rz.length q2], .int .i64 rc]) (results_we Try.results96 _ _ (w.heap.size + 1 + 1 + 1) 64 #[.slice Q1' rT.length q1, .slice Q2' rz.length q2] _ rfl (by simp [Act.put]) (by simp [Act.put]) (setRow_heap _ _ _ _ _ _ HZ.out)) rfl ⟨Q1', q1, Q2', q2, by rw [HRc.out, HRT.out, HRZ.out], by rw [HRT.out]; exact owP, by rw [HRZ.out]; exact owC, below_setRow b6 (by omega)⟩
  have ne0 : (k == 0) = false := by simpa using hk0
  by_cases hk1_ : k = 1
  · subst hk1_
    have eC : (acC s h.length l z 1 a b c2 d2) = rnC h.length a := by simp [acC]
    have eT : acT l 1 a b c2 d2 = l := by simp [acT]
    have eZ : acZ h.length l z 1 a b c2 d2 = rnZ h.length z a := by simp [acZ]
    have KD := specNewHammer_any s A c h P d l U v z a w2 hA2 hn hwf hs hL2 hU2 hl hz hlw hzw
    obtain ⟨n1, n2, n3⟩ := nh_wa s h l z a
    rw [n1, n2, n3] at KD
    obtain ⟨rc, hrc⟩ : ∃ x, x = waC s h l z (rnC h.length a) := ⟨_, rfl⟩
    obtain ⟨rT, hrT⟩ : ∃ x, x = waT s h l z (rnC h.length a) (l) := ⟨_, rfl⟩
    obtain ⟨rz, hrz⟩ : ∃ x, x = waZ s h l z (rnC h.length a) (rnZ h.length z a) := ⟨_, rfl⟩
    have HRc := hide (show waC s h l z (acC s h.length l z 1 a b c2 d2) = rc by rw [eC, hrc])
    have HRT := hide (show waT s h l z (acC s h.length l z 1 a b c2 d2) (acT l 1 a b c2 d2) = rT by rw [eC, eT, hrT])
    have HRZ := hide (show waZ s h l z (acC s h.length l z 1 a b c2 d2) (acZ h.length l z 1 a b c2 d2) = rz by rw [eC, eZ, hrz])
    rw [← hrc, ← hrT, ← hrz] at KD
    clear hrc hrT hrz
    have a1 := Q2.cell (i := 1) rfl
    clear eC eT eZ hwe n1 n2 n3
    go_wp2_with fail
    refine KD.mono ?_
    rintro e w6 ⟨Q1', q1, Q2', q2, rfl, ownP, ownC, hb6⟩
    have b6 := step_below hb6 b2
    have HZ := hide (show w6.heap[(w.heap.size + 1 + 1 + 1)]? = some (.cells #[.slice none 0 0, .slice none 0 0] 64 (0, 0)) from Q3.keep hb6)
    have owP := own_base (own_keepW ownP (show (w.heap.size + 1 + 1 + 1) < w2.heap.size by omega) #[.slice Q1' rT.length q1, .slice Q2' rz.length q2]) (show w.heap.size ≤ w2.heap.size by omega)
    have owC := own_base (own_keepW ownC (show (w.heap.size + 1 + 1 + 1) < w2.heap.size by omega) #[.slice Q1' rT.length q1, .slice Q2' rz.length q2]) (show w.heap.size ≤ w2.heap.size by omega)
    clear KD
    go_wp2_with (with_reducible refine wpList_store_row rfl 64 (.tmp 6) (.tmp 29) rfl (w.heap.size + 1 + 1 + 1) #[.slice Q1' rT.length q1, .slice Q2' rz.length q2] rfl rfl 64 _ HZ.out (infoWear _ _) (szWear _ _ _ _) (oneWear _ _ _ _ _ _) ?_)
    exact bodyPost_ret (v := .tuple #[.agg #[.slice Q1' rT.length q1, .slice Q2' rz.length q2], .int .i64 rc]) (results_we Try.results96 _ _ (w.heap.size + 1 + 1 + 1) 64 #[.slice Q1' rT.length q1, .slice Q2' rz.length q2] _ rfl (by simp [Act.put]) (by simp [Act.put]) (setRow_heap _ _ _ _ _ _ HZ.out)) rfl ⟨Q1', q1, Q2', q2, by rw [HRc.out, HRT.out, HRZ.out], by rw [HRT.out]; exact owP, by rw [HRZ.out]; exact owC, below_setRow b6 (by omega)⟩
  have ne1 : (k == 1) = false := by simpa using hk1_
  by_cases hk2_ : k = 2
  · subst hk2_
    have eC : (acC s h.length l z 2 a b c2 d2) = plC s h.length a b := by simp [acC]
    have eT : acT l 2 a b c2 d2 = plT l a b := by simp [acT]
    have eZ : acZ h.length l z 2 a b c2 d2 = z := by simp [acZ]
    have KD := specNewPin_any s A c h P d l U v z a b w2 hA2 hn hwf hs hL2 hU2 hl hz hlw hzw
    obtain ⟨rc, hrc⟩ : ∃ x, x = waC s h l z (plC s h.length a b) := ⟨_, rfl⟩
    obtain ⟨rT, hrT⟩ : ∃ x, x = waT s h l z (plC s h.length a b) (plT l a b) := ⟨_, rfl⟩
    obtain ⟨rz, hrz⟩ : ∃ x, x = waZ s h l z (plC s h.length a b) (z) := ⟨_, rfl⟩
    have HRc := hide (show waC s h l z (acC s h.length l z 2 a b c2 d2) = rc by rw [eC, hrc])
    have HRT := hide (show waT s h l z (acC s h.length l z 2 a b c2 d2) (acT l 2 a b c2 d2) = rT by rw [eC, eT, hrT])
    have HRZ := hide (show waZ s h l z (acC s h.length l z 2 a b c2 d2) (acZ h.length l z 2 a b c2 d2) = rz by rw [eC, eZ, hrz])
    rw [← hrc, ← hrT, ← hrz] at KD
    clear hrc hrT hrz
    have a1 := Q2.cell (i := 1) rfl
    have a2 := Q2.cell (i := 2) rfl
    clear eC eT eZ hwe
    go_wp2_with fail
    refine KD.mono ?_
    rintro e w6 ⟨Q1', q1, Q2', q2, rfl, ownP, ownC, hb6⟩
    have b6 := step_below hb6 b2
    have HZ := hide (show w6.heap[(w.heap.size + 1 + 1 + 1)]? = some (.cells #[.slice none 0 0, .slice none 0 0] 64 (0, 0)) from Q3.keep hb6)
    have owP := own_base (own_keepW ownP (show (w.heap.size + 1 + 1 + 1) < w2.heap.size by omega) #[.slice Q1' rT.length q1, .slice Q2' rz.length q2]) (show w.heap.size ≤ w2.heap.size by omega)
    have owC := own_base (own_keepW ownC (show (w.heap.size + 1 + 1 + 1) < w2.heap.size by omega) #[.slice Q1' rT.length q1, .slice Q2' rz.length q2]) (show w.heap.size ≤ w2.heap.size by omega)
    clear KD
    go_wp2_with (with_reducible refine wpList_store_row rfl 64 (.tmp 6) (.tmp 40) rfl (w.heap.size + 1 + 1 + 1) #[.slice Q1' rT.length q1, .slice Q2' rz.length q2] rfl rfl 64 _ HZ.out (infoWear _ _) (szWear _ _ _ _) (oneWear _ _ _ _ _ _) ?_)
    exact bodyPost_ret (v := .tuple #[.agg #[.slice Q1' rT.length q1, .slice Q2' rz.length q2], .int .i64 rc]) (results_we Try.results96 _ _ (w.heap.size + 1 + 1 + 1) 64 #[.slice Q1' rT.length q1, .slice Q2' rz.length q2] _ rfl (by simp [Act.put]) (by simp [Act.put]) (setRow_heap _ _ _ _ _ _ HZ.out)) rfl ⟨Q1', q1, Q2', q2, by rw [HRc.out, HRT.out, HRZ.out], by rw [HRT.out]; exact owP, by rw [HRZ.out]; exact owC, below_setRow b6 (by omega)⟩
  have ne2 : (k == 2) = false := by simpa using hk2_
  by_cases hk3 : k = 3
  · subst hk3
    have eC : (acC s h.length l z 3 a b c2 d2) = mvC s h.length l a b c2 d2 := by simp [acC]
    have eT : acT l 3 a b c2 d2 = mvT l a b c2 d2 := by simp [acT]
    have eZ : acZ h.length l z 3 a b c2 d2 = z := by simp [acZ]
    have KD := specMovePin_any s A c h P d l U v z a b c2 d2 w2 hA2 hn hwf hs hL2 hU2 hl hz hlw hzw
    obtain ⟨rc, hrc⟩ : ∃ x, x = waC s h l z (mvC s h.length l a b c2 d2) := ⟨_, rfl⟩
    obtain ⟨rT, hrT⟩ : ∃ x, x = waT s h l z (mvC s h.length l a b c2 d2) (mvT l a b c2 d2) := ⟨_, rfl⟩
    obtain ⟨rz, hrz⟩ : ∃ x, x = waZ s h l z (mvC s h.length l a b c2 d2) (z) := ⟨_, rfl⟩
    have HRc := hide (show waC s h l z (acC s h.length l z 3 a b c2 d2) = rc by rw [eC, hrc])
    have HRT := hide (show waT s h l z (acC s h.length l z 3 a b c2 d2) (acT l 3 a b c2 d2) = rT by rw [eC, eT, hrT])
    have HRZ := hide (show waZ s h l z (acC s h.length l z 3 a b c2 d2) (acZ h.length l z 3 a b c2 d2) = rz by rw [eC, eZ, hrz])
    rw [← hrc, ← hrT, ← hrz] at KD
    clear hrc hrT hrz
    have a1 := Q2.cell (i := 1) rfl
    have a2 := Q2.cell (i := 2) rfl
    have a3 := Q2.cell (i := 3) rfl
    have a4 := Q2.cell (i := 4) rfl
    clear eC eT eZ hwe
    go_wp2_with fail
    refine KD.mono ?_
    rintro e w6 ⟨Q1', q1, Q2', q2, rfl, ownP, ownC, hb6⟩
    have b6 := step_below hb6 b2
    have HZ := hide (show w6.heap[(w.heap.size + 1 + 1 + 1)]? = some (.cells #[.slice none 0 0, .slice none 0 0] 64 (0, 0)) from Q3.keep hb6)
    have owP := own_base (own_keepW ownP (show (w.heap.size + 1 + 1 + 1) < w2.heap.size by omega) #[.slice Q1' rT.length q1, .slice Q2' rz.length q2]) (show w.heap.size ≤ w2.heap.size by omega)
    have owC := own_base (own_keepW ownC (show (w.heap.size + 1 + 1 + 1) < w2.heap.size by omega) #[.slice Q1' rT.length q1, .slice Q2' rz.length q2]) (show w.heap.size ≤ w2.heap.size by omega)
    clear KD
    go_wp2_with (with_reducible refine wpList_store_row rfl 64 (.tmp 6) (.tmp 55) rfl (w.heap.size + 1 + 1 + 1) #[.slice Q1' rT.length q1, .slice Q2' rz.length q2] rfl rfl 64 _ HZ.out (infoWear _ _) (szWear _ _ _ _) (oneWear _ _ _ _ _ _) ?_)
    exact bodyPost_ret (v := .tuple #[.agg #[.slice Q1' rT.length q1, .slice Q2' rz.length q2], .int .i64 rc]) (results_we Try.results96 _ _ (w.heap.size + 1 + 1 + 1) 64 #[.slice Q1' rT.length q1, .slice Q2' rz.length q2] _ rfl (by simp [Act.put]) (by simp [Act.put]) (setRow_heap _ _ _ _ _ _ HZ.out)) rfl ⟨Q1', q1, Q2', q2, by rw [HRc.out, HRT.out, HRZ.out], by rw [HRT.out]; exact owP, by rw [HRZ.out]; exact owC, below_setRow b6 (by omega)⟩
  have ne3 : (k == 3) = false := by simpa using hk3
  have HX := hide (show waC s h l z (acC s h.length l z k a b c2 d2) = 2 by simp [waC, hwe, acC, hk0, hk1_, hk2_, hk3])
  have HT := hide (show waT s h l z (acC s h.length l z k a b c2 d2) (acT l k a b c2 d2) = [] by rw [waT, if_neg (by rw [HX.out]; decide)])
  have HZZ := hide (show waZ s h l z (acC s h.length l z k a b c2 d2) (acZ h.length l z k a b c2 d2) = [] by rw [waZ, if_neg (by rw [HX.out]; decide)])
  have HZ := hide (show w2.heap[(w.heap.size + 1 + 1 + 1)]? = some (.cells #[.slice none 0 0, .slice none 0 0] 64 (0, 0)) from Q3)
  go_wp2_with (first | (with_reducible refine wpList_build0 rfl rfl ?_) | (with_reducible refine wpList_store_row rfl 64 (.tmp 6) (.tmp 57) rfl (w.heap.size + 1 + 1 + 1) #[.slice none 0 0, .slice none 0 0] rfl rfl 64 _ HZ.out (infoWear _ _) (szWear _ _ _ _) (oneWear _ _ _ _ _ _) ?_))
  exact bodyPost_ret (v := .tuple #[.agg #[.slice none 0 0, .slice none 0 0], .int .i64 2]) (results_we Try.results96 _ _ (w.heap.size + 1 + 1 + 1) 64 #[.slice none 0 0, .slice none 0 0] _ rfl (by simp [Act.put]) (by simp [Act.put]) (setRow_heap _ _ _ _ _ _ HZ.out)) rfl ⟨none, 0, none, 0, by rw [HX.out, HT.out, HZZ.out]; rfl, by rw [HT.out]; exact World.ownsRow_nil _ _ _ _, by rw [HZZ.out]; exact World.ownsRow_nil _ _ _ _, below_setRow b2 (by omega)⟩
end Go.Proofs.Ytcocfnjbgceidaa
