import Derived.Test.YtcocfnjbgceidaaGreatDoa
namespace Go.Proofs.YtcocfnjbgceidaaGreat
open Go.RowKit Go.Maps
set_option maxRecDepth 20000 in
set_option maxHeartbeats 8000000 in
theorem implNewPin_any (s : Int) (A : Option Addr) (c : Nat) (h : List (Int × Int)) (P : Option Addr) (d : Nat) (l : List Wp) (U : Option Addr) (v : Nat) (z : List Int) (a b : Int) (w : World)
    (hA : HA w A h) (hn : h.length ≤ 1048576) (hwf : HWF h) (hs : -32768 ≤ s ∧ s ≤ 32767) (hL : WnA w P l) (hU : SZ w U z) (hl : l.length ≤ 1048576) (hz : z.length ≤ 1048576) (hlw : WnWF l) (hzw : ZWF z) :
    Calls Tryz.prog 22 #[.agg #[.int .i16 s, .slice A h.length c], .agg #[.slice P l.length d, .slice U z.length v], .int .i64 a, .int .i64 b] w (WeC (waT s h l z (plC s h.length a b) (plT l a b)) (waZ s h l z (plC s h.length a b) (z)) (waC s h l z (plC s h.length a b)) w) := by
  obtain ⟨X, hX⟩ : ∃ X, X = ((w.alloc (.cells #[.int .i16 s, .slice A h.length c] 39)).alloc (.cells #[.slice P l.length d, .slice U z.length v] 34)).alloc (.cells #[.slice none 0 0, .slice none 0 0] 34) := ⟨_, rfl⟩
  have hb0 : Below w.heap.size w X := by rw [hX]; exact (((Below.refl _ _).alloc (Nat.le_refl _) _).alloc (by simp) _).alloc (by simp; omega) _
  have P0 : Bk X w.heap.size 39 #[.int .i16 s, .slice A h.length c] := by rw [hX]; exact ((Bk.new _ _ _ rfl).old _).old _
  have P1 : Bk X (w.heap.size + 1) 34 #[.slice P l.length d, .slice U z.length v] := by rw [hX]; exact (Bk.new _ _ _ (by simp)).old _
  have P3 : Bk X (w.heap.size + 1 + 1) 34 #[.slice none 0 0, .slice none 0 0] := by rw [hX]; exact Bk.new _ _ _ (by simp)
  have hX3 := P3.lt
  have KW := doWear_gen s A c h P d l U v z 2 a b 0 0 (plC s h.length a b) (plT l a b) (z) X (hA.below hb0) hn hwf hs (hL.below hb0) (hU.below hb0) hl hz hlw hzw (fun hw base M q C A' c' W hst hbase g2 t2 cs2 hB ht2 => do_pin s A' h.length c' M q l.length base C l z a b 0 0 W (weB_fr hw).1 (weB_fr hw).2 hs.1 hst hbase (by omega) g2 t2 cs2 hB)
  generalize waC s h l z (plC s h.length a b) = rc at *
  generalize waT s h l z (plC s h.length a b) (plT l a b) = rT at *
  generalize waZ s h l z (plC s h.length a b) (z) = rz at *
  go_enter Tryz.func22, Tryz.ntmps22
  go_upto_region 1 with fail
  rw [← hX]
  clear hX
  have c0 := P0.cell (i := 0) rfl
  have c1 := P0.cell (i := 1) rfl
  have c2_ := P1.cell (i := 0) rfl
  have c3 := P1.cell (i := 1) rfl
  go_wp2_with fail
  refine KW.mono ?_
  rintro e w6 ⟨Q1, q1, Q2, q2, rfl, ownP, ownC, hb6⟩
  have b6 := step_below hb6 hb0
  have HZ := hide (show w6.heap[(w.heap.size + 1 + 1)]? = some (.cells #[.slice none 0 0, .slice none 0 0] 34 (0, 0)) from P3.keep hb6)
  have owP := own_base (own_keepW ownP (show (w.heap.size + 1 + 1) < X.heap.size by omega) #[.slice Q1 rT.length q1, .slice Q2 rz.length q2]) (show w.heap.size ≤ X.heap.size by omega)
  have owC := own_base (own_keepW ownC (show (w.heap.size + 1 + 1) < X.heap.size by omega) #[.slice Q1 rT.length q1, .slice Q2 rz.length q2]) (show w.heap.size ≤ X.heap.size by omega)
  clear c0 c1 c2_ c3 KW
  go_wp2_with (with_reducible refine wpList_store_row rfl 34 (.tmp 8) (.tmp 16) rfl (w.heap.size + 1 + 1) #[.slice Q1 rT.length q1, .slice Q2 rz.length q2] rfl rfl 34 _ HZ.out (infoWear _ _) (szWear _ _ _ _) (oneWear _ _ _ _ _ _) ?_)
  exact bodyPost_ret (v := .tuple #[.agg #[.slice Q1 rT.length q1, .slice Q2 rz.length q2], .int .i64 rc]) (results_we Tryz.results22 _ _ (w.heap.size + 1 + 1) 34 #[.slice Q1 rT.length q1, .slice Q2 rz.length q2] _ rfl (by simp [Act.put]) (by simp [Act.put]) (setRow_heap _ _ _ _ _ _ HZ.out)) rfl ⟨Q1, q1, Q2, q2, rfl, owP, owC, below_setRow b6 (by omega)⟩
set_option maxRecDepth 20000 in
set_option maxHeartbeats 8000000 in
theorem implMovePin_any (s : Int) (A : Option Addr) (c : Nat) (h : List (Int × Int)) (P : Option Addr) (d : Nat) (l : List Wp) (U : Option Addr) (v : Nat) (z : List Int) (a b c2 d2 : Int) (w : World)
    (hA : HA w A h) (hn : h.length ≤ 1048576) (hwf : HWF h) (hs : -32768 ≤ s ∧ s ≤ 32767) (hL : WnA w P l) (hU : SZ w U z) (hl : l.length ≤ 1048576) (hz : z.length ≤ 1048576) (hlw : WnWF l) (hzw : ZWF z) :
    Calls Tryz.prog 24 #[.agg #[.int .i16 s, .slice A h.length c], .agg #[.slice P l.length d, .slice U z.length v], .int .i64 a, .int .i64 b, .int .i64 c2, .int .i64 d2] w (WeC (waT s h l z (mvC s h.length l a b c2 d2) (mvT l a b c2 d2)) (waZ s h l z (mvC s h.length l a b c2 d2) (z)) (waC s h l z (mvC s h.length l a b c2 d2)) w) := by
  obtain ⟨X, hX⟩ : ∃ X, X = ((w.alloc (.cells #[.int .i16 s, .slice A h.length c] 39)).alloc (.cells #[.slice P l.length d, .slice U z.length v] 34)).alloc (.cells #[.slice none 0 0, .slice none 0 0] 34) := ⟨_, rfl⟩
  have hb0 : Below w.heap.size w X := by rw [hX]; exact (((Below.refl _ _).alloc (Nat.le_refl _) _).alloc (by simp) _).alloc (by simp; omega) _
  have P0 : Bk X w.heap.size 39 #[.int .i16 s, .slice A h.length c] := by rw [hX]; exact ((Bk.new _ _ _ rfl).old _).old _
  have P1 : Bk X (w.heap.size + 1) 34 #[.slice P l.length d, .slice U z.length v] := by rw [hX]; exact (Bk.new _ _ _ (by simp)).old _
  have P3 : Bk X (w.heap.size + 1 + 1) 34 #[.slice none 0 0, .slice none 0 0] := by rw [hX]; exact Bk.new _ _ _ (by simp)
  have hX3 := P3.lt
  have KW := doWear_gen s A c h P d l U v z 3 a b c2 d2 (mvC s h.length l a b c2 d2) (mvT l a b c2 d2) (z) X (hA.below hb0) hn hwf hs (hL.below hb0) (hU.below hb0) hl hz hlw hzw (fun hw base M q C A' c' W hst hbase g2 t2 cs2 hB ht2 => do_move s A' h.length c' M q l.length base C l z a b c2 d2 W (weB_fr hw).1 (weB_fr hw).2 hs.1 hst hbase (by omega) g2 t2 cs2 hB)
  generalize waC s h l z (mvC s h.length l a b c2 d2) = rc at *
  generalize waT s h l z (mvC s h.length l a b c2 d2) (mvT l a b c2 d2) = rT at *
  generalize waZ s h l z (mvC s h.length l a b c2 d2) (z) = rz at *
  go_enter Tryz.func24, Tryz.ntmps24
  go_upto_region 1 with fail
  rw [← hX]
  clear hX
  have c0 := P0.cell (i := 0) rfl
  have c1 := P0.cell (i := 1) rfl
  have c2_ := P1.cell (i := 0) rfl
  have c3 := P1.cell (i := 1) rfl
  go_wp2_with fail
  refine KW.mono ?_
  rintro e w6 ⟨Q1, q1, Q2, q2, rfl, ownP, ownC, hb6⟩
  have b6 := step_below hb6 hb0
  have HZ := hide (show w6.heap[(w.heap.size + 1 + 1)]? = some (.cells #[.slice none 0 0, .slice none 0 0] 34 (0, 0)) from P3.keep hb6)
  have owP := own_base (own_keepW ownP (show (w.heap.size + 1 + 1) < X.heap.size by omega) #[.slice Q1 rT.length q1, .slice Q2 rz.length q2]) (show w.heap.size ≤ X.heap.size by omega)
  have owC := own_base (own_keepW ownC (show (w.heap.size + 1 + 1) < X.heap.size by omega) #[.slice Q1 rT.length q1, .slice Q2 rz.length q2]) (show w.heap.size ≤ X.heap.size by omega)
  clear c0 c1 c2_ c3 KW
  go_wp2_with (with_reducible refine wpList_store_row rfl 34 (.tmp 12) (.tmp 22) rfl (w.heap.size + 1 + 1) #[.slice Q1 rT.length q1, .slice Q2 rz.length q2] rfl rfl 34 _ HZ.out (infoWear _ _) (szWear _ _ _ _) (oneWear _ _ _ _ _ _) ?_)
  exact bodyPost_ret (v := .tuple #[.agg #[.slice Q1 rT.length q1, .slice Q2 rz.length q2], .int .i64 rc]) (results_we Tryz.results24 _ _ (w.heap.size + 1 + 1) 34 #[.slice Q1 rT.length q1, .slice Q2 rz.length q2] _ rfl (by simp [Act.put]) (by simp [Act.put]) (setRow_heap _ _ _ _ _ _ HZ.out)) rfl ⟨Q1, q1, Q2, q2, rfl, owP, owC, below_setRow b6 (by omega)⟩
end Go.Proofs.YtcocfnjbgceidaaGreat
