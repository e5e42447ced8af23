import Derived.Test.YtcocfnjbgceidaaGreatGbo
import Derived.Test.YtcocfnjbgceidaaGreatDoa
import Derived.Test.YtcocfnjbgceidaaGreatGbf
namespace Go.Proofs.YtcocfnjbgceidaaGreat
open Go.RowKit Go.Maps
/-- acts done one after the other: the code, and the wear behind them -/
def wdC (s : Int) (h : List (Int × Int)) (l : List Wp) (z : List Int) (a b : Int) (m : List (Int × Int × Int × Int × Int)) : Int :=
  if fbV s h l z a b then (if 60 < m.length then 3 else dnW s h.length l z m a b) else 1
def wdT (s : Int) (h : List (Int × Int)) (l : List Wp) (z : List Int) (a b : Int) (m : List (Int × Int × Int × Int × Int)) : List Wp :=
  if wdC s h l z a b m = 0 then (stA h.length l z m m.length).1 else []
def wdZ (s : Int) (h : List (Int × Int)) (l : List Wp) (z : List Int) (a b : Int) (m : List (Int × Int × Int × Int × Int)) : List Int :=
  if wdC s h l z a b m = 0 then (stA h.length l z m m.length).2 else []
set_option maxRecDepth 20000 in
set_option maxHeartbeats 8000000 in
theorem implDoWearActs_any (s : Int) (A : Option Addr) (c : Nat) (h : List (Int × Int)) (P : Option Addr) (d : Nat) (l : List Wp) (U : Option Addr) (v : Nat) (z : List Int) (a b : Int) (L : Option Addr) (lc : Nat) (m : List (Int × Int × Int × Int × Int)) (w : World)
    (hA : HA w A h) (hn : h.length ≤ 1048576) (hwf : HWF h) (hs : -32768 ≤ s ∧ s ≤ 32767) (hL : WnA w P l) (hU : SZ w U z) (hl : l.length ≤ 1048576) (hz : z.length ≤ 1048576) (hlw : WnWF l) (hzw : ZWF z) (hv : LvWF a b) (hM : AcA w L m) (hm : m.length ≤ 1048576) (hmw : AcWF m) :
    Calls Tryz.prog 32 #[.agg #[.int .i16 s, .slice A h.length c], .agg #[.slice P l.length d, .slice U z.length v], .agg #[.int .i64 a, .int .i64 b], .slice L m.length lc] w (WeC (wdT s h l z a b m) (wdZ s h l z a b m) (wdC s h l z a b m) w) := by
  obtain ⟨X, hX⟩ : ∃ X, X = (((w.alloc (.cells #[.int .i16 s, .slice A h.length c] 39)).alloc (.cells #[.slice P l.length d, .slice U z.length v] 34)).alloc (.cells #[.int .i64 a, .int .i64 b] 63)).alloc (.cells #[.slice none 0 0, .slice none 0 0] 34) := ⟨_, rfl⟩
  have hb0 : Below w.heap.size w X := by rw [hX]; exact ((((Below.refl _ _).alloc (Nat.le_refl _) _).alloc (by simp) _).alloc (by simp; omega) _).alloc (by simp; omega) _
  have P0 : Bk X w.heap.size 39 #[.int .i16 s, .slice A h.length c] := by rw [hX]; exact (((Bk.new _ _ _ rfl).old _).old _).old _
  have P1 : Bk X (w.heap.size + 1) 34 #[.slice P l.length d, .slice U z.length v] := by rw [hX]; exact ((Bk.new _ _ _ (by simp)).old _).old _
  have P2 : Bk X (w.heap.size + 1 + 1) 63 #[.int .i64 a, .int .i64 b] := by rw [hX]; exact (Bk.new _ _ _ (by simp)).old _
  have P3 : Bk X (w.heap.size + 1 + 1 + 1) 34 #[.slice none 0 0, .slice none 0 0] := by rw [hX]; exact Bk.new _ _ _ (by simp)
  have hX3 := P3.lt
  obtain ⟨X1, hX1⟩ : ∃ X1, X1 = X.alloc (.cells #[.int .i64 a, .int .i64 b] 63) := ⟨_, rfl⟩
  have hbX1 : Below X.heap.size X X1 := by rw [hX1]; exact (Below.refl _ _).alloc (Nat.le_refl _) _
  have N1 : Bk X1 X.heap.size 63 #[.int .i64 a, .int .i64 b] := by rw [hX1]; exact Bk.new _ _ _ rfl
  have b1 := step_below hbX1 hb0
  have KW := wearingFor_any s A c h P d l U v z (.slice (some ⟨X.heap.size, 0, none⟩) 1 1) (lvB a b) X1 (hA.below b1) hn hwf hs (hL.below b1) (hU.below b1) hl hz hlw hzw (fun W hW => areLives_one X.heap.size a b W (N1.keep hW) hv)
  go_enter Tryz.func32, Tryz.ntmps32
  go_upto_region 1 with fail
  rw [← hX]
  clear hX
  have c0 := P0.cell (i := 0) rfl
  have c1 := P0.cell (i := 1) rfl
  have c2_ := P1.cell (i := 0) rfl
  have c3 := P1.cell (i := 1) rfl
  have c4 := P2.cell (i := 0) rfl
  have c5 := P2.cell (i := 1) rfl
  go_wp2_with fail
  rw [← hX1]
  refine KW.mono ?_
  rintro e w2 ⟨he, hb2⟩
  have b2 := step_below hb2 b1
  have Q2 := (P2.keep hbX1).keep hb2
  have Q3 := (P3.keep hbX1).keep hb2
  have hs1 := hbX1.size
  have hs2 := hb2.size
  have hm2 := hM.below b2
  clear KW c0 c1 c2_ c3 c4 c5 hX1
  rcases he with ⟨h1, rfl⟩ | ⟨h1, M, C, q, rfl, hMw, own, ownz⟩
  · have HC := hide (show wdC s h l z a b m = 1 by rw [wdC, fbV, h1]; rfl)
    have HT := hide (show wdT s h l z a b m = [] by rw [wdT, if_neg (by rw [HC.out]; decide)])
    have HZZ := hide (show wdZ s h l z a b m = [] by rw [wdZ, if_neg (by rw [HC.out]; decide)])
    obtain ⟨Y, hY⟩ : ∃ Y, Y = w2.alloc (.cells #[.int .i64 0, .slice none 0 0, .map none, .slice none 0 0] 106) := ⟨_, rfl⟩
    have hbY : Below w2.heap.size w2 Y := by rw [hY]; exact (Below.refl _ _).alloc (Nat.le_refl _) _
    have bY := step_below hbY b2
    have HZ := hide (show Y.heap[w.heap.size + 1 + 1 + 1]? = some (.cells #[.slice none 0 0, .slice none 0 0] 34 (0, 0)) from Q3.keep hbY)
    clear h1
    go_upto_region 2 with fail
    rw [← hY]
    clear hY
    go_wp2_with (first | (with_reducible refine wpList_build0 rfl rfl ?_) | (with_reducible refine wpList_store_row rfl 34 (.tmp 8) (.tmp 24) rfl (w.heap.size + 1 + 1 + 1) #[.slice none 0 0, .slice none 0 0] rfl rfl 34 _ HZ.out (infoWear _ _) (szWear _ _ _ _) (oneWear _ _ _ _ _ _) ?_))
    exact bodyPost_ret (v := .tuple #[.agg #[.slice none 0 0, .slice none 0 0], .int .i64 1]) (results_we Tryz.results32 _ _ (w.heap.size + 1 + 1 + 1) 34 #[.slice none 0 0, .slice none 0 0] _ rfl (by simp [Act.put]) (by simp [Act.put]) (setRow_heap _ _ _ _ _ _ HZ.out)) rfl ⟨none, 0, none, 0, by rw [HC.out, HT.out, HZZ.out]; rfl, by rw [HT.out]; exact World.ownsRow_nil _ _ _ _, by rw [HZZ.out]; exact World.ownsRow_nil _ _ _ _, below_setRow bY (by omega)⟩
  · obtain ⟨hwe, hlv⟩ : weB s h l z = true ∧ lvB a b = true := by simpa using h1
    have hzn : z.length = h.length := (weB_VT hwe).2.2
    obtain ⟨hs96, hn24⟩ := weB_fr hwe
    have hll := (weB_VT hwe).1.length hs96 hn24
    have st2 := wst_start hwe hlw own ownz hMw
    rw [hzn]
    rw [hzn] at ownz
    obtain ⟨Y, hY⟩ : ∃ Y, Y = w2.alloc (.cells #[.int .i64 s, .slice A h.length c, .map (some M), .slice C h.length q] 106) := ⟨_, rfl⟩
    have hbY : Below w2.heap.size w2 Y := by rw [hY]; exact (Below.refl _ _).alloc (Nat.le_refl _) _
    have bY := step_below hbY b2
    have G0 : Bk Y w2.heap.size 106 #[.int .i64 s, .slice A h.length c, .map (some M), .slice C h.length q] := by rw [hY]; exact Bk.new _ _ _ rfl
    go_upto_region 2 with fail
    rw [← hY]
    clear hY
    have Q4 := Q2.keep hbY
    have Z4 := Q3.keep hbY
    have hsY := hbY.size
    by_cases hlen : 60 < m.length
    · have HC := hide (show wdC s h l z a b m = 3 by rw [wdC, fbV, hwe, hlv, if_pos hlen]; rfl)
      have HT := hide (show wdT s h l z a b m = [] by rw [wdT, if_neg (by rw [HC.out]; decide)])
      have HZZ := hide (show wdZ s h l z a b m = [] by rw [wdZ, if_neg (by rw [HC.out]; decide)])
      have hgt : (60 : Int) < (m.length : Int) := by omega
      have HZ := hide (show Y.heap[w.heap.size + 1 + 1 + 1]? = some (.cells #[.slice none 0 0, .slice none 0 0] 34 (0, 0)) from Z4)
      clear h1 hwe hlv hlen Z4 Q4 Q3 Q2 P3
      go_wp2_with (first | (with_reducible refine wpList_build0 rfl rfl ?_) | (with_reducible refine wpList_store_row rfl 34 (.tmp 8) (.tmp 28) rfl (w.heap.size + 1 + 1 + 1) #[.slice none 0 0, .slice none 0 0] rfl rfl 34 _ HZ.out (infoWear _ _) (szWear _ _ _ _) (oneWear _ _ _ _ _ _) ?_))
      exact bodyPost_ret (v := .tuple #[.agg #[.slice none 0 0, .slice none 0 0], .int .i64 3]) (results_we Tryz.results32 _ _ (w.heap.size + 1 + 1 + 1) 34 #[.slice none 0 0, .slice none 0 0] _ rfl (by simp [Act.put]) (by simp [Act.put]) (setRow_heap _ _ _ _ _ _ HZ.out)) rfl ⟨none, 0, none, 0, by rw [HC.out, HT.out, HZZ.out]; rfl, by rw [HT.out]; exact World.ownsRow_nil _ _ _ _, by rw [HZZ.out]; exact World.ownsRow_nil _ _ _ _, below_setRow bY (by omega)⟩
    · have hgt : ¬ (60 : Int) < (m.length : Int) := by omega
      have hl60 : m.length ≤ 60 := by omega
      have e0 := G0.cell (i := 0) rfl
      have e1 := G0.cell (i := 1) rfl
      have e2 := G0.cell (i := 2) rfl
      have e3 := G0.cell (i := 3) rfl
      have f0 := Q4.cell (i := 0) rfl
      have f1 := Q4.cell (i := 1) rfl
      have KDo := doAll_any s A h.length c M q l.length C l z a b L lc m X1 Y hs96 hn24 hs.1 (st2.keep hbY) (hb2.trans (hbY.mono hs2)) (hM.below b1) hmw hl60 (by omega) _ _ _ G0.fam (fun _ => by decide)
      have HLN := hide hlen
      have HWE := hide hwe
      have HLV := hide hlv
      clear h1 hzn own ownz st2 hwe hlv hlen
      go_wp2_with fail
      refine KDo.mono ?_
      rintro e w5 ⟨rfl, hst5, G5f, hb5⟩
      have G5 : Bk w5 w2.heap.size 106 #[.int .i64 s, .slice A h.length c, .map (some M), .slice C h.length q] := G5f 0
      clear G5f
      have b5 : Below w.heap.size w w5 := bY.trans (hb5.mono b1.size)
      have hs5 := hb5.size
      have Z5 : Bk w5 (w.heap.size + 1 + 1 + 1) 34 #[.slice none 0 0, .slice none 0 0] := (hb5.block _ (by omega)).trans Z4
      clear e0 e1 e2 e3 f0 f1 KDo Z4
      have HC := hide (show wdC s h l z a b m = dnW s h.length l z m a b by rw [wdC, fbV, HWE.out, HLV.out, if_neg HLN.out]; rfl)
      obtain ⟨code, hcode⟩ : ∃ x, x = dnW s h.length l z m a b := ⟨_, rfl⟩
      rw [← hcode] at hst5 ⊢
      have HCD := hide hcode
      clear hcode
      obtain ⟨ii, hii⟩ : ∃ x, x = dnI 0 s h.length l z m a b := ⟨_, rfl⟩
      rw [← hii]
      clear hii
      by_cases hc0 : code = 0
      · subst hc0
        have HC0 := hide (show wdC s h l z a b m = 0 by rw [HC.out, ← HCD.out])
        have HT := hide (show wdT s h l z a b m = (stA h.length l z m m.length).1 by rw [wdT, if_pos HC0.out])
        have HZZ := hide (show wdZ s h l z a b m = (stA h.length l z m m.length).2 by rw [wdZ, if_pos HC0.out])
        obtain ⟨D, hM5, hD5, hI5, hO5, hz5, hv5, hvz5, hbM5⟩ := hst5 rfl
        generalize (stA h.length l z m m.length).1 = T' at *
        generalize (stA h.length l z m m.length).2 = z' at *
        have KM := madeWear_any M C z' q (l.length + m.length) D T' w5 hM5 hD5 (Nat.le_trans hM5.size_le (by omega)) hv5.1 (hv5.in8 hs96 hn24) (SZ.of_own (c := q) (by rw [hz5]; exact hO5)) (by omega)
        rw [hz5] at KM
        have e2 := G5.cell (i := 2) rfl
        have e3 := G5.cell (i := 3) rfl
        have HZ5 := hide hz5
        clear hM5 hD5 hO5 hst5 hv5 hvz5 hz5
        go_wp2_with fail
        refine KM.mono ?_
        rintro e w6 ⟨P1', q1, P2', q2, rfl, ownP, ownC, hb6⟩
        have b6 := step_below hb6 b5
        rw [HZ5.out] at ownC ⊢
        have HZ := hide (show w6.heap[w.heap.size + 1 + 1 + 1]? = some (.cells #[.slice none 0 0, .slice none 0 0] 34 (0, 0)) from Z5.keep hb6)
        have owP := own_base (own_keepW ownP (show w.heap.size + 1 + 1 + 1 < w5.heap.size by omega) #[.slice P1' T'.length q1, .slice P2' h.length q2]) (show w.heap.size ≤ w5.heap.size by omega)
        have owC := own_base (own_keepW ownC (show w.heap.size + 1 + 1 + 1 < w5.heap.size by omega) #[.slice P1' T'.length q1, .slice P2' h.length q2]) (show w.heap.size ≤ w5.heap.size by omega)
        clear Z5 e2 e3 KM
        go_wp2_with (with_reducible refine wpList_store_row rfl 34 (.tmp 8) (.tmp 42) rfl (w.heap.size + 1 + 1 + 1) #[.slice P1' T'.length q1, .slice P2' h.length q2] rfl rfl 34 _ HZ.out (infoWear _ _) (szWear _ _ _ _) (oneWear _ _ _ _ _ _) ?_)
        exact bodyPost_ret (v := .tuple #[.agg #[.slice P1' T'.length q1, .slice P2' h.length q2], .int .i64 0]) (results_we Tryz.results32 _ _ (w.heap.size + 1 + 1 + 1) 34 #[.slice P1' T'.length q1, .slice P2' h.length q2] _ rfl (by simp [Act.put]) (by simp [Act.put]) (setRow_heap _ _ _ _ _ _ HZ.out)) rfl ⟨P1', q1, P2', q2, by rw [HC0.out, HT.out, HZZ.out, HZ5.out], by rw [HT.out]; exact owP, by rw [HZZ.out, HZ5.out]; exact owC, below_setRow b6 (by omega)⟩
      · have HC0 := hide (show wdC s h l z a b m = code by rw [HC.out, ← HCD.out])
        have HT := hide (show wdT s h l z a b m = [] by rw [wdT, if_neg (by rw [HC0.out]; exact hc0)])
        have HZZ := hide (show wdZ s h l z a b m = [] by rw [wdZ, if_neg (by rw [HC0.out]; exact hc0)])
        have HZ := hide (show w5.heap[w.heap.size + 1 + 1 + 1]? = some (.cells #[.slice none 0 0, .slice none 0 0] 34 (0, 0)) from Z5)
        have hne : (code != 0) = true := by simp [hc0]
        clear Z5 hst5 hc0
        go_wp2_with (first | (with_reducible refine wpList_build0 rfl rfl ?_) | (with_reducible refine wpList_store_row rfl 34 (.tmp 8) (.tmp 38) rfl (w.heap.size + 1 + 1 + 1) #[.slice none 0 0, .slice none 0 0] rfl rfl 34 _ HZ.out (infoWear _ _) (szWear _ _ _ _) (oneWear _ _ _ _ _ _) ?_))
        exact bodyPost_ret (v := .tuple #[.agg #[.slice none 0 0, .slice none 0 0], .int .i64 code]) (results_we Tryz.results32 _ _ (w.heap.size + 1 + 1 + 1) 34 #[.slice none 0 0, .slice none 0 0] _ rfl (by simp [Act.put]) (by simp [Act.put]) (setRow_heap _ _ _ _ _ _ HZ.out)) rfl ⟨none, 0, none, 0, by rw [HC0.out, HT.out, HZZ.out]; rfl, by rw [HT.out]; exact World.ownsRow_nil _ _ _ _, by rw [HZZ.out]; exact World.ownsRow_nil _ _ _ _, below_setRow b5 (by omega)⟩
end Go.Proofs.YtcocfnjbgceidaaGreat
