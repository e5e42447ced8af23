import Derived.Test.YtcocfnjbgceidaaTrd
import Derived.Test.YtcocfnjbgceidaaGbe
namespace Go.Proofs.Ytcocfnjbgceidaa
open Go.RowKit Go.Maps
theorem weB_turn {s : Int} {h : List (Int × Int)} {l : List Wp} {z : List Int} (hw : weB s h l z = true) : l.length ≤ 2304 ∧ z.length ≤ 24 ∧ (∀ k, k < l.length → (0 ≤ wnT l k ∧ wnT l k < z.length) ∧ 0 ≤ wnP l k ∧ wnP l k ≤ 1000000) ∧ ∀ k, k < z.length → 0 ≤ zAt z k ∧ zAt z k ≤ 1000000 := by
  obtain ⟨h1, h2, h3⟩ := weB_VT hw
  obtain ⟨f1, f2⟩ := weB_fr hw
  refine ⟨h1.length f1 f2, by omega, fun k hk => ?_, fun k hk => ?_⟩
  · have hx := h1.2 l[k] (List.getElem_mem hk)
    have hp := plW_iff.1 hx.1
    rw [wn_get l k hk] at hx hp
    simp only at hx hp
    exact ⟨by omega, hx.2⟩
  · have := h2 z[k] (List.getElem_mem hk)
    simpa [zAt, List.getD, hk] using this
set_option maxRecDepth 20000 in
set_option maxHeartbeats 8000000 in
theorem specTurnWear_any (s : Int) (A : Option Addr) (c : Nat) (h : List (Int × Int)) (P : Option Addr) (d : Nat) (l : List Wp) (U : Option Addr) (v : Nat) (z : List Int) (t : Int) (w : World)
    (hA : HA w A h) (hn : h.length ≤ 1048576) (hwf : HWF h) (hs : -32768 ≤ s ∧ s ≤ 32767) (hL : WnA w P l) (hU : SZ w U z) (hl : l.length ≤ 1048576) (hz : z.length ≤ 1048576) (hlw : WnWF l) (hzw : ZWF z) :
    Calls Try.prog 130 #[.agg #[.int .i16 s, .slice A h.length c], .agg #[.slice P l.length d, .slice U z.length v], .int .i64 t] w (WeC (waT s h l z (trC l z t) (turT l t)) (waZ s h l z (trC l z t) (turZ l z t)) (waC s h l z (trC l z t)) w) := by
  obtain ⟨X, hX⟩ : ∃ X, X = ((w.alloc (.cells #[.int .i16 s, .slice A h.length c] 60)).alloc (.cells #[.slice P l.length d, .slice U z.length v] 64)).alloc (.cells #[.slice none 0 0, .slice none 0 0] 64) := ⟨_, rfl⟩
  have hb0 : Below w.heap.size w X := by rw [hX]; exact (((Below.refl _ _).alloc (Nat.le_refl _) _).alloc (by simp) _).alloc (by simp; omega) _
  have P0 : Bk X w.heap.size 60 #[.int .i16 s, .slice A h.length c] := by rw [hX]; exact ((Bk.new _ _ _ rfl).old _).old _
  have P1 : Bk X (w.heap.size + 1) 64 #[.slice P l.length d, .slice U z.length v] := by rw [hX]; exact (Bk.new _ _ _ (by simp)).old _
  have P3 : Bk X (w.heap.size + 1 + 1) 64 #[.slice none 0 0, .slice none 0 0] := by rw [hX]; exact Bk.new _ _ _ (by simp)
  have hX3 := P3.lt
  have KW := l06Ok_any w.heap.size (w.heap.size + 1) s A c h P d l U v z X ⟨P0.cell (i := 0) rfl, P0.cell (i := 1) rfl⟩ (P1.cell (i := 0) rfl) (P1.cell (i := 1) rfl) (hA.below hb0) (hL.below hb0) (hU.below hb0) hn hl hz hwf hs hlw
  go_enter Try.func130, Try.ntmps130
  go_upto_region 1 with fail
  rw [← hX]
  clear hX
  go_wp2_with fail
  refine KW.mono ?_
  rintro e w2 ⟨rfl, hb2⟩
  have b2 := step_below hb2 hb0
  have Q1 := P1.keep hb2
  have Q3 := P3.keep hb2
  have hs2 := hb2.size
  have KT := fun W => l06Turns_any t W
  clear KW
  cases hwe : weB s h l z
  · skip
    clear KT
    have HX := hide (show waC s h l z (trC l z t) = 1 by simp [waC, hwe])
    have HT := hide (show waT s h l z (trC l z t) (turT l t) = [] by rw [waT, if_neg (by rw [HX.out]; decide)])
    have HZZ := hide (show waZ s h l z (trC l z t) (turZ l z t) = [] by rw [waZ, if_neg (by rw [HX.out]; decide)])
    have HZ := hide (show w2.heap[(w.heap.size + 1 + 1)]? = some (.cells #[.slice none 0 0, .slice none 0 0] 64 (0, 0)) from Q3)
    go_wp2_with (first | (with_reducible refine wpList_build0 rfl rfl ?_) | (with_reducible refine wpList_store_row rfl 64 (.tmp 6) (.tmp 12) rfl (w.heap.size + 1 + 1) #[.slice none 0 0, .slice none 0 0] rfl rfl 64 _ HZ.out (infoWear _ _) (szWear _ _ _ _) (oneWear _ _ _ _ _ _) ?_))
    exact bodyPost_ret (v := .tuple #[.agg #[.slice none 0 0, .slice none 0 0], .int .i64 1]) (results_we Try.results130 _ _ (w.heap.size + 1 + 1) 64 #[.slice none 0 0, .slice none 0 0] _ rfl (by simp [Act.put]) (by simp [Act.put]) (setRow_heap _ _ _ _ _ _ HZ.out)) rfl ⟨none, 0, none, 0, by rw [HX.out, HT.out, HZZ.out]; rfl, by rw [HT.out]; exact World.ownsRow_nil _ _ _ _, by rw [HZZ.out]; exact World.ownsRow_nil _ _ _ _, below_setRow b2 (by omega)⟩
  cases hin : inB t 0 1000000
  · skip
    rw [hin] at KT
    have HX := hide (show waC s h l z (trC l z t) = 2 by simp [waC, hwe, trC, hin])
    have HT := hide (show waT s h l z (trC l z t) (turT l t) = [] by rw [waT, if_neg (by rw [HX.out]; decide)])
    have HZZ := hide (show waZ s h l z (trC l z t) (turZ l z t) = [] by rw [waZ, if_neg (by rw [HX.out]; decide)])
    have HZ := hide (show w2.heap[(w.heap.size + 1 + 1)]? = some (.cells #[.slice none 0 0, .slice none 0 0] 64 (0, 0)) from Q3)
    go_wp2_with (first | (go_at_call 82; with_reducible refine (KT _).mono ?_; rintro e w' ⟨rfl, rfl⟩) | (with_reducible refine wpList_build0 rfl rfl ?_) | (with_reducible refine wpList_store_row rfl 64 (.tmp 6) (.tmp 16) rfl (w.heap.size + 1 + 1) #[.slice none 0 0, .slice none 0 0] rfl rfl 64 _ HZ.out (infoWear _ _) (szWear _ _ _ _) (oneWear _ _ _ _ _ _) ?_))
    exact bodyPost_ret (v := .tuple #[.agg #[.slice none 0 0, .slice none 0 0], .int .i64 2]) (results_we Try.results130 _ _ (w.heap.size + 1 + 1) 64 #[.slice none 0 0, .slice none 0 0] _ rfl (by simp [Act.put]) (by simp [Act.put]) (setRow_heap _ _ _ _ _ _ HZ.out)) rfl ⟨none, 0, none, 0, by rw [HX.out, HT.out, HZZ.out]; rfl, by rw [HT.out]; exact World.ownsRow_nil _ _ _ _, by rw [HZZ.out]; exact World.ownsRow_nil _ _ _ _, below_setRow b2 (by omega)⟩
  rw [hin] at KT
  have hit : 0 ≤ t ∧ t ≤ 1000000 := by simpa [inB] using hin
  obtain ⟨m1, m2, m3, m4⟩ := weB_turn hwe
  have KD := l06Turned_any (w.heap.size + 1) P d l U v z t w2 (Q1.cell (i := 0) rfl) (Q1.cell (i := 1) rfl) ((hL.below hb0).below hb2) ((hU.below hb0).below hb2) m1 m2 m3 m4 hlw hit.1 hit.2
  go_wp2_with (go_at_call 82; with_reducible refine (KT _).mono ?_; rintro e w' ⟨rfl, rfl⟩)
  refine KD.mono ?_
  rintro e w3 ⟨P1', q1, P2', q2, rfl, ownP, ownC, hb3⟩
  have b3 := step_below hb3 b2
  have R3 := Q3.keep hb3
  clear KD KT
  obtain ⟨Y, hY⟩ : ∃ Y, Y = w3.alloc (.cells #[.slice P1' l.length q1, .slice P2' z.length q2] 64) := ⟨_, rfl⟩
  have hbY : Below w3.heap.size w3 Y := by rw [hY]; exact (Below.refl _ _).alloc (Nat.le_refl _) _
  have bY := step_below hbY b3
  have RY := R3.keep hbY
  have oP := own_keep ownP hbY
  have oC := own_keep ownC hbY
  have NY : Bk Y w3.heap.size 64 #[.slice P1' l.length q1, .slice P2' z.length q2] := by rw [hY]; exact Bk.new _ _ _ rfl
  go_upto_region 6 with (first | (with_reducible refine wpList_store_newA rfl 64 (.tmp 8) (.tmp 20) rfl #[.slice P1' l.length q1, .slice P2' z.length q2] rfl rfl 64 _ (infoWear _ _) (szWear _ _ _ _) (oneWear _ _ _ _ _ _) ?_))
  rw [← hY]
  clear hY
  cases hwh : wholeB (turT l t) (turZ l z t) 1000000 1000000
  · skip
    have HX := hide (show waC s h l z (trC l z t) = 3 by simp [waC, hwe, trC, hin, tuC, hwh])
    have HT := hide (show waT s h l z (trC l z t) (turT l t) = [] by rw [waT, if_neg (by rw [HX.out]; decide)])
    have HZZ := hide (show waZ s h l z (trC l z t) (turZ l z t) = [] by rw [waZ, if_neg (by rw [HX.out]; decide)])
    have HZ := hide (show Y.heap[(w.heap.size + 1 + 1)]? = some (.cells #[.slice none 0 0, .slice none 0 0] 64 (0, 0)) from RY)
    go_wp2_with (first | (with_reducible refine wpList_build0 rfl rfl ?_) | (with_reducible refine wpList_store_row rfl 64 (.tmp 6) (.tmp 24) rfl (w.heap.size + 1 + 1) #[.slice none 0 0, .slice none 0 0] rfl rfl 64 _ HZ.out (infoWear _ _) (szWear _ _ _ _) (oneWear _ _ _ _ _ _) ?_))
    exact bodyPost_ret (v := .tuple #[.agg #[.slice none 0 0, .slice none 0 0], .int .i64 3]) (results_we Try.results130 _ _ (w.heap.size + 1 + 1) 64 #[.slice none 0 0, .slice none 0 0] _ rfl (by simp [Act.put]) (by simp [Act.put]) (setRow_heap _ _ _ _ _ _ HZ.out)) rfl ⟨none, 0, none, 0, by rw [HX.out, HT.out, HZZ.out]; rfl, by rw [HT.out]; exact World.ownsRow_nil _ _ _ _, by rw [HZZ.out]; exact World.ownsRow_nil _ _ _ _, below_setRow bY (by omega)⟩
  have HX := hide (show waC s h l z (trC l z t) = 0 by simp [waC, hwe, trC, hin, tuC, hwh])
  have HZZ := hide (show waZ s h l z (trC l z t) (turZ l z t) = turZ l z t by rw [waZ, if_pos HX.out])
  have HT := hide (show waT s h l z (trC l z t) (turT l t) = turT l t by rw [waT, if_pos HX.out])
  have m0 := NY.cell (i := 0) rfl
  have m1 := NY.cell (i := 1) rfl
  have HZ := hide (show Y.heap[w.heap.size + 1 + 1]? = some (.cells #[.slice none 0 0, .slice none 0 0] 64 (0, 0)) from RY)
  have owP := own_base (own_keepW oP (show w.heap.size + 1 + 1 < w2.heap.size by omega) #[.slice P1' l.length q1, .slice P2' z.length q2]) (show w.heap.size ≤ w2.heap.size by omega)
  have owC := own_base (own_keepW oC (show w.heap.size + 1 + 1 < w2.heap.size by omega) #[.slice P1' l.length q1, .slice P2' z.length q2]) (show w.heap.size ≤ w2.heap.size by omega)
  clear hwh hin hwe
  go_wp2_with (with_reducible refine wpList_store_row rfl 64 (.tmp 6) (.tmp 25) rfl (w.heap.size + 1 + 1) #[.slice P1' l.length q1, .slice P2' z.length q2] rfl rfl 64 _ HZ.out (infoWear _ _) (szWear _ _ _ _) (oneWear _ _ _ _ _ _) ?_)
  exact bodyPost_ret (v := .tuple #[.agg #[.slice P1' l.length q1, .slice P2' z.length q2], .int .i64 0]) (results_we Try.results130 _ _ (w.heap.size + 1 + 1) 64 #[.slice P1' l.length q1, .slice P2' z.length q2] _ rfl (by simp [Act.put]) (by simp [Act.put]) (setRow_heap _ _ _ _ _ _ HZ.out)) rfl ⟨P1', q1, P2', q2, by rw [HX.out, HT.out, HZZ.out, turT_len, turZ_len], by rw [HT.out, turT_len]; exact owP, by rw [HZZ.out, turZ_len]; exact owC, below_setRow bY (by omega)⟩
end Go.Proofs.Ytcocfnjbgceidaa
