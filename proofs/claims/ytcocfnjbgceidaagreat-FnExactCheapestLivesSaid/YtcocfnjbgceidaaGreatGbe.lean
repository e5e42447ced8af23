import Derived.Test.YtcocfnjbgceidaaGreatTun
import Derived.Test.YtcocfnjbgceidaaGreatDoa
import Derived.Test.YtcocfnjbgceidaaGreatTrd
namespace Go.Proofs.YtcocfnjbgceidaaGreat
open Go.RowKit Go.Maps
/-- what turning comes to -/
def trC (T : List Wp) (z : List Int) (a : Int) : Int := if inB a 0 1000000 then tuC T z a else 2
theorem OnP.succ {s : Int} {n base : Nat} {C : Option Addr} {q M N : Nat} {T : List Wp} {z : List Int} {c : Int} {g2 : Nat → Nat} {t2 : Nat → TypeId} {cs2 : Nat → Array Value} {w : World} {e : Ending} {w' : World} (h : OnP s n base C q M N T z c g2 t2 cs2 w e w') : OnP s n base C q M (N + 1) T z c g2 t2 cs2 w e w' := by
  obtain ⟨h1, h2, h3, h4⟩ := h
  refine ⟨h1, fun hc => ?_, h3, h4⟩
  obtain ⟨D, hM, hr⟩ := h2 hc
  exact ⟨D, hM.mono (Nat.le_succ _), hr⟩
set_option maxRecDepth 20000 in
set_option maxHeartbeats 4000000 in
theorem turningOn_any (s : Int) (A : Option Addr) (n c M q N base : Nat) (C : Option Addr) (T : List Wp) (z : List Int) (a : Int) (w : World) (hs : s ≤ 96) (hn : n ≤ 24) (hs' : -32768 ≤ s) (hSt : WSt s n base C q M N T z w) (hbase : base ≤ w.heap.size) (hN : N ≤ 1099511627776) (g2 : Nat → Nat) (t2 : Nat → TypeId) (cs2 : Nat → Array Value) (hB : Bkf w g2 t2 cs2) (ht2 : ∀ i, t2 i ≠ 2) :
    Calls Tryz.prog 164 #[.agg #[.int .i64 a], .agg #[.int .i64 s, .slice A n c, .map (some M), .slice C n q]] w (OnP s n base C q M (N + 1) (turT T a) (turZ T z a) (trC T z a) g2 t2 cs2 w) := by
  obtain ⟨X, hX⟩ : ∃ X, X = (w.alloc (.cells #[.int .i64 a] 171)).alloc (.cells #[.int .i64 s, .slice A n c, .map (some M), .slice C n q] 106) := ⟨_, rfl⟩
  have bX : Below w.heap.size w X := by rw [hX]; exact ((Below.refl _ _).alloc (Nat.le_refl _) _).alloc (by simp) _
  have R0 : Bk X w.heap.size 171 #[.int .i64 a] := by rw [hX]; exact (Bk.new _ _ _ rfl).old _
  have W0 : Bk X (w.heap.size + 1) 106 #[.int .i64 s, .slice A n c, .map (some M), .slice C n q] := by rw [hX]; exact Bk.new _ _ _ (by simp)
  have St0 := hSt.keep bX
  have B0 := hB.keep bX
  have hX2 := W0.lt
  go_enter Tryz.func164, Tryz.ntmps164
  go_upto_region 1 with fail
  rw [← hX]
  clear hX
  have r0 := R0.cell (i := 0) rfl
  have KW := fun W => within_any a 0 1000000 W
  cases hin : inB a 0 1000000
  · rw [hin] at KW
    have HC := hide (show trC T z a = 2 by simp [trC, hin])
    clear hin
    go_wp2_with (go_at_call 73; with_reducible refine (KW _).mono ?_; rintro e w' ⟨rfl, rfl⟩)
    go_ret
    exact ⟨by rw [HC.out]; rfl, fun h => absurd h (by rw [HC.out]; decide), B0, bX.mono hbase⟩
  · rw [hin] at KW
    have HC := hide (show trC T z a = tuC T z a by simp [trC, hin])
    have hia : 0 ≤ a ∧ a ≤ 1000000 := by simpa [inB] using hin
    have w2_ := W0.cell (i := 2) rfl
    have w3_ := W0.cell (i := 3) rfl
    have KT := turn_any s n base C q M N T z a X hs hn St0 (Nat.le_trans hbase bX.size) hia g2 t2 cs2 B0 ht2
    clear hin hia
    go_wp2_with (go_at_call 73; with_reducible refine (KW _).mono ?_; rintro e w' ⟨rfl, rfl⟩)
    refine KT.mono ?_
    rintro e w3 h3
    have h4 := h3.succ
    obtain ⟨rfl, hst, B3, hb3⟩ := h4
    have HST := hide hst
    clear hst h3
    go_wp2
    go_ret
    exact ⟨by rw [HC.out]; rfl, fun h => HST.out (by rw [HC.out] at h; exact h), B3, (bX.mono hbase).trans hb3⟩
set_option maxRecDepth 20000 in
set_option maxHeartbeats 4000000 in
theorem deed_turn (a b c2 d2 : Int) (w : World) :
    Calls Tryz.prog 87 #[.agg #[.int .i8 0, .int .i64 a, .int .i64 b, .int .i64 c2, .int .i64 d2]] w fun e w' => e = .returned (.iface 171 (.agg #[.int .i64 a])) ∧ Below w.heap.size w w' := by
  have hb0 : Below w.heap.size w (w.alloc (.cells #[.int .i8 0, .int .i64 a, .int .i64 b, .int .i64 c2, .int .i64 d2] 55)) := (Below.refl _ _).alloc (Nat.le_refl _) _
  go_enter Tryz.func87, Tryz.ntmps87
  go_wp2
  go_ret
  exact ⟨rfl, hb0⟩
set_option maxRecDepth 20000 in
set_option maxHeartbeats 4000000 in
theorem do_turn (s : Int) (A : Option Addr) (n c M q N base : Nat) (C : Option Addr) (T : List Wp) (z : List Int) (a b c2 d2 : Int) (w : World) (hs : s ≤ 96) (hn : n ≤ 24) (hs' : -32768 ≤ s) (hSt : WSt s n base C q M N T z w) (hbase : base ≤ w.heap.size) (hN : N ≤ 1099511627776) (g2 : Nat → Nat) (t2 : Nat → TypeId) (cs2 : Nat → Array Value) (hB : Bkf w g2 t2 cs2) (ht2 : ∀ i, t2 i ≠ 2) :
    Calls Tryz.prog 63 #[.agg #[.int .i64 s, .slice A n c, .map (some M), .slice C n q], .agg #[.int .i8 0, .int .i64 a, .int .i64 b, .int .i64 c2, .int .i64 d2]] w (OnP s n base C q M (N + 1) (turT T a) (turZ T z a) (trC T z a) g2 t2 cs2 w) := by
  obtain ⟨X, hX⟩ : ∃ X, X = (w.alloc (.cells #[.int .i64 s, .slice A n c, .map (some M), .slice C n q] 106)).alloc (.cells #[.int .i8 0, .int .i64 a, .int .i64 b, .int .i64 c2, .int .i64 d2] 55) := ⟨_, rfl⟩
  have bX : Below w.heap.size w X := by rw [hX]; exact ((Below.refl _ _).alloc (Nat.le_refl _) _).alloc (by simp) _
  have W0 : Bk X w.heap.size 106 #[.int .i64 s, .slice A n c, .map (some M), .slice C n q] := by rw [hX]; exact (Bk.new _ _ _ rfl).old _
  have A0 : Bk X (w.heap.size + 1) 55 #[.int .i8 0, .int .i64 a, .int .i64 b, .int .i64 c2, .int .i64 d2] := by rw [hX]; exact Bk.new _ _ _ (by simp)
  have St0 := hSt.keep bX
  have B0 := hB.keep bX
  go_enter Tryz.func63, Tryz.ntmps63
  go_upto_region 1 with fail
  rw [← hX]
  clear hX
  have c0 := A0.cell (i := 0) rfl
  have c1 := A0.cell (i := 1) rfl
  have c2_ := A0.cell (i := 2) rfl
  have c3 := A0.cell (i := 3) rfl
  have c4 := A0.cell (i := 4) rfl
  go_wp2_with fail
  clear c0 c1 c2_ c3 c4
  refine (deed_turn a b c2 d2 _).mono ?_
  rintro e w2 ⟨rfl, hb2⟩
  have b2 := step_below hb2 bX
  have W2 := W0.keep hb2
  have c0 := W2.cell (i := 0) rfl
  have c1 := W2.cell (i := 1) rfl
  have c2_ := W2.cell (i := 2) rfl
  have c3 := W2.cell (i := 3) rfl
  have KR := turningOn_any s A n c M q N base C T z a w2 hs hn hs' (St0.keep hb2) (Nat.le_trans hbase b2.size) hN g2 t2 cs2 (B0.keep hb2) ht2
  have hm : ∀ (k : Nat) W, (method (k + 1) 171 (.agg #[.int .i64 a]) "loop.example/g01311/impl.on").run Tryz.prog W = .ok (164, .agg #[.int .i64 a]) W := fun k W => rfl
  go_wp2_with fail
  refine KR.mono ?_
  rintro e w3 ⟨rfl, hst3, B3, hb3⟩
  go_wp2
  go_ret
  exact ⟨rfl, hst3, B3, (b2.mono hbase).trans hb3⟩
set_option maxRecDepth 20000 in
set_option maxHeartbeats 4000000 in
theorem deed_none (k a b c2 d2 : Int) (w : World) (hk : -128 ≤ k ∧ k ≤ 127) (h : k < 0 ∨ 3 < k) :
    Calls Tryz.prog 87 #[.agg #[.int .i8 k, .int .i64 a, .int .i64 b, .int .i64 c2, .int .i64 d2]] w fun e w' => e = .returned .nilIface ∧ Below w.heap.size w w' := by
  have hb0 : Below w.heap.size w (w.alloc (.cells #[.int .i8 k, .int .i64 a, .int .i64 b, .int .i64 c2, .int .i64 d2] 55)) := (Below.refl _ _).alloc (Nat.le_refl _) _
  have n0 : (k == 0) = false := by simp; omega
  have n1 : (k == 1) = false := by simp; omega
  have n2 : (k == 2) = false := by simp; omega
  have n3 : (k == 3) = false := by simp; omega
  go_enter Tryz.func87, Tryz.ntmps87
  go_wp2
  go_ret
  exact ⟨rfl, hb0⟩
end Go.Proofs.YtcocfnjbgceidaaGreat
namespace Go.Proofs.YtcocfnjbgceidaaGreat
open Go.RowKit Go.Maps
theorem weB_turn {s : Int} {h : List (Int × Int)} {l : List Wp} {z : List Int} (hw : weB s h l z = true) : l.length ≤ 2304 ∧ z.length ≤ 24 ∧ (∀ k, k < l.length → (0 ≤ wnT l k ∧ wnT l k < z.length) ∧ 0 ≤ wnP l k ∧ wnP l k ≤ 1000000) ∧ ∀ k, k < z.length → 0 ≤ zAt z k ∧ zAt z k ≤ 1000000 := by
  obtain ⟨h1, h2, h3⟩ := weB_VT hw
  obtain ⟨f1, f2⟩ := weB_fr hw
  refine ⟨h1.length f1 f2, by omega, fun k hk => ?_, fun k hk => ?_⟩
  · have hx := h1.2 l[k] (List.getElem_mem hk)
    have hp := plW_iff.1 hx.1
    rw [wn_get l k hk] at hx hp
    simp only at hx hp
    exact ⟨by omega, hx.2⟩
  · have := h2 z[k] (List.getElem_mem hk)
    simpa [zAt, List.getD, hk] using this
set_option maxRecDepth 20000 in
set_option maxHeartbeats 8000000 in
theorem specTurnWear_any (s : Int) (A : Option Addr) (c : Nat) (h : List (Int × Int)) (P : Option Addr) (d : Nat) (l : List Wp) (U : Option Addr) (v : Nat) (z : List Int) (t : Int) (w : World)
    (hA : HA w A h) (hn : h.length ≤ 1048576) (hwf : HWF h) (hs : -32768 ≤ s ∧ s ≤ 32767) (hL : WnA w P l) (hU : SZ w U z) (hl : l.length ≤ 1048576) (hz : z.length ≤ 1048576) (hlw : WnWF l) (hzw : ZWF z) :
    Calls Tryz.prog 35 #[.agg #[.int .i16 s, .slice A h.length c], .agg #[.slice P l.length d, .slice U z.length v], .int .i64 t] w (WeC (waT s h l z (trC l z t) (turT l t)) (waZ s h l z (trC l z t) (turZ l z t)) (waC s h l z (trC l z t)) w) := by
  obtain ⟨X, hX⟩ : ∃ X, X = ((w.alloc (.cells #[.int .i16 s, .slice A h.length c] 39)).alloc (.cells #[.slice P l.length d, .slice U z.length v] 34)).alloc (.cells #[.slice none 0 0, .slice none 0 0] 34) := ⟨_, rfl⟩
  have hb0 : Below w.heap.size w X := by rw [hX]; exact (((Below.refl _ _).alloc (Nat.le_refl _) _).alloc (by simp) _).alloc (by simp; omega) _
  have P0 : Bk X w.heap.size 39 #[.int .i16 s, .slice A h.length c] := by rw [hX]; exact ((Bk.new _ _ _ rfl).old _).old _
  have P1 : Bk X (w.heap.size + 1) 34 #[.slice P l.length d, .slice U z.length v] := by rw [hX]; exact (Bk.new _ _ _ (by simp)).old _
  have P3 : Bk X (w.heap.size + 1 + 1) 34 #[.slice none 0 0, .slice none 0 0] := by rw [hX]; exact Bk.new _ _ _ (by simp)
  have hX3 := P3.lt
  have KW := l06Ok_any w.heap.size (w.heap.size + 1) s A c h P d l U v z X ⟨P0.cell (i := 0) rfl, P0.cell (i := 1) rfl⟩ (P1.cell (i := 0) rfl) (P1.cell (i := 1) rfl) (hA.below hb0) (hL.below hb0) (hU.below hb0) hn hl hz hwf hs hlw
  go_enter Tryz.func35, Tryz.ntmps35
  go_upto_region 1 with fail
  rw [← hX]
  clear hX
  go_wp2_with fail
  refine KW.mono ?_
  rintro e w2 ⟨rfl, hb2⟩
  have b2 := step_below hb2 hb0
  have Q1 := P1.keep hb2
  have Q3 := P3.keep hb2
  have hs2 := hb2.size
  have KT := fun W => l06Turns_any t W
  clear KW
  cases hwe : weB s h l z
  · skip
    clear KT
    have HX := hide (show waC s h l z (trC l z t) = 1 by simp [waC, hwe])
    have HT := hide (show waT s h l z (trC l z t) (turT l t) = [] by rw [waT, if_neg (by rw [HX.out]; decide)])
    have HZZ := hide (show waZ s h l z (trC l z t) (turZ l z t) = [] by rw [waZ, if_neg (by rw [HX.out]; decide)])
    have HZ := hide (show w2.heap[(w.heap.size + 1 + 1)]? = some (.cells #[.slice none 0 0, .slice none 0 0] 34 (0, 0)) from Q3)
    go_wp2_with (first | (with_reducible refine wpList_build0 rfl rfl ?_) | (with_reducible refine wpList_store_row rfl 34 (.tmp 6) (.tmp 12) rfl (w.heap.size + 1 + 1) #[.slice none 0 0, .slice none 0 0] rfl rfl 34 _ HZ.out (infoWear _ _) (szWear _ _ _ _) (oneWear _ _ _ _ _ _) ?_))
    exact bodyPost_ret (v := .tuple #[.agg #[.slice none 0 0, .slice none 0 0], .int .i64 1]) (results_we Tryz.results35 _ _ (w.heap.size + 1 + 1) 34 #[.slice none 0 0, .slice none 0 0] _ rfl (by simp [Act.put]) (by simp [Act.put]) (setRow_heap _ _ _ _ _ _ HZ.out)) rfl ⟨none, 0, none, 0, by rw [HX.out, HT.out, HZZ.out]; rfl, by rw [HT.out]; exact World.ownsRow_nil _ _ _ _, by rw [HZZ.out]; exact World.ownsRow_nil _ _ _ _, below_setRow b2 (by omega)⟩
  cases hin : inB t 0 1000000
  · skip
    rw [hin] at KT
    have HX := hide (show waC s h l z (trC l z t) = 2 by simp [waC, hwe, trC, hin])
    have HT := hide (show waT s h l z (trC l z t) (turT l t) = [] by rw [waT, if_neg (by rw [HX.out]; decide)])
    have HZZ := hide (show waZ s h l z (trC l z t) (turZ l z t) = [] by rw [waZ, if_neg (by rw [HX.out]; decide)])
    have HZ := hide (show w2.heap[(w.heap.size + 1 + 1)]? = some (.cells #[.slice none 0 0, .slice none 0 0] 34 (0, 0)) from Q3)
    go_wp2_with (first | (go_at_call 69; with_reducible refine (KT _).mono ?_; rintro e w' ⟨rfl, rfl⟩) | (with_reducible refine wpList_build0 rfl rfl ?_) | (with_reducible refine wpList_store_row rfl 34 (.tmp 6) (.tmp 16) rfl (w.heap.size + 1 + 1) #[.slice none 0 0, .slice none 0 0] rfl rfl 34 _ HZ.out (infoWear _ _) (szWear _ _ _ _) (oneWear _ _ _ _ _ _) ?_))
    exact bodyPost_ret (v := .tuple #[.agg #[.slice none 0 0, .slice none 0 0], .int .i64 2]) (results_we Tryz.results35 _ _ (w.heap.size + 1 + 1) 34 #[.slice none 0 0, .slice none 0 0] _ rfl (by simp [Act.put]) (by simp [Act.put]) (setRow_heap _ _ _ _ _ _ HZ.out)) rfl ⟨none, 0, none, 0, by rw [HX.out, HT.out, HZZ.out]; rfl, by rw [HT.out]; exact World.ownsRow_nil _ _ _ _, by rw [HZZ.out]; exact World.ownsRow_nil _ _ _ _, below_setRow b2 (by omega)⟩
  rw [hin] at KT
  have hit : 0 ≤ t ∧ t ≤ 1000000 := by simpa [inB] using hin
  obtain ⟨m1, m2, m3, m4⟩ := weB_turn hwe
  have KD := l06Turned_any (w.heap.size + 1) P d l U v z t w2 (Q1.cell (i := 0) rfl) (Q1.cell (i := 1) rfl) ((hL.below hb0).below hb2) ((hU.below hb0).below hb2) m1 m2 m3 m4 hlw hit.1 hit.2
  go_wp2_with (go_at_call 69; with_reducible refine (KT _).mono ?_; rintro e w' ⟨rfl, rfl⟩)
  refine KD.mono ?_
  rintro e w3 ⟨P1', q1, P2', q2, rfl, ownP, ownC, hb3⟩
  have b3 := step_below hb3 b2
  have R3 := Q3.keep hb3
  clear KD KT
  obtain ⟨Y, hY⟩ : ∃ Y, Y = w3.alloc (.cells #[.slice P1' l.length q1, .slice P2' z.length q2] 34) := ⟨_, rfl⟩
  have hbY : Below w3.heap.size w3 Y := by rw [hY]; exact (Below.refl _ _).alloc (Nat.le_refl _) _
  have bY := step_below hbY b3
  have RY := R3.keep hbY
  have oP := own_keep ownP hbY
  have oC := own_keep ownC hbY
  have NY : Bk Y w3.heap.size 34 #[.slice P1' l.length q1, .slice P2' z.length q2] := by rw [hY]; exact Bk.new _ _ _ rfl
  go_upto_region 6 with (first | (with_reducible refine wpList_store_newA rfl 34 (.tmp 8) (.tmp 20) rfl #[.slice P1' l.length q1, .slice P2' z.length q2] rfl rfl 34 _ (infoWear _ _) (szWear _ _ _ _) (oneWear _ _ _ _ _ _) ?_))
  rw [← hY]
  clear hY
  cases hwh : wholeB (turT l t) (turZ l z t) 1000000 1000000
  · skip
    have HX := hide (show waC s h l z (trC l z t) = 3 by simp [waC, hwe, trC, hin, tuC, hwh])
    have HT := hide (show waT s h l z (trC l z t) (turT l t) = [] by rw [waT, if_neg (by rw [HX.out]; decide)])
    have HZZ := hide (show waZ s h l z (trC l z t) (turZ l z t) = [] by rw [waZ, if_neg (by rw [HX.out]; decide)])
    have HZ := hide (show Y.heap[(w.heap.size + 1 + 1)]? = some (.cells #[.slice none 0 0, .slice none 0 0] 34 (0, 0)) from RY)
    go_wp2_with (first | (with_reducible refine wpList_build0 rfl rfl ?_) | (with_reducible refine wpList_store_row rfl 34 (.tmp 6) (.tmp 24) rfl (w.heap.size + 1 + 1) #[.slice none 0 0, .slice none 0 0] rfl rfl 34 _ HZ.out (infoWear _ _) (szWear _ _ _ _) (oneWear _ _ _ _ _ _) ?_))
    exact bodyPost_ret (v := .tuple #[.agg #[.slice none 0 0, .slice none 0 0], .int .i64 3]) (results_we Tryz.results35 _ _ (w.heap.size + 1 + 1) 34 #[.slice none 0 0, .slice none 0 0] _ rfl (by simp [Act.put]) (by simp [Act.put]) (setRow_heap _ _ _ _ _ _ HZ.out)) rfl ⟨none, 0, none, 0, by rw [HX.out, HT.out, HZZ.out]; rfl, by rw [HT.out]; exact World.ownsRow_nil _ _ _ _, by rw [HZZ.out]; exact World.ownsRow_nil _ _ _ _, below_setRow bY (by omega)⟩
  have HX := hide (show waC s h l z (trC l z t) = 0 by simp [waC, hwe, trC, hin, tuC, hwh])
  have HZZ := hide (show waZ s h l z (trC l z t) (turZ l z t) = turZ l z t by rw [waZ, if_pos HX.out])
  have HT := hide (show waT s h l z (trC l z t) (turT l t) = turT l t by rw [waT, if_pos HX.out])
  have m0 := NY.cell (i := 0) rfl
  have m1 := NY.cell (i := 1) rfl
  have HZ := hide (show Y.heap[w.heap.size + 1 + 1]? = some (.cells #[.slice none 0 0, .slice none 0 0] 34 (0, 0)) from RY)
  have owP := own_base (own_keepW oP (show w.heap.size + 1 + 1 < w2.heap.size by omega) #[.slice P1' l.length q1, .slice P2' z.length q2]) (show w.heap.size ≤ w2.heap.size by omega)
  have owC := own_base (own_keepW oC (show w.heap.size + 1 + 1 < w2.heap.size by omega) #[.slice P1' l.length q1, .slice P2' z.length q2]) (show w.heap.size ≤ w2.heap.size by omega)
  clear hwh hin hwe
  go_wp2_with (with_reducible refine wpList_store_row rfl 34 (.tmp 6) (.tmp 25) rfl (w.heap.size + 1 + 1) #[.slice P1' l.length q1, .slice P2' z.length q2] rfl rfl 34 _ HZ.out (infoWear _ _) (szWear _ _ _ _) (oneWear _ _ _ _ _ _) ?_)
  exact bodyPost_ret (v := .tuple #[.agg #[.slice P1' l.length q1, .slice P2' z.length q2], .int .i64 0]) (results_we Tryz.results35 _ _ (w.heap.size + 1 + 1) 34 #[.slice P1' l.length q1, .slice P2' z.length q2] _ rfl (by simp [Act.put]) (by simp [Act.put]) (setRow_heap _ _ _ _ _ _ HZ.out)) rfl ⟨P1', q1, P2', q2, by rw [HX.out, HT.out, HZZ.out, turT_len, turZ_len], by rw [HT.out, turT_len]; exact owP, by rw [HZZ.out, turZ_len]; exact owC, below_setRow bY (by omega)⟩
end Go.Proofs.YtcocfnjbgceidaaGreat
