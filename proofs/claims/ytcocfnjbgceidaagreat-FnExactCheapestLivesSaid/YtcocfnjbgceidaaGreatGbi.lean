import Derived.Test.YtcocfnjbgceidaaGreatCpw
import Derived.Test.YtcocfnjbgceidaaGreatGbe
import Derived.Test.YtcocfnjbgceidaaGreatSmv
namespace Go.Proofs.YtcocfnjbgceidaaGreat
open Go.RowKit Go.Maps
set_option maxRecDepth 20000 in
set_option maxHeartbeats 8000000 in
theorem specNewHammer_any (s : Int) (A : Option Addr) (c : Nat) (h : List (Int × Int)) (P : Option Addr) (d : Nat) (l : List (Int × Int × Int)) (U : Option Addr) (v : Nat) (z : List Int) (x : Int) (w : World)
    (hA : HA w A h) (hn : h.length ≤ 1048576) (hwf : HWF h) (hs : -32768 ≤ s ∧ s ≤ 32767) (hL : WnA w P l) (hU : SZ w U z) (hl : l.length ≤ 1048576) (hz : z.length ≤ 1048576) (hlw : WnWF l) (hzw : ZWF z) :
    Calls Tryz.prog 12 #[.agg #[.int .i16 s, .slice A h.length c], .agg #[.slice P l.length d, .slice U z.length v], .int .i64 x] w (WeC (nhT s h l z x) (nhZ s h l z x) (nhC s h l z x) w) := by
  obtain ⟨X, hX⟩ : ∃ X, X = ((w.alloc (.cells #[.int .i16 s, .slice A h.length c] 39)).alloc (.cells #[.slice P l.length d, .slice U z.length v] 34)).alloc (.cells #[.slice none 0 0, .slice none 0 0] 34) := ⟨_, rfl⟩
  have hb0 : Below w.heap.size w X := by rw [hX]; exact (((Below.refl _ _).alloc (Nat.le_refl _) _).alloc (by simp) _).alloc (by simp; omega) _
  have P0 : Bk X w.heap.size 39 #[.int .i16 s, .slice A h.length c] := by rw [hX]; exact ((Bk.new _ _ _ rfl).old _).old _
  have P1 : Bk X (w.heap.size + 1) 34 #[.slice P l.length d, .slice U z.length v] := by rw [hX]; exact (Bk.new _ _ _ (by simp)).old _
  have P3 : Bk X (w.heap.size + 1 + 1) 34 #[.slice none 0 0, .slice none 0 0] := by rw [hX]; exact Bk.new _ _ _ (by simp)
  have hX3 := P3.lt
  have KW := l06Ok_any w.heap.size (w.heap.size + 1) s A c h P d l U v z X ⟨P0.cell (i := 0) rfl, P0.cell (i := 1) rfl⟩ (P1.cell (i := 0) rfl) (P1.cell (i := 1) rfl) (hA.below hb0) (hL.below hb0) (hU.below hb0) hn hl hz hwf hs hlw
  go_enter Tryz.func12, Tryz.ntmps12
  go_upto_region 1 with fail
  rw [← hX]
  clear hX
  go_wp2_with fail
  refine KW.mono ?_
  rintro e w2 ⟨rfl, hb2⟩
  have b2 := step_below hb2 hb0
  have Q0 := P0.keep hb2
  have Q1 := P1.keep hb2
  have hs2 := hb2.size
  have KI0 := fun W => l00In_any x 0 ((h.length : Int) - 1) W
  clear KW
  cases hwe : weB s h l z
  · skip
    have KI := KI0
    have HX := hide (show nhC s h l z x = 1 by simp [nhC, hwe])
    have HT := hide (show nhT s h l z x = [] by rw [nhT, if_neg (by rw [HX.out]; decide)])
    have HZZ := hide (show nhZ s h l z x = [] by rw [nhZ, if_neg (by rw [HX.out]; decide)])
    have HZ := hide (show w2.heap[w.heap.size + 1 + 1]? = some (.cells #[.slice none 0 0, .slice none 0 0] 34 (0, 0)) from P3.keep hb2)
    go_wp2_with (first | (go_at_call 46; with_reducible refine (KI _).mono ?_; rintro e w' ⟨rfl, rfl⟩) | (with_reducible refine wpList_build0 rfl rfl ?_) | (with_reducible refine wpList_store_row rfl 34 (.tmp 6) (.tmp 11) rfl (w.heap.size + 1 + 1) #[.slice none 0 0, .slice none 0 0] rfl rfl 34 _ HZ.out (infoWear _ _) (szWear _ _ _ _) (oneWear _ _ _ _ _ _) ?_))
    exact bodyPost_ret (v := .tuple #[.agg #[.slice none 0 0, .slice none 0 0], .int .i64 1]) (results_we Tryz.results12 _ _ (w.heap.size + 1 + 1) 34 #[.slice none 0 0, .slice none 0 0] _ rfl (by simp [Act.put]) (by simp [Act.put]) (setRow_heap _ _ _ _ _ _ HZ.out)) rfl ⟨none, 0, none, 0, by rw [HX.out, HT.out, HZZ.out]; rfl, by rw [HT.out]; exact World.ownsRow_nil _ _ _ _, by rw [HZZ.out]; exact World.ownsRow_nil _ _ _ _, below_setRow b2 (by omega)⟩
  have c1 := Q0.cell (i := 1) rfl
  cases hin : inB x 0 ((h.length : Int) - 1)
  · skip
    have KI : ∀ W, Calls Tryz.prog 46 #[.int .i64 x, .int .i64 0, .int .i64 ((h.length : Int) - 1)] W fun e w' => e = .returned (.bool false) ∧ W = w' := fun W => by rw [← hin]; exact l00In_any _ _ _ W
    clear KI0
    have HX := hide (show nhC s h l z x = 2 by simp [nhC, hwe, rnC, hin])
    have HT := hide (show nhT s h l z x = [] by rw [nhT, if_neg (by rw [HX.out]; decide)])
    have HZZ := hide (show nhZ s h l z x = [] by rw [nhZ, if_neg (by rw [HX.out]; decide)])
    have HZ := hide (show w2.heap[w.heap.size + 1 + 1]? = some (.cells #[.slice none 0 0, .slice none 0 0] 34 (0, 0)) from P3.keep hb2)
    go_wp2_with (first | (go_at_call 46; with_reducible refine (KI _).mono ?_; rintro e w' ⟨rfl, rfl⟩) | (with_reducible refine wpList_build0 rfl rfl ?_) | (with_reducible refine wpList_store_row rfl 34 (.tmp 6) (.tmp 19) rfl (w.heap.size + 1 + 1) #[.slice none 0 0, .slice none 0 0] rfl rfl 34 _ HZ.out (infoWear _ _) (szWear _ _ _ _) (oneWear _ _ _ _ _ _) ?_))
    exact bodyPost_ret (v := .tuple #[.agg #[.slice none 0 0, .slice none 0 0], .int .i64 2]) (results_we Tryz.results12 _ _ (w.heap.size + 1 + 1) 34 #[.slice none 0 0, .slice none 0 0] _ rfl (by simp [Act.put]) (by simp [Act.put]) (setRow_heap _ _ _ _ _ _ HZ.out)) rfl ⟨none, 0, none, 0, by rw [HX.out, HT.out, HZZ.out]; rfl, by rw [HT.out]; exact World.ownsRow_nil _ _ _ _, by rw [HZZ.out]; exact World.ownsRow_nil _ _ _ _, below_setRow b2 (by omega)⟩
  have KI : ∀ W, Calls Tryz.prog 46 #[.int .i64 x, .int .i64 0, .int .i64 ((h.length : Int) - 1)] W fun e w' => e = .returned (.bool true) ∧ W = w' := fun W => by rw [← hin]; exact l00In_any _ _ _ W
  have hzn : z.length = h.length := by
    simp only [weB, Bool.and_eq_true, decide_eq_true_eq] at hwe
    exact hwe.1.1.2
  obtain ⟨k, rfl⟩ : ∃ k : Nat, x = (k : Int) := ⟨x.toNat, by simp [inB] at hin; omega⟩
  have hk : k < z.length := by simp [inB] at hin; omega
  have HX := hide (show nhC s h l z (k : Int) = 0 by simp [nhC, hwe, rnC, hin])
  have HT := hide (show nhT s h l z (k : Int) = l by rw [nhT, if_pos HX.out])
  have HZZ := hide (show nhZ s h l z (k : Int) = z.set k 0 by rw [nhZ, if_pos HX.out, Int.toNat_natCast])
  have KC := l06Copy_any (w.heap.size + 1) P d l U v z w2 (Q1.cell (i := 0) rfl) (Q1.cell (i := 1) rfl) ((hL.below hb0).below hb2) ((hU.below hb0).below hb2) hl hz
  clear KI0 hwe hin hzn
  go_wp2_with (go_at_call 46; with_reducible refine (KI _).mono ?_; rintro e w' ⟨rfl, rfl⟩)
  clear KI c1
  refine KC.mono ?_
  rintro e w3 ⟨P1', q1, P2', q2, rfl, ownP, ownC, hb3⟩
  have b3 := step_below hb3 b2
  have R3 := (P3.keep hb2).keep hb3
  obtain ⟨Y, hY⟩ : ∃ Y, Y = w3.alloc (.cells #[.slice P1' l.length q1, .slice P2' z.length q2] 34) := ⟨_, rfl⟩
  have hbY : Below w3.heap.size w3 Y := by rw [hY]; exact (Below.refl _ _).alloc (Nat.le_refl _) _
  have bY := step_below hbY b3
  have RY := R3.keep hbY
  have oP := own_keep ownP hbY
  have oC := own_keep ownC hbY
  have NY : Bk Y w3.heap.size 34 #[.slice P1' l.length q1, .slice P2' z.length q2] := by rw [hY]; exact Bk.new _ _ _ rfl
  go_upto_region 6 with (first | (with_reducible refine wpList_store_newA rfl 34 (.tmp 8) (.tmp 20) rfl #[.slice P1' l.length q1, .slice P2' z.length q2] rfl rfl 34 _ (infoWear _ _) (szWear _ _ _ _) (oneWear _ _ _ _ _ _) ?_))
  rw [← hY]
  clear hY
  obtain ⟨gz, rfl⟩ : ∃ gz, P2' = some ⟨gz, 0, none⟩ := by
    rcases oC.2 with ⟨h', h0⟩ | ⟨g', cap, cur, h', hgb, _⟩
    · omega
    · simp at h'
      exact ⟨g', h'.1⟩
  have hgz := (oC.lt gz rfl)
  have hgz3 : w2.heap.size ≤ gz := hgz.1
  have hne1 : w3.heap.size ≠ gz := fun e => own_neW oC NY (by decide) (by rw [e]; rfl)
  have hneP : (Value.slice P1' l.length q1).ownBlock ≠ some gz := by
    rcases own_apart oP oC (by decide) with hh | hh
    · rw [hh]; simp
    · exact hh
  have n1 := NY.cell (i := 1) rfl
  have ck := (oC.cellAt k (by omega)).trans (icells_get z k hk)
  have fk := oC.frozenAt k
  have hki : (k : Int) < (z.length : Int) := by omega
  have oC2 := (oC.stored k (.int .i64 0)).1
  rw [icells_set] at oC2
  have oP2 := own_setW (o := k) oP hneP (.int .i64 0)
  have N2 := NY.other (k := k) hne1 (.int .i64 0)
  have R2 := RY.other (k := k) (show w.heap.size + 1 + 1 ≠ gz by omega) (.int .i64 0)
  have bZ := bY.setCell (p := ⟨gz, k, none⟩) (by dsimp only; omega) (.int .i64 0)
  obtain ⟨V, hV⟩ : ∃ V, V = Y.setCell ⟨gz, k, none⟩ (.int .i64 0) := ⟨_, rfl⟩
  have HC := hide oC2
  have HP := hide oP2
  clear oC2 oP2
  go_upto_region 7 with fail
  rw [← hV] at HC HP N2 R2 bZ ⊢
  clear hV
  have m0 := N2.cell (i := 0) rfl
  have m1 := N2.cell (i := 1) rfl
  have HZ := hide (show V.heap[w.heap.size + 1 + 1]? = some (.cells #[.slice none 0 0, .slice none 0 0] 34 (0, 0)) from R2)
  have owP := own_base (own_keepW HP.out (show w.heap.size + 1 + 1 < w2.heap.size by omega) #[.slice P1' l.length q1, .slice (some ⟨gz, 0, none⟩) z.length q2]) (show w.heap.size ≤ w2.heap.size by omega)
  have owC := own_base (own_keepW HC.out (show w.heap.size + 1 + 1 < w2.heap.size by omega) #[.slice P1' l.length q1, .slice (some ⟨gz, 0, none⟩) z.length q2]) (show w.heap.size ≤ w2.heap.size by omega)
  clear n1 ck fk
  go_wp2_with (with_reducible refine wpList_store_row rfl 34 (.tmp 6) (.tmp 25) rfl (w.heap.size + 1 + 1) #[.slice P1' l.length q1, .slice (some ⟨gz, 0, none⟩) z.length q2] rfl rfl 34 _ HZ.out (infoWear _ _) (szWear _ _ _ _) (oneWear _ _ _ _ _ _) ?_)
  exact bodyPost_ret (v := .tuple #[.agg #[.slice P1' l.length q1, .slice (some ⟨gz, 0, none⟩) z.length q2], .int .i64 0]) (results_we Tryz.results12 _ _ (w.heap.size + 1 + 1) 34 #[.slice P1' l.length q1, .slice (some ⟨gz, 0, none⟩) z.length q2] _ rfl (by simp [Act.put]) (by simp [Act.put]) (setRow_heap _ _ _ _ _ _ HZ.out)) rfl ⟨P1', q1, some ⟨gz, 0, none⟩, q2, by rw [HX.out, HT.out, HZZ.out, List.length_set], by rw [HT.out]; exact owP, by rw [HZZ.out, List.length_set]; exact owC, below_setRow bZ (by omega)⟩
end Go.Proofs.YtcocfnjbgceidaaGreat
namespace Go.Proofs.YtcocfnjbgceidaaGreat
open Go.RowKit Go.Maps
def AvWF (k a b c d : Int) : Prop := (-128 ≤ k ∧ k ≤ 127) ∧ (-9223372036854775808 ≤ a ∧ a ≤ 9223372036854775807) ∧ (-9223372036854775808 ≤ b ∧ b ≤ 9223372036854775807) ∧ (-9223372036854775808 ≤ c ∧ c ≤ 9223372036854775807) ∧ (-9223372036854775808 ≤ d ∧ d ≤ 9223372036854775807)
/-- what an act comes to -/
def acC (s : Int) (n : Nat) (T : List Wp) (z : List Int) (k a b c d : Int) : Int := if k = 0 then trC T z a else if k = 1 then rnC n a else if k = 2 then plC s n a b else if k = 3 then mvC s n T a b c d else 2
def acT (T : List Wp) (k a b c d : Int) : List Wp := if k = 0 then turT T a else if k = 1 then T else if k = 2 then plT T a b else if k = 3 then mvT T a b c d else []
def acZ (n : Nat) (T : List Wp) (z : List Int) (k a _b _c _d : Int) : List Int := if k = 0 then turZ T z a else if k = 1 then rnZ n z a else if k = 2 then z else if k = 3 then z else []
set_option maxRecDepth 20000 in
set_option maxHeartbeats 4000000 in
theorem do_none (s : Int) (A : Option Addr) (n c M q N base : Nat) (C : Option Addr) (T : List Wp) (z : List Int) (k a b c2 d2 : Int) (w : World) (hs : s ≤ 96) (hn : n ≤ 24) (hs' : -32768 ≤ s) (hSt : WSt s n base C q M N T z w) (hbase : base ≤ w.heap.size) (hN : N ≤ 1099511627776) (g2 : Nat → Nat) (t2 : Nat → TypeId) (cs2 : Nat → Array Value) (hB : Bkf w g2 t2 cs2) (hk : -128 ≤ k ∧ k ≤ 127) (hk2 : k < 0 ∨ 3 < k) :
    Calls Tryz.prog 63 #[.agg #[.int .i64 s, .slice A n c, .map (some M), .slice C n q], .agg #[.int .i8 k, .int .i64 a, .int .i64 b, .int .i64 c2, .int .i64 d2]] w (OnP s n base C q M (N + 1) [] [] 2 g2 t2 cs2 w) := by
  obtain ⟨X, hX⟩ : ∃ X, X = (w.alloc (.cells #[.int .i64 s, .slice A n c, .map (some M), .slice C n q] 106)).alloc (.cells #[.int .i8 k, .int .i64 a, .int .i64 b, .int .i64 c2, .int .i64 d2] 55) := ⟨_, rfl⟩
  have bX : Below w.heap.size w X := by rw [hX]; exact ((Below.refl _ _).alloc (Nat.le_refl _) _).alloc (by simp) _
  have A0 : Bk X (w.heap.size + 1) 55 #[.int .i8 k, .int .i64 a, .int .i64 b, .int .i64 c2, .int .i64 d2] := by rw [hX]; exact Bk.new _ _ _ (by simp)
  have B0 := hB.keep bX
  go_enter Tryz.func63, Tryz.ntmps63
  go_upto_region 1 with fail
  rw [← hX]
  clear hX
  have c0 := A0.cell (i := 0) rfl
  have c1 := A0.cell (i := 1) rfl
  have c2_ := A0.cell (i := 2) rfl
  have c3 := A0.cell (i := 3) rfl
  have c4 := A0.cell (i := 4) rfl
  go_wp2_with fail
  clear c0 c1 c2_ c3 c4
  refine (deed_none k a b c2 d2 _ hk hk2).mono ?_
  rintro e w2 ⟨rfl, hb2⟩
  have b2 := step_below hb2 bX
  go_wp2
  go_ret
  exact ⟨rfl, fun h => absurd h (by decide), B0.keep hb2, b2.mono hbase⟩
theorem do_any (s : Int) (A : Option Addr) (n c M q N base : Nat) (C : Option Addr) (T : List Wp) (z : List Int) (k a b c2 d2 : Int) (w : World) (hs : s ≤ 96) (hn : n ≤ 24) (hs' : -32768 ≤ s) (hSt : WSt s n base C q M N T z w) (hbase : base ≤ w.heap.size) (hN : N ≤ 1099511627776) (g2 : Nat → Nat) (t2 : Nat → TypeId) (cs2 : Nat → Array Value) (hB : Bkf w g2 t2 cs2) (ht2 : ∀ i, t2 i ≠ 2) (hk : -128 ≤ k ∧ k ≤ 127) :
    Calls Tryz.prog 63 #[.agg #[.int .i64 s, .slice A n c, .map (some M), .slice C n q], .agg #[.int .i8 k, .int .i64 a, .int .i64 b, .int .i64 c2, .int .i64 d2]] w (OnP s n base C q M (N + 1) (acT T k a b c2 d2) (acZ n T z k a b c2 d2) (acC s n T z k a b c2 d2) g2 t2 cs2 w) := by
  by_cases h0 : k = 0
  · subst h0
    exact do_turn s A n c M q N base C T z a b c2 d2 w hs hn hs' hSt hbase hN g2 t2 cs2 hB ht2
  by_cases h1 : k = 1
  · subst h1
    exact do_hammer s A n c M q N base C T z a b c2 d2 w hs hn hs' hSt hbase hN g2 t2 cs2 hB ht2
  by_cases h2 : k = 2
  · subst h2
    exact do_pin s A n c M q N base C T z a b c2 d2 w hs hn hs' hSt hbase hN g2 t2 cs2 hB
  by_cases h3 : k = 3
  · subst h3
    exact do_move s A n c M q N base C T z a b c2 d2 w hs hn hs' hSt hbase hN g2 t2 cs2 hB
  have e1 : acT T k a b c2 d2 = [] := by simp [acT, h0, h1, h2, h3]
  have e2 : acZ n T z k a b c2 d2 = [] := by simp [acZ, h0, h1, h2, h3]
  have e3 : acC s n T z k a b c2 d2 = 2 := by simp [acC, h0, h1, h2, h3]
  rw [e1, e2, e3]
  exact do_none s A n c M q N base C T z k a b c2 d2 w hs hn hs' hSt hbase hN g2 t2 cs2 hB hk (by omega)
theorem implDoWearAct_any (s : Int) (A : Option Addr) (c : Nat) (h : List (Int × Int)) (P : Option Addr) (d : Nat) (l : List Wp) (U : Option Addr) (v : Nat) (z : List Int) (k a b c2 d2 : Int) (w : World)
    (hA : HA w A h) (hn : h.length ≤ 1048576) (hwf : HWF h) (hs : -32768 ≤ s ∧ s ≤ 32767) (hL : WnA w P l) (hU : SZ w U z) (hl : l.length ≤ 1048576) (hz : z.length ≤ 1048576) (hlw : WnWF l) (hzw : ZWF z) (hv : AvWF k a b c2 d2) :
    Calls Tryz.prog 27 #[.agg #[.int .i16 s, .slice A h.length c], .agg #[.slice P l.length d, .slice U z.length v], .agg #[.int .i8 k, .int .i64 a, .int .i64 b, .int .i64 c2, .int .i64 d2]] w (WeC (waT s h l z (acC s h.length l z k a b c2 d2) (acT l k a b c2 d2)) (waZ s h l z (acC s h.length l z k a b c2 d2) (acZ h.length l z k a b c2 d2)) (waC s h l z (acC s h.length l z k a b c2 d2)) w) :=
  doWear_gen s A c h P d l U v z k a b c2 d2 _ _ _ w hA hn hwf hs hL hU hl hz hlw hzw (fun hw base M q C A' c' W hst hbase g2 t2 cs2 hB ht2 => do_any s A' h.length c' M q l.length base C l z k a b c2 d2 W (weB_fr hw).1 (weB_fr hw).2 hs.1 hst hbase (by omega) g2 t2 cs2 hB ht2 hv.1)
end Go.Proofs.YtcocfnjbgceidaaGreat
