import Derived.Test.YtcocfnjbgceidaaGreatGau
import Derived.Test.YtcocfnjbgceidaaGreatGav
namespace Go.Proofs.YtcocfnjbgceidaaGreat
open Go.RowKit Go.Maps
/-- what a deed leaves -/
def OnP (s : Int) (n base : Nat) (C : Option Addr) (q M N : Nat) (T : List Wp) (z : List Int) (c : Int) (g2 : Nat → Nat) (t2 : Nat → TypeId) (cs2 : Nat → Array Value) (w : World) (e : Ending) (w' : World) : Prop := e = .returned (.int .i64 c) ∧ (c = 0 → WSt s n base C q M N T z w') ∧ Bkf w' g2 t2 cs2 ∧ Below base w w'
theorem bk_kept {w w' : World} {g : Nat} {t : TypeId} {cs : Array Value} {b : Nat} (h : Bk w g t cs) (hg : w.grownBy w' (some b)) (hne : g ≠ b) : Bk w' g t cs := (hg.block g h.lt (fun e => hne (Option.some.inj e))).trans h
theorem map_ne_bk {w : World} {M m g : Nat} {D : DataW Unit} {k t : TypeId} {cs : Array Value} {R : Value → Option (DataW Unit × List MemPlace)} (h : w.ownsMap Tryz.prog k R M m D) (hB : Bk w g t cs) : g ≠ M := fun e => by
  subst e
  obtain ⟨es, clock, h1, _⟩ := h
  have h2 : w.heap[g]? = some (.cells cs t (0, 0)) := hB
  rw [h1] at h2
  cases h2
def plC (s : Int) (n : Nat) (a b : Int) : Int := if plW s n a b then 0 else 2
def plT (T : List Wp) (a b : Int) : List Wp := if hasP T a b then setP T a b 0 else insP T (a, b, 0)
theorem plT_vt {s : Int} {n : Nat} {T : List Wp} (h : VT s n T) {a b : Int} (hp : plW s n a b = true) : VT s n (plT T a b) := by
  unfold plT
  split
  · exact h.set hp (by omega)
  · rename_i h0
    exact h.ins hp (by omega) (by simpa using h0)
theorem readsW_pl {s : Int} {n : Nat} {T : List Wp} (h : VT s n T) (hs : s ≤ 96) (hn : n ≤ 24) {a b : Int} (hp : plW s n a b = true) {D : DataW Unit} (hD : ReadsW D T) (hM : IsMap D) : ReadsW (D.put (kP a b) (.lit (.int .i64 0))) (plT T a b) := by
  refine readsW_put hD hM ((plT_vt h hp).in8 hs hn) ?_ ?_ ?_ ?_
  · unfold plT
    split
    · rename_i h0
      exact mem_setP.2 (Or.inr ⟨rfl, h0⟩)
    · exact mem_insP.2 (Or.inl rfl)
  · intro x hx e
    unfold plT at hx
    split at hx
    · rcases mem_setP.1 hx with ⟨_, h1⟩ | ⟨rfl, _⟩
      · exact absurd e h1
      · rfl
    · rename_i h0
      rcases mem_insP.1 hx with rfl | h1
      · rfl
      · exact absurd e (hasP_not (by simpa using h0) x h1)
  · intro x hx e
    unfold plT at hx
    split at hx
    · rcases mem_setP.1 hx with ⟨h1, _⟩ | ⟨rfl, _⟩
      · exact h1
      · exact absurd ⟨rfl, rfl⟩ e
    · rcases mem_insP.1 hx with rfl | h1
      · exact absurd ⟨rfl, rfl⟩ e
      · exact h1
  · intro x hx e
    unfold plT
    split
    · exact mem_setP.2 (Or.inl ⟨hx, e⟩)
    · exact mem_insP.2 (Or.inr hx)
set_option maxRecDepth 20000 in
set_option maxHeartbeats 4000000 in
theorem placing_any (s : Int) (A : Option Addr) (n c M q N base : Nat) (C : Option Addr) (T : List Wp) (z : List Int) (a b : Int) (w : World) (hs : s ≤ 96) (hn : n ≤ 24) (hs' : -32768 ≤ s) (hSt : WSt s n base C q M N T z w) (hbase : base ≤ w.heap.size) (hN : N ≤ 1099511627776) (g2 : Nat → Nat) (t2 : Nat → TypeId) (cs2 : Nat → Array Value) (hB : Bkf w g2 t2 cs2) :
    Calls Tryz.prog 166 #[.agg #[.int .i64 a, .int .i64 b], .agg #[.int .i64 s, .slice A n c, .map (some M), .slice C n q]] w (OnP s n base C q M (N + 1) (plT T a b) (z) (plC s n a b) g2 t2 cs2 w) := by
  obtain ⟨X, hX⟩ : ∃ X, X = (w.alloc (.cells #[.int .i64 a, .int .i64 b] 175)).alloc (.cells #[.int .i64 s, .slice A n c, .map (some M), .slice C n q] 106) := ⟨_, rfl⟩
  have bX : Below w.heap.size w X := by rw [hX]; exact ((Below.refl _ _).alloc (Nat.le_refl _) _).alloc (by simp) _
  have R0 : Bk X w.heap.size 175 #[.int .i64 a, .int .i64 b] := by rw [hX]; exact (Bk.new _ _ _ rfl).old _
  have W0 : Bk X (w.heap.size + 1) 106 #[.int .i64 s, .slice A n c, .map (some M), .slice C n q] := by rw [hX]; exact Bk.new _ _ _ (by simp)
  have St0 := hSt.keep bX
  have B0 := hB.keep bX
  have hX2 := W0.lt
  go_enter Tryz.func166, Tryz.ntmps166
  go_upto_region 1 with fail
  rw [← hX]
  clear hX
  have r0 := R0.cell (i := 0) rfl
  have r1 := R0.cell (i := 1) rfl
  have w0 := W0.cell (i := 0) rfl
  have w1 := W0.cell (i := 1) rfl
  have KP := fun W => hasPlace_any s a b A n c W ⟨hs', by omega⟩ (by omega)
  cases hp : plW s n a b
  · rw [hp] at KP
    have HC := hide (show plC s n a b = 2 by simp [plC, hp])
    clear hp
    go_wp2_with fail
    refine (KP _).mono ?_
    rintro e w2 ⟨rfl, hb2⟩
    have b2 := step_below hb2 bX
    go_wp2
    go_ret
    exact ⟨by rw [HC.out]; rfl, fun h => absurd h (by rw [HC.out]; decide), B0.keep hb2, b2.mono hbase⟩
  · rw [hp] at KP
    have HC := hide (show plC s n a b = 0 by simp [plC, hp])
    have HP := hide hp
    clear hp
    go_wp2_with fail
    refine (KP _).mono ?_
    rintro e w2 ⟨rfl, hb2⟩
    have b2 := step_below hb2 bX
    have R2 := R0.keep hb2
    have W2 := W0.keep hb2
    have B2 := B0.keep hb2
    obtain ⟨D, hM, hD, hI, hO, hz, hv, hvz, hbM⟩ := St0.keep hb2
    have r0 := R2.cell (i := 0) rfl
    have r1 := R2.cell (i := 1) rfl
    have w2_ := W2.cell (i := 2) rfl
    have hi := plW_iff.1 HP.out
    have HV := hide hv
    have HVZ := hide hvz
    have HD := hide hD
    have hkey := key_place a b (by omega) (by omega)
    have hneB := fun i => map_ne_bk hM (B2 i)
    have hneO := fun g (h : (Value.slice C n q).ownBlock = some g) => map_ne_own hM hO g h
    clear hv hvz hD hi KP
    go_wp2_with (first | (at_mapUpdate; refine wpList_mapUpdate_own _ rfl _ _ _ 102 rfl 138 2 lawP Tryz.underlying102 _ M N D rfl hM (by unfold maxLen; omega) _ _ _ rfl rfl hkey _ [] (plainElem_int Tryz.underlying2 (by decide)) ?_; intro w3 hown3 hgrow3))
    go_ret
    refine ⟨by rw [HC.out]; rfl, fun _ => ⟨_, hown3, readsW_pl HV.out hs hn HP.out HD.out hI, hI.put _ _, hO.kept hgrow3 (Or.inr fun e => hneO _ e rfl), hz, plT_vt HV.out HP.out, HVZ.out, hbM⟩, B2.kept hgrow3 hneB, (b2.mono hbase).grown hgrow3 (Nat.le_trans hbase b2.size) (fun k hk => by cases hk; exact hbM)⟩
end Go.Proofs.YtcocfnjbgceidaaGreat
namespace Go.Proofs.YtcocfnjbgceidaaGreat
open Go.RowKit Go.Maps
def mvC (s : Int) (n : Nat) (T : List Wp) (a b c d : Int) : Int := if plW s n a b && plW s n c d then (if hasP T a b && !hasP T c d then 0 else 4) else 2
def mvT (T : List Wp) (a b c d : Int) : List Wp := insP (delP T a b) (c, d, turP T a b)
theorem has_reads {s : Int} {n : Nat} {T : List Wp} (h : VT s n T) (hs : s ≤ 96) (hn : n ≤ 24) {a b : Int} (hp : plW s n a b = true) {D : DataW Unit} (hD : ReadsW D T) : has D (kP a b) = hasP T a b := by
  have hi := plW_iff.1 hp
  rw [Bool.eq_iff_iff]
  constructor
  · intro h1
    obtain ⟨x, hx, e⟩ := hD.2.2 _ h1
    obtain ⟨x1, x2⟩ := h.in8 hs hn x hx
    obtain ⟨e1, e2⟩ := kP_inj (by omega) (by omega) (i64_of8 x1) (i64_of8 x2) e
    exact hasP_iff.2 ⟨x, hx, e1.symm, e2.symm⟩
  · intro h1
    obtain ⟨x, hx, e1, e2⟩ := hasP_iff.1 h1
    rw [← e1, ← e2]
    exact hD.1 x hx
theorem mvT_vt {s : Int} {n : Nat} {T : List Wp} (h : VT s n T) {a b c d : Int} (hp : plW s n c d = true) (ha : hasP T a b = true) (hc : hasP T c d = false) : VT s n (mvT T a b c d) := by
  refine (h.del a b).ins hp (h.2 _ (turP_mem ha)).2 ?_
  cases hh : hasP (delP T a b) c d
  · rfl
  · obtain ⟨x, hx, e⟩ := hasP_iff.1 hh
    exact absurd e (hasP_not hc x (mem_delP.1 hx).1)
theorem zero64w (w : World) : (zeroValue 2).run Tryz.prog w = .ok (.int .i64 0) w := by kernel_rfl
theorem readsW_mv {s : Int} {n : Nat} {T : List Wp} (h : VT s n T) (hs : s ≤ 96) (hn : n ≤ 24) {a b c d : Int} (hp1 : plW s n a b = true) (hp : plW s n c d = true) (ha : hasP T a b = true) (hc : hasP T c d = false) {D : DataW Unit} (hD : ReadsW D T) (hM : IsMap D) :
    ReadsW ((D.del (kP a b)).put (kP c d) (.lit (.int .i64 (turP T a b)))) (mvT T a b c d) := by
  have hi := plW_iff.1 hp1
  refine readsW_put (readsW_del hD hM (h.in8 hs hn) (by omega) (by omega)) (hM.del _) ((mvT_vt h hp ha hc).in8 hs hn) (mem_insP.2 (Or.inl rfl)) ?_ ?_ ?_
  · intro x hx e
    rcases mem_insP.1 hx with rfl | h1
    · rfl
    · exact absurd e (hasP_not hc x (mem_delP.1 h1).1)
  · intro x hx e
    rcases mem_insP.1 hx with rfl | h1
    · exact absurd ⟨rfl, rfl⟩ e
    · exact h1
  · exact fun x hx _ => mem_insP.2 (Or.inr hx)
set_option maxRecDepth 20000 in
set_option maxHeartbeats 4000000 in
theorem moving_any (s : Int) (A : Option Addr) (n c M q N base : Nat) (C : Option Addr) (T : List Wp) (z : List Int) (a b c2 d2 : Int) (w : World) (hs : s ≤ 96) (hn : n ≤ 24) (hs' : -32768 ≤ s) (hSt : WSt s n base C q M N T z w) (hbase : base ≤ w.heap.size) (hN : N ≤ 1099511627776) (g2 : Nat → Nat) (t2 : Nat → TypeId) (cs2 : Nat → Array Value) (hB : Bkf w g2 t2 cs2) :
    Calls Tryz.prog 167 #[.agg #[.int .i64 a, .int .i64 b, .int .i64 c2, .int .i64 d2], .agg #[.int .i64 s, .slice A n c, .map (some M), .slice C n q]] w (OnP s n base C q M (N + 1) (mvT T a b c2 d2) (z) (mvC s n T a b c2 d2) g2 t2 cs2 w) := by
  obtain ⟨X, hX⟩ : ∃ X, X = (w.alloc (.cells #[.int .i64 a, .int .i64 b, .int .i64 c2, .int .i64 d2] 177)).alloc (.cells #[.int .i64 s, .slice A n c, .map (some M), .slice C n q] 106) := ⟨_, rfl⟩
  have bX : Below w.heap.size w X := by rw [hX]; exact ((Below.refl _ _).alloc (Nat.le_refl _) _).alloc (by simp) _
  have R0 : Bk X w.heap.size 177 #[.int .i64 a, .int .i64 b, .int .i64 c2, .int .i64 d2] := by rw [hX]; exact (Bk.new _ _ _ rfl).old _
  have W0 : Bk X (w.heap.size + 1) 106 #[.int .i64 s, .slice A n c, .map (some M), .slice C n q] := by rw [hX]; exact Bk.new _ _ _ (by simp)
  have St0 := hSt.keep bX
  have B0 := hB.keep bX
  have hX2 := W0.lt
  go_enter Tryz.func167, Tryz.ntmps167
  go_upto_region 1 with fail
  rw [← hX]
  clear hX
  have r0 := R0.cell (i := 0) rfl
  have r1 := R0.cell (i := 1) rfl
  have w0 := W0.cell (i := 0) rfl
  have w1 := W0.cell (i := 1) rfl
  have KP := fun W => hasPlace_any s a b A n c W ⟨hs', by omega⟩ (by omega)
  have KQ := fun W => hasPlace_any s c2 d2 A n c W ⟨hs', by omega⟩ (by omega)
  cases hp : plW s n a b
  · rw [hp] at KP
    have HC := hide (show mvC s n T a b c2 d2 = 2 by simp [mvC, hp])
    clear hp
    go_wp2_with fail
    refine (KP _).mono ?_
    rintro e w2 ⟨rfl, hb2⟩
    have b2 := step_below hb2 bX
    go_wp2
    go_ret
    exact ⟨by rw [HC.out]; rfl, fun h => absurd h (by rw [HC.out]; decide), B0.keep hb2, b2.mono hbase⟩
  rw [hp] at KP
  go_wp2_with fail
  refine (KP _).mono ?_
  rintro e w2 ⟨rfl, hb2⟩
  have b2 := step_below hb2 bX
  have R2 := R0.keep hb2
  have W2 := W0.keep hb2
  have B2 := B0.keep hb2
  have St2 := St0.keep hb2
  clear r0 r1 w0 w1
  have r0 := R2.cell (i := 2) rfl
  have r1 := R2.cell (i := 3) rfl
  have w0 := W2.cell (i := 0) rfl
  have w1 := W2.cell (i := 1) rfl
  go_wp2_with fail
  refine (KQ _).mono ?_
  rintro e w3 ⟨rfl, hb3⟩
  have b3 := step_below hb3 b2
  have R3 := R2.keep hb3
  have W3 := W2.keep hb3
  have B3 := B2.keep hb3
  obtain ⟨D, hM, hD, hI, hO, hz, hv, hvz, hbM⟩ := St2.keep hb3
  clear r0 r1 w0 w1 KP KQ
  cases hq : plW s n c2 d2
  · have HC := hide (show mvC s n T a b c2 d2 = 2 by simp [mvC, hq])
    clear hq hp hD
    go_wp2
    go_ret
    exact ⟨by rw [HC.out]; rfl, fun h => absurd h (by rw [HC.out]; decide), B3, b3.mono hbase⟩
  have hi1 := plW_iff.1 hp
  have hi2 := plW_iff.1 hq
  have hk1 := key_place a b (by omega) (by omega)
  have hk2 := key_place c2 d2 (by omega) (by omega)
  obtain ⟨v1, ps1, look1, hv1⟩ := hM.look_ok lawP Tryz.underlying102 (zero64w _) (plainElem_int (H := Unit) Tryz.underlying2 (wf64 ⟨by decide, by decide⟩)) hk1
  obtain ⟨v2, ps2, look2, hv2⟩ := hM.look_ok lawP Tryz.underlying102 (zero64w _) (plainElem_int (H := Unit) Tryz.underlying2 (wf64 ⟨by decide, by decide⟩)) hk2
  rw [has_reads hv hs hn hp hD] at look1
  rw [has_reads hv hs hn hq hD] at look2
  have hneB := fun i => map_ne_bk hM (B3 i)
  have hneW := map_ne_bk hM W3
  have hneR := map_ne_bk hM R3
  have hneO := fun g (h : (Value.slice C n q).ownBlock = some g) => map_ne_own hM hO g h
  have hMlt := hM.lt
  have HV := hide hv
  have HVZ := hide hvz
  have HD := hide hD
  have HP := hide hp
  have HQ := hide hq
  have HV1 := hide hv1
  have r0 := R3.cell (i := 0) rfl
  have r1 := R3.cell (i := 1) rfl
  have r2 := R3.cell (i := 2) rfl
  have r3 := R3.cell (i := 3) rfl
  have w2_ := W3.cell (i := 2) rfl
  clear hv hvz hD hp hq hv1 hv2 hi1 hi2
  cases ha : hasP T a b
  · rw [ha] at look1
    have HC := hide (show mvC s n T a b c2 d2 = 4 by simp [mvC, HP.out, HQ.out, ha])
    clear ha
    go_wp2
    go_ret
    exact ⟨by rw [HC.out]; rfl, fun h => absurd h (by rw [HC.out]; decide), B3, b3.mono hbase⟩
  rw [ha] at look1
  cases hc : hasP T c2 d2
  rotate_left
  · rw [hc] at look2
    have HC := hide (show mvC s n T a b c2 d2 = 4 by simp [mvC, HP.out, HQ.out, hc])
    clear ha hc
    go_wp2
    go_ret
    exact ⟨by rw [HC.out]; rfl, fun h => absurd h (by rw [HC.out]; decide), B3, b3.mono hbase⟩
  rw [hc] at look2
  have HC := hide (show mvC s n T a b c2 d2 = 0 by simp [mvC, HP.out, HQ.out, hc, ha])
  have HA := hide ha
  have HCC := hide hc
  have hv1 := HV1.out
  rw [HD.out.2.1 _ (turP_mem ha)] at hv1
  obtain ⟨c0, rfl, hc0, hwf0⟩ := plainElem_int_inv Tryz.underlying2 hv1
  obtain ⟨rfl, _⟩ : c0 = turP T a b ∧ ps1 = [] := by simpa using hc0.symm
  clear ha hc hv1 hc0
  have hNm : N < maxLen := by unfold maxLen; omega
  have hvt := plainElem_int (H := Unit) Tryz.underlying2 hwf0
  generalize ht : turP T a b = tt at *
  go_wp2_with (first | (at_delete; refine wpList_delete_own _ rfl _ _ 102 138 rfl 2 lawP Tryz.underlying102 _ M N D rfl hM _ _ rfl hk1 ?_; intro w4 hM4 hturn4; have hg4 := hturn4.grown; have R4 := bk_kept R3 hg4 hneR; have W4 := bk_kept W3 hg4 hneW; have s2 := R4.cell (i := 2) rfl; have s3 := R4.cell (i := 3) rfl; have u2 := W4.cell (i := 2) rfl) | (at_mapUpdate; refine wpList_mapUpdate_own _ rfl _ _ _ 102 rfl 138 2 lawP Tryz.underlying102 _ M N (D.del (kP a b)) rfl hM4 hNm _ _ _ rfl rfl hk2 _ [] hvt ?_; intro w5 hM5 hg5))

  go_ret
  have hbs := Nat.le_trans hbase b3.size
  refine ⟨by rw [HC.out]; rfl, fun _ => ⟨_, hM5, by rw [← ht]; exact readsW_mv HV.out hs hn HP.out HQ.out HA.out HCC.out HD.out hI, (hI.del _).put _ _, (hO.kept hg4 (Or.inr fun e => hneO _ e rfl)).kept hg5 (Or.inr fun e => hneO _ e rfl), hz, mvT_vt HV.out HQ.out HA.out HCC.out, HVZ.out, hbM⟩, (B3.kept hg4 hneB).kept hg5 hneB, ((b3.mono hbase).grown hg4 hbs (fun k hk => by cases hk; exact hbM)).grown hg5 (Nat.le_trans hbs hg4.size) (fun k hk => by cases hk; exact hbM)⟩
end Go.Proofs.YtcocfnjbgceidaaGreat
