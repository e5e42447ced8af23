import Derived.Test.YtcocfnjbgceidaaGreatGau
import Derived.Test.YtcocfnjbgceidaaGreatGam
namespace Go.Proofs.YtcocfnjbgceidaaGreat
open Go.RowKit Go.Maps
set_option maxRecDepth 20000 in
set_option maxHeartbeats 4000000 in
theorem deedHammer_any (x : Int) (w : World) :
    Calls Tryz.prog 87 #[.agg #[.int .i8 1, .int .i64 x, .int .i64 0, .int .i64 0, .int .i64 0]] w fun e w' => e = .returned (.iface 173 (.agg #[.int .i64 x])) ∧ Below w.heap.size w w' := by
  have hb0 : Below w.heap.size w (w.alloc (.cells #[.int .i8 1, .int .i64 x, .int .i64 0, .int .i64 0, .int .i64 0] 55)) := (Below.refl _ _).alloc (Nat.le_refl _) _
  go_enter Tryz.func87, Tryz.ntmps87
  go_wp2
  go_ret
  exact ⟨rfl, hb0⟩
/-- what a hammer's act leaves -/
def DoW (base : Nat) (C : Option Addr) (n q M m : Nat) (z : List Int) (D : DataW Unit) (c : Int) (g2 : Nat) (t2 : TypeId) (cs2 : Array Value) (w : World) (e : Ending) (w' : World) : Prop := e = .returned (.int .i64 c) ∧ w'.ownsRow base 2 1 (.slice C n q) n (icells z) ∧ w'.ownsMap Tryz.prog 138 (plainElem (H := Unit) Tryz.prog 2) M m D ∧ Bk w' g2 t2 cs2 ∧ Below base w w'
set_option maxRecDepth 20000 in
set_option maxHeartbeats 4000000 in
theorem doHammer_any (s x : Int) (A : Option Addr) (n c M q base : Nat) (C : Option Addr) (z : List Int) (m : Nat) (D : DataW Unit) (w : World) (hn : n ≤ 1048576) (hzn : z.length = n) (hown : w.ownsRow base 2 1 (.slice C z.length q) z.length (icells z)) (hbase : base ≤ w.heap.size)
    (hM : w.ownsMap Tryz.prog 138 (plainElem (H := Unit) Tryz.prog 2) M m D) (hne : ∀ g, C = some ⟨g, 0, none⟩ → g ≠ M) (g2 : Nat) (t2 : TypeId) (cs2 : Array Value) (hB : Bk w g2 t2 cs2) (ht2 : t2 ≠ 2) :
    Calls Tryz.prog 63 #[.agg #[.int .i64 s, .slice A n c, .map (some M), .slice C z.length q], .agg #[.int .i8 1, .int .i64 x, .int .i64 0, .int .i64 0, .int .i64 0]] w (DoW base C z.length q M m (rnZ n z x) D (rnC n x) g2 t2 cs2 w) := by
  obtain ⟨X, hX⟩ : ∃ X, X = (w.alloc (.cells #[.int .i64 s, .slice A n c, .map (some M), .slice C z.length q] 106)).alloc (.cells #[.int .i8 1, .int .i64 x, .int .i64 0, .int .i64 0, .int .i64 0] 55) := ⟨_, rfl⟩
  have bX : Below w.heap.size w X := by rw [hX]; exact ((Below.refl _ _).alloc (Nat.le_refl _) _).alloc (by simp) _
  have W0 : Bk X w.heap.size 106 #[.int .i64 s, .slice A n c, .map (some M), .slice C z.length q] := by rw [hX]; exact (Bk.new _ _ _ rfl).old _
  have A0 : Bk X (w.heap.size + 1) 55 #[.int .i8 1, .int .i64 x, .int .i64 0, .int .i64 0, .int .i64 0] := by rw [hX]; exact Bk.new _ _ _ (by simp)
  have own0 := own_keep hown bX
  have map0 := map_keep hM bX
  have HZN := hide hzn
  clear hzn
  obtain ⟨zn, hzn⟩ : ∃ k, k = z.length := ⟨_, rfl⟩
  go_enter Tryz.func63, Tryz.ntmps63
  go_upto_region 1 with fail
  rw [← hX]
  clear hX hzn
  have c0 := A0.cell (i := 0) rfl
  have c1 := A0.cell (i := 1) rfl
  have c2 := A0.cell (i := 2) rfl
  have c3 := A0.cell (i := 3) rfl
  have c4 := A0.cell (i := 4) rfl
  go_wp2_with fail
  clear c0 c1 c2 c3 c4
  refine (deedHammer_any x _).mono ?_
  rintro e w2 ⟨rfl, hb2⟩
  have b2 := step_below hb2 bX
  have W2 := W0.keep hb2
  have own2 := own_keep own0 hb2
  have map2 := map_keep map0 hb2
  have c0 := W2.cell (i := 0) rfl
  have c1 := W2.cell (i := 1) rfl
  have c2 := W2.cell (i := 2) rfl
  have c3 := W2.cell (i := 3) rfl
  have KR := renewing_any s x A n c M q base C z m D w2 hn HZN.out own2 (Nat.le_trans hbase b2.size) map2 hne _ _ _ ((hB.keep bX).keep hb2).fam (fun _ => ht2)
  have hm : ∀ (k : Nat) W, (method (k + 1) 173 (.agg #[.int .i64 x]) "loop.example/g01311/impl.on").run Tryz.prog W = .ok (165, .agg #[.int .i64 x]) W := fun k W => rfl
  go_wp2_with fail
  refine KR.mono ?_
  rintro e w3 ⟨rfl, own3, map3, B3, hb3⟩
  go_wp2
  go_ret
  exact ⟨rfl, own3, map3, B3 0, (b2.mono hbase).trans hb3⟩
end Go.Proofs.YtcocfnjbgceidaaGreat
namespace Go.Proofs.YtcocfnjbgceidaaGreat
open Go.RowKit Go.Maps
theorem sz_own {w : World} {base q : Nat} {C : Option Addr} {z : List Int} (h : w.ownsRow base 2 1 (.slice C z.length q) z.length (icells z)) : SZ w C z := by
  intro k hk
  rcases h.2 with ⟨h', h0⟩ | ⟨g, cap, cur, h', hgb, hg, _⟩
  · omega
  · simp only [Value.slice.injEq, true_and] at h'
    obtain ⟨rfl, rfl⟩ := h'
    refine ⟨g, 0, rfl, (Array.getElem?_eq_some_iff.1 hg).1, ?_⟩
    rw [Nat.zero_add]
    exact (h.cellAt k (by omega)).trans (icells_get z k hk)
theorem ascW_of {l : List (Int × Int × Int)} (h : ascW l = true) : AscW l l.length := by
  simp only [ascW, wnAsc, List.all_eq_true, List.mem_range] at h
  intro j hj hj0
  have := h j hj
  simpa [Nat.pos_iff_ne_zero.1 hj0, Nat.ne_of_gt hj0] using this
theorem map_ne_own {w : World} {M n m base size : Nat} {D : DataW Unit} {k : TypeId} {R : Value → Option (DataW Unit × List MemPlace)} (h : w.ownsMap Tryz.prog k R M m D) {e : TypeId} {v : Value} {xs : List Value} (ho : w.ownsRow base e size v n xs) : ∀ g, v.ownBlock = some g → g ≠ M := by
  intro g hv e1
  subst e1
  obtain ⟨es, clock, h1, _⟩ := h
  rcases ho.2 with ⟨rfl, _⟩ | ⟨g', cap, cur, rfl, _, hg, _⟩
  · cases hv
  · have e2 : g' = g := by simpa [Value.ownBlock] using hv
    subst e2
    rw [hg] at h1
    cases h1
theorem results_we {fn : Func} {p r : Tmp} (h : fn.results = #[.cell p 34, .tmp r]) (tmps : Array Value) (w : World) (g : Nat) (t : TypeId) (cs : Array Value) (c : Value) (hi : cs.size = 2)
    (hp : tmps.getD p undef = .pointer (some ⟨g, 0, none⟩)) (hr : tmps.getD r undef = c) (hg : w.heap[g]? = some (.cells cs t (0, 0))) :
    (results fn tmps).run Tryz.prog w = .ok (.tuple #[.agg cs, c]) w := by
  have hp' : tmps[p]?.getD undef = .pointer (some ⟨g, 0, none⟩) := by simpa using hp
  have hr' : tmps[r]?.getD undef = c := by simpa using hr
  simp [results, h, hp', hr', asAddr, run_loadVar_row w g t 34 cs (0, 0) _ hg Tryz.underlying34 rfl (by rw [hi]; exact infoWe2)]
/-- a wear of the call's own and a code -/
def WeC (T : List (Int × Int × Int)) (zs : List Int) (k : Int) (w : World) (e : Ending) (w' : World) : Prop := ∃ (P1 : Option Addr) (q1 : Nat) (P2 : Option Addr) (q2 : Nat), e = .returned (.tuple #[.agg #[.slice P1 T.length q1, .slice P2 zs.length q2], .int .i64 k]) ∧ w'.ownsRow w.heap.size 97 3 (.slice P1 T.length q1) T.length (wnC T) ∧ w'.ownsRow w.heap.size 2 1 (.slice P2 zs.length q2) zs.length (icells zs) ∧ Below w.heap.size w w'
end Go.Proofs.YtcocfnjbgceidaaGreat
namespace Go.Proofs.YtcocfnjbgceidaaGreat
open Go.RowKit Go.Maps
def nhC (s : Int) (h : List (Int × Int)) (l : List (Int × Int × Int)) (z : List Int) (x : Int) : Int := if weB s h l z then rnC h.length x else 1
def nhT (s : Int) (h : List (Int × Int)) (l : List (Int × Int × Int)) (z : List Int) (x : Int) : List (Int × Int × Int) := if nhC s h l z x = 0 then l else []
def nhZ (s : Int) (h : List (Int × Int)) (l : List (Int × Int × Int)) (z : List Int) (x : Int) : List Int := if nhC s h l z x = 0 then z.set x.toNat 0 else []
set_option maxRecDepth 20000 in
set_option maxHeartbeats 8000000 in
theorem doWearHammer_any (s x : Int) (A : Option Addr) (c : Nat) (h : List (Int × Int)) (P : Option Addr) (d : Nat) (l : List (Int × Int × Int)) (U : Option Addr) (v : Nat) (z : List Int) (w : World)
    (hA : HA w A h) (hn : h.length ≤ 1048576) (hwf : HWF h) (hs : -32768 ≤ s ∧ s ≤ 32767) (hL : WnA w P l) (hU : SZ w U z) (hl : l.length ≤ 1048576) (hz : z.length ≤ 1048576) (hlw : WnWF l) (hzw : ZWF z) :
    Calls Tryz.prog 27 #[.agg #[.int .i16 s, .slice A h.length c], .agg #[.slice P l.length d, .slice U z.length v], .agg #[.int .i8 1, .int .i64 x, .int .i64 0, .int .i64 0, .int .i64 0]] w (WeC (nhT s h l z x) (nhZ s h l z x) (nhC s h l z x) w) := by
  obtain ⟨X, hX⟩ : ∃ X, X = (((w.alloc (.cells #[.int .i16 s, .slice A h.length c] 39)).alloc (.cells #[.slice P l.length d, .slice U z.length v] 34)).alloc (.cells #[.int .i8 1, .int .i64 x, .int .i64 0, .int .i64 0, .int .i64 0] 55)).alloc (.cells #[.slice none 0 0, .slice none 0 0] 34) := ⟨_, rfl⟩
  have hb0 : Below w.heap.size w X := by rw [hX]; exact ((((Below.refl _ _).alloc (Nat.le_refl _) _).alloc (by simp) _).alloc (by simp; omega) _).alloc (by simp; omega) _
  have P0 : Bk X w.heap.size 39 #[.int .i16 s, .slice A h.length c] := by rw [hX]; exact (((Bk.new _ _ _ rfl).old _).old _).old _
  have P1 : Bk X (w.heap.size + 1) 34 #[.slice P l.length d, .slice U z.length v] := by rw [hX]; exact ((Bk.new _ _ _ (by simp)).old _).old _
  have P2 : Bk X (w.heap.size + 1 + 1) 55 #[.int .i8 1, .int .i64 x, .int .i64 0, .int .i64 0, .int .i64 0] := by rw [hX]; exact (Bk.new _ _ _ (by simp)).old _
  have P3 : Bk X (w.heap.size + 1 + 1 + 1) 34 #[.slice none 0 0, .slice none 0 0] := by rw [hX]; exact Bk.new _ _ _ (by simp)
  have hX3 := P3.lt
  have KW := wearingFor_any s A c h P d l U v z (.slice none 0 0) true X (hA.below hb0) hn hwf hs (hL.below hb0) (hU.below hb0) hl hz hlw hzw (fun W _ => areLives_nil W)
  rw [Bool.and_true] at KW
  go_enter Tryz.func27, Tryz.ntmps27
  go_upto_region 1 with fail
  rw [← hX]
  clear hX
  have c0 := P0.cell (i := 0) rfl
  have c1 := P0.cell (i := 1) rfl
  have c2 := P1.cell (i := 0) rfl
  have c3 := P1.cell (i := 1) rfl
  go_wp2_with fail
  refine KW.mono ?_
  rintro e w2 ⟨he, hb2⟩
  have b2 := step_below hb2 hb0
  have Q2 := P2.keep hb2
  have Q3 := P3.keep hb2
  have hs2 := hb2.size
  clear KW c0 c1 c2 c3
  rcases he with ⟨h1, rfl⟩ | ⟨h1, M, C, q, rfl, hMw, own, ownz⟩
  · have HX := hide (show nhC s h l z x = 1 by simp [nhC, h1])
    have HT := hide (show nhT s h l z x = [] by simp [nhT, nhC, h1])
    have HZZ := hide (show nhZ s h l z x = [] by simp [nhZ, nhC, h1])
    obtain ⟨Y, hY⟩ : ∃ Y, Y = w2.alloc (.cells #[.int .i64 0, .slice none 0 0, .map none, .slice none 0 0] 106) := ⟨_, rfl⟩
    have hbY : Below w2.heap.size w2 Y := by rw [hY]; exact (Below.refl _ _).alloc (Nat.le_refl _) _
    have bY := step_below hbY b2
    have HZ := hide (show Y.heap[w.heap.size + 1 + 1 + 1]? = some (.cells #[.slice none 0 0, .slice none 0 0] 34 (0, 0)) from Q3.keep hbY)
    clear h1
    go_upto_region 2 with fail
    rw [← hY]
    clear hY
    go_wp2_with (first | (with_reducible refine wpList_build0 rfl rfl ?_) | (with_reducible refine wpList_store_row rfl 34 (.tmp 6) (.tmp 19) rfl (w.heap.size + 1 + 1 + 1) #[.slice none 0 0, .slice none 0 0] rfl rfl 34 _ HZ.out (infoWear _ _) (szWear _ _ _ _) (oneWear _ _ _ _ _ _) ?_))
    exact bodyPost_ret (v := .tuple #[.agg #[.slice none 0 0, .slice none 0 0], .int .i64 1]) (results_we Tryz.results27 _ _ (w.heap.size + 1 + 1 + 1) 34 #[.slice none 0 0, .slice none 0 0] _ rfl (by simp [Act.put]) (by simp [Act.put]) (setRow_heap _ _ _ _ _ _ HZ.out)) rfl ⟨none, 0, none, 0, by rw [HX.out, HT.out, HZZ.out]; rfl, by rw [HT.out]; exact World.ownsRow_nil _ _ _ _, by rw [HZZ.out]; exact World.ownsRow_nil _ _ _ _, below_setRow bY (by omega)⟩
  · obtain ⟨Y, hY⟩ : ∃ Y, Y = w2.alloc (.cells #[.int .i64 s, .slice A h.length c, .map (some M), .slice C z.length q] 106) := ⟨_, rfl⟩
    have hbY : Below w2.heap.size w2 Y := by rw [hY]; exact (Below.refl _ _).alloc (Nat.le_refl _) _
    have bY := step_below hbY b2
    have G0 : Bk Y w2.heap.size 106 #[.int .i64 s, .slice A h.length c, .map (some M), .slice C z.length q] := by rw [hY]; exact Bk.new _ _ _ rfl
    go_upto_region 2 with fail
    rw [← hY]
    clear hY
    have hzn : z.length = h.length := by
      simp only [weB, Bool.and_eq_true, decide_eq_true_eq] at h1
      exact h1.1.1.2
    have hpb : pinsB s h.length l = true := by
      simp only [weB, Bool.and_eq_true] at h1
      exact h1.1.2
    rw [pinsB_split, Bool.and_eq_true] at hpb
    have hasc := ascW_of hpb.1
    have HWE := hide h1
    have HZN := hide hzn
    have own4 := map_keep own hbY
    have ownz4 := own_keep ownz hbY
    have hXY : X.heap.size ≤ Y.heap.size := Nat.le_trans hs2 hbY.size
    have hneM : ∀ g, C = some ⟨g, 0, none⟩ → g ≠ M := fun g hg => map_ne_own own4 ownz4 g (by rw [hg]; rfl)
    have KD := doHammer_any s x A h.length c M q X.heap.size C z l.length (mapW l l.length) Y hn hzn ownz4 hXY own4 hneM w2.heap.size 106 #[.int .i64 s, .slice A h.length c, .map (some M), .slice C z.length q] G0 (by decide)
    have Q4 := (Q2.keep hbY)
    have Z4 := (Q3.keep hbY)
    have e0 := G0.cell (i := 0) rfl
    have e1 := G0.cell (i := 1) rfl
    have e2 := G0.cell (i := 2) rfl
    have e3 := G0.cell (i := 3) rfl
    have a0 := Q4.cell (i := 0) rfl
    have a1 := Q4.cell (i := 1) rfl
    have a2 := Q4.cell (i := 2) rfl
    have a3 := Q4.cell (i := 3) rfl
    have a4 := Q4.cell (i := 4) rfl
    clear h1 hzn hpb own ownz
    go_wp2_with fail
    refine KD.mono ?_
    rintro e w5 ⟨rfl, own5, map5, G5, hb5⟩
    have b5 : Below w.heap.size w w5 := bY.trans (hb5.mono (by have := hb0.size; omega))
    have Z5 : Bk w5 (w.heap.size + 1 + 1 + 1) 34 #[.slice none 0 0, .slice none 0 0] := (hb5.block _ (by omega)).trans Z4
    clear e0 e1 e2 e3 a0 a1 a2 a3 a4 KD
    cases hin : inB x 0 ((h.length : Int) - 1)
    · have hrc : rnC h.length x = 2 := by simp [rnC, hin]
      have HX := hide (show nhC s h l z x = 2 by simp [nhC, HWE.out, hrc])
      have HT := hide (show nhT s h l z x = [] by simp [nhT, nhC, HWE.out, hrc])
      have HZZ := hide (show nhZ s h l z x = [] by simp [nhZ, nhC, HWE.out, hrc])
      have HZ := hide (show w5.heap[w.heap.size + 1 + 1 + 1]? = some (.cells #[.slice none 0 0, .slice none 0 0] 34 (0, 0)) from Z5)
      rw [hrc]
      clear hrc hin Z5 Z4 Q3 P3
      go_wp2_with (first | (with_reducible refine wpList_build0 rfl rfl ?_) | (with_reducible refine wpList_store_row rfl 34 (.tmp 6) (.tmp 25) rfl (w.heap.size + 1 + 1 + 1) #[.slice none 0 0, .slice none 0 0] rfl rfl 34 _ HZ.out (infoWear _ _) (szWear _ _ _ _) (oneWear _ _ _ _ _ _) ?_))
      exact bodyPost_ret (v := .tuple #[.agg #[.slice none 0 0, .slice none 0 0], .int .i64 2]) (results_we Tryz.results27 _ _ (w.heap.size + 1 + 1 + 1) 34 #[.slice none 0 0, .slice none 0 0] _ rfl (by simp [Act.put]) (by simp [Act.put]) (setRow_heap _ _ _ _ _ _ HZ.out)) rfl ⟨none, 0, none, 0, by rw [HX.out, HT.out, HZZ.out]; rfl, by rw [HT.out]; exact World.ownsRow_nil _ _ _ _, by rw [HZZ.out]; exact World.ownsRow_nil _ _ _ _, below_setRow b5 (by omega)⟩
    · have hrc : rnC h.length x = 0 := by simp [rnC, hin]
      have hrz : rnZ h.length z x = z.set x.toNat 0 := by simp [rnZ, hin]
      have HX := hide (show nhC s h l z x = 0 by simp [nhC, HWE.out, hrc])
      have HT := hide (show nhT s h l z x = l by simp [nhT, nhC, HWE.out, hrc])
      have HZZ := hide (show nhZ s h l z x = z.set x.toNat 0 by simp [nhZ, nhC, HWE.out, hrc])
      rw [hrz] at own5
      rw [hrc]
      have hzl : (z.set x.toNat 0).length = z.length := by simp
      have KM := madeWear_any M C (z.set x.toNat 0) q l.length (mapW l l.length) l w5 map5 (readsW_map hlw hasc) (Nat.le_trans map5.size_le (by omega)) (ascL_of hasc) (in8_of hlw) (SZ.of_own (c := q) (by rw [hzl]; exact own5)) (by rw [hzl]; exact hz)
      rw [hzl] at KM
      have e2 := G5.cell (i := 2) rfl
      have e3 := G5.cell (i := 3) rfl
      have hs5 : X.heap.size ≤ w5.heap.size := Nat.le_trans hXY (by have := hb5.size; omega)
      clear hrc hrz hzl hin Z4 Q3 P3 own5 map5
      go_wp2_with fail
      refine KM.mono ?_
      rintro e w6 ⟨P1, q1, P2, q2, rfl, ownP, ownC, hb6⟩
      have b6 := step_below hb6 b5
      rw [List.length_set] at ownC
      try simp only [List.length_set]
      have HZ := hide (show w6.heap[w.heap.size + 1 + 1 + 1]? = some (.cells #[.slice none 0 0, .slice none 0 0] 34 (0, 0)) from Z5.keep hb6)
      have owP := own_base (own_keepW ownP (show w.heap.size + 1 + 1 + 1 < w5.heap.size by omega) #[.slice P1 l.length q1, .slice P2 z.length q2]) (show w.heap.size ≤ w5.heap.size by omega)
      have owC := own_base (own_keepW ownC (show w.heap.size + 1 + 1 + 1 < w5.heap.size by omega) #[.slice P1 l.length q1, .slice P2 z.length q2]) (show w.heap.size ≤ w5.heap.size by omega)
      clear Z5 e2 e3 KM
      go_wp2_with (with_reducible refine wpList_store_row rfl 34 (.tmp 6) (.tmp 29) rfl (w.heap.size + 1 + 1 + 1) #[.slice P1 l.length q1, .slice P2 z.length q2] rfl rfl 34 _ HZ.out (infoWear _ _) (szWear _ _ _ _) (oneWear _ _ _ _ _ _) ?_)
      exact bodyPost_ret (v := .tuple #[.agg #[.slice P1 l.length q1, .slice P2 z.length q2], .int .i64 0]) (results_we Tryz.results27 _ _ (w.heap.size + 1 + 1 + 1) 34 #[.slice P1 l.length q1, .slice P2 z.length q2] _ rfl (by simp [Act.put]) (by simp [Act.put]) (setRow_heap _ _ _ _ _ _ HZ.out)) rfl ⟨P1, q1, P2, q2, by rw [HX.out, HT.out, HZZ.out, List.length_set], by rw [HT.out]; exact owP, by rw [HZZ.out, List.length_set]; exact owC, below_setRow b6 (by omega)⟩
end Go.Proofs.YtcocfnjbgceidaaGreat
namespace Go.Proofs.YtcocfnjbgceidaaGreat
open Go.RowKit Go.Maps
set_option maxRecDepth 20000 in
set_option maxHeartbeats 8000000 in
theorem implNewHammer_any (s : Int) (A : Option Addr) (c : Nat) (h : List (Int × Int)) (P : Option Addr) (d : Nat) (l : List (Int × Int × Int)) (U : Option Addr) (v : Nat) (z : List Int) (x : Int) (w : World)
    (hA : HA w A h) (hn : h.length ≤ 1048576) (hwf : HWF h) (hs : -32768 ≤ s ∧ s ≤ 32767) (hL : WnA w P l) (hU : SZ w U z) (hl : l.length ≤ 1048576) (hz : z.length ≤ 1048576) (hlw : WnWF l) (hzw : ZWF z) :
    Calls Tryz.prog 15 #[.agg #[.int .i16 s, .slice A h.length c], .agg #[.slice P l.length d, .slice U z.length v], .int .i64 x] w (WeC (nhT s h l z x) (nhZ s h l z x) (nhC s h l z x) w) := by
  obtain ⟨X, hX⟩ : ∃ X, X = ((w.alloc (.cells #[.int .i16 s, .slice A h.length c] 39)).alloc (.cells #[.slice P l.length d, .slice U z.length v] 34)).alloc (.cells #[.slice none 0 0, .slice none 0 0] 34) := ⟨_, rfl⟩
  have hb0 : Below w.heap.size w X := by rw [hX]; exact (((Below.refl _ _).alloc (Nat.le_refl _) _).alloc (by simp) _).alloc (by simp; omega) _
  have P0 : Bk X w.heap.size 39 #[.int .i16 s, .slice A h.length c] := by rw [hX]; exact ((Bk.new _ _ _ rfl).old _).old _
  have P1 : Bk X (w.heap.size + 1) 34 #[.slice P l.length d, .slice U z.length v] := by rw [hX]; exact (Bk.new _ _ _ (by simp)).old _
  have P3 : Bk X (w.heap.size + 1 + 1) 34 #[.slice none 0 0, .slice none 0 0] := by rw [hX]; exact Bk.new _ _ _ (by simp)
  have hX3 := P3.lt
  have KW := doWearHammer_any s x A c h P d l U v z X (hA.below hb0) hn hwf hs (hL.below hb0) (hU.below hb0) hl hz hlw hzw
  generalize nhC s h l z x = rc at *
  generalize nhT s h l z x = rT at *
  generalize nhZ s h l z x = rz at *
  go_enter Tryz.func15, Tryz.ntmps15
  go_upto_region 1 with fail
  rw [← hX]
  clear hX
  have c0 := P0.cell (i := 0) rfl
  have c1 := P0.cell (i := 1) rfl
  have c2 := P1.cell (i := 0) rfl
  have c3 := P1.cell (i := 1) rfl
  go_wp2_with fail
  refine KW.mono ?_
  rintro e w6 ⟨Q1, q1, Q2, q2, rfl, ownP, ownC, hb6⟩
  have b6 := step_below hb6 hb0
  have HZ := hide (show w6.heap[w.heap.size + 1 + 1]? = some (.cells #[.slice none 0 0, .slice none 0 0] 34 (0, 0)) from P3.keep hb6)
  have owP := own_base (own_keepW ownP (show w.heap.size + 1 + 1 < X.heap.size by omega) #[.slice Q1 rT.length q1, .slice Q2 rz.length q2]) (show w.heap.size ≤ X.heap.size by omega)
  have owC := own_base (own_keepW ownC (show w.heap.size + 1 + 1 < X.heap.size by omega) #[.slice Q1 rT.length q1, .slice Q2 rz.length q2]) (show w.heap.size ≤ X.heap.size by omega)
  clear c0 c1 c2 c3 KW
  go_wp2_with (with_reducible refine wpList_store_row rfl 34 (.tmp 6) (.tmp 13) rfl (w.heap.size + 1 + 1) #[.slice Q1 rT.length q1, .slice Q2 rz.length q2] rfl rfl 34 _ HZ.out (infoWear _ _) (szWear _ _ _ _) (oneWear _ _ _ _ _ _) ?_)
  exact bodyPost_ret (v := .tuple #[.agg #[.slice Q1 rT.length q1, .slice Q2 rz.length q2], .int .i64 rc]) (results_we Tryz.results15 _ _ (w.heap.size + 1 + 1) 34 #[.slice Q1 rT.length q1, .slice Q2 rz.length q2] _ rfl (by simp [Act.put]) (by simp [Act.put]) (setRow_heap _ _ _ _ _ _ HZ.out)) rfl ⟨Q1, q1, Q2, q2, rfl, owP, owC, below_setRow b6 (by omega)⟩
end Go.Proofs.YtcocfnjbgceidaaGreat
