import Derived.Test.YtcocfnjbgceidaaGreatGav
import Derived.Test.YtcocfnjbgceidaaGreatGat
import Derived.Test.YtcocfnjbgceidaaGreatGai
namespace Go.Proofs.YtcocfnjbgceidaaGreat
open Go.RowKit Go.Maps
def nhC (s : Int) (h : List (Int × Int)) (l : List (Int × Int × Int)) (z : List Int) (x : Int) : Int := if weB s h l z then rnC h.length x else 1
def nhT (s : Int) (h : List (Int × Int)) (l : List (Int × Int × Int)) (z : List Int) (x : Int) : List (Int × Int × Int) := if nhC s h l z x = 0 then l else []
def nhZ (s : Int) (h : List (Int × Int)) (l : List (Int × Int × Int)) (z : List Int) (x : Int) : List Int := if nhC s h l z x = 0 then z.set x.toNat 0 else []
set_option maxRecDepth 20000 in
set_option maxHeartbeats 8000000 in
theorem doWearHammer_any (s x : Int) (A : Option Addr) (c : Nat) (h : List (Int × Int)) (P : Option Addr) (d : Nat) (l : List (Int × Int × Int)) (U : Option Addr) (v : Nat) (z : List Int) (w : World)
    (hA : HA w A h) (hn : h.length ≤ 1048576) (hwf : HWF h) (hs : -32768 ≤ s ∧ s ≤ 32767) (hL : WnA w P l) (hU : SZ w U z) (hl : l.length ≤ 1048576) (hz : z.length ≤ 1048576) (hlw : WnWF l) (hzw : ZWF z) :
    Calls Tryz.prog 27 #[.agg #[.int .i16 s, .slice A h.length c], .agg #[.slice P l.length d, .slice U z.length v], .agg #[.int .i8 1, .int .i64 x, .int .i64 0, .int .i64 0, .int .i64 0]] w (WeC (nhT s h l z x) (nhZ s h l z x) (nhC s h l z x) w) := by
  obtain ⟨X, hX⟩ : ∃ X, X = (((w.alloc (.cells #[.int .i16 s, .slice A h.length c] 39)).alloc (.cells #[.slice P l.length d, .slice U z.length v] 34)).alloc (.cells #[.int .i8 1, .int .i64 x, .int .i64 0, .int .i64 0, .int .i64 0] 55)).alloc (.cells #[.slice none 0 0, .slice none 0 0] 34) := ⟨_, rfl⟩
  have hb0 : Below w.heap.size w X := by rw [hX]; exact ((((Below.refl _ _).alloc (Nat.le_refl _) _).alloc (by simp) _).alloc (by simp; omega) _).alloc (by simp; omega) _
  have P0 : Bk X w.heap.size 39 #[.int .i16 s, .slice A h.length c] := by rw [hX]; exact (((Bk.new _ _ _ rfl).old _).old _).old _
  have P1 : Bk X (w.heap.size + 1) 34 #[.slice P l.length d, .slice U z.length v] := by rw [hX]; exact ((Bk.new _ _ _ (by simp)).old _).old _
  have P2 : Bk X (w.heap.size + 1 + 1) 55 #[.int .i8 1, .int .i64 x, .int .i64 0, .int .i64 0, .int .i64 0] := by rw [hX]; exact (Bk.new _ _ _ (by simp)).old _
  have P3 : Bk X (w.heap.size + 1 + 1 + 1) 34 #[.slice none 0 0, .slice none 0 0] := by rw [hX]; exact Bk.new _ _ _ (by simp)
  have hX3 := P3.lt
  have KW := wearingFor_any s A c h P d l U v z (.slice none 0 0) true X (hA.below hb0) hn hwf hs (hL.below hb0) (hU.below hb0) hl hz hlw hzw (fun W _ => areLives_nil W)
  rw [Bool.and_true] at KW
  go_enter Tryz.func27, Tryz.ntmps27
  go_upto_region 1 with fail
  rw [← hX]
  clear hX
  have c0 := P0.cell (i := 0) rfl
  have c1 := P0.cell (i := 1) rfl
  have c2 := P1.cell (i := 0) rfl
  have c3 := P1.cell (i := 1) rfl
  go_wp2_with fail
  refine KW.mono ?_
  rintro e w2 ⟨he, hb2⟩
  have b2 := step_below hb2 hb0
  have Q2 := P2.keep hb2
  have Q3 := P3.keep hb2
  have hs2 := hb2.size
  clear KW c0 c1 c2 c3
  rcases he with ⟨h1, rfl⟩ | ⟨h1, M, C, q, rfl, hMw, own, ownz⟩
  · have HX := hide (show nhC s h l z x = 1 by simp [nhC, h1])
    have HT := hide (show nhT s h l z x = [] by simp [nhT, nhC, h1])
    have HZZ := hide (show nhZ s h l z x = [] by simp [nhZ, nhC, h1])
    obtain ⟨Y, hY⟩ : ∃ Y, Y = w2.alloc (.cells #[.int .i64 0, .slice none 0 0, .map none, .slice none 0 0] 106) := ⟨_, rfl⟩
    have hbY : Below w2.heap.size w2 Y := by rw [hY]; exact (Below.refl _ _).alloc (Nat.le_refl _) _
    have bY := step_below hbY b2
    have HZ := hide (show Y.heap[w.heap.size + 1 + 1 + 1]? = some (.cells #[.slice none 0 0, .slice none 0 0] 34 (0, 0)) from Q3.keep hbY)
    clear h1
    go_upto_region 2 with fail
    rw [← hY]
    clear hY
    go_wp2_with (first | (with_reducible refine wpList_build0 rfl rfl ?_) | (with_reducible refine wpList_store_row rfl 34 (.tmp 6) (.tmp 19) rfl (w.heap.size + 1 + 1 + 1) #[.slice none 0 0, .slice none 0 0] rfl rfl 34 _ HZ.out (infoWear _ _) (szWear _ _ _ _) (oneWear _ _ _ _ _ _) ?_))
    exact bodyPost_ret (v := .tuple #[.agg #[.slice none 0 0, .slice none 0 0], .int .i64 1]) (results_we Tryz.results27 _ _ (w.heap.size + 1 + 1 + 1) 34 #[.slice none 0 0, .slice none 0 0] _ rfl (by simp [Act.put]) (by simp [Act.put]) (setRow_heap _ _ _ _ _ _ HZ.out)) rfl ⟨none, 0, none, 0, by rw [HX.out, HT.out, HZZ.out]; rfl, by rw [HT.out]; exact World.ownsRow_nil _ _ _ _, by rw [HZZ.out]; exact World.ownsRow_nil _ _ _ _, below_setRow bY (by omega)⟩
  · obtain ⟨Y, hY⟩ : ∃ Y, Y = w2.alloc (.cells #[.int .i64 s, .slice A h.length c, .map (some M), .slice C z.length q] 106) := ⟨_, rfl⟩
    have hbY : Below w2.heap.size w2 Y := by rw [hY]; exact (Below.refl _ _).alloc (Nat.le_refl _) _
    have bY := step_below hbY b2
    have G0 : Bk Y w2.heap.size 106 #[.int .i64 s, .slice A h.length c, .map (some M), .slice C z.length q] := by rw [hY]; exact Bk.new _ _ _ rfl
    go_upto_region 2 with fail
    rw [← hY]
    clear hY
    have hzn : z.length = h.length := by
      simp only [weB, Bool.and_eq_true, decide_eq_true_eq] at h1
      exact h1.1.1.2
    have hpb : pinsB s h.length l = true := by
      simp only [weB, Bool.and_eq_true] at h1
      exact h1.1.2
    rw [pinsB_split, Bool.and_eq_true] at hpb
    have hasc := ascW_of hpb.1
    have HWE := hide h1
    have HZN := hide hzn
    have own4 := map_keep own hbY
    have ownz4 := own_keep ownz hbY
    have hXY : X.heap.size ≤ Y.heap.size := Nat.le_trans hs2 hbY.size
    have hneM : ∀ g, C = some ⟨g, 0, none⟩ → g ≠ M := fun g hg => map_ne_own own4 ownz4 g (by rw [hg]; rfl)
    have KD := doHammer_any s x A h.length c M q X.heap.size C z l.length (mapW l l.length) Y hn hzn ownz4 hXY own4 hneM w2.heap.size 106 #[.int .i64 s, .slice A h.length c, .map (some M), .slice C z.length q] G0 (by decide)
    have Q4 := (Q2.keep hbY)
    have Z4 := (Q3.keep hbY)
    have e0 := G0.cell (i := 0) rfl
    have e1 := G0.cell (i := 1) rfl
    have e2 := G0.cell (i := 2) rfl
    have e3 := G0.cell (i := 3) rfl
    have a0 := Q4.cell (i := 0) rfl
    have a1 := Q4.cell (i := 1) rfl
    have a2 := Q4.cell (i := 2) rfl
    have a3 := Q4.cell (i := 3) rfl
    have a4 := Q4.cell (i := 4) rfl
    clear h1 hzn hpb own ownz
    go_wp2_with fail
    refine KD.mono ?_
    rintro e w5 ⟨rfl, own5, map5, G5, hb5⟩
    have b5 : Below w.heap.size w w5 := bY.trans (hb5.mono (by have := hb0.size; omega))
    have Z5 : Bk w5 (w.heap.size + 1 + 1 + 1) 34 #[.slice none 0 0, .slice none 0 0] := (hb5.block _ (by omega)).trans Z4
    clear e0 e1 e2 e3 a0 a1 a2 a3 a4 KD
    cases hin : inB x 0 ((h.length : Int) - 1)
    · have hrc : rnC h.length x = 2 := by simp [rnC, hin]
      have HX := hide (show nhC s h l z x = 2 by simp [nhC, HWE.out, hrc])
      have HT := hide (show nhT s h l z x = [] by simp [nhT, nhC, HWE.out, hrc])
      have HZZ := hide (show nhZ s h l z x = [] by simp [nhZ, nhC, HWE.out, hrc])
      have HZ := hide (show w5.heap[w.heap.size + 1 + 1 + 1]? = some (.cells #[.slice none 0 0, .slice none 0 0] 34 (0, 0)) from Z5)
      rw [hrc]
      clear hrc hin Z5 Z4 Q3 P3
      go_wp2_with (first | (with_reducible refine wpList_build0 rfl rfl ?_) | (with_reducible refine wpList_store_row rfl 34 (.tmp 6) (.tmp 25) rfl (w.heap.size + 1 + 1 + 1) #[.slice none 0 0, .slice none 0 0] rfl rfl 34 _ HZ.out (infoWear _ _) (szWear _ _ _ _) (oneWear _ _ _ _ _ _) ?_))
      exact bodyPost_ret (v := .tuple #[.agg #[.slice none 0 0, .slice none 0 0], .int .i64 2]) (results_we Tryz.results27 _ _ (w.heap.size + 1 + 1 + 1) 34 #[.slice none 0 0, .slice none 0 0] _ rfl (by simp [Act.put]) (by simp [Act.put]) (setRow_heap _ _ _ _ _ _ HZ.out)) rfl ⟨none, 0, none, 0, by rw [HX.out, HT.out, HZZ.out]; rfl, by rw [HT.out]; exact World.ownsRow_nil _ _ _ _, by rw [HZZ.out]; exact World.ownsRow_nil _ _ _ _, below_setRow b5 (by omega)⟩
    · have hrc : rnC h.length x = 0 := by simp [rnC, hin]
      have hrz : rnZ h.length z x = z.set x.toNat 0 := by simp [rnZ, hin]
      have HX := hide (show nhC s h l z x = 0 by simp [nhC, HWE.out, hrc])
      have HT := hide (show nhT s h l z x = l by simp [nhT, nhC, HWE.out, hrc])
      have HZZ := hide (show nhZ s h l z x = z.set x.toNat 0 by simp [nhZ, nhC, HWE.out, hrc])
      rw [hrz] at own5
      rw [hrc]
      have hzl : (z.set x.toNat 0).length = z.length := by simp
      have KM := madeWear_any M C (z.set x.toNat 0) q l.length (mapW l l.length) l w5 map5 (readsW_map hlw hasc) (Nat.le_trans map5.size_le (by omega)) (ascL_of hasc) (in8_of hlw) (SZ.of_own (c := q) (by rw [hzl]; exact own5)) (by rw [hzl]; exact hz)
      rw [hzl] at KM
      have e2 := G5.cell (i := 2) rfl
      have e3 := G5.cell (i := 3) rfl
      have hs5 : X.heap.size ≤ w5.heap.size := Nat.le_trans hXY (by have := hb5.size; omega)
      clear hrc hrz hzl hin Z4 Q3 P3 own5 map5
      go_wp2_with fail
      refine KM.mono ?_
      rintro e w6 ⟨P1, q1, P2, q2, rfl, ownP, ownC, hb6⟩
      have b6 := step_below hb6 b5
      rw [List.length_set] at ownC
      try simp only [List.length_set]
      have HZ := hide (show w6.heap[w.heap.size + 1 + 1 + 1]? = some (.cells #[.slice none 0 0, .slice none 0 0] 34 (0, 0)) from Z5.keep hb6)
      have owP := own_base (own_keepW ownP (show w.heap.size + 1 + 1 + 1 < w5.heap.size by omega) #[.slice P1 l.length q1, .slice P2 z.length q2]) (show w.heap.size ≤ w5.heap.size by omega)
      have owC := own_base (own_keepW ownC (show w.heap.size + 1 + 1 + 1 < w5.heap.size by omega) #[.slice P1 l.length q1, .slice P2 z.length q2]) (show w.heap.size ≤ w5.heap.size by omega)
      clear Z5 e2 e3 KM
      go_wp2_with (with_reducible refine wpList_store_row rfl 34 (.tmp 6) (.tmp 29) rfl (w.heap.size + 1 + 1 + 1) #[.slice P1 l.length q1, .slice P2 z.length q2] rfl rfl 34 _ HZ.out (infoWear _ _) (szWear _ _ _ _) (oneWear _ _ _ _ _ _) ?_)
      exact bodyPost_ret (v := .tuple #[.agg #[.slice P1 l.length q1, .slice P2 z.length q2], .int .i64 0]) (results_we Tryz.results27 _ _ (w.heap.size + 1 + 1 + 1) 34 #[.slice P1 l.length q1, .slice P2 z.length q2] _ rfl (by simp [Act.put]) (by simp [Act.put]) (setRow_heap _ _ _ _ _ _ HZ.out)) rfl ⟨P1, q1, P2, q2, by rw [HX.out, HT.out, HZZ.out, List.length_set], by rw [HT.out]; exact owP, by rw [HZZ.out, List.length_set]; exact owC, below_setRow b6 (by omega)⟩
end Go.Proofs.YtcocfnjbgceidaaGreat
namespace Go.Proofs.YtcocfnjbgceidaaGreat
open Go.RowKit Go.Maps
set_option maxRecDepth 20000 in
set_option maxHeartbeats 8000000 in
theorem implNewHammer_any (s : Int) (A : Option Addr) (c : Nat) (h : List (Int × Int)) (P : Option Addr) (d : Nat) (l : List (Int × Int × Int)) (U : Option Addr) (v : Nat) (z : List Int) (x : Int) (w : World)
    (hA : HA w A h) (hn : h.length ≤ 1048576) (hwf : HWF h) (hs : -32768 ≤ s ∧ s ≤ 32767) (hL : WnA w P l) (hU : SZ w U z) (hl : l.length ≤ 1048576) (hz : z.length ≤ 1048576) (hlw : WnWF l) (hzw : ZWF z) :
    Calls Tryz.prog 15 #[.agg #[.int .i16 s, .slice A h.length c], .agg #[.slice P l.length d, .slice U z.length v], .int .i64 x] w (WeC (nhT s h l z x) (nhZ s h l z x) (nhC s h l z x) w) := by
  obtain ⟨X, hX⟩ : ∃ X, X = ((w.alloc (.cells #[.int .i16 s, .slice A h.length c] 39)).alloc (.cells #[.slice P l.length d, .slice U z.length v] 34)).alloc (.cells #[.slice none 0 0, .slice none 0 0] 34) := ⟨_, rfl⟩
  have hb0 : Below w.heap.size w X := by rw [hX]; exact (((Below.refl _ _).alloc (Nat.le_refl _) _).alloc (by simp) _).alloc (by simp; omega) _
  have P0 : Bk X w.heap.size 39 #[.int .i16 s, .slice A h.length c] := by rw [hX]; exact ((Bk.new _ _ _ rfl).old _).old _
  have P1 : Bk X (w.heap.size + 1) 34 #[.slice P l.length d, .slice U z.length v] := by rw [hX]; exact (Bk.new _ _ _ (by simp)).old _
  have P3 : Bk X (w.heap.size + 1 + 1) 34 #[.slice none 0 0, .slice none 0 0] := by rw [hX]; exact Bk.new _ _ _ (by simp)
  have hX3 := P3.lt
  have KW := doWearHammer_any s x A c h P d l U v z X (hA.below hb0) hn hwf hs (hL.below hb0) (hU.below hb0) hl hz hlw hzw
  generalize nhC s h l z x = rc at *
  generalize nhT s h l z x = rT at *
  generalize nhZ s h l z x = rz at *
  go_enter Tryz.func15, Tryz.ntmps15
  go_upto_region 1 with fail
  rw [← hX]
  clear hX
  have c0 := P0.cell (i := 0) rfl
  have c1 := P0.cell (i := 1) rfl
  have c2 := P1.cell (i := 0) rfl
  have c3 := P1.cell (i := 1) rfl
  go_wp2_with fail
  refine KW.mono ?_
  rintro e w6 ⟨Q1, q1, Q2, q2, rfl, ownP, ownC, hb6⟩
  have b6 := step_below hb6 hb0
  have HZ := hide (show w6.heap[w.heap.size + 1 + 1]? = some (.cells #[.slice none 0 0, .slice none 0 0] 34 (0, 0)) from P3.keep hb6)
  have owP := own_base (own_keepW ownP (show w.heap.size + 1 + 1 < X.heap.size by omega) #[.slice Q1 rT.length q1, .slice Q2 rz.length q2]) (show w.heap.size ≤ X.heap.size by omega)
  have owC := own_base (own_keepW ownC (show w.heap.size + 1 + 1 < X.heap.size by omega) #[.slice Q1 rT.length q1, .slice Q2 rz.length q2]) (show w.heap.size ≤ X.heap.size by omega)
  clear c0 c1 c2 c3 KW
  go_wp2_with (with_reducible refine wpList_store_row rfl 34 (.tmp 6) (.tmp 13) rfl (w.heap.size + 1 + 1) #[.slice Q1 rT.length q1, .slice Q2 rz.length q2] rfl rfl 34 _ HZ.out (infoWear _ _) (szWear _ _ _ _) (oneWear _ _ _ _ _ _) ?_)
  exact bodyPost_ret (v := .tuple #[.agg #[.slice Q1 rT.length q1, .slice Q2 rz.length q2], .int .i64 rc]) (results_we Tryz.results15 _ _ (w.heap.size + 1 + 1) 34 #[.slice Q1 rT.length q1, .slice Q2 rz.length q2] _ rfl (by simp [Act.put]) (by simp [Act.put]) (setRow_heap _ _ _ _ _ _ HZ.out)) rfl ⟨Q1, q1, Q2, q2, rfl, owP, owC, below_setRow b6 (by omega)⟩
end Go.Proofs.YtcocfnjbgceidaaGreat
namespace Go.Proofs.YtcocfnjbgceidaaGreat
open Go.RowKit Go.Maps
theorem wnA_none {w : World} {l : List (Int × Int × Int)} (h : WnA w none l) : l = [] := by
  rcases Nat.eq_zero_or_pos l.length with e | e
  · exact List.length_eq_zero_iff.1 e
  · obtain ⟨b, o, h1, _⟩ := h 0 e
    cases h1
theorem WnA.cells {w : World} {ad : Addr} {l : List (Int × Int × Int)} (h : WnA w (some ad) l) : ∀ j u, (wnC l)[j]? = some u → w.cell? (ad.add j) = some u := by
  intro j u hu
  have hj : j < (wnC l).length := (List.getElem?_eq_some_iff.1 hu).1
  rw [wnC_length] at hj
  obtain ⟨b, o, e, _, c1, c2, c3⟩ := h (j / 3) (by omega)
  obtain ⟨v1, v2, v3⟩ := wnC_at l (j / 3) (by omega)
  obtain rfl : ad = ⟨b, o, none⟩ := Option.some.inj e
  rw [Addr.add_lit]
  have hm : j % 3 = 0 ∨ j % 3 = 1 ∨ j % 3 = 2 := by omega
  rcases hm with h0 | h0 | h0
  · have e0 : j / 3 * 3 = j := by omega
    rw [e0] at c1 v1
    rw [c1, ← hu, v1]
  · have e0 : j / 3 * 3 + 1 = j := by omega
    have e1 : o + j / 3 * 3 + 1 = o + j := by omega
    rw [e0] at v2
    rw [e1] at c2
    rw [c2, ← hu, v2]
  · have e0 : j / 3 * 3 + 2 = j := by omega
    have e1 : o + j / 3 * 3 + 2 = o + j := by omega
    rw [e0] at v3
    rw [e1] at c3
    rw [c3, ← hu, v3]
theorem wnC_one (l : List (Int × Int × Int)) : ∀ u ∈ wnC l, u.oneCell' = true := by
  intro u hu
  simp only [wnC, List.mem_flatMap] at hu
  obtain ⟨n, _, hu⟩ := hu
  simp at hu
  rcases hu with rfl | rfl | rfl <;> rfl
/-- append of worn pins that lie somewhere to a row of the call's own -/
theorem run_append_wn (w : World) (t : TypeId) (ht : Tryz.prog.underlying t = some (.slice 97)) (base : Nat) (i0 : TypeInfo) (hi : Tryz.prog.info? 97 = some i0)
    (hz0 : i0.zero = some (.agg #[.int .i8 0, .int .i8 0, .int .i64 0])) (hz1 : i0.size = 3) (hz2 : i0.bytes = 16) (v : Value) (n : Nat) (xs : List Value) (hown : w.ownsRow base 97 3 v n xs) (A : Option Addr) (c : Nat) (l : List (Int × Int × Int)) (hA : WnA w A l)
    (hn : n ≤ 4194304) (hl : l.length ≤ 4194304) (hb : base ≤ w.heap.size) :
    ∃ A' c' w', (∀ ty, (Builtin.append_ #[t, t] ty #[v, .slice A l.length c]).run Tryz.prog w = .ok (.slice A' (n + l.length) c') w') ∧ w'.ownsRow base 97 3 (.slice A' (n + l.length) c') (n + l.length) (xs ++ wnC l) ∧ w.grownBy w' v.ownBlock := by
  obtain ⟨Av, cv, rfl⟩ := own_shapeZ hown
  cases A with
  | none =>
    obtain rfl := wnA_none hA
    refine ⟨Av, cv, w, fun ty => ?_, ?_, ?_⟩
    · exact run_append_none w t ty _ i0 ht hi base 3 n _ c xs _ hown rfl
    · simpa [wnC_nil] using hown
    · exact ⟨rfl, rfl, rfl, Nat.le_refl _, fun _ _ _ => rfl⟩
  | some ad =>
    have key : ∀ ty, ∃ v' w', (Builtin.append_ #[t, t] ty #[.slice Av n cv, .slice (some ad) l.length c]).run Tryz.prog w = .ok v' w' ∧ w'.ownsRow base 97 3 v' (n + l.length) (xs ++ wnC l) ∧ w.grownBy w' (Value.slice Av n cv).ownBlock ∧ (v' = .slice none 0 0 ↔ Value.slice Av n cv = .slice none 0 0 ∧ l.length = 0) := fun ty =>
      run_append_own w base t ty 97 i0 (.agg #[.int .i8 0, .int .i8 0, .int .i64 0]) 3 16 ht hi hz0 hz1 hz2 rfl (by decide) _ n xs hown ad l.length c (wnC l) (wnC_length l) (WnA.cells hA) (wnC_one l) (by unfold maxLen; omega) (by omega) hb
    obtain ⟨v', w', hr, h2, h3, _⟩ := key 0
    obtain ⟨A', c', rfl⟩ := own_shapeZ h2
    exact ⟨A', c', w', fun ty => hr, h2, h3⟩
/-- the like for numbers, of a slice that may be nil -/
theorem run_append_zn (w : World) (t : TypeId) (ht : Tryz.prog.underlying t = some (.slice 2)) (base : Nat) (i0 : TypeInfo) (hi : Tryz.prog.info? 2 = some i0)
    (hz0 : i0.zero = some (.int .i64 0)) (hz1 : i0.size = 1) (hz2 : i0.bytes = 8) (v : Value) (n : Nat) (xs : List Value) (hown : w.ownsRow base 2 1 v n xs) (A : Option Addr) (c : Nat) (l : List Int) (hA : SZ w A l)
    (hn : n ≤ 4194304) (hl : l.length ≤ 4194304) (hb : base ≤ w.heap.size) :
    ∃ A' c' w', (∀ ty, (Builtin.append_ #[t, t] ty #[v, .slice A l.length c]).run Tryz.prog w = .ok (.slice A' (n + l.length) c') w') ∧ w'.ownsRow base 2 1 (.slice A' (n + l.length) c') (n + l.length) (xs ++ icells l) ∧ w.grownBy w' v.ownBlock := by
  cases A with
  | none =>
    obtain ⟨Av, cv, rfl⟩ := own_shapeZ hown
    obtain rfl := SZ.none hA
    refine ⟨Av, cv, w, fun ty => ?_, ?_, ?_⟩
    · exact run_append_none w t ty _ i0 ht hi base 1 n _ c xs _ hown rfl
    · simpa [icells] using hown
    · exact ⟨rfl, rfl, rfl, Nat.le_refl _, fun _ _ _ => rfl⟩
  | some ad => exact run_append_z w t ht base i0 hi hz0 hz1 hz2 v n xs hown ad c l hA hn hl hb
end Go.Proofs.YtcocfnjbgceidaaGreat
