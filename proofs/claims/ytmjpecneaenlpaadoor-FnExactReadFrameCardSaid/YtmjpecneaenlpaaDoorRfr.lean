import Derived.Test.YtmjpecneaenlpaaDoorRfq
import Derived.Test.YtmjpecneaenlpaaDoorRtq
import Derived.Test.YtmjpecneaenlpaaDoorFts2
namespace Go.Proofs.YtmjpecneaenlpaaDoor
open Go.RowKit
theorem sStp_as (x : List UInt8) : sStp x = if (snum x).isSome = true ∧ snI x ≤ 96 then some (snI x, 0) else none := by
  unfold sStp snI
  cases h1 : snum x with
  | none => simp
  | some n =>
    simp only [Option.isSome_some, true_and]
    by_cases hb : n ≤ 96
    · rw [if_pos hb, if_pos (by omega)]
    · rw [if_neg hb, if_neg (by omega)]
theorem sHam_two {x a b : List UInt8} (h : spA 47 x = [a, b]) : sHam x = if 0 ≤ pnI a ∧ (snum b).isSome = true ∧ snI b ≤ 20 then some (pnI a, snI b) else none := by
  unfold sHam
  rw [h]
  simp only
  cases h1 : pnF a with
  | none => simp [pnI, h1]
  | some p =>
    have e1 : pnI a = p := by unfold pnI; rw [h1]
    rw [e1]
    cases h2 : snum b with
    | none => simp
    | some n =>
      have e2 : snI b = n := by unfold snI; rw [h2]
      rw [e2]
      by_cases hn : n ≤ 20
      · rw [if_pos ⟨by omega, rfl, by omega⟩]; simp [hn]
      · rw [if_neg (fun h => by have := h.2.2; omega)]; simp [hn]
theorem fr0 {x : List UInt8} : sFr 0 x = sStp x := by unfold sFr; rw [if_pos rfl]
theorem frs {k : Nat} {x : List UInt8} (hk : 0 < k) : sFr k x = sHam x := by unfold sFr; rw [if_neg (by omega)]
set_option maxRecDepth 20000 in
set_option maxHeartbeats 2000000 in
theorem specReadFrame_any (s : ByteArray) (w : World) (hs : s.size ≤ 1048576) :
    Calls Tryd.prog 12 #[.string s] w (OwnFr w (rfS s) (rfL s) (rfC s)) := by
  have HNone := hide (fun hm => rfs_none (s := s) hm)
  have HBad := hide (fun v t hm hv => rfs_bad (s := s) (v := v) (t := t) hm hv)
  have HGood := hide (fun v t hm hv => rfs_good (s := s) (v := v) (t := t) hm hv)
  obtain ⟨X, hX⟩ : ∃ X, X = w.alloc (.cells #[.int .i16 0, .slice none 0 0] 32) := ⟨_, rfl⟩
  have b0 : Below w.heap.size w X := by rw [hX]; exact (Below.refl _ _).alloc (Nat.le_refl _) _
  have R0 : Bk X w.heap.size 32 #[.int .i16 0, .slice none 0 0] := by rw [hX]; exact heap_alloc_new _ _
  have hL1 := spA_len 32 s.data.toList
  rw [ba_size] at hL1
  obtain ⟨L, hL⟩ : ∃ L, L = spA 32 s.data.toList := ⟨_, rfl⟩
  have KS := l01Split_any s 32 32 rfl X hs
  have KC := fun (x : ByteArray) W (hx : x.size ≤ 1048576) => l01Split_any x 47 47 rfl W hx
  have KN := fun (x : ByteArray) W (hx : x.size ≤ 1048576) => l01Number_any x W hx
  have KP := fun (x : ByteArray) W => l01Pitch_any x W
  have hL0 : 0 < L.length := List.length_pos_iff.2 (by rw [hL]; exact spA_ne _ _)
  rw [← hL] at HNone HBad HGood KS hL1
  clear hL
  obtain ⟨S, hS⟩ : ∃ S, S = rfS s := ⟨_, rfl⟩
  obtain ⟨V, hV⟩ : ∃ V, V = rfL s := ⟨_, rfl⟩
  obtain ⟨C, hC⟩ : ∃ C, C = rfC s := ⟨_, rfl⟩
  rw [← hS, ← hV, ← hC]
  rw [← hS, ← hV, ← hC] at HNone
  simp only [← hS, ← hV, ← hC] at HBad HGood
  clear hS hV hC
  have HNE := hide (show mapO sFr 0 L = none → ∀ w1, Below w.heap.size w w1 → OwnFr w S V C (.returned (.tuple #[.agg #[.int .i16 0, .slice none 0 0], .int .i64 5])) w1 from fun h w1 hb => by
    obtain ⟨e1, e2, e3⟩ := HNone.out h
    rw [e1, e2, e3]
    exact ownFr_nil hb)
  have HBE := hide (show ∀ v t, mapO sFr 0 L = some ((v, 0) :: t) → frB v t = false → ∀ w1, Below w.heap.size w w1 → OwnFr w S V C (.returned (.tuple #[.agg #[.int .i16 0, .slice none 0 0], .int .i64 5])) w1 from fun v t h h2 w1 hb => by
    obtain ⟨e1, e2, e3⟩ := HBad.out v t h h2
    rw [e1, e2, e3]
    exact ownFr_nil hb)
  obtain ⟨i0, hi, hz0, hz1, hz2⟩ := info_parts info62
  go_enter Tryd.func12, Tryd.ntmps12
  go_upto_region 1 with fail
  rw [← hX]
  clear hX
  go_wp2_with fail
  refine KS.mono ?_
  rintro e w1 ⟨A, q, ps, rfl, hps, hsz, ownP0, hb1⟩
  have ownP := own_base ownP0 b0.size
  have b1 := step_below hb1 b0
  have R1 := R0.keep hb1
  have hpl : ps.length = L.length := by rw [← hps, List.length_map]
  have HPS := hide hps
  have HSZ := hide hsz
  obtain ⟨n, hn⟩ : ∃ n, ps.length = n := ⟨_, rfl⟩
  rw [hn] at ownP hpl ⊢
  have hn26 : n ≤ 1048577 := by omega
  have hn0 : 0 < n := by omega
  have HPN := hide hn
  have HLN := hide hpl
  clear KS hps hsz hn hpl R0 ownP0
  obtain ⟨pb, x0, rfl, hpb, hx0, hc0⟩ := piece_cell ownP HPN.out hn0
  have hx0s : x0.size ≤ 1048576 := Nat.le_trans (HSZ.out x0 (List.mem_of_getElem? hx0)) hs
  have hLx0 : L[0]? = some x0.data.toList := by rw [← HPS.out, List.getElem?_map, hx0]; rfl
  have KN0 := KN x0 w1 hx0s
  have hN0 := snI_0 x0.data.toList
  have HSA := hide (sStp_as x0.data.toList)
  unfold SnP at KN0
  have hn0i : (0 : Int) < (n : Int) := by omega
  have HNN := hide (fun (hh : sStp x0.data.toList = none) => mapO_out (f := sFr) hLx0 (by rw [fr0]; exact hh))
  have HM0 := hide (fun (y : Int × Int) (hh : sStp x0.data.toList = some y) => mapO_take (f := sFr) hLx0 (r := []) rfl (by rw [fr0]; exact hh))
  clear hLx0 hx0
  generalize snI x0.data.toList = N at *
  generalize (snum x0.data.toList).isSome = O at *
  go_wp2_with fail
  refine KN0.mono ?_
  rintro e w' ⟨rfl, rfl⟩
  cases O
  · have HE := hide (HNE.out (HNN.out (HSA.out.trans (if_neg (by simp)))) (w1.setRow w.heap.size #[.int .i16 0, .slice none 0 0]) (below_setRow' b1 (Nat.le_refl _)))
    have HN := hide (show w1.heap[w.heap.size]? = some (.cells #[.int .i16 0, .slice none 0 0] 32 (0, 0)) from R1)
    clear hc0 R1 ownP KN0
    go_wp2_with (with_reducible refine wpList_store_row rfl 32 (.tmp 2) (.tmp 28) rfl w.heap.size #[.int .i16 0, .slice none 0 0] rfl rfl 32 _ HN.out (infoFr2R _ _) (szFr2R _ _ _ _) (oneFr2R _ _ _ _) ?_)
    exact bodyPost_ret (v := .tuple #[.agg #[.int .i16 0, .slice none 0 0], .int .i64 5]) (results_f2R Tryd.results12 _ _ w.heap.size 32 _ _ rfl (by simp [Act.put]) (by simp [Act.put]) (setRow_heap _ _ _ _ _ _ HN.out)) rfl HE.out
  by_cases h96 : N ≤ 96
  · have HM1 := hide (show mapO sFr 0 (L.take 1) = some [(N, 0)] from HM0.out _ (HSA.out.trans (if_pos ⟨rfl, h96⟩)))
    have h96i : ¬ (96 : Int) < N := by omega
    have hwv : IntKind.i16.wrap N = N := IntWalk.i16_in _ (by omega)
    obtain ⟨Y, hY⟩ : ∃ Y, Y = w1.alloc (.cells #[.int .i16 N, .slice none 0 0] 32) := ⟨_, rfl⟩
    have bY0 : Below w1.heap.size w1 Y := by rw [hY]; exact (Below.refl _ _).alloc (Nat.le_refl _) _
    have bY := step_below bY0 b1
    have RY := R1.keep bY0
    have FY : Bk Y w1.heap.size 32 #[.int .i16 N, .slice none 0 0] := by rw [hY]; exact heap_alloc_new _ _
    have ownY := own_keep ownP bY0
    have hwl : w.heap.size < w1.heap.size := R1.lt
    clear hc0 R1 ownP KN0 HNN HM0 HSA
    go_upto_region 6 with fail
    rw [← hY]
    clear hY
    go_wp2_with fail
    go_loopw [8] (fun i wr => ∃ (k : Nat) (R : List (Int × Int)) (A' : Option Addr) (c' : Nat), 1 ≤ k ∧ k ≤ n ∧ i = .int .i64 k ∧ mapO sFr 0 (L.take k) = some ((N, 0) :: R) ∧ HWF R ∧ R.length = k - 1 ∧ Bk wr w1.heap.size 32 #[.int .i16 N, .slice A' (k - 1) c'] ∧ wr.ownsRow w.heap.size 62 2 (.slice A' (k - 1) c') (k - 1) (hcells R) ∧ Bk wr w.heap.size 32 #[.int .i16 0, .slice none 0 0] ∧ wr.ownsRow w.heap.size 9 1 (.slice (some ⟨pb, 0, none⟩) n q) n (strs ps) ∧ Below w.heap.size w wr)
      (fun i _ => n - (intOf i).toNat)
    case atStart => exact ⟨1, [], none, 0, Nat.le_refl _, hn0, rfl, HM1.out, fun j hj => absurd hj (Nat.not_lt_zero _), rfl, FY, ⟨rfl, Or.inl ⟨rfl, rfl⟩⟩, RY, ownY, bY⟩
    case round =>
      obtain ⟨k, R, A', c', hk1, hk, rfl, hm, hwf, hRl, F3, ownR, R3, ownPr, hb⟩ := hrel
      by_cases hlt : k < n
      · have hki : (k : Int) < (n : Int) := by omega
        obtain ⟨pb', x, hpe, hbb, hx, hc⟩ := piece_cell ownPr HPN.out hlt
        obtain rfl : pb = pb' := by simpa using hpe
        have hxs : x.size ≤ 1048576 := Nat.le_trans (HSZ.out x (List.mem_of_getElem? hx)) hs
        have hLx : L[k]? = some x.data.toList := by rw [← HPS.out, List.getElem?_map, hx]; rfl
        have KC1 := KC x wr hxs
        have HM := hide hm
        have HW := hide hwf
        have HR := hide hRl
        have HNN := hide (fun (hh : sHam x.data.toList = none) => mapO_out (f := sFr) hLx (by rw [frs hk1]; exact hh))
        have HMS := hide (fun (y : Int × Int) (hh : sHam x.data.toList = some y) => mapO_take (f := sFr) hLx HM.out (by rw [frs hk1]; exact hh))
        clear hm hwf hRl hx hLx
        go_wp2_with fail
        refine KC1.mono ?_
        rintro e w2 ⟨A2, q2, ps2, rfl, hps2, hsz2, own2, hb2⟩
        have bX := step_below hb2 hb
        by_cases h2 : ps2.length = 2
        · obtain ⟨pa, pd, rfl⟩ : ∃ a b, ps2 = [a, b] := by
            match ps2, h2 with
            | [a, b], _ => exact ⟨a, b, rfl⟩
          have HT2 := hide (sHam_two (x := x.data.toList) (a := pa.data.toList) (b := pd.data.toList) hps2.symm)
          have hpd : pd.size ≤ 1048576 := Nat.le_trans (hsz2 pd (by simp)) hxs
          obtain ⟨g2, rfl, hg2, _, hcc⟩ := own_strs own2 (by simp)
          have d0 : w2.cell? ⟨g2, 0, none⟩ = some (.string pa) := by have := hcc 0 pa rfl; simpa using this
          have d1 : w2.cell? ⟨g2, 1, none⟩ = some (.string pd) := by have := hcc 1 pd rfl; simpa using this
          have KPa := KP pa w2
          have KNd := fun W => KN pd W hpd
          have hp47 := pnI_47 pa.data.toList
          have hm0 := snI_0 pd.data.toList
          unfold SnP at KNd
          generalize snI pd.data.toList = M at *
          generalize (snum pd.data.toList).isSome = O at *
          generalize pnI pa.data.toList = Pp at *
          rw [show ([pa, pd] : List ByteArray).length = 2 from rfl] at own2 ⊢
          clear hcc hps2 hsz2 h2 KC KN KP KC1 own2
          go_wp2_with fail
          refine KPa.mono ?_
          rintro e w3 ⟨rfl, hb3⟩
          have b3 := step_below hb3 bX
          have d3 := (hb3.cell (p := ⟨g2, 1, none⟩) (World.block_lt_of_cell? _ _ d1)).trans d1
          have KN3 := KNd w3
          clear KPa KNd d0 d1
          go_wp2_with fail
          refine KN3.mono ?_
          rintro e w' ⟨rfl, rfl⟩
          clear KN3
          by_cases hG : 0 ≤ Pp ∧ O = true ∧ M ≤ 20
          · obtain ⟨hP, rfl, hM⟩ := hG
            have hMS := hide (show mapO sFr 0 (L.take (k + 1)) = some ((N, 0) :: (R ++ [(Pp, M)])) from HMS.out _ (HT2.out.trans (if_pos ⟨hP, rfl, hM⟩)))
            have hWS := hide (hwf_snocR (a := Pp) (p := M) HW.out ⟨by omega, by omega⟩ ⟨by omega, by omega⟩)
            have hPi : ¬ Pp < 0 := by omega
            have hMi : ¬ (20 : Int) < M := by omega
            have hw1 : IntKind.i8.wrap Pp = Pp := by simp [IntKind.wrap, IntKind.signed, IntKind.bits]; omega
            have hw2 : IntKind.i8.wrap M = M := by simp [IntKind.wrap, IntKind.signed, IntKind.bits]; omega
            have FX := (F3.keep hb2).keep hb3
            have RX := (R3.keep hb2).keep hb3
            have ownX := own_keep (own_keep ownR hb2) hb3
            have ownZ := own_keep (own_keep ownPr hb2) hb3
            have FZ := FX.old (.cells #[.int .i8 Pp, .int .i8 M] 62)
            have RZ := RX.old (.cells #[.int .i8 Pp, .int .i8 M] 62)
            have own3 := ownX.alloc (.cells #[.int .i8 Pp, .int .i8 M] 62)
            have own4 := ownZ.alloc (.cells #[.int .i8 Pp, .int .i8 M] 62)
            have hnew := cell_two_new' w3 (.int .i8 Pp) (.int .i8 M) 62
            have hb5 := b3.alloc b3.size (.cells #[.int .i8 Pp, .int .i8 M] 62)
            have f1 : w3.cell? ⟨w1.heap.size, 1, none⟩ = some (.slice A' (k - 1) c') := FX.cell rfl
            clear F3 R3 ownR ownPr FX RX ownX ownZ hc d3
            go_wp2_with (at_builtin; refine wpList_append_own _ rfl _ _ 30 rfl w.heap.size 62 i0 (.agg #[.int .i8 0, .int .i8 0]) 2 2 Tryd.underlying30 hi hz0 hz1 hz2 rfl (by decide) _ _ _ rfl own3 ⟨w3.heap.size, 0, none⟩ 1 1 [.int .i8 Pp, .int .i8 M] rfl rfl hnew (fun x hx => by simp at hx; rcases hx with rfl | rfl <;> rfl) (by unfold maxLen; omega) (by omega) hb5.size ?_; intro v6 w6 hown6 hgr6 hnil6; obtain ⟨A6, c6, rfl⟩ := own_shapeS hown6; have F6 := FZ.grown hgr6 (own_neF own3 FZ (by decide)); have cz : w6.cell? ⟨w1.heap.size, 1, none⟩ = some (.slice A' (k - 1) c') := F6.cell rfl; have fz := F6.frozen 1)
            have hb6 := hb5.grown hgr6 hb5.size (fun j hj => (own3.lt j hj).1)
            have own6 := own4.kept hgr6 (own_ne2 own4 own3 (by decide))
            have R6 := RZ.grown hgr6 (own_neF own3 RZ (by decide))
            have own7 := own_setF (o := 1) hown6 (own_neF hown6 F6 (by decide)) (.slice A6 (k - 1 + 1) c6)
            have own8 := own_setF (o := 1) own6 (own_neF own6 F6 (by decide)) (.slice A6 (k - 1 + 1) c6)
            have R7 := R6.other (b := w1.heap.size) (k := 1) (by omega) (.slice A6 (k - 1 + 1) c6)
            have F7 : Bk (w6.setCell ⟨w1.heap.size, 1, none⟩ (.slice A6 (k - 1 + 1) c6)) w1.heap.size 32 #[.int .i16 N, .slice A6 (k - 1 + 1) c6] := heap_setCell_same w6 w1.heap.size 1 _ _ (.slice A6 (k - 1 + 1) c6) F6
            have b7 := hb6.setCell (p := ⟨w1.heap.size, 1, none⟩) (by show w.heap.size ≤ w1.heap.size; omega) (.slice A6 (k - 1 + 1) c6)
            have hke : k - 1 + 1 = k := by omega
            rw [hke] at own7 own8 R7 F7 b7
            go_roundw
            case rel => exact ⟨k + 1, R ++ [(Pp, M)], A6, c6, by omega, hlt, by go_num, hMS.out, hWS.out, by rw [List.length_append, HR.out, Nat.add_sub_cancel]; exact hke, by rw [Nat.add_sub_cancel]; exact F7, by rw [Nat.add_sub_cancel, hcells_append]; exact own7, R7, own8, b7⟩
            case measure => simp [intOf]; omega
          · have HE := hide (HNE.out (HNN.out (HT2.out.trans (if_neg hG))) (w3.setRow w.heap.size #[.int .i16 0, .slice none 0 0]) (below_setRow' b3 (Nat.le_refl _)))
            have HN := hide (show w3.heap[w.heap.size]? = some (.cells #[.int .i16 0, .slice none 0 0] 32 (0, 0)) from (R3.keep hb2).keep hb3)
            clear F3 R3 ownR ownPr hc d3
            by_cases hP : Pp < 0
            · clear hG
              go_wp2_with (with_reducible refine wpList_store_row rfl 32 (.tmp 2) (.tmp 68) rfl w.heap.size #[.int .i16 0, .slice none 0 0] rfl rfl 32 _ HN.out (infoFr2R _ _) (szFr2R _ _ _ _) (oneFr2R _ _ _ _) ?_)
              exact bodyPost_ret (v := .tuple #[.agg #[.int .i16 0, .slice none 0 0], .int .i64 5]) (results_f2R Tryd.results12 _ _ w.heap.size 32 _ _ rfl (by simp [Act.put]) (by simp [Act.put]) (setRow_heap _ _ _ _ _ _ HN.out)) rfl HE.out
            cases O
            · clear hG
              go_wp2_with (with_reducible refine wpList_store_row rfl 32 (.tmp 2) (.tmp 68) rfl w.heap.size #[.int .i16 0, .slice none 0 0] rfl rfl 32 _ HN.out (infoFr2R _ _) (szFr2R _ _ _ _) (oneFr2R _ _ _ _) ?_)
              exact bodyPost_ret (v := .tuple #[.agg #[.int .i16 0, .slice none 0 0], .int .i64 5]) (results_f2R Tryd.results12 _ _ w.heap.size 32 _ _ rfl (by simp [Act.put]) (by simp [Act.put]) (setRow_heap _ _ _ _ _ _ HN.out)) rfl HE.out
            have hM : (20 : Int) < M := by
              rcases Int.lt_or_le 20 M with h | h
              · exact h
              · exact absurd ⟨by omega, rfl, h⟩ hG
            clear hG
            go_wp2_with (with_reducible refine wpList_store_row rfl 32 (.tmp 2) (.tmp 68) rfl w.heap.size #[.int .i16 0, .slice none 0 0] rfl rfl 32 _ HN.out (infoFr2R _ _) (szFr2R _ _ _ _) (oneFr2R _ _ _ _) ?_)
            exact bodyPost_ret (v := .tuple #[.agg #[.int .i16 0, .slice none 0 0], .int .i64 5]) (results_f2R Tryd.results12 _ _ w.heap.size 32 _ _ rfl (by simp [Act.put]) (by simp [Act.put]) (setRow_heap _ _ _ _ _ _ HN.out)) rfl HE.out
        · have HE := hide (HNE.out (HNN.out (sHam_cut (by rw [← hps2, List.length_map]; exact h2))) (w2.setRow w.heap.size #[.int .i16 0, .slice none 0 0]) (below_setRow' bX (Nat.le_refl _)))
          have HN := hide (show w2.heap[w.heap.size]? = some (.cells #[.int .i16 0, .slice none 0 0] 32 (0, 0)) from R3.keep hb2)
          have h2i : ¬ (ps2.length : Int) = 2 := by omega
          clear hps2 hsz2 h2 F3 R3 ownR ownPr hc own2
          generalize ps2.length = n2 at *
          go_wp2_with (with_reducible refine wpList_store_row rfl 32 (.tmp 2) (.tmp 46) rfl w.heap.size #[.int .i16 0, .slice none 0 0] rfl rfl 32 _ HN.out (infoFr2R _ _) (szFr2R _ _ _ _) (oneFr2R _ _ _ _) ?_)
          exact bodyPost_ret (v := .tuple #[.agg #[.int .i16 0, .slice none 0 0], .int .i64 5]) (results_f2R Tryd.results12 _ _ w.heap.size 32 _ _ rfl (by simp [Act.put]) (by simp [Act.put]) (setRow_heap _ _ _ _ _ _ HN.out)) rfl HE.out
      · obtain rfl : k = n := by omega
        have hki : ¬ (k : Int) < (k : Int) := by omega
        rw [List.take_of_length_le (by rw [← HLN.out]; exact Nat.le_refl _)] at hm
        have HA1 := HA.of_own (l := R) (by rw [hRl]; exact ownR)
        have KT := l02Frame_any w1.heap.size N A' c' R wr ⟨F3.cell rfl, by rw [hRl]; exact F3.cell rfl⟩ HA1 (by omega) hwf (by omega)
        have e0 : wr.cell? ⟨w1.heap.size, 0, none⟩ = some (.int .i16 N) := F3.cell rfl
        have e1 : wr.cell? ⟨w1.heap.size, 1, none⟩ = some (.slice A' (k - 1) c') := F3.cell rfl
        cases hv : frB N R
        · have HB := hide (HBE.out N R hm hv)
          rw [hv] at KT
          clear hm hwf HA1 hRl hv
          go_wp2_with fail
          refine KT.mono ?_
          rintro e w5 ⟨rfl, hb5⟩
          have b5 := step_below hb5 hb
          have HN := hide (show w5.heap[w.heap.size]? = some (.cells #[.int .i16 0, .slice none 0 0] 32 (0, 0)) from R3.keep hb5)
          have HE := hide (HB.out (w5.setRow w.heap.size #[.int .i16 0, .slice none 0 0]) (below_setRow' b5 (Nat.le_refl _)))
          clear KT F3 R3 ownR ownPr e0 e1
          go_wp2_with (with_reducible refine wpList_store_row rfl 32 (.tmp 2) (.tmp 81) rfl w.heap.size #[.int .i16 0, .slice none 0 0] rfl rfl 32 _ HN.out (infoFr2R _ _) (szFr2R _ _ _ _) (oneFr2R _ _ _ _) ?_)
          exact bodyPost_ret (v := .tuple #[.agg #[.int .i16 0, .slice none 0 0], .int .i64 5]) (results_f2R Tryd.results12 _ _ w.heap.size 32 _ _ rfl (by simp [Act.put]) (by simp [Act.put]) (setRow_heap _ _ _ _ _ _ HN.out)) rfl HE.out
        · obtain ⟨g1, g2, g3⟩ := HGood.out N R hm hv
          have HE := hide (And.intro g1 (And.intro g2 g3))
          rw [hv] at KT
          have HRl := hide hRl
          clear hm hwf HA1 hRl hv g1 g2 g3
          go_wp2_with fail
          refine KT.mono ?_
          rintro e w5 ⟨rfl, hb5⟩
          have b5 := step_below hb5 hb
          have F5 := F3.keep hb5
          have HN := hide (show w5.heap[w.heap.size]? = some (.cells #[.int .i16 0, .slice none 0 0] 32 (0, 0)) from R3.keep hb5)
          have own5 := own_keep ownR hb5
          have g0 : w5.cell? ⟨w1.heap.size, 0, none⟩ = some (.int .i16 N) := F5.cell rfl
          have g1 : w5.cell? ⟨w1.heap.size, 1, none⟩ = some (.slice A' (k - 1) c') := F5.cell rfl
          have R5 : Bk w5 w.heap.size 32 #[.int .i16 0, .slice none 0 0] := HN.out
          have own6 : (w5.setRow w.heap.size #[.int .i16 N, .slice A' (k - 1) c']).ownsRow w.heap.size 62 2 (.slice A' (k - 1) c') (k - 1) (hcells R) := own_rowF own5 (own_neF own5 R5 (by decide)) _
          have HF := hide (show OwnFr w S V C (.returned (.tuple #[.agg #[.int .i16 N, .slice A' (k - 1) c'], .int .i64 0])) (w5.setRow w.heap.size #[.int .i16 N, .slice A' (k - 1) c']) from by rw [HE.out.1, HE.out.2.1, HE.out.2.2]; exact ownFr_of A' c' N R (k - 1) HRl.out own6 (below_setRow' b5 (Nat.le_refl _)))
          clear KT F3 R3 ownR F5 own5 own6 e0 e1 R5 ownPr
          go_wp2_with (with_reducible refine wpList_store_row rfl 32 (.tmp 2) (.tmp 82) rfl w.heap.size #[.int .i16 N, .slice A' (k - 1) c'] rfl rfl 32 _ HN.out (infoFr2R _ _) (szFr2R _ _ _ _) (oneFr2R _ _ _ _) ?_)
          exact bodyPost_ret (v := .tuple #[.agg #[.int .i16 N, .slice A' (k - 1) c'], .int .i64 0]) (results_f2R Tryd.results12 _ _ w.heap.size 32 _ _ rfl (by simp [Act.put]) (by simp [Act.put]) (setRow_heap _ _ _ _ _ _ HN.out)) rfl HF.out
  · have HE := hide (HNE.out (HNN.out (HSA.out.trans (if_neg (fun h => h96 h.2)))) (w1.setRow w.heap.size #[.int .i16 0, .slice none 0 0]) (below_setRow' b1 (Nat.le_refl _)))
    have HN := hide (show w1.heap[w.heap.size]? = some (.cells #[.int .i16 0, .slice none 0 0] 32 (0, 0)) from R1)
    have h96i : (96 : Int) < N := by omega
    clear hc0 R1 ownP KN0
    go_wp2_with (with_reducible refine wpList_store_row rfl 32 (.tmp 2) (.tmp 28) rfl w.heap.size #[.int .i16 0, .slice none 0 0] rfl rfl 32 _ HN.out (infoFr2R _ _) (szFr2R _ _ _ _) (oneFr2R _ _ _ _) ?_)
    exact bodyPost_ret (v := .tuple #[.agg #[.int .i16 0, .slice none 0 0], .int .i64 5]) (results_f2R Tryd.results12 _ _ w.heap.size 32 _ _ rfl (by simp [Act.put]) (by simp [Act.put]) (setRow_heap _ _ _ _ _ _ HN.out)) rfl HE.out
end Go.Proofs.YtmjpecneaenlpaaDoor
