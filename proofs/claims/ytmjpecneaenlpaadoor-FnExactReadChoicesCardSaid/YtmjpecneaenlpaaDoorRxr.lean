import Derived.Test.YtmjpecneaenlpaaDoorRxq
import Derived.Test.YtmjpecneaenlpaaDoorGbi
namespace Go.Proofs.YtmjpecneaenlpaaDoor
open Go.RowKit
set_option maxRecDepth 20000 in
set_option maxHeartbeats 4000000 in
theorem specReadChoices_any (s : ByteArray) (w : World) (hs : s.size ≤ 1048576) :
    Calls Tryd.prog 17 #[.string s] w (OwnX w (rxT s) (rxC s)) := by
  have hE : (w.alloc (.cells #[] 75)).ownsRow w.heap.size 75 4 (.slice (some ⟨w.heap.size, 0, none⟩) 0 0) 0 (chC []) := own_emptyT _ _ (Nat.le_refl _)
  have hb0 : Below w.heap.size w (w.alloc (.cells #[] 75)) := (Below.refl _ _).alloc (Nat.le_refl _) _
  by_cases h0 : s.data.toList = []
  · obtain ⟨e1, e2⟩ := rx_nil h0
    rw [e1, e2]
    have he : s = ⟨#[]⟩ := ByteArray.ext (Array.toList_inj.1 h0)
    subst he
    clear h0 e1 e2
    go_enter Tryd.func17, Tryd.ntmps17
    go_wp2_with fail
    go_ret2
    exact ownX_nilR _ 0 0 hE hb0
  have hne := sNe h0
  have HNone := hide (fun hm => rxs_none h0 hm)
  have HBad := hide (fun t hm hv => rxs_bad (t := t) h0 hm hv)
  have HGood := hide (fun t hm hv => rxs_good (t := t) h0 hm hv)
  have hL1 := spA_len 32 s.data.toList
  rw [ba_size] at hL1
  have HFull := hide (fun R (h : mapO sChc 0 (spA 32 s.data.toList) = some R) => mapO_fullX h)
  rw [ba_size] at HFull
  obtain ⟨L, hL⟩ : ∃ L, L = spA 32 s.data.toList := ⟨_, rfl⟩
  have hLp : L ≠ [] := by rw [hL]; exact spA_ne _ _
  clear h0
  have KS := fun W => l01Split_any s 32 32 rfl W hs
  have KC := fun (x : ByteArray) W (hx : x.size ≤ 1048576) => l01Split_any x 47 47 rfl W hx
  have KN := fun (x : ByteArray) W (hx : x.size ≤ 1048576) => l07ReadSmall_any x W hx
  rw [← hL] at HNone HBad HGood hL1 HFull
  simp only [← hL] at KS
  clear hL
  obtain ⟨V, hV⟩ : ∃ V, V = rxT s := ⟨_, rfl⟩
  obtain ⟨C, hC⟩ : ∃ C, C = rxC s := ⟨_, rfl⟩
  rw [← hV, ← hC]
  rw [← hV, ← hC] at HNone
  simp only [← hV, ← hC] at HBad HGood
  clear hV hC
  obtain ⟨i0, hi, hz0, hz1, hz2⟩ := info_parts info75
  go_enter Tryd.func17, Tryd.ntmps17
  go_wp2_with fail
  refine (KS _).mono ?_
  rintro e w1 ⟨A, q, ps, rfl, hps, hsz, ownP, hb1⟩
  have hE1 := own_keep hE hb1
  have bw1 := step_below hb1 hb0
  have ownP := own_base ownP hb0.size
  have hpl : ps.length = L.length := by rw [← hps, List.length_map]
  have HPS := hide hps
  have HSZ := hide hsz
  obtain ⟨n, hn⟩ : ∃ n, ps.length = n := ⟨_, rfl⟩
  rw [hn] at ownP hpl ⊢
  have hn121 : n ≤ 1048577 := by omega
  have HPN := hide hn
  have HLN := hide hpl
  clear KS hps hsz hn hpl hE hb0 hb1
  go_wp2_with fail
  go_loopw [4, 6] (fun v i wr => ∃ (k : Nat) (R : List Xc), k ≤ n ∧ i = .int .i64 k ∧ mapO sChc 0 (L.take k) = some R ∧ ChWF R ∧ R.length = k ∧ wr.ownsRow w.heap.size 75 4 v k (chC R) ∧ wr.ownsRow w.heap.size 9 1 (.slice A n q) n (strs ps) ∧ Below w.heap.size w wr)
    (fun _ i _ => n - (intOf i).toNat)
  case atStart => exact ⟨0, [], Nat.zero_le _, rfl, rfl, fun j hj => absurd hj (Nat.not_lt_zero _), rfl, hE1, ownP, bw1⟩
  case round =>
    obtain ⟨k, R, hk, rfl, hm, hwf, hRl, ownR, ownPr, hb⟩ := hrel
    obtain ⟨A', c', rfl⟩ := own_shapeS ownR
    by_cases hlt : k < n
    · have hki : (k : Int) < (n : Int) := by omega
      obtain ⟨b, x, rfl, hbb, hx, hc⟩ := piece_cellX ownPr HPN.out hlt
      have hxs : x.size ≤ 1048576 := Nat.le_trans (HSZ.out x (List.mem_of_getElem? hx)) hs
      have hLx : L[k]? = some x.data.toList := by rw [← HPS.out, List.getElem?_map, hx]; rfl
      have HM := hide hm
      have HW := hide hwf
      have HR := hide hRl
      have HLX := hide hLx
      clear hm hwf hRl hx hLx
      have HNN := hide (fun hh => HNone.out (mapO_out HLX.out hh))
      have HMS := hide (fun (y : Xc) (hh : sChc k x.data.toList = some y) => mapO_take HLX.out HM.out hh)
      by_cases hx1 : x.data.toList = [120]
      · have he' : (x.toList == ([120] : List UInt8)) = true := by rw [ByteArray.toList_eq, hx1]; rfl
        have hY := hide (HMS.out (true, 0, 0, 0) (by rw [hx1]; exact sChc_x k))
        clear hx1
        have own3 := ownR.alloc (.cells #[.bool true, .int .i8 0, .int .i8 0, .int .i8 0] 75)
        have own4 := ownPr.alloc (.cells #[.bool true, .int .i8 0, .int .i8 0, .int .i8 0] 75)
        have hnew := cells_fourX wr (.bool true) (.int .i8 0) (.int .i8 0) (.int .i8 0) 75
        have hb5 := hb.alloc hb.size (.cells #[.bool true, .int .i8 0, .int .i8 0, .int .i8 0] 75)
        have hWS := hide (chwf_snocR (a := true) (x := 0) (y := 0) (z := 0) HW.out ⟨⟨by omega, by omega⟩, ⟨by omega, by omega⟩, ⟨by omega, by omega⟩⟩)
        go_wp2_with (at_builtin; refine wpList_append_own _ rfl _ _ 37 rfl w.heap.size 75 i0 (.agg #[.bool false, .int .i8 0, .int .i8 0, .int .i8 0]) 4 4 Tryd.underlying37 hi hz0 hz1 hz2 rfl (by decide) _ _ _ rfl own3 ⟨wr.heap.size, 0, none⟩ 1 1 [.bool true, .int .i8 0, .int .i8 0, .int .i8 0] rfl rfl hnew (fun x hx => by simp at hx; rcases hx with rfl | rfl | rfl | rfl <;> rfl) (by unfold maxLen; omega) (by omega) hb5.size ?_; intro v6 w6 hown6 hgr6 hnil6)
        have hb6 := hb5.grown hgr6 hb5.size (fun j hj => (own3.lt j hj).1)
        have own6 := own4.kept hgr6 (own_ne2 own4 own3 (by decide))
        go_roundw
        case rel => exact ⟨k + 1, R ++ [(true, 0, 0, 0)], hlt, by go_num, hY.out, hWS.out, by rw [List.length_append, HR.out]; rfl, by rw [chC_append]; exact hown6, own6, hb6⟩
        case measure => simp [intOf]; omega
      have he' : (x.toList == ([120] : List UInt8)) = false := by rw [ByteArray.toList_eq]; exact beq_eq_false_iff_ne.2 hx1
      have HX1 := hide hx1
      have KC1 := KC x wr hxs
      clear hx1
      go_wp2_with fail
      refine KC1.mono ?_
      rintro e w2 ⟨A2, q2, ps2, rfl, hps2, hsz2, own2, hb2⟩
      have bX := step_below hb2 hb
      by_cases h2 : ps2.length = 3
      · obtain ⟨pa, pb, pd, rfl⟩ : ∃ a b d, ps2 = [a, b, d] := by
          match ps2, h2 with
          | [a, b, d], _ => exact ⟨a, b, d, rfl⟩
        have HT2 := hide (sChc_three (i := k) (x := x.data.toList) (a := pa.data.toList) (b := pb.data.toList) (d := pd.data.toList) HX1.out hps2.symm)
        have hpa : pa.size ≤ 1048576 := Nat.le_trans (hsz2 pa (by simp)) hxs
        have hpb : pb.size ≤ 1048576 := Nat.le_trans (hsz2 pb (by simp)) hxs
        have hpd : pd.size ≤ 1048576 := Nat.le_trans (hsz2 pd (by simp)) hxs
        obtain ⟨g2, rfl, hg2, _, hcc⟩ := own_strs own2 (by simp)
        have d0 : w2.cell? ⟨g2, 0, none⟩ = some (.string pa) := by have := hcc 0 pa rfl; simpa using this
        have d1 : w2.cell? ⟨g2, 1, none⟩ = some (.string pb) := by have := hcc 1 pb rfl; simpa using this
        have d2 : w2.cell? ⟨g2, 2, none⟩ = some (.string pd) := by have := hcc 2 pd rfl; simpa using this
        have KNa := KN pa w2 hpa
        have KNb := KN pb w2 hpb
        have KNd := KN pd w2 hpd
        obtain ⟨na1, na2⟩ := smI_in pa.data.toList
        obtain ⟨nb1, nb2⟩ := smI_in pb.data.toList
        obtain ⟨nd1, nd2⟩ := smI_in pd.data.toList
        unfold SmP at KNa KNb KNd
        generalize smI pa.data.toList = N at *
        generalize (ssm pa.data.toList).isSome = O at *
        generalize smI pb.data.toList = M at *
        generalize (ssm pb.data.toList).isSome = P at *
        generalize smI pd.data.toList = H at *
        generalize (ssm pd.data.toList).isSome = Q at *
        rw [show ([pa, pb, pd] : List ByteArray).length = 3 from rfl] at own2 ⊢
        clear hcc hps2 hsz2 h2 KN KC KC1
        go_wp2_with fail
        refine KNa.mono ?_
        rintro e w' ⟨rfl, rfl⟩
        go_wp2_with fail
        refine KNb.mono ?_
        rintro e w' ⟨rfl, rfl⟩
        go_wp2_with fail
        refine KNd.mono ?_
        rintro e w' ⟨rfl, rfl⟩
        by_cases hG : O = true ∧ P = true ∧ Q = true
        · obtain ⟨rfl, rfl, rfl⟩ := hG
          have hY := hide (HMS.out _ (HT2.out.trans (if_pos ⟨rfl, rfl, rfl⟩)))
          have ownX := own_keep ownR hb2
          have ownY := own_keep ownPr hb2
          have own3 := ownX.alloc (.cells #[.bool false, .int .i8 N, .int .i8 M, .int .i8 H] 75)
          have own4 := ownY.alloc (.cells #[.bool false, .int .i8 N, .int .i8 M, .int .i8 H] 75)
          have hnew := cells_fourX w2 (.bool false) (.int .i8 N) (.int .i8 M) (.int .i8 H) 75
          have hb5 := bX.alloc bX.size (.cells #[.bool false, .int .i8 N, .int .i8 M, .int .i8 H] 75)
          have hWS := hide (chwf_snocR (a := false) (x := N) (y := M) (z := H) HW.out ⟨⟨by omega, by omega⟩, ⟨by omega, by omega⟩, ⟨by omega, by omega⟩⟩)
          clear ownX ownY ownR ownPr hc own2 d0 d1 d2
          go_wp2_with (at_builtin; refine wpList_append_own _ rfl _ _ 37 rfl w.heap.size 75 i0 (.agg #[.bool false, .int .i8 0, .int .i8 0, .int .i8 0]) 4 4 Tryd.underlying37 hi hz0 hz1 hz2 rfl (by decide) _ _ _ rfl own3 ⟨w2.heap.size, 0, none⟩ 1 1 [.bool false, .int .i8 N, .int .i8 M, .int .i8 H] rfl rfl hnew (fun x hx => by simp at hx; rcases hx with rfl | rfl | rfl | rfl <;> rfl) (by unfold maxLen; omega) (by omega) hb5.size ?_; intro v6 w6 hown6 hgr6 hnil6)
          have hb6 := hb5.grown hgr6 hb5.size (fun j hj => (own3.lt j hj).1)
          have own6 := own4.kept hgr6 (own_ne2 own4 own3 (by decide))
          go_roundw
          case rel => exact ⟨k + 1, R ++ [(false, N, M, H)], hlt, by go_num, hY.out, hWS.out, by rw [List.length_append, HR.out]; rfl, by rw [chC_append]; exact hown6, own6, hb6⟩
          case measure => simp [intOf]; omega
        · have HE := hide (HNN.out (HT2.out.trans (if_neg hG)))
          cases O
          · clear hG
            go_wp2_with fail
            go_ret2
            rw [HE.out.1, HE.out.2]
            exact ownX_nilR _ 0 5 (own_emptyT _ _ bX.size) (bX.alloc bX.size _)
          cases P
          · clear hG
            go_wp2_with fail
            go_ret2
            rw [HE.out.1, HE.out.2]
            exact ownX_nilR _ 0 5 (own_emptyT _ _ bX.size) (bX.alloc bX.size _)
          cases Q
          · clear hG
            go_wp2_with fail
            go_ret2
            rw [HE.out.1, HE.out.2]
            exact ownX_nilR _ 0 5 (own_emptyT _ _ bX.size) (bX.alloc bX.size _)
          exact absurd ⟨rfl, rfl, rfl⟩ hG
      · have HE := hide (HNN.out (sChc_cut HX1.out (by rw [← hps2, List.length_map]; exact h2)))
        have h2i : ¬ (ps2.length : Int) = 3 := by omega
        clear hps2 hsz2 h2
        generalize ps2.length = n2 at *
        go_wp2_with fail
        go_ret2
        rw [HE.out.1, HE.out.2]
        exact ownX_nilR _ 0 5 (own_emptyT _ _ bX.size) (bX.alloc bX.size _)
    · obtain rfl : k = n := by omega
      have hki : ¬ (k : Int) < (k : Int) := by omega
      rw [List.take_of_length_le (by rw [← HLN.out]; exact Nat.le_refl _)] at hm
      have HA := ChA.of_own (l := R) (by rw [hRl]; exact ownR)
      have hkf : k ≤ 1048576 := by have := HFull.out R hm; rw [← HLN.out] at this; omega
      have KO := l07Choices_any A' c' R wr HA (by omega) hwf
      unfold Says at KO
      cases hv : xsB R
      · have HE := hide (HBad.out R hm (by unfold okX; simp [hv]))
        rw [hv, hRl] at KO
        clear hm hwf HA hRl hv
        go_wp2_with fail
        refine KO.mono ?_
        rintro e w2 ⟨rfl, hb2⟩
        have bX := step_below hb2 hb
        go_wp2_with fail
        go_ret2
        rw [HE.out.1, HE.out.2]
        exact ownX_nilR _ 0 5 (own_emptyT _ _ bX.size) (bX.alloc bX.size _)
      · by_cases h120 : k ≤ 120
        · have HE := hide (HGood.out R hm (by unfold okX; simp [hv]; omega))
          rw [hv, hRl] at KO
          have HRl := hide hRl
          have h120i : ¬ (120 : Int) < (k : Int) := by omega
          clear hm hwf HA hRl hv
          go_wp2_with fail
          refine KO.mono ?_
          rintro e w2 ⟨rfl, hb2⟩
          go_wp2_with fail
          go_ret2
          rw [HE.out.1, HE.out.2]
          exact ownX_ofR A' c' 0 _ k HRl.out (own_keep ownR hb2) (step_below hb2 hb)
        · have HE := hide (HBad.out R hm (by unfold okX; simp [hv]; omega))
          rw [hv, hRl] at KO
          have h120i : (120 : Int) < (k : Int) := by omega
          clear hm hwf HA hRl hv
          go_wp2_with fail
          refine KO.mono ?_
          rintro e w2 ⟨rfl, hb2⟩
          have bX := step_below hb2 hb
          go_wp2_with fail
          go_ret2
          rw [HE.out.1, HE.out.2]
          exact ownX_nilR _ 0 5 (own_emptyT _ _ bX.size) (bX.alloc bX.size _)
end Go.Proofs.YtmjpecneaenlpaaDoor
