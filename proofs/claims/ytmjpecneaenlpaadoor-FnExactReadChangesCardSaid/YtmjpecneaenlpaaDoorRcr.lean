import Derived.Test.YtmjpecneaenlpaaDoorRcq
import Derived.Test.YtmjpecneaenlpaaDoorRtq
namespace Go.Proofs.YtmjpecneaenlpaaDoor
open Go.RowKit
set_option maxRecDepth 20000 in
set_option maxHeartbeats 4000000 in
theorem specReadChanges_any (s : ByteArray) (w : World) (hs : s.size ≤ 1048576) :
    Calls Tryd.prog 22 #[.string s] w (OwnG w (rcT s) (rcC s)) := by
  have hE : (w.alloc (.cells #[] 84)).ownsRow w.heap.size 84 3 (.slice (some ⟨w.heap.size, 0, none⟩) 0 0) 0 (cgC []) := own_emptyT _ _ (Nat.le_refl _)
  have hb0 : Below w.heap.size w (w.alloc (.cells #[] 84)) := (Below.refl _ _).alloc (Nat.le_refl _) _
  by_cases h0 : s.data.toList = []
  · obtain ⟨e1, e2⟩ := rc_nil h0
    rw [e1, e2]
    have he : s = ⟨#[]⟩ := ByteArray.ext (Array.toList_inj.1 h0)
    subst he
    clear h0 e1 e2
    go_enter Tryd.func22, Tryd.ntmps22
    go_wp2_with fail
    go_ret2
    exact ownC_nilR _ 0 0 hE hb0
  have hne := sNe h0
  have HNone := hide (fun hm => rcs_none h0 hm)
  have HBad := hide (fun t hm hv => rcs_bad (t := t) h0 hm hv)
  have HGood := hide (fun t hm hv => rcs_good (t := t) h0 hm hv)
  have hL1 := spA_len 32 s.data.toList
  rw [ba_size] at hL1
  have HFull := hide (fun R (h : mapO sChg 0 (spA 32 s.data.toList) = some R) => mapO_fullC h)
  rw [ba_size] at HFull
  obtain ⟨L, hL⟩ : ∃ L, L = spA 32 s.data.toList := ⟨_, rfl⟩
  have hLp : L ≠ [] := by rw [hL]; exact spA_ne _ _
  clear h0
  have KS := fun W => l01Split_any s 32 32 rfl W hs
  have KC := fun (x : ByteArray) W (hx : x.size ≤ 1048576) => l01Split_any x 47 47 rfl W hx
  have KN := fun (x : ByteArray) W (hx : x.size ≤ 1048576) => l01Number_any x W hx
  rw [← hL] at HNone HBad HGood hL1 HFull
  simp only [← hL] at KS
  clear hL
  obtain ⟨V, hV⟩ : ∃ V, V = rcT s := ⟨_, rfl⟩
  obtain ⟨C, hC⟩ : ∃ C, C = rcC s := ⟨_, rfl⟩
  rw [← hV, ← hC]
  rw [← hV, ← hC] at HNone
  simp only [← hV, ← hC] at HBad HGood
  clear hV hC
  obtain ⟨i0, hi, hz0, hz1, hz2⟩ := info_parts info84
  go_enter Tryd.func22, Tryd.ntmps22
  go_wp2_with fail
  refine (KS _).mono ?_
  rintro e w1 ⟨A, q, ps, rfl, hps, hsz, ownP, hb1⟩
  have hE1 := own_keep hE hb1
  have bw1 := step_below hb1 hb0
  have ownP := own_base ownP hb0.size
  have hpl : ps.length = L.length := by rw [← hps, List.length_map]
  have HPS := hide hps
  have HSZ := hide hsz
  obtain ⟨n, hn⟩ : ∃ n, ps.length = n := ⟨_, rfl⟩
  rw [hn] at ownP hpl ⊢
  have hn121 : n ≤ 1048577 := by omega
  have HPN := hide hn
  have HLN := hide hpl
  clear KS hps hsz hn hpl hE hb0 hb1
  go_wp2_with fail
  go_loopw [4, 6] (fun v i wr => ∃ (k : Nat) (R : List (Int × Int × Bool)), k ≤ n ∧ i = .int .i64 k ∧ mapO sChg 0 (L.take k) = some R ∧ CgWF R ∧ R.length = k ∧ wr.ownsRow w.heap.size 84 3 v k (cgC R) ∧ wr.ownsRow w.heap.size 9 1 (.slice A n q) n (strs ps) ∧ Below w.heap.size w wr)
    (fun _ i _ => n - (intOf i).toNat)
  case atStart => exact ⟨0, [], Nat.zero_le _, rfl, rfl, fun j hj => absurd hj (Nat.not_lt_zero _), rfl, hE1, ownP, bw1⟩
  case round =>
    obtain ⟨k, R, hk, rfl, hm, hwf, hRl, ownR, ownPr, hb⟩ := hrel
    obtain ⟨A', c', rfl⟩ := own_shapeS ownR
    by_cases hlt : k < n
    · have hki : (k : Int) < (n : Int) := by omega
      obtain ⟨b, x, rfl, hbb, hx, hc⟩ := piece_cellC ownPr HPN.out hlt
      have hxs : x.size ≤ 1048576 := Nat.le_trans (HSZ.out x (List.mem_of_getElem? hx)) hs
      have hLx : L[k]? = some x.data.toList := by rw [← HPS.out, List.getElem?_map, hx]; rfl
      have HM := hide hm
      have HW := hide hwf
      have HR := hide hRl
      have HLX := hide hLx
      clear hm hwf hRl hx hLx
      have HNN := hide (fun hh => HNone.out (mapO_out HLX.out hh))
      have HMS := hide (fun (y : Int × Int × Bool) (hh : sChg k x.data.toList = some y) => mapO_take HLX.out HM.out hh)
      by_cases hx2 : x.size < 2
      · have HE := hide (HNN.out (sChg_head (.inl (by rw [ba_size]; exact hx2))))
        have hx2i : (x.size : Int) < 2 := by omega
        go_wp2_with fail
        go_ret2
        rw [HE.out.1, HE.out.2]
        exact ownC_nilR _ 0 5 (own_emptyT _ _ hb.size) (hb.alloc hb.size _)
      have hx2i : ¬ (x.size : Int) < 2 := by omega
      obtain ⟨hd, r, hxl⟩ : ∃ hd r, x.data.toList = hd :: r := by
        cases h : x.data.toList with
        | nil => have h5 := ba_size x; rw [h, List.length_nil] at h5; omega
        | cons hd r => exact ⟨hd, r, rfl⟩
      have hix := idxS0 x hd (by rw [hxl]; rfl)
      by_cases hs43 : hd = 43 ∨ hd = 45
      · have hxn : x.size = r.length + 1 := by rw [← ba_size, hxl]; rfl
        have hrd : (x.extract 1 x.size).data.toList = r := by rw [ex_data, hxl, List.drop_succ_cons, List.drop_zero, List.take_of_length_le (by omega)]
        have hrs : (x.extract 1 x.size).size ≤ 1048576 := by rw [ByteArray.size_extract]; omega
        have KC1 := fun W => KC (x.extract 1 x.size) W hrs
        rw [hrd] at KC1
        have hsl0 : (1 : Int) ≤ (x.size : Int) := by omega
        have HP43 := hide (show (hd == (43 : UInt8)) = decide ((hd.toNat : Int) = 43) by rcases hs43 with rfl | rfl <;> decide)
        have hhd : ((hd.toNat : Int) = 43 ∧ True) ∨ (¬ (hd.toNat : Int) = 43 ∧ (hd.toNat : Int) = 45) := by rcases hs43 with rfl | rfl <;> simp
        have HCUT := hide (fun (h : (spA 47 r).length ≠ 2) => sChg_cut (i := k) (hd := hd) h)
        have HTWO := hide (fun (a b : List UInt8) (h : spA 47 r = [a, b]) => sChg_two (i := k) (hd := hd) hs43 h)
        rw [hxl] at HNN HMS
        have HSV := hide (show ∀ ps2 : List ByteArray, ps2.map (·.data.toList) = spA 47 r → ps2.length ≠ 2 → V = [] ∧ C = 5 from fun ps2 h1 h2 => HNN.out (HCUT.out (by rw [← h1, List.length_map]; exact h2)))
        clear hrd hrs hs43 hxl KC HCUT hxn
        obtain ⟨y, hy⟩ : ∃ y, y = x.extract 1 x.size := ⟨_, rfl⟩
        rw [← hy] at KC1
        have hyx : y.size ≤ 1048576 := by rw [hy, ByteArray.size_extract]; omega
        generalize hd.toNat = hdn at *
        rcases hhd with ⟨hh1, hh2⟩ | ⟨hh1, hh2⟩
        · skip
          have HPB := hide (show (hd == (43 : UInt8)) = true from HP43.out.trans (by first | exact decide_eq_true hh1 | exact decide_eq_false hh1))
          clear HP43
          go_wp2_with fail
          rw [← hy]
          refine (KC1 _).mono ?_
          rintro e w2 ⟨A2, q2, ps2, rfl, hps2, hsz2, own2, hb2⟩
          have bX := step_below hb2 hb
          by_cases h2 : ps2.length = 2
          · obtain ⟨pa, pb, rfl⟩ : ∃ a b, ps2 = [a, b] := by
              match ps2, h2 with
              | [a, b], _ => exact ⟨a, b, rfl⟩
            have HT2 := hide (HTWO.out pa.data.toList pb.data.toList hps2.symm)
            have hpa : pa.size ≤ 1048576 := Nat.le_trans (hsz2 pa (by simp)) hyx
            have hpb : pb.size ≤ 1048576 := Nat.le_trans (hsz2 pb (by simp)) hyx
            obtain ⟨g2, rfl, hg2, _, hcc⟩ := own_strs own2 (by simp)
            have d0 : w2.cell? ⟨g2, 0, none⟩ = some (.string pa) := by have := hcc 0 pa rfl; simpa using this
            have d1 : w2.cell? ⟨g2, 1, none⟩ = some (.string pb) := by have := hcc 1 pb rfl; simpa using this
            have KNa := KN pa w2 hpa
            have KNb := KN pb w2 hpb
            have hn0 := snI_0 pa.data.toList
            have hn1 := snI_0 pb.data.toList
            unfold SnP at KNa KNb
            rw [HPB.out] at HT2
            generalize snI pa.data.toList = N at *
            generalize (snum pa.data.toList).isSome = O at *
            generalize snI pb.data.toList = M at *
            generalize (snum pb.data.toList).isSome = P at *
            rw [show ([pa, pb] : List ByteArray).length = 2 from rfl] at own2 ⊢
            clear hcc hps2 hsz2 h2 KN KC1 HTWO
            go_wp2_with fail
            refine KNa.mono ?_
            rintro e w' ⟨rfl, rfl⟩
            go_wp2_with fail
            refine KNb.mono ?_
            rintro e w' ⟨rfl, rfl⟩
            by_cases hG : O = true ∧ P = true ∧ N < 96 ∧ M < 24
            · obtain ⟨rfl, rfl, hN, hM⟩ := hG
              have hY := hide (HMS.out _ (HT2.out.trans (if_pos ⟨rfl, rfl, hN, hM⟩)))
              have hw1 : IntKind.i16.wrap N = N := IntWalk.i16_in _ (by omega)
              have hw2 : IntKind.i8.wrap M = M := by simp [IntKind.wrap, IntKind.signed, IntKind.bits]; omega
              have ownX := own_keep ownR hb2
              have ownY := own_keep ownPr hb2
              have own3 := ownX.alloc (.cells #[.int .i16 N, .int .i8 M, .bool true] 84)
              have own4 := ownY.alloc (.cells #[.int .i16 N, .int .i8 M, .bool true] 84)
              have hnew := cell_three_new w2 (.int .i16 N) (.int .i8 M) (.bool true) 84
              have hb5 := bX.alloc bX.size (.cells #[.int .i16 N, .int .i8 M, .bool true] 84)
              have hWS := hide (cgwf_snocR (a := N) (p := M) (z := true) HW.out ⟨by omega, by omega⟩ ⟨by omega, by omega⟩)
              clear ownX ownY ownR ownPr hc own2 d0 d1
              go_wp2_with (at_builtin; refine wpList_append_own _ rfl _ _ 42 rfl w.heap.size 84 i0 (.agg #[.int .i16 0, .int .i8 0, .bool false]) 3 4 Tryd.underlying42 hi hz0 hz1 hz2 rfl (by decide) _ _ _ rfl own3 ⟨w2.heap.size, 0, none⟩ 1 1 [.int .i16 N, .int .i8 M, .bool true] rfl rfl hnew (fun x hx => by simp at hx; rcases hx with rfl | rfl | rfl <;> rfl) (by unfold maxLen; omega) (by omega) hb5.size ?_; intro v6 w6 hown6 hgr6 hnil6)
              have hb6 := hb5.grown hgr6 hb5.size (fun j hj => (own3.lt j hj).1)
              have own6 := own4.kept hgr6 (own_ne2 own4 own3 (by decide))
              go_roundw
              case rel => exact ⟨k + 1, R ++ [(N, M, true)], hlt, by go_num, hY.out, hWS.out, by rw [List.length_append, HR.out]; rfl, by rw [cgC_append]; exact hown6, own6, hb6⟩
              case measure => simp [intOf]; omega
            · have HE := hide (HNN.out (HT2.out.trans (if_neg hG)))
              cases O
              · clear hG
                go_wp2_with fail
                go_ret2
                rw [HE.out.1, HE.out.2]
                exact ownC_nilR _ 0 5 (own_emptyT _ _ bX.size) (bX.alloc bX.size _)
              cases P
              · clear hG
                go_wp2_with fail
                go_ret2
                rw [HE.out.1, HE.out.2]
                exact ownC_nilR _ 0 5 (own_emptyT _ _ bX.size) (bX.alloc bX.size _)
              by_cases hN : N < 96
              · have hM : ¬ M < 24 := fun h => hG ⟨rfl, rfl, hN, h⟩
                clear hG
                go_wp2_with fail
                go_ret2
                rw [HE.out.1, HE.out.2]
                exact ownC_nilR _ 0 5 (own_emptyT _ _ bX.size) (bX.alloc bX.size _)
              · clear hG
                go_wp2_with fail
                go_ret2
                rw [HE.out.1, HE.out.2]
                exact ownC_nilR _ 0 5 (own_emptyT _ _ bX.size) (bX.alloc bX.size _)
          · have HE := hide (HSV.out ps2 hps2 h2)
            have h2i : ¬ (ps2.length : Int) = 2 := by omega
            clear hps2 hsz2 h2
            generalize ps2.length = n2 at *
            go_wp2_with fail
            go_ret2
            rw [HE.out.1, HE.out.2]
            exact ownC_nilR _ 0 5 (own_emptyT _ _ bX.size) (bX.alloc bX.size _)
        · skip
          have HPB := hide (show (hd == (43 : UInt8)) = false from HP43.out.trans (by first | exact decide_eq_true hh1 | exact decide_eq_false hh1))
          clear HP43
          go_wp2_with fail
          rw [← hy]
          refine (KC1 _).mono ?_
          rintro e w2 ⟨A2, q2, ps2, rfl, hps2, hsz2, own2, hb2⟩
          have bX := step_below hb2 hb
          by_cases h2 : ps2.length = 2
          · obtain ⟨pa, pb, rfl⟩ : ∃ a b, ps2 = [a, b] := by
              match ps2, h2 with
              | [a, b], _ => exact ⟨a, b, rfl⟩
            have HT2 := hide (HTWO.out pa.data.toList pb.data.toList hps2.symm)
            have hpa : pa.size ≤ 1048576 := Nat.le_trans (hsz2 pa (by simp)) hyx
            have hpb : pb.size ≤ 1048576 := Nat.le_trans (hsz2 pb (by simp)) hyx
            obtain ⟨g2, rfl, hg2, _, hcc⟩ := own_strs own2 (by simp)
            have d0 : w2.cell? ⟨g2, 0, none⟩ = some (.string pa) := by have := hcc 0 pa rfl; simpa using this
            have d1 : w2.cell? ⟨g2, 1, none⟩ = some (.string pb) := by have := hcc 1 pb rfl; simpa using this
            have KNa := KN pa w2 hpa
            have KNb := KN pb w2 hpb
            have hn0 := snI_0 pa.data.toList
            have hn1 := snI_0 pb.data.toList
            unfold SnP at KNa KNb
            rw [HPB.out] at HT2
            generalize snI pa.data.toList = N at *
            generalize (snum pa.data.toList).isSome = O at *
            generalize snI pb.data.toList = M at *
            generalize (snum pb.data.toList).isSome = P at *
            rw [show ([pa, pb] : List ByteArray).length = 2 from rfl] at own2 ⊢
            clear hcc hps2 hsz2 h2 KN KC1 HTWO
            go_wp2_with fail
            refine KNa.mono ?_
            rintro e w' ⟨rfl, rfl⟩
            go_wp2_with fail
            refine KNb.mono ?_
            rintro e w' ⟨rfl, rfl⟩
            by_cases hG : O = true ∧ P = true ∧ N < 96 ∧ M < 24
            · obtain ⟨rfl, rfl, hN, hM⟩ := hG
              have hY := hide (HMS.out _ (HT2.out.trans (if_pos ⟨rfl, rfl, hN, hM⟩)))
              have hw1 : IntKind.i16.wrap N = N := IntWalk.i16_in _ (by omega)
              have hw2 : IntKind.i8.wrap M = M := by simp [IntKind.wrap, IntKind.signed, IntKind.bits]; omega
              have ownX := own_keep ownR hb2
              have ownY := own_keep ownPr hb2
              have own3 := ownX.alloc (.cells #[.int .i16 N, .int .i8 M, .bool false] 84)
              have own4 := ownY.alloc (.cells #[.int .i16 N, .int .i8 M, .bool false] 84)
              have hnew := cell_three_new w2 (.int .i16 N) (.int .i8 M) (.bool false) 84
              have hb5 := bX.alloc bX.size (.cells #[.int .i16 N, .int .i8 M, .bool false] 84)
              have hWS := hide (cgwf_snocR (a := N) (p := M) (z := false) HW.out ⟨by omega, by omega⟩ ⟨by omega, by omega⟩)
              clear ownX ownY ownR ownPr hc own2 d0 d1
              go_wp2_with (at_builtin; refine wpList_append_own _ rfl _ _ 42 rfl w.heap.size 84 i0 (.agg #[.int .i16 0, .int .i8 0, .bool false]) 3 4 Tryd.underlying42 hi hz0 hz1 hz2 rfl (by decide) _ _ _ rfl own3 ⟨w2.heap.size, 0, none⟩ 1 1 [.int .i16 N, .int .i8 M, .bool false] rfl rfl hnew (fun x hx => by simp at hx; rcases hx with rfl | rfl | rfl <;> rfl) (by unfold maxLen; omega) (by omega) hb5.size ?_; intro v6 w6 hown6 hgr6 hnil6)
              have hb6 := hb5.grown hgr6 hb5.size (fun j hj => (own3.lt j hj).1)
              have own6 := own4.kept hgr6 (own_ne2 own4 own3 (by decide))
              go_roundw
              case rel => exact ⟨k + 1, R ++ [(N, M, false)], hlt, by go_num, hY.out, hWS.out, by rw [List.length_append, HR.out]; rfl, by rw [cgC_append]; exact hown6, own6, hb6⟩
              case measure => simp [intOf]; omega
            · have HE := hide (HNN.out (HT2.out.trans (if_neg hG)))
              cases O
              · clear hG
                go_wp2_with fail
                go_ret2
                rw [HE.out.1, HE.out.2]
                exact ownC_nilR _ 0 5 (own_emptyT _ _ bX.size) (bX.alloc bX.size _)
              cases P
              · clear hG
                go_wp2_with fail
                go_ret2
                rw [HE.out.1, HE.out.2]
                exact ownC_nilR _ 0 5 (own_emptyT _ _ bX.size) (bX.alloc bX.size _)
              by_cases hN : N < 96
              · have hM : ¬ M < 24 := fun h => hG ⟨rfl, rfl, hN, h⟩
                clear hG
                go_wp2_with fail
                go_ret2
                rw [HE.out.1, HE.out.2]
                exact ownC_nilR _ 0 5 (own_emptyT _ _ bX.size) (bX.alloc bX.size _)
              · clear hG
                go_wp2_with fail
                go_ret2
                rw [HE.out.1, HE.out.2]
                exact ownC_nilR _ 0 5 (own_emptyT _ _ bX.size) (bX.alloc bX.size _)
          · have HE := hide (HSV.out ps2 hps2 h2)
            have h2i : ¬ (ps2.length : Int) = 2 := by omega
            clear hps2 hsz2 h2
            generalize ps2.length = n2 at *
            go_wp2_with fail
            go_ret2
            rw [HE.out.1, HE.out.2]
            exact ownC_nilR _ 0 5 (own_emptyT _ _ bX.size) (bX.alloc bX.size _)
      · have HE := hide (HNN.out (sChg_head (.inr ⟨by rw [hxl]; simpa using fun h => hs43 (.inl h), by rw [hxl]; simpa using fun h => hs43 (.inr h)⟩)))
        have hn43 : ¬ (hd.toNat : Int) = 43 := fun h => hs43 (.inl (UInt8.toNat_inj.1 (by show hd.toNat = 43; omega)))
        have hn45 : ¬ (hd.toNat : Int) = 45 := fun h => hs43 (.inr (UInt8.toNat_inj.1 (by show hd.toNat = 45; omega)))
        clear hxl hs43
        generalize hd.toNat = hdn at *
        have hb43 : ((hdn : Int) != 43) = true := bne_iff_ne.2 hn43
        have hb45 : ((hdn : Int) != 45) = true := bne_iff_ne.2 hn45
        go_wp2_with fail
        go_ret2
        rw [HE.out.1, HE.out.2]
        exact ownC_nilR _ 0 5 (own_emptyT _ _ hb.size) (hb.alloc hb.size _)
    · obtain rfl : k = n := by omega
      have hki : ¬ (k : Int) < (k : Int) := by omega
      rw [List.take_of_length_le (by rw [← HLN.out]; exact Nat.le_refl _)] at hm
      have HA := CgA.of_own (l := R) (by rw [hRl]; exact ownR)
      have hkf : k ≤ 1048576 := by have := HFull.out R hm; rw [← HLN.out] at this; omega
      have KO : Calls Tryd.prog 47 #[.slice A' R.length c'] wr fun e w' => e = .returned (.bool (okC R)) ∧ Below wr.heap.size wr w' := l05Plain_any A' c' R wr HA (by omega) hwf
      cases hv : okC R
      · have HE := hide (HBad.out R hm hv)
        rw [hv, hRl] at KO
        clear hm hwf HA hRl hv
        go_wp2_with fail
        refine KO.mono ?_
        rintro e w2 ⟨rfl, hb2⟩
        have bX := step_below hb2 hb
        go_wp2_with fail
        go_ret2
        rw [HE.out.1, HE.out.2]
        exact ownC_nilR _ 0 5 (own_emptyT _ _ bX.size) (bX.alloc bX.size _)
      · have HE := hide (HGood.out R hm hv)
        rw [hv, hRl] at KO
        have HRl := hide hRl
        clear hm hwf HA hRl hv
        go_wp2_with fail
        refine KO.mono ?_
        rintro e w2 ⟨rfl, hb2⟩
        go_wp2_with fail
        go_ret2
        rw [HE.out.1, HE.out.2]
        exact ownC_ofR A' c' 0 _ k HRl.out (own_keep ownR hb2) (step_below hb2 hb)
end Go.Proofs.YtmjpecneaenlpaaDoor
