import Derived.Test.YtmjpecneaenlpaaDoorRts
import Derived.Test.YtmjpecneaenlpaaDoorRtp
namespace Go.Proofs.YtmjpecneaenlpaaDoor
open Go.RowKit
/-- what the model reads of a piece -/
theorem sNote_cut {i : Nat} {x : List UInt8} (h : (spA 58 x).length ≠ 2) : sNote i x = none := by
  unfold sNote
  split
  · rename_i a b e
    rw [e] at h
    exact absurd rfl h
  · rfl
theorem sNote_two {i : Nat} {x a b : List UInt8} (h : spA 58 x = [a, b]) : sNote i x = if (snum a).isSome = true ∧ snI a < 200 ∧ 0 ≤ pnI b then some (snI a, pnI b) else none := by
  unfold sNote
  rw [h]
  simp only
  cases h1 : snum a with
  | none => simp [snI, h1]
  | some n =>
    cases h2 : pnF b with
    | none => simp [pnI, h2]
    | some p =>
      have e1 : snI a = n := by unfold snI; rw [h1]
      have e2 : pnI b = p := by unfold pnI; rw [h2]
      rw [e1, e2]
      by_cases hn : n < 200
      · rw [if_pos ⟨rfl, by omega, by omega⟩]; simp [hn]
      · rw [if_neg (fun h => by have := h.2.1; omega)]; simp [hn]
theorem sNote_nil (i : Nat) : sNote i [] = none := by
  rw [sNote_cut]
  rw [spA_no 58 [] (by simp)]
  simp
theorem mapO_full {s : List UInt8} {R : List (Int × Int)} (h : mapO sNote 0 (spA 32 s) = some R) : (spA 32 s).length ≤ s.length := by
  refine spA_full _ s (Nat.le_refl _) fun p hp e => ?_
  subst e
  obtain ⟨k, hk⟩ := List.mem_iff_getElem?.1 hp
  rw [mapO_out hk (sNote_nil _)] at h
  cases h
theorem pnI_47 (b : List UInt8) : pnI b ≤ 47 := by
  unfold pnI
  split
  · rename_i p h
    have := (pnF_some h).1
    omega
  · omega
theorem snI_0 (b : List UInt8) : 0 ≤ snI b := by
  unfold snI
  split <;> omega
set_option maxRecDepth 20000 in
set_option maxHeartbeats 4000000 in
theorem specReadTune_any (s : ByteArray) (w : World) (hs : s.size ≤ 1048576) :
    Calls Tryd.prog 7 #[.string s] w (OwnN w (rtT s) (rtC s)) := by
  have hE : (w.alloc (.cells #[] 54)).ownsRow w.heap.size 54 2 (.slice (some ⟨w.heap.size, 0, none⟩) 0 0) 0 (cellsOf []) := own_emptyT _ _ (Nat.le_refl _)
  have hb0 : Below w.heap.size w (w.alloc (.cells #[] 54)) := (Below.refl _ _).alloc (Nat.le_refl _) _
  by_cases h0 : s.data.toList = []
  · obtain ⟨e1, e2⟩ := rt_nil h0
    rw [e1, e2]
    have he : s = ⟨#[]⟩ := ByteArray.ext (Array.toList_inj.1 h0)
    subst he
    clear h0 e1 e2
    go_enter Tryd.func7, Tryd.ntmps7
    go_wp2_with fail
    go_ret2
    exact ownN_nilR _ 0 0 hE hb0
  have hne := sNe h0
  have HNone := hide (fun hm => rs_none h0 hm)
  have HBad := hide (fun t hm hv => rs_bad (t := t) h0 hm hv)
  have HGood := hide (fun t hm hv => rs_good (t := t) h0 hm hv)
  have hL1 := spA_len 32 s.data.toList
  rw [ba_size] at hL1
  have HFull := hide (fun R (h : mapO sNote 0 (spA 32 s.data.toList) = some R) => mapO_full h)
  rw [ba_size] at HFull
  obtain ⟨L, hL⟩ : ∃ L, L = spA 32 s.data.toList := ⟨_, rfl⟩
  have hLp : L ≠ [] := by rw [hL]; exact spA_ne _ _
  clear h0
  have KS := fun W => l01Split_any s 32 32 rfl W hs
  have KC := fun (x : ByteArray) W (hx : x.size ≤ 1048576) => l01Split_any x 58 58 rfl W hx
  have KN := fun (x : ByteArray) W (hx : x.size ≤ 1048576) => l01Number_any x W hx
  have KP := fun (x : ByteArray) W => l01Pitch_any x W
  rw [← hL] at HNone HBad HGood hL1 HFull
  simp only [← hL] at KS
  clear hL
  obtain ⟨V, hV⟩ : ∃ V, V = rtT s := ⟨_, rfl⟩
  obtain ⟨C, hC⟩ : ∃ C, C = rtC s := ⟨_, rfl⟩
  rw [← hV, ← hC]
  rw [← hV, ← hC] at HNone
  simp only [← hV, ← hC] at HBad HGood
  clear hV hC
  obtain ⟨i0, hi, hz0, hz1, hz2⟩ := info_parts info54
  go_enter Tryd.func7, Tryd.ntmps7
  go_wp2_with fail
  refine (KS _).mono ?_
  rintro e w1 ⟨A, q, ps, rfl, hps, hsz, ownP, hb1⟩
  have hE1 := own_keep hE hb1
  have bw1 := step_below hb1 hb0
  have ownP := own_base ownP hb0.size
  have hpl : ps.length = L.length := by rw [← hps, List.length_map]
  have HPS := hide hps
  have HSZ := hide hsz
  obtain ⟨n, hn⟩ : ∃ n, ps.length = n := ⟨_, rfl⟩
  rw [hn] at ownP hpl ⊢
  have hn121 : n ≤ 1048577 := by omega
  have HPN := hide hn
  have HLN := hide hpl
  clear KS hps hsz hn hpl hE hb0 hb1
  go_wp2_with fail
  go_loopw [4, 6] (fun v i wr => ∃ (k : Nat) (R : List (Int × Int)), k ≤ n ∧ i = .int .i64 k ∧ mapO sNote 0 (L.take k) = some R ∧ WF R ∧ R.length = k ∧ wr.ownsRow w.heap.size 54 2 v k (cellsOf R) ∧ wr.ownsRow w.heap.size 9 1 (.slice A n q) n (strs ps) ∧ Below w.heap.size w wr)
    (fun _ i _ => n - (intOf i).toNat)
  case atStart => exact ⟨0, [], Nat.zero_le _, rfl, rfl, fun j hj => absurd hj (Nat.not_lt_zero _), rfl, hE1, ownP, bw1⟩
  case round =>
    obtain ⟨k, R, hk, rfl, hm, hwf, hRl, ownR, ownPr, hb⟩ := hrel
    obtain ⟨A', c', rfl⟩ := own_shapeS ownR
    by_cases hlt : k < n
    · have hki : (k : Int) < (n : Int) := by omega
      obtain ⟨b, x, rfl, hbb, hx, hc⟩ := piece_cell ownPr HPN.out hlt
      have hxs : x.size ≤ 1048576 := Nat.le_trans (HSZ.out x (List.mem_of_getElem? hx)) hs
      have hLx : L[k]? = some x.data.toList := by rw [← HPS.out, List.getElem?_map, hx]; rfl
      have KC1 := KC x wr hxs
      have HM := hide hm
      have HW := hide hwf
      have HR := hide hRl
      have HLX := hide hLx
      clear hm hwf hRl hx hLx
      go_wp2_with fail
      refine KC1.mono ?_
      rintro e w2 ⟨A2, q2, ps2, rfl, hps2, hsz2, own2, hb2⟩
      have bX := step_below hb2 hb
      by_cases h2 : ps2.length = 2
      · obtain ⟨pa, pb, rfl⟩ : ∃ a b, ps2 = [a, b] := by
          match ps2, h2 with
          | [a, b], _ => exact ⟨a, b, rfl⟩
        have HT2 := hide (sNote_two (i := k) (x := x.data.toList) (a := pa.data.toList) (b := pb.data.toList) hps2.symm)
        have hpa : pa.size ≤ 1048576 := Nat.le_trans (hsz2 pa (by simp)) hxs
        obtain ⟨g2, rfl, hg2, _, hcc⟩ := own_strs own2 (by simp)
        have d0 : w2.cell? ⟨g2, 0, none⟩ = some (.string pa) := by have := hcc 0 pa rfl; simpa using this
        have d1 : w2.cell? ⟨g2, 1, none⟩ = some (.string pb) := by have := hcc 1 pb rfl; simpa using this
        have KNa := KN pa w2 hpa
        have KPb := KP pb w2
        have hp47 := pnI_47 pb.data.toList
        have hn0 := snI_0 pa.data.toList
        have HNN := hide (fun hh => HNone.out (mapO_out HLX.out hh))
        have HMS := hide (fun (y : Int × Int) (hh : sNote k x.data.toList = some y) => mapO_take HLX.out HM.out hh)
        unfold SnP at KNa
        generalize snI pa.data.toList = N at *
        generalize (snum pa.data.toList).isSome = O at *
        generalize pnI pb.data.toList = Pp at *
        simp only [List.length_cons, List.length_nil] at own2 ⊢
        clear hcc hps2 hsz2 h2 KC KN KP KC1
        cases O with
        | false =>
          have HE := hide (HNN.out (by rw [HT2.out, if_neg (by simp)]))
          go_wp2_with fail
          refine KNa.mono ?_
          rintro e w' ⟨rfl, rfl⟩
          go_wp2_with fail
          refine KPb.mono ?_
          rintro e w3 ⟨rfl, hb3⟩
          have b3 := step_below hb3 bX
          go_wp2_with fail
          go_ret2
          rw [HE.out.1, HE.out.2]
          exact ownN_nilR _ 0 5 (own_emptyT _ _ b3.size) (b3.alloc b3.size _)
        | true =>
        by_cases hN : N < 200
        · by_cases hP : Pp < 0
          · skip
            have HE := hide (HNN.out (by rw [HT2.out, if_neg (fun h => by omega)]))
            go_wp2_with fail
            refine KNa.mono ?_
            rintro e w' ⟨rfl, rfl⟩
            go_wp2_with fail
            refine KPb.mono ?_
            rintro e w3 ⟨rfl, hb3⟩
            have b3 := step_below hb3 bX
            go_wp2_with fail
            go_ret2
            rw [HE.out.1, HE.out.2]
            exact ownN_nilR _ 0 5 (own_emptyT _ _ b3.size) (b3.alloc b3.size _)
          · have hY := hide (HMS.out (N, Pp) (by rw [HT2.out, if_pos ⟨rfl, hN, by omega⟩]))
            have hWS := hide (wf_snocR (a := N) (p := Pp) HW.out ⟨by omega, by omega⟩ ⟨by omega, by omega⟩)
            have hw1 : IntKind.i16.wrap N = N := IntWalk.i16_in _ (by omega)
            have hw2 : IntKind.i8.wrap Pp = Pp := by simp [IntKind.wrap, IntKind.signed, IntKind.bits]; omega
            go_wp2_with fail
            refine KNa.mono ?_
            rintro e w' ⟨rfl, rfl⟩
            go_wp2_with fail
            refine KPb.mono ?_
            rintro e w3 ⟨rfl, hb3⟩
            have b3 := step_below hb3 bX
            have ownX := own_keep (own_keep ownR hb2) hb3
            have ownY := own_keep (own_keep ownPr hb2) hb3
            have own3 := ownX.alloc (.cells #[.int .i16 N, .int .i8 Pp] 54)
            have own4 := ownY.alloc (.cells #[.int .i16 N, .int .i8 Pp] 54)
            have hnew := cell_two_new' w3 (.int .i16 N) (.int .i8 Pp) 54
            have hb5 := b3.alloc b3.size (.cells #[.int .i16 N, .int .i8 Pp] 54)
            clear ownX ownY ownR ownPr hc own2 d0 d1
            go_wp2_with (at_builtin; refine wpList_append_own _ rfl _ _ 23 rfl w.heap.size 54 i0 (.agg #[.int .i16 0, .int .i8 0]) 2 4 Tryd.underlying23 hi hz0 hz1 hz2 rfl (by decide) _ _ _ rfl own3 ⟨w3.heap.size, 0, none⟩ 1 1 [.int .i16 N, .int .i8 Pp] rfl rfl hnew (fun x hx => by simp at hx; rcases hx with rfl | rfl <;> rfl) (by unfold maxLen; omega) (by omega) hb5.size ?_; intro v6 w6 hown6 hgr6 hnil6)
            have hb6 := hb5.grown hgr6 hb5.size (fun j hj => (own3.lt j hj).1)
            have own6 := own4.kept hgr6 (own_ne2 own4 own3 (by decide))
            go_roundw
            case rel => exact ⟨k + 1, R ++ [(N, Pp)], hlt, by go_num, hY.out, hWS.out, by rw [List.length_append, HR.out]; rfl, by rw [cellsOf_append]; exact hown6, own6, hb6⟩
            case measure => simp [intOf]; omega
        · skip
          have HE := hide (HNN.out (by rw [HT2.out, if_neg (fun h => by omega)]))
          go_wp2_with fail
          refine KNa.mono ?_
          rintro e w' ⟨rfl, rfl⟩
          go_wp2_with fail
          refine KPb.mono ?_
          rintro e w3 ⟨rfl, hb3⟩
          have b3 := step_below hb3 bX
          go_wp2_with fail
          go_ret2
          rw [HE.out.1, HE.out.2]
          exact ownN_nilR _ 0 5 (own_emptyT _ _ b3.size) (b3.alloc b3.size _)
      · have HE := hide (HNone.out (mapO_out HLX.out (sNote_cut (by rw [← hps2, List.length_map]; exact h2))))
        have h2i : ¬ (ps2.length : Int) = 2 := by omega
        clear hps2 hsz2 h2
        generalize ps2.length = n2 at *
        go_wp2_with fail
        go_ret2
        rw [HE.out.1, HE.out.2]
        exact ownN_nilR _ 0 5 (own_emptyT _ _ bX.size) (bX.alloc bX.size _)
    · obtain rfl : k = n := by omega
      have hki : ¬ (k : Int) < (k : Int) := by omega
      rw [List.take_of_length_le (by rw [← HLN.out]; exact Nat.le_refl _)] at hm
      have HA := NA.of_own (l := R) (by rw [hRl]; exact ownR)
      have hkf : k ≤ 1048576 := by have := HFull.out R hm; rw [← HLN.out] at this; omega
      have KO := l01Ok_any A' c' R wr HA (by omega) hwf
      cases hv : okB R
      · have HE := hide (HBad.out R hm hv)
        rw [hv, hRl] at KO
        clear hm hwf HA hRl hv
        go_wp2_with fail
        refine KO.mono ?_
        rintro e w2 ⟨rfl, hb2⟩
        have bX := step_below hb2 hb
        go_wp2_with fail
        go_ret2
        rw [HE.out.1, HE.out.2]
        exact ownN_nilR _ 0 5 (own_emptyT _ _ bX.size) (bX.alloc bX.size _)
      · have HE := hide (HGood.out R hm hv)
        rw [hv, hRl] at KO
        have HRl := hide hRl
        clear hm hwf HA hRl hv
        go_wp2_with fail
        refine KO.mono ?_
        rintro e w2 ⟨rfl, hb2⟩
        go_wp2_with fail
        go_ret2
        rw [HE.out.1, HE.out.2]
        exact ownN_ofR A' c' 0 _ k HRl.out (own_keep ownR hb2) (step_below hb2 hb)
end Go.Proofs.YtmjpecneaenlpaaDoor
