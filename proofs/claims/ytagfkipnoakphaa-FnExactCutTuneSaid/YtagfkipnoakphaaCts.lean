import Derived.Test.YtagfkipnoakphaaCut
namespace Go.Proofs.Ytagfkipnoakphaa
open Go.RowKit
set_option maxRecDepth 20000 in
set_option maxHeartbeats 4000000 in
theorem specCutTune_any (A : Option Addr) (c : Nat) (l : List (Int × Int)) (z y : Int) (w : World) (hA : NA w A l) (hn : l.length ≤ 1048576) (hwf : WF l) :
    Calls Try.prog 7 #[.slice A l.length c, .int .i64 z, .int .i64 y] w (OwnN w (ctV l z y) (ctC l z y)) := by
  obtain ⟨i0, hi, hz0, hz1, hz2⟩ := info_parts info57
  have KO := l01Ok_any A c l w hA hn hwf
  cases ho : okB l
  · rw [ho] at KO
    have HX := hide (show ctC l z y = 1 by simp [ctC, ho])
    have HY := hide (show ctV l z y = [] by simp [ctV, ho])
    clear ho
    go_enter Try.func7, Try.ntmps7
    go_wp2_with fail
    refine KO.mono ?_
    rintro e w1 ⟨rfl, hb1⟩
    go_wp2
    go_ret2
    rw [HX.out, HY.out]
    exact ownN_nil (some ⟨w1.heap.size, 0, none⟩) 0 1 (own_emptyT _ _ hb1.size) (hb1.alloc hb1.size _)
  rw [ho] at KO
  cases h1 : inB z 0 200
  · have K1 : ∀ W, Calls Try.prog 25 #[.int .i64 z, .int .i64 0, .int .i64 200] W fun e w' => e = .returned (.bool false) ∧ W = w' := fun W => by rw [← h1]; exact l00In_any _ _ _ W
    have hg : ctG z y = false := by simp [inB] at h1; simp [ctG]; omega
    have HX := hide (show ctC l z y = 2 by simp [ctC, ho, hg])
    have HY := hide (show ctV l z y = [] by simp [ctV, hg])
    clear ho h1 hg
    go_enter Try.func7, Try.ntmps7
    go_wp2_with fail
    refine KO.mono ?_
    rintro e w1 ⟨rfl, hb1⟩
    go_wp2_with (go_at_call 25; with_reducible refine (K1 _).mono ?_; rintro e w' ⟨rfl, rfl⟩)
    go_ret2
    rw [HX.out, HY.out]
    exact ownN_nil (some ⟨w1.heap.size, 0, none⟩) 0 2 (own_emptyT _ _ hb1.size) (hb1.alloc hb1.size _)
  have K1 : ∀ W, Calls Try.prog 25 #[.int .i64 z, .int .i64 0, .int .i64 200] W fun e w' => e = .returned (.bool true) ∧ W = w' := fun W => by rw [← h1]; exact l00In_any _ _ _ W
  cases h2 : inB y z 200
  · have K2 : ∀ W, Calls Try.prog 25 #[.int .i64 y, .int .i64 z, .int .i64 200] W fun e w' => e = .returned (.bool false) ∧ W = w' := fun W => by rw [← h2]; exact l00In_any _ _ _ W
    have hg : ctG z y = false := by simp [inB] at h1 h2; simp [ctG]; omega
    have HX := hide (show ctC l z y = 2 by simp [ctC, ho, hg])
    have HY := hide (show ctV l z y = [] by simp [ctV, hg])
    clear ho h1 h2 hg
    go_enter Try.func7, Try.ntmps7
    go_wp2_with fail
    refine KO.mono ?_
    rintro e w1 ⟨rfl, hb1⟩
    go_wp2_with (first | (go_at_call 25; with_reducible refine (K1 _).mono ?_; rintro e w' ⟨rfl, rfl⟩) | (go_at_call 25; with_reducible refine (K2 _).mono ?_; rintro e w' ⟨rfl, rfl⟩))
    go_ret2
    rw [HX.out, HY.out]
    exact ownN_nil (some ⟨w1.heap.size, 0, none⟩) 0 2 (own_emptyT _ _ hb1.size) (hb1.alloc hb1.size _)
  have K2 : ∀ W, Calls Try.prog 25 #[.int .i64 y, .int .i64 z, .int .i64 200] W fun e w' => e = .returned (.bool true) ∧ W = w' := fun W => by rw [← h2]; exact l00In_any _ _ _ W
  have hg : 0 ≤ z ∧ z ≤ y ∧ y ≤ 200 := by simp [inB] at h1 h2; omega
  have hgb : ctG z y = true := by simp [ctG]; omega
  have HIN := hide (fun k hk => ok_in ho k hk)
  have HX := hide (show ctC l z y = 0 by simp [ctC, ho, hgb])
  have HY := hide (show ctV l z y = ctL l z y l.length by simp [ctV, ho, hgb])
  obtain ⟨g1, g2, g3⟩ := hg
  have hwy : IntKind.i64.wrap (y - 1) = y - 1 := IntWalk.i64_in _ (by omega)
  have hwz : IntKind.i16.wrap z = z := by simp [IntKind.wrap, IntKind.signed, IntKind.bits]; omega
  clear ho h1 h2 hgb
  go_enter Try.func7, Try.ntmps7
  go_wp2_with fail
  refine KO.mono ?_
  rintro e w1 ⟨rfl, hb1⟩
  have hal : Below w.heap.size w (w1.alloc (.cells #[] 57)) := hb1.alloc hb1.size _
  have hE : (w1.alloc (.cells #[] 57)).ownsRow w.heap.size 57 2 (.slice (some ⟨w1.heap.size, 0, none⟩) 0 0) 0 [] := own_emptyT _ _ hb1.size
  go_wp2_with (first | (go_at_call 25; with_reducible refine (K1 _).mono ?_; rintro e w' ⟨rfl, rfl⟩) | (go_at_call 25; with_reducible refine (K2 _).mono ?_; rintro e w' ⟨rfl, rfl⟩))
  clear K1 K2 KO
  go_loopw [8, 9] (fun v i wr => ∃ (k n : Nat) (L : List (Int × Int)), k ≤ l.length ∧ i = .int .i64 k ∧ L = ctL l z y k ∧ L.length = n ∧ wr.ownsRow w.heap.size 57 2 v n (cellsOf L) ∧ Below w.heap.size w wr)
    (fun _ i _ => l.length - (intOf i).toNat)
  case atStart => exact ⟨0, 0, [], Nat.zero_le _, rfl, rfl, rfl, hE, hal⟩
  case round =>
    obtain ⟨k, n, L, hk, rfl, hL, hLn, hown, hb⟩ := hrel
    obtain ⟨A', c', rfl⟩ := own_shapeT hown
    have hnl : n ≤ 1048576 := by rw [← hLn, hL]; exact Nat.le_trans (ctL_le _ _ _ _) hn
    have HL := hide hL
    have HLN := hide hLn
    clear hL hLn
    by_cases hlt : k < l.length
    · obtain ⟨b, o, rfl, hbb, c1, c2⟩ := hA k hlt
      have d1 := (hb.cell (p := ⟨b, o + k * 2, none⟩) hbb).trans c1
      have d2 := (hb.cell (p := ⟨b, o + k * 2 + 1, none⟩) hbb).trans c2
      have hbk : b < wr.heap.size := Nat.lt_of_lt_of_le hbb hb.size
      obtain ⟨⟨x1, x2⟩, y1, y2⟩ := HIN.out k hlt
      have HS := hide (ctL_succ z y hlt)
      obtain ⟨x, hx⟩ : ∃ x, x = nAt l k := ⟨_, rfl⟩
      obtain ⟨q, hq⟩ : ∃ q, q = nPi l k := ⟨_, rfl⟩
      rw [← hx, ← hq] at HS
      rw [← hx] at d1 x1 x2
      rw [← hq] at d2 y1 y2
      clear c1 c2 hx hq
      cases h4 : inB x z (y - 1)
      · have K4 : ∀ W, Calls Try.prog 25 #[.int .i64 x, .int .i64 z, .int .i64 (y - 1)] W fun e w' => e = .returned (.bool false) ∧ W = w' := fun W => by rw [← h4]; exact l00In_any _ _ _ W
        have hqf : ctQ z y (x, q) = false := by simp [inB] at h4; simp [ctQ]; omega
        have HT := hide (show L = ctL l z y (k + 1) by rw [HS.out, hqf, HL.out]; simp)
        clear h4 hqf
        go_wp2_with (go_at_call 25; with_reducible refine (K4 _).mono ?_; rintro e w' ⟨rfl, rfl⟩)
        go_roundw
        case rel => exact ⟨k + 1, n, L, hlt, by go_num, HT.out, HLN.out, hown, hb⟩
        case measure => simp [intOf]; omega
      have K4 : ∀ W, Calls Try.prog 25 #[.int .i64 x, .int .i64 z, .int .i64 (y - 1)] W fun e w' => e = .returned (.bool true) ∧ W = w' := fun W => by rw [← h4]; exact l00In_any _ _ _ W
      have hqt : ctQ z y (x, q) = true := by simp [inB] at h4; simp [ctQ]; omega
      have hxz : z ≤ x ∧ x ≤ y - 1 := by simpa [inB] using h4
      have HT := hide (show L ++ [(x - z, q)] = ctL l z y (k + 1) by rw [HS.out, hqt, HL.out]; rfl)
      clear h4 hqt
      have hwx : IntKind.i16.wrap (x - z) = x - z := by simp [IntKind.wrap, IntKind.signed, IntKind.bits]; omega
      have hdr : Below wr.heap.size wr wr.drew := (Below.refl _ _).drew
      have t1 := (hdr.cell (p := ⟨b, o + k * 2, none⟩) hbk).trans d1
      have t2 := (hdr.cell (p := ⟨b, o + k * 2 + 1, none⟩) hbk).trans d2
      obtain ⟨W5, hW5⟩ : ∃ W5, W5 = (wr.alloc (.cells #[.int .i16 (x - z), .int .i8 q] 57)).drew := ⟨_, rfl⟩
      have hb5 : Below wr.heap.size wr W5 := by rw [hW5]; exact ((Below.refl _ _).alloc (Nat.le_refl _) _).drew
      have hnew5 : ∀ j u, ([.int .i16 (x - z), .int .i8 q] : List Value)[j]? = some u → W5.cell? ((⟨wr.heap.size, 0, none⟩ : Addr).add j) = some u := fun j u hu => by
        rw [hW5]
        exact cell_two_new' wr (.int .i16 (x - z)) (.int .i8 q) 57 j u hu
      have s1 := (hb5.cell (p := ⟨b, o + k * 2, none⟩) hbk).trans d1
      have s2 := (hb5.cell (p := ⟨b, o + k * 2 + 1, none⟩) hbk).trans d2
      have own8 := own_keep hown hb5
      have hb8 := step_below hb5 hb
      have hszb8 := hb8.size
      go_wp2_with (go_at_call 25; with_reducible refine (K4 _).mono ?_; rintro e w' ⟨rfl, rfl⟩)
      refine wp_region_held_drew (S := fun w' => w'.cell? ⟨b, o + k * 2, none⟩ = some (.int .i16 x) ∧ w'.cell? ⟨b, o + k * 2 + 1, none⟩ = some (.int .i8 q)) (by kernel_rfl) ⟨t1, t2⟩ fun hS1 => ?_
      refine wpAnyH_take (i := 0) (v := .slice A' n c') rfl (by kernel_rfl) (by kernel_rfl) (by kernel_rfl) (fun _ _ _ h => h) (Or.inl ⟨by rfl, fun w' _ => by go_simp⟩) hS1 ?_
      change wpAnyH _ _ _ _ _ _ _ (Act.put _ (some 41) _) _
      simp only [Act.put, List.setIfInBounds_toArray, List.set_cons_zero, List.set_cons_succ]
      refine wpAnyH_take (i := 1) (v := .slice (some ⟨b, o, none⟩) l.length c) rfl (by kernel_rfl) (by kernel_rfl) (by kernel_rfl) (fun _ _ _ h => h) (Or.inl ⟨by rfl, fun w' _ => by go_simp⟩) hS1 ?_
      change wpAnyH _ _ _ _ _ _ _ (Act.put _ (some 42) _) _
      simp only [Act.put, List.setIfInBounds_toArray, List.set_cons_zero, List.set_cons_succ]
      refine wpAnyH_take (i := 2) (v := .int .i64 k) rfl (by kernel_rfl) (by kernel_rfl) (by kernel_rfl) (fun _ _ _ h => h) (Or.inl ⟨by rfl, fun w' _ => by go_simp⟩) hS1 ?_
      change wpAnyH _ _ _ _ _ _ _ (Act.put _ (some 43) _) _
      simp only [Act.put, List.setIfInBounds_toArray, List.set_cons_zero, List.set_cons_succ]
      refine wpAnyH_take (i := 3) (v := Value.pointer (some ⟨b, o + k * 2, none⟩)) rfl (by kernel_rfl) (by kernel_rfl) (by kernel_rfl) (fun _ _ _ h => h) (Or.inl ⟨by rfl, fun w' _ => by go_simp⟩) hS1 ?_
      change wpAnyH _ _ _ _ _ _ _ (Act.put _ (some 44) _) _
      simp only [Act.put, List.setIfInBounds_toArray, List.set_cons_zero, List.set_cons_succ]
      refine wpAnyH_take (i := 4) (v := Value.pointer (some ⟨b, o + k * 2, none⟩)) rfl (by kernel_rfl) (by kernel_rfl) (by kernel_rfl) (fun _ _ _ h => h) (Or.inl ⟨by rfl, fun w' _ => by go_simp⟩) hS1 ?_
      change wpAnyH _ _ _ _ _ _ _ (Act.put _ (some 45) _) _
      simp only [Act.put, List.setIfInBounds_toArray, List.set_cons_zero, List.set_cons_succ]
      refine wpAnyH_take (i := 5) (v := .int .i16 x) rfl (by kernel_rfl) (by kernel_rfl) (by kernel_rfl) (fun _ _ _ h => h) (Or.inl ⟨by rfl, fun w' h => ?_⟩) hS1 ?_
      · have c0 := h.1
        clear h
        go_simp
      change wpAnyH _ _ _ _ _ _ _ (Act.put _ (some 46) _) _
      simp only [Act.put, List.setIfInBounds_toArray, List.set_cons_zero, List.set_cons_succ]
      refine wpAnyH_take (i := 6) (v := .int .i64 z) rfl (by kernel_rfl) (by kernel_rfl) (by kernel_rfl) (fun _ _ _ h => h) (Or.inl ⟨by rfl, fun w' _ => by go_simp⟩) hS1 ?_
      change wpAnyH _ _ _ _ _ _ _ (Act.put _ (some 47) _) _
      simp only [Act.put, List.setIfInBounds_toArray, List.set_cons_zero, List.set_cons_succ]
      refine wpAnyH_take (i := 7) (v := .int .i16 z) rfl (by kernel_rfl) (by kernel_rfl) (by kernel_rfl) (fun _ _ _ h => h) (Or.inl ⟨by rfl, fun w' _ => by go_simp⟩) hS1 ?_
      change wpAnyH _ _ _ _ _ _ _ (Act.put _ (some 48) _) _
      simp only [Act.put, List.setIfInBounds_toArray, List.set_cons_zero, List.set_cons_succ]
      refine wpAnyH_take (i := 8) (v := .int .i16 (x - z)) rfl (by kernel_rfl) (by kernel_rfl) (by kernel_rfl) (fun _ _ _ h => h) (Or.inl ⟨by rfl, fun w' _ => by go_simp⟩) hS1 ?_
      change wpAnyH _ _ _ _ _ _ _ (Act.put _ (some 49) _) _
      simp only [Act.put, List.setIfInBounds_toArray, List.set_cons_zero, List.set_cons_succ]
      refine wpAnyH_take (i := 9) (v := .slice (some ⟨b, o, none⟩) l.length c) rfl (by kernel_rfl) (by kernel_rfl) (by kernel_rfl) (fun _ _ _ h => h) (Or.inl ⟨by rfl, fun w' _ => by go_simp⟩) hS1 ?_
      change wpAnyH _ _ _ _ _ _ _ (Act.put _ (some 50) _) _
      simp only [Act.put, List.setIfInBounds_toArray, List.set_cons_zero, List.set_cons_succ]
      refine wpAnyH_take (i := 10) (v := .int .i64 k) rfl (by kernel_rfl) (by kernel_rfl) (by kernel_rfl) (fun _ _ _ h => h) (Or.inl ⟨by rfl, fun w' _ => by go_simp⟩) hS1 ?_
      change wpAnyH _ _ _ _ _ _ _ (Act.put _ (some 51) _) _
      simp only [Act.put, List.setIfInBounds_toArray, List.set_cons_zero, List.set_cons_succ]
      refine wpAnyH_take (i := 11) (v := Value.pointer (some ⟨b, o + k * 2, none⟩)) rfl (by kernel_rfl) (by kernel_rfl) (by kernel_rfl) (fun _ _ _ h => h) (Or.inl ⟨by rfl, fun w' _ => by go_simp⟩) hS1 ?_
      change wpAnyH _ _ _ _ _ _ _ (Act.put _ (some 52) _) _
      simp only [Act.put, List.setIfInBounds_toArray, List.set_cons_zero, List.set_cons_succ]
      refine wpAnyH_take (i := 12) (v := Value.pointer (some ⟨b, o + k * 2 + 1, none⟩)) rfl (by kernel_rfl) (by kernel_rfl) (by kernel_rfl) (fun _ _ _ h => h) (Or.inl ⟨by rfl, fun w' _ => by go_simp⟩) hS1 ?_
      change wpAnyH _ _ _ _ _ _ _ (Act.put _ (some 53) _) _
      simp only [Act.put, List.setIfInBounds_toArray, List.set_cons_zero, List.set_cons_succ]
      refine wpAnyH_take (i := 13) (v := .int .i8 q) rfl (by kernel_rfl) (by kernel_rfl) (by kernel_rfl) (fun _ _ _ h => h) (Or.inl ⟨by rfl, fun w' h => ?_⟩) hS1 ?_
      · have c0 := h.2
        clear h
        go_simp
      change wpAnyH _ _ _ _ _ _ _ (Act.put _ (some 54) _) _
      simp only [Act.put, List.setIfInBounds_toArray, List.set_cons_zero, List.set_cons_succ]
      refine wpAnyH_take (i := 14) (v := .agg #[.int .i16 (x - z), .int .i8 q]) rfl (by kernel_rfl) (by kernel_rfl) (by kernel_rfl) (fun _ _ _ h => h) (Or.inl ⟨by rfl, fun w' _ => by go_simp⟩) hS1 ?_
      change wpAnyH _ _ _ _ _ _ _ (Act.put _ (some 55) _) _
      simp only [Act.put, List.setIfInBounds_toArray, List.set_cons_zero, List.set_cons_succ]
      refine wpAnyH_ready (rs := [15]) (by kernel_rfl) (by simp) (AllReadyH.cons rfl ?_ AllReadyH.nil)
      intro K hK
      rw [if_pos (by rfl)]
      go_simp
      rw [← hW5]
      clear hW5
      refine hK.out _ _ ⟨s1, s2⟩ (fun hS2 => ?_)
      clear hK K hS1
      refine wpAnyH_ready (rs := [16]) (by kernel_rfl) (by simp) (AllReadyH.cons rfl ?_ AllReadyH.nil)
      intro K hK
      rw [if_pos (by rfl)]
      refine wp_append_own W5 (.tmp 41) (.tmp 56) 25 rfl w.heap.size 57 i0 (.agg #[.int .i16 0, .int .i8 0]) 2 4 Try.underlying25 hi hz0 hz1 hz2 rfl (by decide) _ _ _ rfl own8 ⟨wr.heap.size, 0, none⟩ 1 1 [.int .i16 (x - z), .int .i8 q] rfl rfl hnew5 (fun x hx => by simp at hx; rcases hx with rfl | rfl <;> rfl) (by unfold maxLen; omega) (by omega) hb8.size ?_
      intro v6 w6 hown6 hgr6 hnil6
      have hb6 : Below w.heap.size w w6 := hb8.grown hgr6 hb8.size (fun j hj => (own8.lt j hj).1)
      have s3 := hgr6.cell s1 (fun e => by have h := (own8.lt b e.symm).1; omega)
      have s4 := hgr6.cell s2 (fun e => by have h := (own8.lt b e.symm).1; omega)
      refine hK.out _ _ ⟨s3, s4⟩ (fun hS3 => ?_)
      clear hK K hS2
      obtain ⟨A6, c6, rfl⟩ := own_shapeT hown6
      refine wpAnyH_take (i := 17) (v := .slice A6 (n + 1) c6) rfl (by kernel_rfl) (by kernel_rfl) (by kernel_rfl) (fun _ _ _ h => h) (Or.inl ⟨by rfl, fun w' _ => by go_simp⟩) hS3 ?_
      change wpAnyH _ _ _ _ _ _ _ (Act.put _ (some 8) _) _
      simp only [Act.put, List.setIfInBounds_toArray, List.set_cons_zero, List.set_cons_succ]
      refine wpAnyH_done (by kernel_rfl) ?_ _
      go_wp2
      go_roundw
      case rel => exact ⟨k + 1, n + 1, L ++ [(x - z, q)], hlt, by go_num, HT.out, by rw [List.length_append, HLN.out]; rfl, by rw [cellsOf_append]; exact hown6, hb6⟩
      case measure => simp [intOf]; omega
    · obtain rfl : k = l.length := by omega
      go_wp2
      go_ret2
      rw [HX.out, HY.out, ← HL.out]
      exact ownN_of A' c' 0 _ n HLN.out hown hb
end Go.Proofs.Ytagfkipnoakphaa
