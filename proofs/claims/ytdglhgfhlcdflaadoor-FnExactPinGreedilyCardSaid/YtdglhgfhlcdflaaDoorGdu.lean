import Derived.Test.YtdglhgfhlcdflaaDoorGdg
import Derived.Test.YtdglhgfhlcdflaaDoorGds
import Derived.Test.YtdglhgfhlcdflaaDoorTkg
namespace Go.Proofs.YtdglhgfhlcdflaaDoor
open Go.RowKit
set_option maxRecDepth 20000 in
theorem pinningFor0_any (p : Nat → Addr) (s : Int) (A : Option Addr) (c : Nat) (l : List (Int × Int)) (C : Option Addr) (ct : Nat) (L : List (Int × Int)) (w : World) (hA : HA w A l) (hn : l.length ≤ 1048576) (hwf : HWF l) (hs : -32768 ≤ s ∧ s ≤ 32767) (hC : NA w C L) (hL : L.length ≤ 1048576) (hLw : WF L) (hE : ErrP p w) :
    Calls Tryd.prog 33 #[.agg #[.int .i16 s, .slice A l.length c], .slice C L.length ct, .slice none 0 0] w (PgR p (pgK s l true L) (pgA s A l.length c C L.length ct (pgU l l.length) (pgV l l.length)) w) :=
  pinningFor_any p s A c l C ct L none 0 0 true w hA hn hwf hs hC hL hLw hE (fun _ W _ => fits_nil _ s A l.length c rfl W)
set_option maxRecDepth 20000 in
set_option maxHeartbeats 4000000 in
theorem specFirstUnpinned_any (s : Int) (A : Option Addr) (c : Nat) (l : List (Int × Int)) (C : Option Addr) (ct : Nat) (L : List (Int × Int)) (w : World) (hA : HA w A l) (hn : l.length ≤ 1048576) (hwf : HWF l) (hs : -32768 ≤ s ∧ s ≤ 32767) (hC : NA w C L) (hL : L.length ≤ 1048576) (hLw : WF L) :
    Calls Tryd.prog 9 #[.agg #[.int .i16 s, .slice A l.length c], .slice C L.length ct] w (Pair (.int .i64 (guV s l L)) (.int .i64 (guC s l L)) w) := by
  obtain ⟨RV, hRV⟩ : ∃ RV, RV = guV s l L := ⟨_, rfl⟩
  obtain ⟨RC, hRC⟩ : ∃ RC, RC = guC s l L := ⟨_, rfl⟩
  rw [← hRV, ← hRC]
  have HRV := hide hRV
  have HRC := hide hRC
  clear hRV hRC
  obtain ⟨X, hX⟩ : ∃ X, X = w.alloc (.cells #[.int .i16 s, .slice A l.length c] 33) := ⟨_, rfl⟩
  have b0 : Below w.heap.size w X := by rw [hX]; exact (Below.refl _ _).alloc (Nat.le_refl _) _
  have F0 : FP X w.heap.size s A l.length c := by
    have h : Bk X w.heap.size 33 #[.int .i16 s, .slice A l.length c] := by rw [hX]; exact Bk.new _ _ _ rfl
    exact ⟨h.cell rfl, h.cell rfl⟩
  go_enter Tryd.func9, Tryd.ntmps9
  go_upto_region 1 with fail
  rw [← hX]
  clear hX
  go_wp2_with fail
  refine (l03Fits_any w.heap.size s A c l C ct L X F0 (hA.below b0) hn hwf hs (hC.below b0) hL hLw).mono ?_
  rintro e w1 ⟨rfl, hb1⟩
  have b1 := step_below hb1 b0
  by_cases hk : pgK s l true L = 0
  rotate_left
  · have hcc : guC s l L = pgK s l true L := by rw [guC, if_neg hk]
    have HX := hide (show RC = pgK s l true L by rw [HRC.out, hcc])
    have HY := hide (show RV = 0 by rw [HRV.out, guV, hcc, if_neg hk])
    obtain ⟨kk, hkk⟩ : ∃ kk, kk = pgK s l true L := ⟨_, rfl⟩
    rw [← hkk] at HX hk ⊢
    have hk1 : (kk != 0) = true := by simpa using hk
    clear hkk hcc
    go_wp2
    go_ret2
    exact ⟨by rw [HX.out, HY.out]; rfl, b1⟩
  obtain ⟨hfr, hok, hlen⟩ := pgK_zero hk
  have hfa := frB_all hfr
  obtain ⟨S, rfl⟩ : ∃ S : Nat, s = (S : Int) := ⟨s.toNat, by omega⟩
  rw [hk]
  have HC1 := hide (show guC S l L = if (gdF S l L).isSome then 0 else 6 by rw [guC, hk, if_pos rfl, Int.toNat_natCast])
  have KG := hide (l03Greedy_any w.heap.size S A c l C ct L w1 (F0.keep hb1) (hA.below b1) (hC.below b1) (by omega) hfa.2.1.2 hfa.2.2 hok hlen)
  have hz := zeroDrum
  clear hfr hok hlen hfa hk
  cases hF : gdF S l L with
  | some i =>
    have hgI : gsI S l L = (i : Int) := by rw [gsI, hF]
    have hgD : gsD S l L = fun _ => 0 := by rw [gsD, hF]
    rw [hgI, hgD] at KG
    rw [hF] at HC1
    have h0i : (0 : Int) ≤ (i : Int) := by omega
    have h0n : ¬ (i : Int) < 0 := by omega
    have hc : guC S l L = 0 := by rw [HC1.out]; rfl
    have HX := hide (show RC = 0 by rw [HRC.out, hc])
    have HY := hide (show RV = (i : Int) by rw [HRV.out, guV, hc, if_pos rfl, Int.toNat_natCast, hF]; rfl)
    clear hc hF hgI hgD
    go_wp2_with fail
    refine KG.out.mono ?_
    rintro e w2 ⟨rfl, hb2⟩
    have b2 := step_below hb2 b1
    go_wp2_with (with_reducible refine wpList_store_newP rfl 43 (.tmp 7) (.tmp 17) rfl (da fun _ => 0) rfl rfl 43 _ (by rw [da_size]; exact info43) (by rw [za_eq]) (da_one _) ?_)
    go_ret2
    exact ⟨by rw [HX.out, HY.out]; rfl, b2.alloc b2.size _⟩
  | none =>
    have hgI : gsI S l L = -1 := by rw [gsI, hF]
    have hgD : gsD S l L = gdD S l L L.length := by rw [gsD, hF]
    rw [hgI, hgD] at KG
    rw [hF] at HC1
    obtain ⟨q, hq⟩ : ∃ q, q = gdD S l L L.length := ⟨_, rfl⟩
    rw [← hq] at KG
    have hc : guC S l L = 6 := by rw [HC1.out]; rfl
    have HX := hide (show RC = 6 by rw [HRC.out, hc])
    have HY := hide (show RV = 0 by rw [HRV.out, guV, hc]; rfl)
    clear hc hF hgI hgD hq
    go_wp2_with fail
    refine KG.out.mono ?_
    rintro e w2 ⟨rfl, hb2⟩
    have b2 := step_below hb2 b1
    go_wp2_with (with_reducible refine wpList_store_newP rfl 43 (.tmp 7) (.tmp 17) rfl (da q) rfl rfl 43 _ (by rw [da_size]; exact info43) (by rw [za_eq, da_size, da_size]) (da_one _) ?_)
    go_ret2
    exact ⟨by rw [HX.out, HY.out]; rfl, b2.alloc b2.size _⟩
set_option maxRecDepth 20000 in
set_option maxHeartbeats 4000000 in
theorem implFirstUnpinned_e (s : Int) (A : Option Addr) (c : Nat) (l : List (Int × Int)) (C : Option Addr) (ct : Nat) (L : List (Int × Int)) (w : World) (hA : HA w A l) (hn : l.length ≤ 1048576) (hwf : HWF l) (hs : -32768 ≤ s ∧ s ≤ 32767) (hC : NA w C L) (hL : L.length ≤ 1048576) (hLw : WF L) (hTE : TabE w) :
    Calls Tryd.prog 12 #[.agg #[.int .i16 s, .slice A l.length c], .slice C L.length ct] w (Pair (.int .i64 (guV s l L)) (.int .i64 (guC s l L)) w) := by
  obtain ⟨hT, p, hE⟩ := hTE
  have hE0 := hide hE
  obtain ⟨RV, hRV⟩ : ∃ RV, RV = guV s l L := ⟨_, rfl⟩
  obtain ⟨RC, hRC⟩ : ∃ RC, RC = guC s l L := ⟨_, rfl⟩
  rw [← hRV, ← hRC]
  have HRV := hide hRV
  have HRC := hide hRC
  clear hRV hRC
  have hzd := zeroDrum
  have hz := zeroPg
  obtain ⟨X, hX⟩ : ∃ X, X = w.alloc (.cells #[.int .i16 s, .slice A l.length c] 33) := ⟨_, rfl⟩
  have b0 : Below w.heap.size w X := by rw [hX]; exact (Below.refl _ _).alloc (Nat.le_refl _) _
  have B0 : Bk X w.heap.size 33 #[.int .i16 s, .slice A l.length c] := by rw [hX]; exact Bk.new _ _ _ rfl
  have f0 := B0.cell (i := 0) rfl
  have f1 := B0.cell (i := 1) rfl
  have KP := hide (pinningFor0_any p s A c l C ct L X (hA.below b0) hn hwf hs (hC.below b0) hL hLw (hE.keep b0))
  clear hE
  go_enter Tryd.func12, Tryd.ntmps12
  go_upto_region 1 with fail
  rw [← hX]
  clear hX
  go_wp2_with fail
  refine KP.out.mono ?_
  rintro e w1 ⟨rfl, hb1⟩
  have b1 := step_below hb1 b0
  have hzz : zpg.size = 71 := by rw [zpg_eq, pgA_size]
  have hzo : zpg.all (·.oneCell') = true := by rw [zpg_eq]; exact pgA_one
  have hzi : (Tryd.prog.info? 74).map (·.size) = some zpg.size := by rw [hzz]; exact info74
  clear f0 f1 B0 hb1
  by_cases hk : pgK s l true L = 0
  rotate_left
  · have hcc : guC s l L = pgK s l true L := by rw [guC, if_neg hk]
    have HX := hide (show RC = pgK s l true L by rw [HRC.out, hcc])
    have HY := hide (show RV = 0 by rw [HRV.out, guV, hcc, if_neg hk])
    have hk3 := pgK_cases s l true L
    obtain ⟨kk, hkk⟩ : ∃ kk, kk = pgK s l true L := ⟨_, rfl⟩
    rw [← hkk] at HX hk hk3 ⊢
    have hev : ∃ q, erX p kk = erV q := by
      rcases hk3 with rfl | rfl | rfl
      · exact absurd rfl hk
      · exact ⟨_, rfl⟩
      · exact ⟨_, rfl⟩
    have KC : ∀ W, Below w.heap.size w W → Calls Tryd.prog 34 #[erX p kk] W fun e w' => e = .returned (.int .i64 kk) ∧ W = w' := fun W hW => codeX_any (hE0.out.keep hW) (by omega)
    obtain ⟨q, hq⟩ := hev
    rw [hq] at KC ⊢
    rw [if_neg hk]
    have b2 := b1.alloc b1.size (.cells zpg 74)
    clear hkk hcc hk3 hq
    go_wp2_with (with_reducible refine wpList_store_newP rfl 74 (.tmp 6) (.tmp 14) rfl zpg rfl rfl 74 _ hzi rfl hzo ?_)
    refine (KC _ b2).mono ?_
    rintro e w2 ⟨rfl, rfl⟩
    go_wp2
    go_ret2
    exact ⟨by rw [HX.out, HY.out]; rfl, b2⟩
  obtain ⟨hfr, hok, hlen⟩ := pgK_zero hk
  have hfa := frB_all hfr
  obtain ⟨S, rfl⟩ : ∃ S : Nat, s = (S : Int) := ⟨s.toNat, by omega⟩
  rw [hk, if_pos rfl, show erX p 0 = .nilIface from rfl]
  have HC1 := hide (show guC S l L = if (gdF S l L).isSome then 0 else 6 by rw [guC, hk, if_pos rfl, Int.toNat_natCast])
  obtain ⟨Y, hY⟩ : ∃ Y, Y = w1.alloc (.cells (pgA S A l.length c C L.length ct (pgU l l.length) (pgV l l.length)) 74) := ⟨_, rfl⟩
  have hbY : Below w1.heap.size w1 Y := by rw [hY]; exact (Below.refl _ _).alloc (Nat.le_refl _) _
  have P1 : Bk Y w1.heap.size 74 (pgA S A l.length c C L.length ct (pgU l l.length) (pgV l l.length)) := by rw [hY]; exact Bk.new _ _ _ rfl
  have bY := step_below hbY b1
  have hn120 := ok_len hok
  have KG := hide (greedy_any w1.heap.size S A c l C ct L Y P1 (hC.below bY) (by omega) hfa.2.1.2 hfa.2.2 hok hlen (hT.keep bY))
  clear hfr hok hlen hfa hk
  go_upto_region 4 with (with_reducible refine wpList_store_newP rfl 74 (.tmp 6) (.tmp 14) rfl (pgA S A l.length c C L.length ct (pgU l l.length) (pgV l l.length)) rfl rfl 74 _ pgInfo (hzz.trans pgA_size.symm) pgA_one ?_)
  rw [← hY]
  clear hY hz hzz hzo hzi
  have hFc : ∀ i, gdF S l L = some i → i < L.length := fun i hi => by
    unfold gdF at hi
    rw [List.find?_range_eq_some] at hi
    exact List.mem_range.1 hi.2.1
  obtain ⟨N, hN⟩ : ∃ N, N = (gdF S l L).getD L.length := ⟨_, rfl⟩
  obtain ⟨q, hq⟩ : ∃ q, q = gdD S l L N := ⟨_, rfl⟩
  rw [← hN, ← hq] at KG
  have hNle : N ≤ L.length := by
    rw [hN]
    cases hF : gdF S l L with
    | none => exact Nat.le_refl _
    | some i => exact Nat.le_of_lt (hFc i hF)
  have HXY := hide (show (N = L.length → RC = 6 ∧ RV = 0) ∧ (N ≠ L.length → RC = 0 ∧ RV = (N : Int)) from by
    cases hF : gdF S l L with
    | none =>
      have hc : guC S l L = 6 := by rw [HC1.out, hF]; rfl
      refine ⟨fun _ => ⟨by rw [HRC.out, hc], by rw [HRV.out, guV, hc]; rfl⟩, fun h => absurd ?_ h⟩
      rw [hN, hF]; rfl
    | some i =>
      have hc : guC S l L = 0 := by rw [HC1.out, hF]; rfl
      have hNi : N = i := by rw [hN, hF]; rfl
      have hil := hFc i hF
      refine ⟨fun h => by omega, fun _ => ⟨by rw [HRC.out, hc], by rw [HRV.out, guV, hc, if_pos rfl, Int.toNat_natCast, hF, hNi]; rfl⟩⟩)
  clear hN hq hFc
  go_wp2_with fail
  refine KG.out.mono ?_
  rintro e w2 ⟨rfl, hb2⟩
  have b2 := step_below hb2 bY
  have b3 := b2.alloc b2.size (.cells (da q) 43)
  by_cases hNL : N = L.length
  · have HX := hide (HXY.out.1 hNL).1
    have HY := hide (HXY.out.1 hNL).2
    have hnb : ((N : Int) == (L.length : Int)) = true := by simp [hNL]
    clear hNL
    go_wp2_with (with_reducible refine wpList_store_newP rfl 43 (.tmp 8) (.tmp 22) rfl (da q) rfl rfl 43 _ (by rw [da_size]; exact info43) (by rw [za_eq, da_size, da_size]) (da_one _) ?_)
    go_ret2
    exact ⟨by rw [HX.out, HY.out]; rfl, b3⟩
  · have HX := hide (HXY.out.2 hNL).1
    have HY := hide (HXY.out.2 hNL).2
    have hnb : ((N : Int) == (L.length : Int)) = false := by rw [beq_eq_false_iff_ne]; omega
    clear hNL
    go_wp2_with (with_reducible refine wpList_store_newP rfl 43 (.tmp 8) (.tmp 22) rfl (da q) rfl rfl 43 _ (by rw [da_size]; exact info43) (by rw [za_eq, da_size, da_size]) (da_one _) ?_)
    go_ret2
    exact ⟨by rw [HX.out, HY.out]; rfl, b3⟩
set_option maxRecDepth 20000 in
set_option maxHeartbeats 4000000 in
theorem specPinGreedily_any (s : Int) (A : Option Addr) (c : Nat) (l : List (Int × Int)) (C : Option Addr) (ct : Nat) (L : List (Int × Int)) (w : World) (hA : HA w A l) (hn : l.length ≤ 1048576) (hwf : HWF l) (hs : -32768 ≤ s ∧ s ≤ 32767) (hC : NA w C L) (hL : L.length ≤ 1048576) (hLw : WF L) :
    Calls Tryd.prog 15 #[.agg #[.int .i16 s, .slice A l.length c], .slice C L.length ct] w (DrC (gpD s l L) (gpC s l L) w) := by
  obtain ⟨RV, hRV⟩ : ∃ RV, RV = gpD s l L := ⟨_, rfl⟩
  obtain ⟨RC, hRC⟩ : ∃ RC, RC = gpC s l L := ⟨_, rfl⟩
  rw [← hRV, ← hRC]
  have HRV := hide hRV
  have HRC := hide hRC
  clear hRV hRC
  have hz := zeroDrum
  obtain ⟨X, hX⟩ : ∃ X, X = (w.alloc (.cells #[.int .i16 s, .slice A l.length c] 33)).alloc (.cells za 43) := ⟨_, rfl⟩
  have b0 : Below w.heap.size w X := by rw [hX]; exact ((Below.refl _ _).alloc (Nat.le_refl _) _).alloc (by simp) _
  have F0 : FP X w.heap.size s A l.length c := by
    have h : Bk X w.heap.size 33 #[.int .i16 s, .slice A l.length c] := by rw [hX]; exact (Bk.new _ _ _ rfl).old _
    exact ⟨h.cell rfl, h.cell rfl⟩
  have Z0 : Dr X (w.heap.size + 1) 43 (fun _ => 0) := by rw [hX, za_eq]; exact heap_new' _ _ _ (by simp)
  go_enter Tryd.func15, Tryd.ntmps15
  go_upto_region 1 with fail
  rw [← hX]
  clear hX
  go_wp2_with fail
  refine (l03Fits_any w.heap.size s A c l C ct L X F0 (hA.below b0) hn hwf hs (hC.below b0) hL hLw).mono ?_
  rintro e w1 ⟨rfl, hb1⟩
  have b1 := step_below hb1 b0
  have Z1 := Z0.keep hb1
  have HZ1 := hide (show w1.heap[w.heap.size + 1]? = some (.cells (da fun _ => 0) 43 (0, 0)) from Z1)
  by_cases hk : pgK s l true L = 0
  rotate_left
  · have hcc : gpC s l L = pgK s l true L := by rw [gpC, if_neg hk]
    have HX := hide (show RC = pgK s l true L by rw [HRC.out, hcc])
    have HY := hide (show RV = fun _ => 0 by rw [HRV.out, gpD, hcc, if_neg hk])
    obtain ⟨kk, hkk⟩ : ∃ kk, kk = pgK s l true L := ⟨_, rfl⟩
    rw [← hkk] at HX hk ⊢
    have hk1 : (kk != 0) = true := by simpa using hk
    clear hkk hcc
    go_wp2_with (first | (with_reducible refine wpList_build0 rfl rfl ?_) | (with_reducible refine wpList_store_row rfl 43 (.tmp 4) (.tmp 13) rfl (w.heap.size + 1) (da fun _ => 0) rfl rfl 43 _ HZ1.out (by rw [da_size]; exact info43) (by simp only [da_size]) (da_one _) ?_))
    exact bodyPost_ret (v := .tuple #[.agg (da fun _ => 0), .int .i64 kk]) (results_dr Tryd.results15 _ _ (w.heap.size + 1) 43 _ _ (by simp [Act.put]) (by simp [Act.put]) (setRow_heap _ _ _ _ _ _ HZ1.out)) rfl ⟨by rw [HX.out, HY.out], below_setRow b1 (by omega)⟩
  obtain ⟨hfr, hok, hlen⟩ := pgK_zero hk
  have hfa := frB_all hfr
  obtain ⟨S, rfl⟩ : ∃ S : Nat, s = (S : Int) := ⟨s.toNat, by omega⟩
  rw [hk]
  have HC1 := hide (show gpC S l L = if (gdF S l L).isSome then 6 else 0 by rw [gpC, hk, if_pos rfl, Int.toNat_natCast])
  have KG := hide (l03Greedy_any w.heap.size S A c l C ct L w1 (F0.keep hb1) (hA.below b1) (hC.below b1) (by omega) hfa.2.1.2 hfa.2.2 hok hlen)
  clear hfr hok hlen hfa hk
  cases hF : gdF S l L with
  | some i =>
    have hgI : gsI S l L = (i : Int) := by rw [gsI, hF]
    have hgD : gsD S l L = fun _ => 0 := by rw [gsD, hF]
    rw [hgI, hgD] at KG
    rw [hF] at HC1
    have h0i : (0 : Int) ≤ (i : Int) := by omega
    have h0n : ¬ (i : Int) < 0 := by omega
    have hc : gpC S l L = 6 := by rw [HC1.out]; rfl
    have HX := hide (show RC = 6 by rw [HRC.out, hc])
    have HY := hide (show RV = fun _ => 0 by rw [HRV.out, gpD, hc]; rfl)
    clear hc hF hgI hgD
    go_wp2_with fail
    refine KG.out.mono ?_
    rintro e w2 ⟨rfl, hb2⟩
    have b2 := step_below hb2 b1
    have Z2 := Z1.keep hb2
    have b3 := b2.alloc b2.size (.cells (da fun _ => 0) 43)
    have Z3 : Dr (w2.alloc (.cells (da fun _ => 0) 43)) (w.heap.size + 1) 43 (fun _ => 0) := heap_old' Z2
    have HZ3 := hide (show (w2.alloc (.cells (da fun _ => 0) 43)).heap[w.heap.size + 1]? = some (.cells (da fun _ => 0) 43 (0, 0)) from Z3)
    go_wp2_with (first | (with_reducible refine wpList_store_newP rfl 43 (.tmp 7) (.tmp 18) rfl (da fun _ => 0) rfl rfl 43 _ (by rw [da_size]; exact info43) (by rw [za_eq]) (da_one _) ?_) | (with_reducible refine wpList_build0 rfl rfl ?_) | (with_reducible refine wpList_store_row rfl 43 (.tmp 4) (.tmp 22) rfl (w.heap.size + 1) (da fun _ => 0) rfl rfl 43 _ HZ3.out (by rw [da_size]; exact info43) (by simp only [da_size]) (da_one _) ?_))
    exact bodyPost_ret (v := .tuple #[.agg (da fun _ => 0), .int .i64 6]) (results_dr Tryd.results15 _ _ (w.heap.size + 1) 43 _ _ (by simp [Act.put]) (by simp [Act.put]) (setRow_heap _ _ _ _ _ _ HZ3.out)) rfl ⟨by rw [HX.out, HY.out], below_setRow b3 (by omega)⟩
  | none =>
    have hgI : gsI S l L = -1 := by rw [gsI, hF]
    have hgD : gsD S l L = gdD S l L L.length := by rw [gsD, hF]
    rw [hgI, hgD] at KG
    rw [hF] at HC1
    obtain ⟨q, hq⟩ : ∃ q, q = gdD S l L L.length := ⟨_, rfl⟩
    rw [← hq] at KG
    have hc : gpC S l L = 0 := by rw [HC1.out]; rfl
    have HX := hide (show RC = 0 by rw [HRC.out, hc])
    have HY := hide (show RV = q by rw [HRV.out, gpD, hc, if_pos rfl, Int.toNat_natCast, hq])
    clear hc hF hgI hgD hq
    go_wp2_with fail
    refine KG.out.mono ?_
    rintro e w2 ⟨rfl, hb2⟩
    have b2 := step_below hb2 b1
    have Z2 := Z1.keep hb2
    have b3 := b2.alloc b2.size (.cells (da q) 43)
    have Z3 : Dr (w2.alloc (.cells (da q) 43)) (w.heap.size + 1) 43 (fun _ => 0) := heap_old' Z2
    have Q3 : Dr (w2.alloc (.cells (da q) 43)) w2.heap.size 43 q := heap_new' _ _ _ rfl
    have HQ3 := hide Q3.range
    have HZ3 := hide (show (w2.alloc (.cells (da q) 43)).heap[w.heap.size + 1]? = some (.cells (da fun _ => 0) 43 (0, 0)) from Z3)
    go_wp2_with (first | (with_reducible refine wpList_store_newP rfl 43 (.tmp 7) (.tmp 18) rfl (da q) rfl rfl 43 _ (by rw [da_size]; exact info43) (by rw [za_eq, da_size, da_size]) (da_one _) ?_) | (with_reducible refine wpList_load_da rfl 43 (.tmp 7) rfl w2.heap.size 0 rfl q _ HQ3.out Tryd.underlying43 rfl (dInfo q) ?_) | (with_reducible refine wpList_store_row rfl 43 (.tmp 4) (.tmp 23) rfl (w.heap.size + 1) (da q) rfl rfl 43 _ HZ3.out (by rw [da_size]; exact info43) (by simp only [da_size]) (da_one _) ?_))
    exact bodyPost_ret (v := .tuple #[.agg (da q), .int .i64 0]) (results_dr Tryd.results15 _ _ (w.heap.size + 1) 43 _ _ (by simp [Act.put]) (by simp [Act.put]) (setRow_heap _ _ _ _ _ _ HZ3.out)) rfl ⟨by rw [HX.out, HY.out], below_setRow b3 (by omega)⟩
set_option maxRecDepth 20000 in
set_option maxHeartbeats 4000000 in
theorem implPinGreedily_e (s : Int) (A : Option Addr) (c : Nat) (l : List (Int × Int)) (C : Option Addr) (ct : Nat) (L : List (Int × Int)) (w : World) (hA : HA w A l) (hn : l.length ≤ 1048576) (hwf : HWF l) (hs : -32768 ≤ s ∧ s ≤ 32767) (hC : NA w C L) (hL : L.length ≤ 1048576) (hLw : WF L) (hTE : TabE w) :
    Calls Tryd.prog 16 #[.agg #[.int .i16 s, .slice A l.length c], .slice C L.length ct] w (DrC (gpD s l L) (gpC s l L) w) := by
  obtain ⟨hT, p, hE⟩ := hTE
  have hE0 := hide hE
  obtain ⟨RV, hRV⟩ : ∃ RV, RV = gpD s l L := ⟨_, rfl⟩
  obtain ⟨RC, hRC⟩ : ∃ RC, RC = gpC s l L := ⟨_, rfl⟩
  rw [← hRV, ← hRC]
  have HRV := hide hRV
  have HRC := hide hRC
  clear hRV hRC
  have hzd := zeroDrum
  have hz := zeroPg
  obtain ⟨X, hX⟩ : ∃ X, X = (w.alloc (.cells #[.int .i16 s, .slice A l.length c] 33)).alloc (.cells za 43) := ⟨_, rfl⟩
  have b0 : Below w.heap.size w X := by rw [hX]; exact ((Below.refl _ _).alloc (Nat.le_refl _) _).alloc (by simp) _
  have B0 : Bk X w.heap.size 33 #[.int .i16 s, .slice A l.length c] := by rw [hX]; exact (Bk.new _ _ _ rfl).old _
  have Z0 : Dr X (w.heap.size + 1) 43 (fun _ => 0) := by rw [hX, za_eq]; exact heap_new' _ _ _ (by simp)
  have f0 := B0.cell (i := 0) rfl
  have f1 := B0.cell (i := 1) rfl
  have KP := hide (pinningFor0_any p s A c l C ct L X (hA.below b0) hn hwf hs (hC.below b0) hL hLw (hE.keep b0))
  clear hE
  go_enter Tryd.func16, Tryd.ntmps16
  go_upto_region 1 with fail
  rw [← hX]
  clear hX
  go_wp2_with fail
  refine KP.out.mono ?_
  rintro e w1 ⟨rfl, hb1⟩
  have b1 := step_below hb1 b0
  have Z1 := Z0.keep hb1
  have hzz : zpg.size = 71 := by rw [zpg_eq, pgA_size]
  have hzo : zpg.all (·.oneCell') = true := by rw [zpg_eq]; exact pgA_one
  have hzi : (Tryd.prog.info? 74).map (·.size) = some zpg.size := by rw [hzz]; exact info74
  clear f0 f1 B0 hb1
  by_cases hk : pgK s l true L = 0
  rotate_left
  · have hcc : gpC s l L = pgK s l true L := by rw [gpC, if_neg hk]
    have HX := hide (show RC = pgK s l true L by rw [HRC.out, hcc])
    have HY := hide (show RV = fun _ => 0 by rw [HRV.out, gpD, hcc, if_neg hk])
    have hk3 := pgK_cases s l true L
    obtain ⟨kk, hkk⟩ : ∃ kk, kk = pgK s l true L := ⟨_, rfl⟩
    rw [← hkk] at HX hk hk3 ⊢
    have hev : ∃ q, erX p kk = erV q := by
      rcases hk3 with rfl | rfl | rfl
      · exact absurd rfl hk
      · exact ⟨_, rfl⟩
      · exact ⟨_, rfl⟩
    have KC : ∀ W, Below w.heap.size w W → Calls Tryd.prog 34 #[erX p kk] W fun e w' => e = .returned (.int .i64 kk) ∧ W = w' := fun W hW => codeX_any (hE0.out.keep hW) (by omega)
    obtain ⟨q, hq⟩ := hev
    rw [hq] at KC ⊢
    rw [if_neg hk]
    have b2 := b1.alloc b1.size (.cells zpg 74)
    clear hkk hcc hk3 hq
    have Z2 : Dr (w1.alloc (.cells zpg 74)) (w.heap.size + 1) 43 (fun _ => 0) := heap_old' Z1
    have HZ2 := hide (show (w1.alloc (.cells zpg 74)).heap[w.heap.size + 1]? = some (.cells (da fun _ => 0) 43 (0, 0)) from Z2)
    go_wp2_with (first | (with_reducible refine wpList_store_newP rfl 74 (.tmp 6) (.tmp 14) rfl zpg rfl rfl 74 _ hzi rfl hzo ?_) | (with_reducible refine wpList_build0 rfl rfl ?_))
    refine (KC _ b2).mono ?_
    rintro e w2 ⟨rfl, rfl⟩
    go_wp2_with (with_reducible refine wpList_store_row rfl 43 (.tmp 4) (.tmp 18) rfl (w.heap.size + 1) (da fun _ => 0) rfl rfl 43 _ HZ2.out (by rw [da_size]; exact info43) (by simp only [da_size]) (da_one _) ?_)
    exact bodyPost_ret (v := .tuple #[.agg (da fun _ => 0), .int .i64 kk]) (results_dr Tryd.results16 _ _ (w.heap.size + 1) 43 _ _ (by simp [Act.put]) (by simp [Act.put]) (setRow_heap _ _ _ _ _ _ HZ2.out)) rfl ⟨by rw [HX.out, HY.out], below_setRow b2 (by omega)⟩
  obtain ⟨hfr, hok, hlen⟩ := pgK_zero hk
  have hfa := frB_all hfr
  obtain ⟨S, rfl⟩ : ∃ S : Nat, s = (S : Int) := ⟨s.toNat, by omega⟩
  rw [hk, if_pos rfl, show erX p 0 = .nilIface from rfl]
  have HC1 := hide (show gpC S l L = if (gdF S l L).isSome then 6 else 0 by rw [gpC, hk, if_pos rfl, Int.toNat_natCast])
  obtain ⟨Y, hY⟩ : ∃ Y, Y = w1.alloc (.cells (pgA S A l.length c C L.length ct (pgU l l.length) (pgV l l.length)) 74) := ⟨_, rfl⟩
  have hbY : Below w1.heap.size w1 Y := by rw [hY]; exact (Below.refl _ _).alloc (Nat.le_refl _) _
  have P1 : Bk Y w1.heap.size 74 (pgA S A l.length c C L.length ct (pgU l l.length) (pgV l l.length)) := by rw [hY]; exact Bk.new _ _ _ rfl
  have bY := step_below hbY b1
  have hn120 := ok_len hok
  have KG := hide (greedy_any w1.heap.size S A c l C ct L Y P1 (hC.below bY) (by omega) hfa.2.1.2 hfa.2.2 hok hlen (hT.keep bY))
  clear hfr hok hlen hfa hk
  go_upto_region 4 with (with_reducible refine wpList_store_newP rfl 74 (.tmp 6) (.tmp 14) rfl (pgA S A l.length c C L.length ct (pgU l l.length) (pgV l l.length)) rfl rfl 74 _ pgInfo (hzz.trans pgA_size.symm) pgA_one ?_)
  rw [← hY]
  have ZY := Z1.keep hbY
  clear hY hz hzz hzo hzi
  have hFc : ∀ i, gdF S l L = some i → i < L.length := fun i hi => by
    unfold gdF at hi
    rw [List.find?_range_eq_some] at hi
    exact List.mem_range.1 hi.2.1
  obtain ⟨N, hN⟩ : ∃ N, N = (gdF S l L).getD L.length := ⟨_, rfl⟩
  obtain ⟨q, hq⟩ : ∃ q, q = gdD S l L N := ⟨_, rfl⟩
  rw [← hN, ← hq] at KG
  have hNle : N ≤ L.length := by
    rw [hN]
    cases hF : gdF S l L with
    | none => exact Nat.le_refl _
    | some i => exact Nat.le_of_lt (hFc i hF)
  have HXY := hide (show (N = L.length → RC = 0 ∧ RV = q) ∧ (N ≠ L.length → RC = 6 ∧ RV = fun _ => 0) from by
    cases hF : gdF S l L with
    | none =>
      have hc : gpC S l L = 0 := by rw [HC1.out, hF]; rfl
      have hNi : N = L.length := by rw [hN, hF]; rfl
      exact ⟨fun _ => ⟨by rw [HRC.out, hc], by rw [HRV.out, gpD, hc, if_pos rfl, Int.toNat_natCast, hq, hNi]⟩, fun h => absurd hNi h⟩
    | some i =>
      have hc : gpC S l L = 6 := by rw [HC1.out, hF]; rfl
      have hNi : N = i := by rw [hN, hF]; rfl
      have hil := hFc i hF
      exact ⟨fun h => by omega, fun _ => ⟨by rw [HRC.out, hc], by rw [HRV.out, gpD, hc]; rfl⟩⟩)
  clear hN hq hFc
  go_wp2_with fail
  refine KG.out.mono ?_
  rintro e w2 ⟨rfl, hb2⟩
  have b2 := step_below hb2 bY
  have b3 := b2.alloc b2.size (.cells (da q) 43)
  have Z2 := ZY.keep hb2
  have Z3 : Dr (w2.alloc (.cells (da q) 43)) (w.heap.size + 1) 43 (fun _ => 0) := heap_old' Z2
  have Q3 : Dr (w2.alloc (.cells (da q) 43)) w2.heap.size 43 q := heap_new' _ _ _ rfl
  have HQ3 := hide Q3.range
  have HZ3 := hide (show (w2.alloc (.cells (da q) 43)).heap[w.heap.size + 1]? = some (.cells (da fun _ => 0) 43 (0, 0)) from Z3)
  by_cases hNL : N = L.length
  · have HX := hide (HXY.out.1 hNL).1
    have HY := hide (HXY.out.1 hNL).2
    have hnb : ¬ (N : Int) < (L.length : Int) := by omega
    clear hNL hNle
    go_wp2_with (first | (with_reducible refine wpList_store_newP rfl 43 (.tmp 8) (.tmp 23) rfl (da q) rfl rfl 43 _ (by rw [da_size]; exact info43) (by rw [za_eq, da_size, da_size]) (da_one _) ?_) | (with_reducible refine wpList_load_da rfl 43 (.tmp 8) rfl w2.heap.size 0 rfl q _ HQ3.out Tryd.underlying43 rfl (dInfo q) ?_) | (with_reducible refine wpList_store_row rfl 43 (.tmp 4) (.tmp 30) rfl (w.heap.size + 1) (da q) rfl rfl 43 _ HZ3.out (by rw [da_size]; exact info43) (by simp only [da_size]) (da_one _) ?_))
    exact bodyPost_ret (v := .tuple #[.agg (da q), .int .i64 0]) (results_dr Tryd.results16 _ _ (w.heap.size + 1) 43 _ _ (by simp [Act.put]) (by simp [Act.put]) (setRow_heap _ _ _ _ _ _ HZ3.out)) rfl ⟨by rw [HX.out, HY.out], below_setRow b3 (by omega)⟩
  · have HX := hide (HXY.out.2 hNL).1
    have HY := hide (HXY.out.2 hNL).2
    have hnb : (N : Int) < (L.length : Int) := by omega
    clear hNL hNle
    go_wp2_with (first | (with_reducible refine wpList_store_newP rfl 43 (.tmp 8) (.tmp 23) rfl (da q) rfl rfl 43 _ (by rw [da_size]; exact info43) (by rw [za_eq, da_size, da_size]) (da_one _) ?_) | (with_reducible refine wpList_build0 rfl rfl ?_) | (with_reducible refine wpList_store_row rfl 43 (.tmp 4) (.tmp 29) rfl (w.heap.size + 1) (da fun _ => 0) rfl rfl 43 _ HZ3.out (by rw [da_size]; exact info43) (by simp only [da_size]) (da_one _) ?_))
    exact bodyPost_ret (v := .tuple #[.agg (da fun _ => 0), .int .i64 6]) (results_dr Tryd.results16 _ _ (w.heap.size + 1) 43 _ _ (by simp [Act.put]) (by simp [Act.put]) (setRow_heap _ _ _ _ _ _ HZ3.out)) rfl ⟨by rw [HX.out, HY.out], below_setRow b3 (by omega)⟩
end Go.Proofs.YtdglhgfhlcdflaaDoor
