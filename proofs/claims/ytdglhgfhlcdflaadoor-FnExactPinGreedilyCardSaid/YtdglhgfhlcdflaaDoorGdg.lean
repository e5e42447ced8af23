import Derived.Test.YtdglhgfhlcdflaaDoorGdi
namespace Go.Proofs.YtdglhgfhlcdflaaDoor
open Go.RowKit
set_option maxRecDepth 20000 in
set_option maxHeartbeats 8000000 in
/-- greedily: a drum, and how many notes have a track -/
theorem greedy_any (gp : Nat) (S : Nat) (A : Option Addr) (c : Nat) (l : List (Int × Int)) (C : Option Addr) (ct : Nat) (L : List (Int × Int)) (w : World) (hP : Bk w gp 74 (pgA S A l.length c C L.length ct (pgU l l.length) (pgV l l.length))) (hC : NA w C L) (hS : 2 ≤ S ∧ S ≤ 96) (hl : l.length ≤ 24) (hg : HG (S : Int) l l.length) (hok : okB L = true) (hlen : lenI L ≤ S) (hT : TabW w) :
    Calls Tryd.prog 35 #[.pointer (some ⟨gp, 0, none⟩)] w fun e w' => e = .returned (.tuple #[.agg (da (gdD S l L ((gdF S l L).getD L.length))), .int .i64 (((gdF S l L).getD L.length : Nat) : Int)]) ∧ Below w.heap.size w w' := by
  obtain ⟨RI, hRI⟩ : ∃ RI, RI = (gdF S l L).getD L.length := ⟨_, rfl⟩
  rw [← hRI]
  obtain ⟨RD, hRD⟩ : ∃ RD, RD = gdD S l L RI := ⟨_, rfl⟩
  rw [← hRD]
  have HRI := hide hRI
  have HRD := hide hRD
  clear hRI hRD
  have HOK := hide hok
  have hn120 := ok_len hok
  have HAT := hide (show ∀ j, j < L.length → (nAt L j).toNat < S ∧ 0 ≤ nAt L j from fun j hj => by
    have h1 := bk_in hok j hj
    have h2 := ok_in hok j hj
    omega)
  have HPI := hide (show ∀ j, j < L.length → 0 ≤ nPi L j ∧ nPi L j ≤ 47 from fun j hj => (ok_in hok j hj).2)
  have HGG := hide hg
  clear hok hlen hg
  have hz := zeroDrum
  obtain ⟨X, hX⟩ : ∃ X, X = (w.alloc (.cells za 43)).alloc (.cells za 43) := ⟨_, rfl⟩
  have b0 : Below w.heap.size w X := by rw [hX]; exact ((Below.refl _ _).alloc (Nat.le_refl _) _).alloc (by simp) _
  have R0 : Dr X w.heap.size 43 (fun _ => 0) := by rw [hX, za_eq]; exact heap_old' (heap_new' _ _ _ rfl)
  have D0 : Dr X (w.heap.size + 1) 43 (gdD S l L 0) := by rw [hX, za_eq]; exact heap_new' _ _ _ (by simp)
  have P0 := hP.keep b0
  have c2 := P0.pgTune
  have hgpw := hP.lt
  go_enter Tryd.func35, Tryd.ntmps35
  go_upto_region 2 with fail
  rw [← hX]
  clear hX hz
  go_wp2_with fail
  clear c2
  go_loopw [5, 7, 13] (fun _ _ iv wr => ∃ i : Nat, i ≤ L.length ∧ iv = .int .i64 i ∧ (∀ j, j < i → gdO S l L j = true) ∧ Dr wr w.heap.size 43 (fun _ => 0) ∧ Dr wr (w.heap.size + 1) 43 (gdD S l L i) ∧ Below w.heap.size w wr)
    (fun _ _ i _ => L.length - (intOf i).toNat)
  case atStart => exact ⟨0, Nat.zero_le _, rfl, fun j hj => absurd hj (Nat.not_lt_zero _), R0, D0, b0⟩
  case round =>
    clear R0 D0 P0
    obtain ⟨i, hiL, rfl, hall, RR, DR, bw⟩ := hrel
    have HALL := hide hall
    clear hall
    have hdw := gdD_wf S l L i
    have PR := hP.keep bw
    by_cases hlt : i < L.length
    · have hii : (i : Int) < (L.length : Int) := by omega
      obtain ⟨a, ha⟩ : ∃ a : Nat, nAt L i = (a : Int) := ⟨(nAt L i).toNat, by have := HAT.out i hlt; omega⟩
      have hp47 := HPI.out i hlt
      obtain ⟨P, hp⟩ : ∃ P : Nat, nPi L i = (P : Int) := ⟨(nPi L i).toNat, by omega⟩
      have haS : a < S := by have := (HAT.out i hlt).1; omega
      have hat : (nAt L i).toNat = a := by omega
      have hP48 : P < 48 := by omega
      obtain ⟨q, hq⟩ : ∃ q, q = gdD S l L i := ⟨_, rfl⟩
      have HQ := hide hq
      rw [← hq] at DR hdw
      have hgT : gdT S l L i = grL S l q a P := by rw [gdT, hat, hp, ← hq]
      have HGT := hide hgT
      obtain ⟨x, hfx, hx32, hbits⟩ := fr_bits (S := S) (l := l) (d := q) (k := a) (P := P) hl HGG.out hS hdw
      have KF := fun W (hW : Below w.heap.size w W) => free_any gp S A c l C ct L q i a P W (hP.keep hW) (hC.below hW) hn120 hS hl HGG.out hlt ha hp haS hP48 hdw
      rw [hfx] at KF
      obtain ⟨bn, on, hCe, hbn, n1, n2⟩ := (hC.below bw) i hlt
      rw [hp] at n2
      rw [ha] at n1
      have HAp := hide (And.intro hat (And.intro ha hp))
      clear ha hat hp hp47 hq hgT hfx
      subst hCe
      obtain ⟨V0, hV0⟩ : ∃ V, V = wr.alloc (.cells #[.int .i16 a, .int .i8 P] 65) := ⟨_, rfl⟩
      have hbV : Below wr.heap.size wr V0 := by rw [hV0]; exact (Below.refl _ _).alloc (Nat.le_refl _) _
      have N0 : Bk V0 wr.heap.size 65 #[.int .i16 a, .int .i8 P] := by rw [hV0]; exact Bk.new _ _ _ rfl
      have DV := DR.keep hbV
      have RV := RR.keep hbV
      have bV := step_below hbV bw
      have hg1 := DR.lt
      go_upto_region 5 with fail
      rw [← hV0]
      clear hV0 n1 n2 hbn DR RR PR
      have HDV := hide DV.range
      go_wp2_with (with_reducible refine wpList_load_da rfl 43 (.tmp 4) rfl (w.heap.size + 1) 0 rfl q _ HDV.out Tryd.underlying43 rfl (dInfo q) ?_)
      refine (KF V0 bV).mono ?_
      rintro e w5 ⟨rfl, hb5⟩
      have b5 := step_below hb5 bV
      have N5 := N0.keep hb5
      have D5 := DV.keep hb5
      have R5 := RV.keep hb5
      clear N0 DV RV HDV KF
      by_cases hx0 : x = 0
      · have hO : gdO S l L i = false := by
          unfold gdO
          rw [HGT.out, ← hbits, hx0, bitsL_zero]
          rfl
        have hF := gdF_some hlt HALL.out hO
        have HX := hide (show RI = i by rw [HRI.out, hF]; rfl)
        have HY := hide (show RD = q by rw [HRD.out, HX.out, HQ.out])
        subst hx0
        clear hO hF hbits hx32
        have HD5 := hide D5.range
        have HR5 := hide (show w5.heap[w.heap.size]? = some (.cells (da fun _ => 0) 43 (0, 0)) from R5)
        go_wp2_with (first | (with_reducible refine wpList_load_da rfl 43 (.tmp 4) rfl (w.heap.size + 1) 0 rfl q _ HD5.out Tryd.underlying43 rfl (dInfo q) ?_) | (with_reducible refine wpList_store_row rfl 43 (.tmp 2) (.tmp 24) rfl w.heap.size (da q) rfl rfl 43 _ HR5.out (by rw [da_size]; exact info43) (by simp only [da_size]) (da_one _) ?_))
        exact bodyPost_ret (v := .tuple #[.agg (da q), .int .i64 i]) (results_dr Tryd.results35 _ _ w.heap.size 43 _ _ (by simp [Act.put]) (by simp [Act.put]) (setRow_heap _ _ _ _ _ _ HR5.out)) rfl ⟨by rw [HX.out, HY.out], below_setRow b5 (Nat.le_refl _)⟩
      have hxn : ((x : Int) == 0) = false := by rw [beq_eq_false_iff_ne]; omega
      obtain ⟨t, ht⟩ : ∃ t, t = Lib.ctz 32 x := ⟨_, rfl⟩
      have hlow := bitsL_low hx32 hx0
      rw [← ht, hbits] at hlow
      have hgT2 : gdT S l L i = t :: bitsL (x &&& (x - 1)) := by rw [HGT.out, hlow]
      have hti := gdT_in hgT2
      have ht24 : t < 24 := by omega
      have HO := hide (show gdO S l L i = true by unfold gdO; rw [hgT2]; simp)
      have HS := hide (show gdD S l L (i + 1) = togD q a t by rw [gdD_succ S l L i hgT2, ← HQ.out, HAp.out.1])
      have KT : ∀ W, Below w.heap.size w W → Calls Tryd.prog 55 #[.int .u32 x] W fun e w' => e = .returned (.int .i64 t) ∧ W = w' := fun W hW => by rw [ht]; exact tz_any x W hx32 hx0 (hT.keep hW)
      have haw : IntKind.i64.wrap (a : Int) = (a : Int) := IntWalk.i64_in _ (by omega)
      clear ht hlow hgT2 hti hbits hx0
      go_upto_region 8 with fail
      have tb : Below w5.heap.size w5 w5.drew := (Below.refl _ _).drew
      have N6 := N5.keep tb
      have D6 := D5.keep tb
      have R6 := R5.keep tb
      have b6 := step_below tb b5
      refine wp_region_held_drew (S := fun w' => w'.cell? ⟨wr.heap.size, 0, none⟩ = some (.int .i16 a)) (by kernel_rfl) (N6.cell (i := 0) rfl) fun hS1 => ?_
      clear N5 D5 R5 tb
      generalize w5.drew = W6 at *
      refine wpAnyH_take (i := 1) (v := .pointer (some ⟨wr.heap.size, 0, none⟩)) rfl (by kernel_rfl) (by kernel_rfl) (by kernel_rfl) (fun _ _ _ h => h) (Or.inl ⟨by rfl, fun w' _ => by go_simp⟩) hS1 ?_
      change wpAnyH _ _ _ _ _ _ _ (Act.put _ (some 27) _) _
      simp only [Act.put, List.setIfInBounds_toArray, List.set_cons_zero, List.set_cons_succ]
      refine wpAnyH_take (i := 2) (v := .int .i16 a) rfl (by kernel_rfl) (by kernel_rfl) (by kernel_rfl) (fun _ _ _ h => h) (Or.inl ⟨by rfl, fun w' h => ?_⟩) hS1 ?_
      · have c0 := h
        clear h
        go_simp
      change wpAnyH _ _ _ _ _ _ _ (Act.put _ (some 28) _) _
      simp only [Act.put, List.setIfInBounds_toArray, List.set_cons_zero, List.set_cons_succ]
      refine wpAnyH_take (i := 3) (v := .int .i64 a) rfl (by kernel_rfl) (by kernel_rfl) (by kernel_rfl) (fun _ _ _ h => h) (Or.inl ⟨by rfl, fun w' _ => by go_simp⟩) hS1 ?_
      change wpAnyH _ _ _ _ _ _ _ (Act.put _ (some 29) _) _
      simp only [Act.put, List.setIfInBounds_toArray, List.set_cons_zero, List.set_cons_succ]
      refine wpAnyH_take (i := 4) (v := .int .u32 x) rfl (by kernel_rfl) (by kernel_rfl) (by kernel_rfl) (fun _ _ _ h => h) (Or.inl ⟨by rfl, fun w' _ => by go_simp⟩) hS1 ?_
      change wpAnyH _ _ _ _ _ _ _ (Act.put _ (some 30) _) _
      simp only [Act.put, List.setIfInBounds_toArray, List.set_cons_zero, List.set_cons_succ]
      refine wpAnyH_ready (rs := [0, 5]) (by kernel_rfl) (by simp) (AllReadyH.cons rfl ?_ (AllReadyH.cons rfl ?_ AllReadyH.nil))
      · intro K hK
        rw [if_pos (by rfl)]
        refine wp_load_mid 43 (.tmp 4) rfl (w.heap.size + 1) 0 rfl (dv q) _ D6.range Tryd.underlying43 rfl (dInfo q) ?_
        refine hK.out _ _ hS1 (fun hS2 => ?_)
        clear hK K
        try simp only [Act.put, List.setIfInBounds_toArray, List.set_cons_zero, List.set_cons_succ]
        refine wpAnyH_ready (rs := [5]) (by kernel_rfl) (by simp) (AllReadyH.cons rfl ?_ AllReadyH.nil)
        intro K hK
        rw [if_pos (by rfl)]
        go_simp
        refine (KT _ b6).mono ?_
        rintro en w7 ⟨rfl, rfl⟩
        refine hK.out _ _ hS1 (fun hS3 => ?_)
        clear hK K
        try (change wpAnyH _ _ _ _ _ _ _ (Act.put _ (some 31) _) _)
        try simp only [Act.put, List.setIfInBounds_toArray, List.set_cons_zero, List.set_cons_succ]
        refine wpAnyH_ready (rs := [6]) (by kernel_rfl) (by simp) (AllReadyH.cons rfl ?_ AllReadyH.nil)
        intro K hK
        rw [if_pos (by rfl)]
        go_simp
        refine (toggled_any a t q W6 (by omega) ht24 hdw).mono ?_
        rintro en w8 ⟨rfl, hb8⟩
        have N8 := N6.keep hb8
        have D8 := D6.keep hb8
        have R8 := R6.keep hb8
        have b8 := step_below hb8 b6
        refine hK.out _ _ (N8.cell (i := 0) rfl) (fun hS4 => ?_)
        clear hK K
        try (change wpAnyH _ _ _ _ _ _ _ (Act.put _ (some 32) _) _)
        try simp only [Act.put, List.setIfInBounds_toArray, List.set_cons_zero, List.set_cons_succ]
        refine wpAnyH_ready (rs := [7]) (by kernel_rfl) (by simp) (AllReadyH.cons rfl ?_ AllReadyH.nil)
        intro K hK
        rw [if_pos (by rfl)]
        refine wp_store_row 43 (.tmp 4) (.tmp 32) rfl (w.heap.size + 1) (da (togD q a t)) rfl rfl 43 (da q) D8 (by rw [da_size]; exact info43) (by simp only [da_size]) (da_one _) ?_
        have D9 : Dr (w8.setRow (w.heap.size + 1) (da (togD q a t))) (w.heap.size + 1) 43 (togD q a t) := D8.row _
        have N9 : Bk (w8.setRow (w.heap.size + 1) (da (togD q a t))) wr.heap.size 65 #[.int .i16 a, .int .i8 P] := (setRow_other _ _ _ _ (by omega)).trans N8
        have R9 : Dr (w8.setRow (w.heap.size + 1) (da (togD q a t))) w.heap.size 43 (fun _ => 0) := (setRow_other _ _ _ _ (by omega)).trans R8
        have b9 := below_setRow b8 (show w.heap.size ≤ w.heap.size + 1 by omega) (cs := da (togD q a t))
        refine hK.out _ _ (N9.cell (i := 0) rfl) (fun hS5 => ?_)
        clear hK K
        simp only [Act.put]
        refine wpAnyH_done (by kernel_rfl) ?_ _
        clear hS1 hS2 hS3 hS4 hS5 R8 D8 N8 hb8 D6 R6 N6
        generalize w8.setRow (w.heap.size + 1) (da (togD q a t)) = W9 at *
        go_wp2
        go_roundw
        case rel => exact ⟨i + 1, hlt, by go_num, fun j hj => by
          rcases Nat.lt_or_ge j i with h | h
          · exact HALL.out j h
          · rw [show j = i by omega]; exact HO.out, R9, by rw [HS.out]; exact D9, b9⟩
        case measure => simp [intOf]; omega
      · intro K hK
        rw [if_pos (by rfl)]
        go_simp
        refine (KT _ b6).mono ?_
        rintro en w7 ⟨rfl, rfl⟩
        refine hK.out _ _ hS1 (fun hS3 => ?_)
        clear hK K
        try (change wpAnyH _ _ _ _ _ _ _ (Act.put _ (some 31) _) _)
        try simp only [Act.put, List.setIfInBounds_toArray, List.set_cons_zero, List.set_cons_succ]
        refine wpAnyH_ready (rs := [0]) (by kernel_rfl) (by simp) (AllReadyH.cons rfl ?_ AllReadyH.nil)
        intro K hK
        rw [if_pos (by rfl)]
        refine wp_load_mid 43 (.tmp 4) rfl (w.heap.size + 1) 0 rfl (dv q) _ D6.range Tryd.underlying43 rfl (dInfo q) ?_
        refine hK.out _ _ hS1 (fun hS2 => ?_)
        clear hK K
        try simp only [Act.put, List.setIfInBounds_toArray, List.set_cons_zero, List.set_cons_succ]
        refine wpAnyH_ready (rs := [6]) (by kernel_rfl) (by simp) (AllReadyH.cons rfl ?_ AllReadyH.nil)
        intro K hK
        rw [if_pos (by rfl)]
        go_simp
        refine (toggled_any a t q W6 (by omega) ht24 hdw).mono ?_
        rintro en w8 ⟨rfl, hb8⟩
        have N8 := N6.keep hb8
        have D8 := D6.keep hb8
        have R8 := R6.keep hb8
        have b8 := step_below hb8 b6
        refine hK.out _ _ (N8.cell (i := 0) rfl) (fun hS4 => ?_)
        clear hK K
        try (change wpAnyH _ _ _ _ _ _ _ (Act.put _ (some 32) _) _)
        try simp only [Act.put, List.setIfInBounds_toArray, List.set_cons_zero, List.set_cons_succ]
        refine wpAnyH_ready (rs := [7]) (by kernel_rfl) (by simp) (AllReadyH.cons rfl ?_ AllReadyH.nil)
        intro K hK
        rw [if_pos (by rfl)]
        refine wp_store_row 43 (.tmp 4) (.tmp 32) rfl (w.heap.size + 1) (da (togD q a t)) rfl rfl 43 (da q) D8 (by rw [da_size]; exact info43) (by simp only [da_size]) (da_one _) ?_
        have D9 : Dr (w8.setRow (w.heap.size + 1) (da (togD q a t))) (w.heap.size + 1) 43 (togD q a t) := D8.row _
        have N9 : Bk (w8.setRow (w.heap.size + 1) (da (togD q a t))) wr.heap.size 65 #[.int .i16 a, .int .i8 P] := (setRow_other _ _ _ _ (by omega)).trans N8
        have R9 : Dr (w8.setRow (w.heap.size + 1) (da (togD q a t))) w.heap.size 43 (fun _ => 0) := (setRow_other _ _ _ _ (by omega)).trans R8
        have b9 := below_setRow b8 (show w.heap.size ≤ w.heap.size + 1 by omega) (cs := da (togD q a t))
        refine hK.out _ _ (N9.cell (i := 0) rfl) (fun hS5 => ?_)
        clear hK K
        simp only [Act.put]
        refine wpAnyH_done (by kernel_rfl) ?_ _
        clear hS1 hS2 hS3 hS4 hS5 R8 D8 N8 hb8 D6 R6 N6
        generalize w8.setRow (w.heap.size + 1) (da (togD q a t)) = W9 at *
        go_wp2
        go_roundw
        case rel => exact ⟨i + 1, hlt, by go_num, fun j hj => by
          rcases Nat.lt_or_ge j i with h | h
          · exact HALL.out j h
          · rw [show j = i by omega]; exact HO.out, R9, by rw [HS.out]; exact D9, b9⟩
        case measure => simp [intOf]; omega
    · have HI := hide (show i = L.length by omega)
      have hin : ¬ (i : Int) < (L.length : Int) := by omega
      have hF : gdF S l L = none := gdF_none (by rw [← HI.out]; exact HALL.out)
      have HX := hide (show RI = L.length by rw [HRI.out, hF]; rfl)
      have HY := hide (show RD = gdD S l L i by rw [HRD.out, HX.out, HI.out])
      obtain ⟨q, hq⟩ : ∃ q, q = gdD S l L i := ⟨_, rfl⟩
      rw [← hq] at DR HY
      clear hF hq hiL hlt
      go_upto_region 10 with fail
      have tb : Below wr.heap.size wr wr.drew := (Below.refl _ _).drew
      have P6 := PR.keep tb
      have D6 := DR.keep tb
      have R6 := RR.keep tb
      have b6 := step_below tb bw
      have hg1 := DR.lt
      refine wp_region_held_drew (S := fun w' => w'.rangeAt (w.heap.size + 1) 0 (dv q) ∧ w'.cell? ⟨gp, 2, none⟩ = some (.slice C L.length ct)) (by kernel_rfl) ⟨D6.range, P6.pgTune⟩ fun hS1 => ?_
      clear PR DR RR tb
      generalize wr.drew = W6 at *
      refine wpAnyH_take (i := 0) rfl (by kernel_rfl) (by kernel_rfl) (by kernel_rfl) (fun _ _ _ h => h) (yieldsIf_load_mid (by rfl) _ _ rfl (w.heap.size + 1) 0 rfl (dv q) _ (fun _ h => h.1) Tryd.underlying43 rfl (dInfo q)) hS1 ?_
      change wpAnyH _ _ _ _ _ _ _ (Act.put _ (some 34) _) _
      simp only [Act.put, List.setIfInBounds_toArray, List.set_cons_zero, List.set_cons_succ]
      refine wpAnyH_take (i := 1) (v := .pointer (some ⟨gp, 0, none⟩)) rfl (by kernel_rfl) (by kernel_rfl) (by kernel_rfl) (fun _ _ _ h => h) (Or.inl ⟨by rfl, fun w' _ => by go_simp⟩) hS1 ?_
      change wpAnyH _ _ _ _ _ _ _ (Act.put _ (some 35) _) _
      simp only [Act.put, List.setIfInBounds_toArray, List.set_cons_zero, List.set_cons_succ]
      refine wpAnyH_take (i := 2) (v := .pointer (some ⟨gp, 0, none⟩)) rfl (by kernel_rfl) (by kernel_rfl) (by kernel_rfl) (fun _ _ _ h => h) (Or.inl ⟨by rfl, fun w' _ => by go_simp⟩) hS1 ?_
      change wpAnyH _ _ _ _ _ _ _ (Act.put _ (some 36) _) _
      simp only [Act.put, List.setIfInBounds_toArray, List.set_cons_zero, List.set_cons_succ]
      refine wpAnyH_take (i := 3) (v := .pointer (some ⟨gp, 2, none⟩)) rfl (by kernel_rfl) (by kernel_rfl) (by kernel_rfl) (fun _ _ _ h => h) (Or.inl ⟨by rfl, fun w' _ => by go_simp⟩) hS1 ?_
      change wpAnyH _ _ _ _ _ _ _ (Act.put _ (some 37) _) _
      simp only [Act.put, List.setIfInBounds_toArray, List.set_cons_zero, List.set_cons_succ]
      refine wpAnyH_take (i := 4) (v := .slice C L.length ct) rfl (by kernel_rfl) (by kernel_rfl) (by kernel_rfl) (fun _ _ _ h => h) (Or.inl ⟨by rfl, fun w' h => ?_⟩) hS1 ?_
      · have c0 := h.2
        clear h
        go_simp
      change wpAnyH _ _ _ _ _ _ _ (Act.put _ (some 38) _) _
      simp only [Act.put, List.setIfInBounds_toArray, List.set_cons_zero, List.set_cons_succ]
      refine wpAnyH_take (i := 5) (v := .int .i64 (L.length : Int)) rfl (by kernel_rfl) (by kernel_rfl) (by kernel_rfl) (fun _ _ _ h => h) (Or.inl ⟨by rfl, fun w' _ => by go_simp⟩) hS1 ?_
      change wpAnyH _ _ _ _ _ _ _ (Act.put _ (some 39) _) _
      simp only [Act.put, List.setIfInBounds_toArray, List.set_cons_zero, List.set_cons_succ]
      refine wpAnyH_ready (rs := [6]) (by kernel_rfl) (by simp) (AllReadyH.cons rfl ?_ AllReadyH.nil)
      intro K hK
      rw [if_pos (by kernel_rfl)]
      have eda : (dv q).toArray = da q := rfl
      refine wp_store_row 43 (.tmp 2) (.tmp 34) rfl w.heap.size (dv q).toArray rfl rfl 43 (da fun _ => 0) R6 (by rw [eda, da_size]; exact info43) (by rw [eda, da_size, da_size]) (by rw [eda]; exact da_one _) ?_
      rw [eda]
      clear eda
      have R9 : Dr (W6.setRow w.heap.size (da q)) w.heap.size 43 q := R6.row _
      have D9 : Dr (W6.setRow w.heap.size (da q)) (w.heap.size + 1) 43 q := (setRow_other _ _ _ _ (by omega)).trans D6
      have P9 : Bk (W6.setRow w.heap.size (da q)) gp 74 (pgA S A l.length c C L.length ct (pgU l l.length) (pgV l l.length)) := (setRow_other _ _ _ _ (by omega)).trans P6
      have b9 := below_setRow b6 (Nat.le_refl w.heap.size) (cs := da q)
      refine hK.out _ _ ⟨D9.range, P9.pgTune⟩ (fun hS2 => ?_)
      clear hK K
      simp only [Act.put]
      refine wpAnyH_take (i := 7) (v := .int .i64 (L.length : Int)) rfl (by kernel_rfl) (by kernel_rfl) (by kernel_rfl) (fun _ _ _ h => h) (Or.inl ⟨by rfl, fun w' _ => by go_simp⟩) hS2 ?_
      change wpAnyH _ _ _ _ _ _ _ (Act.put _ (some 3) _) _
      simp only [Act.put, List.setIfInBounds_toArray, List.set_cons_zero, List.set_cons_succ]
      refine wpAnyH_done (by kernel_rfl) ?_ _
      have HR9 := hide (show (W6.setRow w.heap.size (da q)).heap[w.heap.size]? = some (.cells (da q) 43 (0, 0)) from R9)
      clear hS1 hS2 R9 D9 P9 D6 P6 R6
      generalize W6.setRow w.heap.size (da q) = W9 at *
      go_wp2_with fail
      exact bodyPost_ret (v := .tuple #[.agg (da q), .int .i64 L.length]) (results_dr Tryd.results35 _ _ w.heap.size 43 _ _ (by simp [Act.put]) (by simp [Act.put]) HR9.out) rfl ⟨by rw [HX.out, HY.out], b9⟩
end Go.Proofs.YtdglhgfhlcdflaaDoor
