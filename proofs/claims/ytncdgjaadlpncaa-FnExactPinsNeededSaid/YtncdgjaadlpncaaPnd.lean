import Derived.Test.YtncdgjaadlpncaaUs
namespace Go.Proofs.Ytncdgjaadlpncaa
open Go.RowKit

theorem l00Max_any (a b : Nat) (w : World) :
    Calls Try.prog 85 #[.int .i64 a, .int .i64 b] w fun e w' => e = .returned (.int .i64 ((max a b : Nat) : Int)) ∧ w = w' := by
  rcases Nat.lt_or_ge b a with h | h
  · have h1 : (b : Int) < (a : Int) := by omega
    go_enter Try.func85, Try.ntmps85
    go_wp2
    go_ret
    exact ⟨ret_int (by omega), rfl⟩
  · have h1 : ¬ (b : Int) < (a : Int) := by omega
    go_enter Try.func85, Try.ntmps85
    go_wp2
    go_ret
    exact ⟨ret_int (by omega), rfl⟩
set_option maxRecDepth 20000 in
set_option maxHeartbeats 1000000 in
theorem specPinsNeeded_any (s : Int) (A : Option Addr) (c : Nat) (l : List (Int × Int)) (g e : Nat) (ds : List (Nat → Int)) (w : World) (hA : HA w A l) (hn : l.length ≤ 1048576) (hwf : HWF l) (hs : -32768 ≤ s ∧ s ≤ 32767)
    (hL : LD w g ds) (hd : DsWF ds) (hds : ds.length ≤ 1048576) :
    Calls Try.prog 43 #[.agg #[.int .i16 s, .slice A l.length c], .slice (some ⟨g, 0, none⟩) ds.length e] w fun e' w' => e' = .returned (.tuple #[.int .i64 (pnI s l ds), .int .i64 (lstC s l ds)]) ∧ Below w.heap.size w w' := by
  obtain ⟨X0, hX⟩ : ∃ X, X = w.alloc (.cells #[.int .i16 s, .slice A l.length c] 34) := ⟨_, rfl⟩
  have b0 : Below w.heap.size w X0 := by rw [hX]; exact (Below.refl _ _).alloc (Nat.le_refl _) _
  have F0 : FP X0 w.heap.size s A l.length c := by rw [hX]; exact ⟨by simp [go_sem], by simp [go_sem]⟩
  go_enter Try.func43, Try.ntmps43
  go_upto_region 1 with fail
  rw [← hX]
  clear hX
  go_wp2_with fail
  refine (l05Asked_any _ g e s A c l ds _ F0 (hA.below b0) hn hwf hs (hL.keep b0) hd hds).mono ?_
  rintro e' w1 ⟨rfl, hb1⟩
  have b1 := step_below hb1 b0
  obtain ⟨cc, hcc⟩ : ∃ cc, cc = lstC s l ds := ⟨_, rfl⟩
  rw [← hcc]
  have HCC := hide hcc
  clear hcc
  by_cases h0 : cc = 0
  · subst h0
    have HC := hide HCC.out.symm
    have HY := hide (show pnI s l ds = (mxT ds ds.length : Nat) by simp [pnI, ← HCC.out])
    go_wp2_with fail
    go_loopw [7, 8] (fun m i wr => ∃ k : Nat, k ≤ ds.length ∧ i = .int .i64 k ∧ m = .int .i64 (mxT ds k : Nat) ∧ Below w.heap.size w wr)
      (fun _ i _ => ds.length - (intOf i).toNat)
    case atStart => exact ⟨0, Nat.zero_le _, rfl, rfl, b1⟩
    case round =>
      obtain ⟨k, hk, rfl, rfl, hb⟩ := hrel
      by_cases hlt : k < ds.length
      · have hki : (k : Int) < (ds.length : Int) := by omega
        obtain ⟨q, hqq⟩ : ∃ q, ds.getD k (fun _ => 0) = q := ⟨_, rfl⟩
        have HQ := hide hqq
        have hqw : DWF q := by rw [← hqq]; exact hd k hlt
        have HM := hide (show mxT ds (k + 1) = max (mxT ds k) (cntT q 96) by rw [mxT, hqq])
        clear hqq
        go_wp2_with fail
        go_loopw [9, 10] (fun x i wq => ∃ j : Nat, j ≤ 96 ∧ i = .int .i64 j ∧ x = .int .i64 (cntT q j : Nat) ∧ Below w.heap.size w wq)
          (fun _ i _ => 96 - (intOf i).toNat)
        case atStart => exact ⟨0, Nat.zero_le _, rfl, rfl, hb⟩
        case round =>
          obtain ⟨j, hj, rfl, rfl, hb2⟩ := hrel
          by_cases hlt2 : j < 96
          · have hji : (j : Int) < 96 := by omega
            obtain ⟨x, hxe⟩ : ∃ x : Nat, q j = (x : Int) := ⟨(q j).toNat, by have := hqw j hlt2; omega⟩
            have hxb : x ≤ 4294967295 := by have := hqw j hlt2; omega
            have HS := hide (show cntT q (j + 1) = cntT q j + pc x by simp [cntT, hxe])
            have h1 := cntT_le q hqw j (by omega)
            have h2 := pc_le x
            have c2 : wr.cell? ⟨g, k * 96 + j, none⟩ = some (.int .u32 (x : Int)) := by rw [← hxe, ← HQ.out]; exact (hL.keep hb2).range hlt j _ (dv_get _ j hlt2)
            clear hxe
            have hw1 : IntKind.i64.wrap ((cntT q j : Int) + (pc x : Int)) = (cntT q j : Int) + (pc x : Int) := IntWalk.i64_in _ (by omega)
            go_wp2_with (go_at_call 84; refine (l02Count_any x _ hxb).mono ?_; rintro e w' ⟨rfl, rfl⟩)
            go_roundw
            case rel => exact ⟨j + 1, hlt2, by go_num, ret_int' (by rw [HS.out]; push_cast; rfl), hb2⟩
            case measure => simp [intOf]; omega
          · obtain rfl : j = 96 := by omega
            go_wp2_with (go_at_call 85; refine (l00Max_any _ _ _).mono ?_; rintro e w' ⟨rfl, rfl⟩)
            go_roundw
            case rel => exact ⟨k + 1, hlt, by go_num, by rw [HM.out], hb2⟩
            case measure => simp [intOf]; omega
      · obtain rfl : k = ds.length := by omega
        go_wp2
        go_ret2
        exact ⟨by rw [HY.out, HC.out]; rfl, hb⟩
  · have HY := hide (show pnI s l ds = 0 by simp [pnI, ← HCC.out, h0])
    have HC := hide HCC.out.symm
    have hne := code_ne h0
    clear h0
    go_wp2
    go_ret2
    exact ⟨by rw [HY.out, HC.out]; rfl, b1⟩
set_option maxRecDepth 20000 in
set_option maxHeartbeats 1000000 in
theorem implPinsNeeded_any (s : Int) (A : Option Addr) (c : Nat) (l : List (Int × Int)) (g e : Nat) (ds : List (Nat → Int)) (w : World) (hA : HA w A l) (hn : l.length ≤ 1048576) (hwf : HWF l) (hs : -32768 ≤ s ∧ s ≤ 32767)
    (hL : LD w g ds) (hd : DsWF ds) (hds : ds.length ≤ 1048576) :
    Calls Try.prog 44 #[.agg #[.int .i16 s, .slice A l.length c], .slice (some ⟨g, 0, none⟩) ds.length e] w fun e' w' => e' = .returned (.tuple #[.int .i64 (pnI s l ds), .int .i64 (lstC s l ds)]) ∧ Below w.heap.size w w' := by
  have hz := zeroDrum
  obtain ⟨X0, hX⟩ : ∃ X, X = (w.alloc (.cells #[.int .i16 s, .slice A l.length c] 34)) := ⟨_, rfl⟩
  have hb0 : Below w.heap.size w X0 := by rw [hX]; exact (Below.refl _ _).alloc (Nat.le_refl _) _
  have c00 : X0.cell? ⟨w.heap.size, 0, none⟩ = some (.int .i16 s) := by rw [hX]; simp [go_sem]
  have c01 : X0.cell? ⟨w.heap.size, 1, none⟩ = some (.slice A l.length c) := by rw [hX]; simp [go_sem]
  go_enter Try.func44, Try.ntmps44
  go_upto_region 1 with fail
  rw [← hX]
  clear hX
  go_wp2_with fail
  refine (machineForList_any s A c l g e ds _ (hA.below hb0) hn hwf hs (hL.keep hb0) hd hds).mono ?_
  rintro e' w1 ⟨t, B, n, c', rfl, _, hb1⟩
  have b1 := step_below hb1 hb0
  have L1 := hL.keep b1
  clear c00 c01
  obtain ⟨X2, hX2⟩ : ∃ X, X = w1.alloc (.cells #[.int .i64 t, .slice B n c'] 77) := ⟨_, rfl⟩
  have hb2 : Below w1.heap.size w1 X2 := by rw [hX2]; exact (Below.refl _ _).alloc (Nat.le_refl _) _
  have b2 := step_below hb2 b1
  have L2 := L1.keep hb2
  obtain ⟨cc, hcc⟩ : ∃ cc, cc = lstC s l ds := ⟨_, rfl⟩
  rw [← hcc]
  have HCC := hide hcc
  clear hcc
  go_upto_region 2 with fail
  rw [← hX2]
  clear hX2
  by_cases h0 : cc = 0
  · subst h0
    have HC := hide HCC.out.symm
    have HY := hide (show pnI s l ds = (mxT ds ds.length : Nat) by simp [pnI, ← HCC.out])
    go_wp2_with fail
    go_loopw [8, 10, 22] (fun m _ i wr => ∃ k : Nat, k ≤ ds.length ∧ i = .int .i64 k ∧ m = .int .i64 (mxT ds k : Nat) ∧ LD wr g ds ∧ Below w.heap.size w wr)
      (fun _ _ i _ => ds.length - (intOf i).toNat)
    case atStart => exact ⟨0, Nat.zero_le _, rfl, rfl, L2, b2⟩
    case round =>
      obtain ⟨k, hk, rfl, rfl, L4, hb⟩ := hrel
      by_cases hlt : k < ds.length
      · have hR := hide (L4.range hlt)
        obtain ⟨q, hqq⟩ : ∃ q, ds.getD k (fun _ => 0) = q := ⟨_, rfl⟩
        rw [hqq] at hR
        have hqw : DWF q := by rw [← hqq]; exact hd k hlt
        have HM := hide (show mxT ds (k + 1) = max (mxT ds k) (cntT q 96) by rw [mxT, hqq])
        clear hqq
        have hza : za.size = (da q).size := by rw [da_size]; rfl
        have hal : Below wr.heap.size wr (wr.alloc (.cells (da q) 29)) := (Below.refl _ _).alloc (Nat.le_refl _) _
        have Q5 : Dr (wr.alloc (.cells (da q) 29)) wr.heap.size 29 q := heap_alloc_new _ _
        have HQ5 := hide Q5.range
        clear Q5
        go_wp2_with (first | (with_reducible refine wpList_load_da rfl 29 (.tmp 24) rfl g (k * 96) rfl q _ hR.out Try.underlying29 rfl (dInfo q) ?_) | (with_reducible refine wpList_store_new rfl 29 (.tmp 10) (.tmp 25) rfl q rfl rfl 29 _ (dInfo q) hza ?_) | (with_reducible refine wpList_load_da rfl 29 (.tmp 10) rfl wr.heap.size 0 rfl q _ HQ5.out Try.underlying29 rfl (dInfo q) ?_))
        refine (count_any q _ hqw).mono ?_
        rintro e'' w6 ⟨rfl, hb6⟩
        have L6 := (L4.keep hal).keep hb6
        have b6 := step_below hb6 (step_below hal hb)
        unfold cntI
        go_wp2_with fail
        go_roundw
        case rel => exact ⟨k + 1, hlt, by go_num, ret_int' (by rw [HM.out]; omega), L6, b6⟩
        case measure => simp [intOf]; omega
      · obtain rfl : k = ds.length := by omega
        go_wp2_with fail
        go_ret2
        exact ⟨by rw [HY.out, HC.out]; rfl, hb⟩
  · have HY := hide (show pnI s l ds = 0 by simp [pnI, ← HCC.out, h0])
    have HC := hide HCC.out.symm
    have hne := code_ne h0
    clear h0
    go_wp2
    go_ret2
    exact ⟨by rw [HY.out, HC.out]; rfl, b2⟩
end Go.Proofs.Ytncdgjaadlpncaa
