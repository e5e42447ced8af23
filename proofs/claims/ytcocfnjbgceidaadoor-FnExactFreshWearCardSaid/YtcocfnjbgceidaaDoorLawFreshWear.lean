import Derived.Test.YtcocfnjbgceidaaDoorGah
import Derived.Test.YtcocfnjbgceidaaDoorMkf
import Derived.Test.YtcocfnjbgceidaaDoorGbc
import Derived.Test.YtcocfnjbgceidaaDoorGbf
import Derived.Test.YtcocfnjbgceidaaDoorFwi
import Derived.Test.YtcocfnjbgceidaaDoorFws
import Derived.Deep.RegionHeld3
import Derived.Deep.CutRange
namespace Go.Proofs.YtcocfnjbgceidaaDoor
open Go.RowKit

set_option maxRecDepth 20000 in
set_option maxHeartbeats 1000000 in
theorem lawFreshWear_big0 (s0 : Int) (A0 : Option Addr) (c0 : Nat) (l0 : List (Int × Int)) (d1 : Nat → Int) (w : World)  (hbg : 1048576 < l0.length) (hm0 : l0.length ≤ maxLen) :
    Calls Tryd.prog 3 #[.agg #[.int .i16 s0, .slice A0 l0.length c0], .agg (da d1)] w (Says true w) := by
  obtain ⟨X0, hX0⟩ : ∃ X, X = ((w.alloc (.cells #[.int .i16 s0, .slice A0 l0.length c0] 25)).alloc (.cells (da d1) 27)) := ⟨_, rfl⟩
  have b0 : Below w.heap.size w X0 := by rw [hX0]; exact (((Below.refl _ _).alloc (Nat.le_refl _) _).alloc (by simp) _)
  have B0_0 : Bk X0 (w.heap.size) 25 #[.int .i16 s0, .slice A0 l0.length c0] := by rw [hX0]; exact Bk.new _ _ _ rfl |>.old _
  have bw0 : w.heap.size < X0.heap.size := B0_0.lt
  have B1_0 : Bk X0 (w.heap.size + 1) 27 (da d1) := by rw [hX0]; exact Bk.new _ _ _ (by simp)
  have bw1 : w.heap.size + 1 < X0.heap.size := B1_0.lt
  go_enter Tryd.func3, Tryd.ntmps3
  go_upto_region 1 with fail
  rw [← hX0]
  clear hX0
  have pf16_0 := B0_0.cell (i := 0) rfl
  have pf16_1 := B0_0.cell (i := 1) rfl
  go_wp2_with fail
  clear pf16_0 pf16_1
  refine (szFrame_at_big s0 A0 l0.length c0 (1048576) (by omega) (by omega) hm0 (by omega) _).mono ?_
  rintro e w1 ⟨rfl, hb1⟩
  have b1 := step_below hb1 b0
  go_wp2
  go_ret
  exact ⟨rfl, b1⟩
set_option maxRecDepth 20000 in
set_option maxHeartbeats 16000000 in
theorem lawFreshWear_small (s0 : Int) (A0 : Option Addr) (c0 : Nat) (l0 : List (Int × Int)) (d1 : Nat → Int) (w : World) (hA0 : HA w A0 l0) (hwf0 : HWF l0) (hs0 : -32768 ≤ s0 ∧ s0 ≤ 32767) (hd1 : DWF d1) (hT : TabW w) (hc0 : l0.length ≤ 1048576) (hm0 : l0.length ≤ maxLen) :
    Calls Tryd.prog 3 #[.agg #[.int .i16 s0, .slice A0 l0.length c0], .agg (da d1)] w (Says true w) := by
  have hn0 : l0.length ≤ 1048576 := by omega
  obtain ⟨r0, hr0⟩ : ∃ r : List (Int × Int × Int), r = fwT s0 l0 d1 := ⟨_, rfl⟩
  obtain ⟨r1, hr1⟩ : ∃ r : Int, r = codeI (askB s0 l0 d1) := ⟨_, rfl⟩
  obtain ⟨rz0, hrz0⟩ : ∃ r : List Int, r = fwZ s0 l0 d1 := ⟨_, rfl⟩
  have hrl0 : r0.length ≤ 1048576 := by rw [hr0]; exact fwT_len _ _ _
  have hrlz0 : rz0.length ≤ 1048576 := by rw [hrz0]; exact fwZ_len _ _ _ hn0
  have KS : ∀ (E0 : Option Addr) (W : World), HA W E0 l0 → TabW W → Calls Tryd.prog 5 #[.agg #[.int .i16 s0, .slice E0 l0.length l0.length], .agg (da d1)] W (fun e w' => ∃ (C : Option Addr) (q : Nat) (C2 : Option Addr) (q2 : Nat), e = .returned (.tuple #[.agg #[.slice C r0.length q, .slice C2 rz0.length q2], .int .i64 r1]) ∧ w'.ownsRow W.heap.size 53 3 (.slice C r0.length q) r0.length (wnC r0) ∧ w'.ownsRow W.heap.size 2 1 (.slice C2 rz0.length q2) rz0.length (icells rz0) ∧ Below W.heap.size W w') := fun E0 W h0 hT' => by rw [hr0, hrz0, hr1]; exact specFreshWear_any s0 E0 l0.length l0 d1 W h0 hn0 hwf0 hs0 hd1
  have KI : ∀ (E0 : Option Addr) (W : World), HA W E0 l0 → TabW W → Calls Tryd.prog 8 #[.agg #[.int .i16 s0, .slice E0 l0.length l0.length], .agg (da d1)] W (fun e w' => ∃ (C : Option Addr) (q : Nat) (C2 : Option Addr) (q2 : Nat), e = .returned (.tuple #[.agg #[.slice C r0.length q, .slice C2 rz0.length q2], .int .i64 r1]) ∧ w'.ownsRow W.heap.size 53 3 (.slice C r0.length q) r0.length (wnC r0) ∧ w'.ownsRow W.heap.size 2 1 (.slice C2 rz0.length q2) rz0.length (icells rz0) ∧ Below W.heap.size W w') := fun E0 W h0 hT' => by rw [hr0, hrz0, hr1]; exact implFreshWear_any s0 E0 l0.length l0 d1 W h0 hn0 hwf0 hs0 hd1 hT'
  clear hr0 hrz0 hr1
  obtain ⟨X0, hX0⟩ : ∃ X, X = ((w.alloc (.cells #[.int .i16 s0, .slice A0 l0.length c0] 25)).alloc (.cells (da d1) 27)) := ⟨_, rfl⟩
  have b0 : Below w.heap.size w X0 := by rw [hX0]; exact (((Below.refl _ _).alloc (Nat.le_refl _) _).alloc (by simp) _)
  have B0_0 : Bk X0 (w.heap.size) 25 #[.int .i16 s0, .slice A0 l0.length c0] := by rw [hX0]; exact Bk.new _ _ _ rfl |>.old _
  have bw0 : w.heap.size < X0.heap.size := B0_0.lt
  have B1_0 : Bk X0 (w.heap.size + 1) 27 (da d1) := by rw [hX0]; exact Bk.new _ _ _ (by simp)
  have bw1 : w.heap.size + 1 < X0.heap.size := B1_0.lt
  go_enter Tryd.func3, Tryd.ntmps3
  go_upto_region 1 with fail
  rw [← hX0]
  clear hX0
  have pf16_0 := B0_0.cell (i := 0) rfl
  have pf16_1 := B0_0.cell (i := 1) rfl
  go_wp2_with fail
  clear pf16_0 pf16_1
  refine (szFrame_at_small s0 A0 l0.length c0 (1048576) (by omega) (by omega) hm0 (by omega) _).mono ?_
  rintro e w1 ⟨rfl, hb1⟩
  have b1 := step_below hb1 b0
  have B0_1 := B0_0.keep hb1
  have B1_1 := B1_0.keep hb1
  go_upto_region 5 with fail
  go_cut [6, 7] from 21 to 28 (fun a_ b_ wx => ∃ (g : Nat) (C : Option Addr) (e : Nat) (D : Option Addr) (f : Nat) (W : World), a_ = .pointer (some ⟨g, 0, none⟩) ∧ b_ = .int .i64 r1 ∧ W = wx ∧ Bk W g 32 #[.slice C r0.length e, .slice D rz0.length f] ∧ w1.heap.size ≤ g ∧ W.ownsRow w1.heap.size 53 3 (.slice C r0.length e) r0.length (wnC r0) ∧ W.ownsRow w1.heap.size 2 1 (.slice D rz0.length f) rz0.length (icells rz0) ∧ Below w1.heap.size w1 W)
  case first =>
    have hb2 : Below w1.heap.size w1 w1.drew := (Below.refl _ _).drew
    have tb1 : Below w1.heap.size w1 w1 := Below.refl _ _
    have b2 := step_below hb2 b1
    have B0_2 := B0_1.keep hb2
    have B1_2 := B1_1.keep hb2
    have tb2 := step_below hb2 tb1
    refine wp_region_held_drew (S := fun w' => w'.cell? ⟨w.heap.size, 0, none⟩ = some (.int .i16 s0) ∧ w'.cell? ⟨w.heap.size, 1, none⟩ = some (.slice A0 l0.length c0) ∧ w'.rangeAt (w.heap.size + 1) 0 (dv d1)) (by kernel_rfl) ⟨(B0_2.cell (i := 0) rfl), (B0_2.cell (i := 1) rfl), (show Dr w1.drew (w.heap.size + 1) 27 d1 from B1_2).range⟩ fun hS2 => ?_
    generalize w1.drew = wd2 at *
    change wpAnyH _ _ _ _ _ _ #[false, false, false, false, false, false, false, false, false, false, false] _ _
    refine wpAnyH_take (i := 0) (v := .agg #[.int .i16 s0, .slice A0 l0.length c0]) rfl (by kernel_rfl) (by kernel_rfl) (by kernel_rfl) (fun _ _ _ h => h) (Or.inl ⟨by rfl, fun w' h => ?_⟩) hS2 ?_
    · have c0 := h.1
      have c1 := h.2.1
      clear h
      go_simp
    change wpAnyH _ _ _ _ _ _ _ (Act.put _ (some 22) _) _
    simp only [Act.put, List.setIfInBounds_toArray, List.set_cons_zero, List.set_cons_succ]
    refine wpAnyH_take (i := 2) rfl (by kernel_rfl) (by kernel_rfl) (by kernel_rfl) (fun _ _ _ h => h) (yieldsIf_load_mid (by rfl) _ _ rfl (w.heap.size + 1) 0 rfl (dv d1) _ (fun _ h => h.2.2) Tryd.underlying27 rfl (infoLt d1)) hS2 ?_
    change wpAnyH _ _ _ _ _ _ _ (Act.put _ (some 24) _) _
    simp only [Act.put, List.setIfInBounds_toArray, List.set_cons_zero, List.set_cons_succ]
    refine wpAnyH_ready (rs := [1, 8]) (by kernel_rfl) (by simp) (AllReadyH.cons rfl ?_ (AllReadyH.cons rfl ?_ AllReadyH.nil))
    · intro K hK
      rw [if_pos (by rfl)]
      go_simp
      refine (toFrame_any s0 A0 c0 l0 _ (hA0.below b2) hn0).mono ?_
      rintro e w3 ⟨g3, rfl, hg3, own3, hb3⟩
      have b3 := step_below hb3 b2
      have B0_3 := B0_2.keep hb3
      have B1_3 := B1_2.keep hb3
      have gl3 : g3 < w3.heap.size := (own3.lt g3 rfl).2
      have q3_3 := own3
      have tb3 := tb2.trans (hb3.mono tb2.size)
      refine hK.out _ _ ⟨(B0_3.cell (i := 0) rfl), (B0_3.cell (i := 1) rfl), (show Dr w3 (w.heap.size + 1) 27 d1 from B1_3).range⟩ (fun hS3 => ?_)
      clear hK K
      try (change wpAnyH _ _ _ _ _ _ _ (Act.put _ (some 23) _) _)
      try simp only [Act.put, List.setIfInBounds_toArray, List.set_cons_zero, List.set_cons_succ]
      refine wpAnyH_ready (rs := [3, 8]) (by kernel_rfl) (by simp) (AllReadyH.cons rfl ?_ (AllReadyH.cons rfl ?_ AllReadyH.nil))
      · intro K hK
        rw [if_pos (by rfl)]
        go_simp
        refine (toDrum_any d1 _).mono ?_
        rintro e w4 ⟨rfl, hb4⟩
        have b4 := step_below hb4 b3
        have B0_4 := B0_3.keep hb4
        have B1_4 := B1_3.keep hb4
        have q3_4 := own_keep q3_3 hb4
        have tb4 := tb3.trans (hb4.mono tb3.size)
        refine hK.out _ _ ⟨(B0_4.cell (i := 0) rfl), (B0_4.cell (i := 1) rfl), (show Dr w4 (w.heap.size + 1) 27 d1 from B1_4).range⟩ (fun hS4 => ?_)
        clear hK K
        try (change wpAnyH _ _ _ _ _ _ _ (Act.put _ (some 25) _) _)
        try simp only [Act.put, List.setIfInBounds_toArray, List.set_cons_zero, List.set_cons_succ]
        refine wpAnyH_ready (rs := [4, 8]) (by kernel_rfl) (by simp) (AllReadyH.cons rfl ?_ (AllReadyH.cons rfl ?_ AllReadyH.nil))
        · intro K hK
          rw [if_pos (by rfl)]
          go_simp
          refine (KS _ _ (HA.of_own q3_4) (hT.keep b4)).mono ?_
          rintro e w5 ⟨C5, e5, D5, f5, rfl, own5, owm5, hb5⟩
          have b5 := step_below hb5 b4
          have B0_5 := B0_4.keep hb5
          have B1_5 := B1_4.keep hb5
          have v5_5 := own5
          have vz5_5 := owm5
          have t5 : Below w5.heap.size w5 w5 := Below.refl _ _
          have tb5 := tb4.trans (hb5.mono tb4.size)
          have oo_5 := own_base own5 tb4.size
          have oz_5 := own_base owm5 tb4.size
          refine hK.out _ _ ⟨(B0_5.cell (i := 0) rfl), (B0_5.cell (i := 1) rfl), (show Dr w5 (w.heap.size + 1) 27 d1 from B1_5).range⟩ (fun hS5 => ?_)
          clear hK K
          try (change wpAnyH _ _ _ _ _ _ _ (Act.put _ (some 26) _) _)
          try simp only [Act.put, List.setIfInBounds_toArray, List.set_cons_zero, List.set_cons_succ]
          refine wpAnyH_take (i := 5) (v := .tuple #[.agg #[.slice C5 r0.length e5, .slice D5 rz0.length f5], .int .i64 r1]) rfl (by kernel_rfl) (by kernel_rfl) (by kernel_rfl) (fun _ _ _ h => h) (Or.inl ⟨by rfl, fun w' _ => by go_simp⟩) hS5 ?_
          change wpAnyH _ _ _ _ _ _ _ (Act.put _ (some 21) _) _
          simp only [Act.put, List.setIfInBounds_toArray, List.set_cons_zero, List.set_cons_succ]
          refine wpAnyH_take (i := 6) (v := .agg #[.slice C5 r0.length e5, .slice D5 rz0.length f5]) rfl (by kernel_rfl) (by kernel_rfl) (by kernel_rfl) (fun _ _ _ h => h) (Or.inl ⟨by rfl, fun w' _ => by go_simp⟩) hS5 ?_
          change wpAnyH _ _ _ _ _ _ _ (Act.put _ (some 27) _) _
          simp only [Act.put, List.setIfInBounds_toArray, List.set_cons_zero, List.set_cons_succ]
          refine wpAnyH_take (i := 7) (v := .int .i64 r1) rfl (by kernel_rfl) (by kernel_rfl) (by kernel_rfl) (fun _ _ _ h => h) (Or.inl ⟨by rfl, fun w' _ => by go_simp⟩) hS5 ?_
          change wpAnyH _ _ _ _ _ _ _ (Act.put _ (some 28) _) _
          simp only [Act.put, List.setIfInBounds_toArray, List.set_cons_zero, List.set_cons_succ]
          refine wpAnyH_ready (rs := [8]) (by kernel_rfl) (by simp) (AllReadyH.cons rfl ?_ AllReadyH.nil)
          obtain ⟨w6, hX6⟩ : ∃ X, X = w5.alloc (.cells #[.slice none 0 0, .slice none 0 0] 32) := ⟨_, rfl⟩
          have hb6 : Below w5.heap.size w5 w6 := by rw [hX6]; exact (Below.refl _ _).alloc (Nat.le_refl _) _
          have za6 : Bk w6 w5.heap.size 32 #[.slice none 0 0, .slice none 0 0] := by rw [hX6]; exact heap_new' _ _ _ rfl
          have ge6 : w1.heap.size ≤ w5.heap.size := tb5.size
          intro K hK
          rw [if_pos (by rfl)]
          go_simp
          rw [← hX6]
          clear hX6
          have b6 := step_below hb6 b5
          have B0_6 := B0_5.keep hb6
          have B1_6 := B1_5.keep hb6
          have v5_6 := own_keep v5_5 hb6
          have vz5_6 := own_keep vz5_5 hb6
          have t6 := step_below hb6 t5
          have tb6 := tb5.trans (hb6.mono tb5.size)
          have oo_6 := own_keep oo_5 hb6
          have oz_6 := own_keep oz_5 hb6
          refine hK.out _ _ ⟨(B0_6.cell (i := 0) rfl), (B0_6.cell (i := 1) rfl), (show Dr w6 (w.heap.size + 1) 27 d1 from B1_6).range⟩ (fun hS6 => ?_)
          clear hK K
          try (change wpAnyH _ _ _ _ _ _ _ (Act.put _ (some 6) _) _)
          try simp only [Act.put, List.setIfInBounds_toArray, List.set_cons_zero, List.set_cons_succ]
          refine wpAnyH_ready (rs := [9]) (by kernel_rfl) (by simp) (AllReadyH.cons rfl ?_ AllReadyH.nil)
          intro K hK
          rw [if_pos (by rfl)]
          refine wp_store_row 32 (.tmp 6) (.tmp 27) rfl (w5.heap.size) #[.slice C5 r0.length e5, .slice D5 rz0.length f5] rfl rfl 32 _ za6 (infoWear _ _) (szWear _ _ _ _) (oneWear _ _ _ _ _ _) ?_
          have hb7 : Below w1.heap.size w6 (w6.setRow (w5.heap.size) #[.slice C5 r0.length e5, .slice D5 rz0.length f5]) := below_setRow (Below.refl _ _) ge6
          have DD : Bk (w6.setRow (w5.heap.size) #[.slice C5 r0.length e5, .slice D5 rz0.length f5]) (w5.heap.size) 32 #[.slice C5 r0.length e5, .slice D5 rz0.length f5] := setRow_heap _ _ _ _ _ _ za6
          have oo_7 := own_rowK oo_6 za6 (by decide) #[.slice C5 r0.length e5, .slice D5 rz0.length f5]
          have oz_7 := own_rowK oz_6 za6 (by decide) #[.slice C5 r0.length e5, .slice D5 rz0.length f5]
          have B0_7 : Bk (w6.setRow (w5.heap.size) #[.slice C5 r0.length e5, .slice D5 rz0.length f5]) (w.heap.size) 25 #[.int .i16 s0, .slice A0 l0.length c0] := (setRow_other _ _ _ _ (by have e1 := B0_1.lt; have e2 := ge6; omega)).trans B0_6
          have B1_7 : Bk (w6.setRow (w5.heap.size) #[.slice C5 r0.length e5, .slice D5 rz0.length f5]) (w.heap.size + 1) 27 (da d1) := (setRow_other _ _ _ _ (by have e1 := B1_1.lt; have e2 := ge6; omega)).trans B1_6
          have tb7 := tb6.trans hb7
          refine hK.out _ _ ⟨(B0_7.cell (i := 0) rfl), (B0_7.cell (i := 1) rfl), (show Dr (w6.setRow (w5.heap.size) #[.slice C5 r0.length e5, .slice D5 rz0.length f5]) (w.heap.size + 1) 27 d1 from B1_7).range⟩ (fun hS7 => ?_)
          clear hK K
          refine wpAnyH_take (i := 10) (v := .int .i64 r1) rfl (by kernel_rfl) (by kernel_rfl) (by kernel_rfl) (fun _ _ _ h => h) (Or.inl ⟨by rfl, fun w' _ => by go_simp⟩) hS7 ?_
          change wpAnyH _ _ _ _ _ _ _ (Act.put _ (some 7) _) _
          simp only [Act.put, List.setIfInBounds_toArray, List.set_cons_zero, List.set_cons_succ]
          refine wpAnyH_done (by kernel_rfl) ?_ _
          go_wp2_with fail
          go_meet
          exact ⟨_, C5, e5, D5, f5, _, rfl, rfl, rfl, DD, ge6, oo_7, oz_7, tb7⟩
        · obtain ⟨w5, hX5⟩ : ∃ X, X = w4.alloc (.cells #[.slice none 0 0, .slice none 0 0] 32) := ⟨_, rfl⟩
          have hb5 : Below w4.heap.size w4 w5 := by rw [hX5]; exact (Below.refl _ _).alloc (Nat.le_refl _) _
          have za5 : Bk w5 w4.heap.size 32 #[.slice none 0 0, .slice none 0 0] := by rw [hX5]; exact heap_new' _ _ _ rfl
          have ge5 : w1.heap.size ≤ w4.heap.size := tb4.size
          intro K hK
          rw [if_pos (by rfl)]
          go_simp
          rw [← hX5]
          clear hX5
          have b5 := step_below hb5 b4
          have B0_5 := B0_4.keep hb5
          have B1_5 := B1_4.keep hb5
          have q3_5 := own_keep q3_4 hb5
          have tb5 := tb4.trans (hb5.mono tb4.size)
          refine hK.out _ _ ⟨(B0_5.cell (i := 0) rfl), (B0_5.cell (i := 1) rfl), (show Dr w5 (w.heap.size + 1) 27 d1 from B1_5).range⟩ (fun hS5 => ?_)
          clear hK K
          try (change wpAnyH _ _ _ _ _ _ _ (Act.put _ (some 6) _) _)
          try simp only [Act.put, List.setIfInBounds_toArray, List.set_cons_zero, List.set_cons_succ]
          refine wpAnyH_ready (rs := [4]) (by kernel_rfl) (by simp) (AllReadyH.cons rfl ?_ AllReadyH.nil)
          intro K hK
          rw [if_pos (by rfl)]
          go_simp
          refine (KS _ _ (HA.of_own q3_5) (hT.keep b5)).mono ?_
          rintro e w6 ⟨C6, e6, D6, f6, rfl, own6, owm6, hb6⟩
          have b6 := step_below hb6 b5
          have B0_6 := B0_5.keep hb6
          have B1_6 := B1_5.keep hb6
          have v6_6 := own6
          have vz6_6 := owm6
          have t6 : Below w6.heap.size w6 w6 := Below.refl _ _
          have tb6 := tb5.trans (hb6.mono tb5.size)
          have za6 := za5.keep hb6
          have oo_6 := own_base own6 tb5.size
          have oz_6 := own_base owm6 tb5.size
          refine hK.out _ _ ⟨(B0_6.cell (i := 0) rfl), (B0_6.cell (i := 1) rfl), (show Dr w6 (w.heap.size + 1) 27 d1 from B1_6).range⟩ (fun hS6 => ?_)
          clear hK K
          try (change wpAnyH _ _ _ _ _ _ _ (Act.put _ (some 26) _) _)
          try simp only [Act.put, List.setIfInBounds_toArray, List.set_cons_zero, List.set_cons_succ]
          refine wpAnyH_take (i := 5) (v := .tuple #[.agg #[.slice C6 r0.length e6, .slice D6 rz0.length f6], .int .i64 r1]) rfl (by kernel_rfl) (by kernel_rfl) (by kernel_rfl) (fun _ _ _ h => h) (Or.inl ⟨by rfl, fun w' _ => by go_simp⟩) hS6 ?_
          change wpAnyH _ _ _ _ _ _ _ (Act.put _ (some 21) _) _
          simp only [Act.put, List.setIfInBounds_toArray, List.set_cons_zero, List.set_cons_succ]
          refine wpAnyH_take (i := 6) (v := .agg #[.slice C6 r0.length e6, .slice D6 rz0.length f6]) rfl (by kernel_rfl) (by kernel_rfl) (by kernel_rfl) (fun _ _ _ h => h) (Or.inl ⟨by rfl, fun w' _ => by go_simp⟩) hS6 ?_
          change wpAnyH _ _ _ _ _ _ _ (Act.put _ (some 27) _) _
          simp only [Act.put, List.setIfInBounds_toArray, List.set_cons_zero, List.set_cons_succ]
          refine wpAnyH_take (i := 7) (v := .int .i64 r1) rfl (by kernel_rfl) (by kernel_rfl) (by kernel_rfl) (fun _ _ _ h => h) (Or.inl ⟨by rfl, fun w' _ => by go_simp⟩) hS6 ?_
          change wpAnyH _ _ _ _ _ _ _ (Act.put _ (some 28) _) _
          simp only [Act.put, List.setIfInBounds_toArray, List.set_cons_zero, List.set_cons_succ]
          refine wpAnyH_ready (rs := [9]) (by kernel_rfl) (by simp) (AllReadyH.cons rfl ?_ AllReadyH.nil)
          intro K hK
          rw [if_pos (by rfl)]
          refine wp_store_row 32 (.tmp 6) (.tmp 27) rfl (w4.heap.size) #[.slice C6 r0.length e6, .slice D6 rz0.length f6] rfl rfl 32 _ za6 (infoWear _ _) (szWear _ _ _ _) (oneWear _ _ _ _ _ _) ?_
          have hb7 : Below w1.heap.size w6 (w6.setRow (w4.heap.size) #[.slice C6 r0.length e6, .slice D6 rz0.length f6]) := below_setRow (Below.refl _ _) ge5
          have DD : Bk (w6.setRow (w4.heap.size) #[.slice C6 r0.length e6, .slice D6 rz0.length f6]) (w4.heap.size) 32 #[.slice C6 r0.length e6, .slice D6 rz0.length f6] := setRow_heap _ _ _ _ _ _ za6
          have oo_7 := own_rowK oo_6 za6 (by decide) #[.slice C6 r0.length e6, .slice D6 rz0.length f6]
          have oz_7 := own_rowK oz_6 za6 (by decide) #[.slice C6 r0.length e6, .slice D6 rz0.length f6]
          have B0_7 : Bk (w6.setRow (w4.heap.size) #[.slice C6 r0.length e6, .slice D6 rz0.length f6]) (w.heap.size) 25 #[.int .i16 s0, .slice A0 l0.length c0] := (setRow_other _ _ _ _ (by have e1 := B0_1.lt; have e2 := ge5; omega)).trans B0_6
          have B1_7 : Bk (w6.setRow (w4.heap.size) #[.slice C6 r0.length e6, .slice D6 rz0.length f6]) (w.heap.size + 1) 27 (da d1) := (setRow_other _ _ _ _ (by have e1 := B1_1.lt; have e2 := ge5; omega)).trans B1_6
          have tb7 := tb6.trans hb7
          refine hK.out _ _ ⟨(B0_7.cell (i := 0) rfl), (B0_7.cell (i := 1) rfl), (show Dr (w6.setRow (w4.heap.size) #[.slice C6 r0.length e6, .slice D6 rz0.length f6]) (w.heap.size + 1) 27 d1 from B1_7).range⟩ (fun hS7 => ?_)
          clear hK K
          refine wpAnyH_take (i := 10) (v := .int .i64 r1) rfl (by kernel_rfl) (by kernel_rfl) (by kernel_rfl) (fun _ _ _ h => h) (Or.inl ⟨by rfl, fun w' _ => by go_simp⟩) hS7 ?_
          change wpAnyH _ _ _ _ _ _ _ (Act.put _ (some 7) _) _
          simp only [Act.put, List.setIfInBounds_toArray, List.set_cons_zero, List.set_cons_succ]
          refine wpAnyH_done (by kernel_rfl) ?_ _
          go_wp2_with fail
          go_meet
          exact ⟨_, C6, e6, D6, f6, _, rfl, rfl, rfl, DD, ge5, oo_7, oz_7, tb7⟩
      · obtain ⟨w4, hX4⟩ : ∃ X, X = w3.alloc (.cells #[.slice none 0 0, .slice none 0 0] 32) := ⟨_, rfl⟩
        have hb4 : Below w3.heap.size w3 w4 := by rw [hX4]; exact (Below.refl _ _).alloc (Nat.le_refl _) _
        have za4 : Bk w4 w3.heap.size 32 #[.slice none 0 0, .slice none 0 0] := by rw [hX4]; exact heap_new' _ _ _ rfl
        have ge4 : w1.heap.size ≤ w3.heap.size := tb3.size
        intro K hK
        rw [if_pos (by rfl)]
        go_simp
        rw [← hX4]
        clear hX4
        have b4 := step_below hb4 b3
        have B0_4 := B0_3.keep hb4
        have B1_4 := B1_3.keep hb4
        have q3_4 := own_keep q3_3 hb4
        have tb4 := tb3.trans (hb4.mono tb3.size)
        refine hK.out _ _ ⟨(B0_4.cell (i := 0) rfl), (B0_4.cell (i := 1) rfl), (show Dr w4 (w.heap.size + 1) 27 d1 from B1_4).range⟩ (fun hS4 => ?_)
        clear hK K
        try (change wpAnyH _ _ _ _ _ _ _ (Act.put _ (some 6) _) _)
        try simp only [Act.put, List.setIfInBounds_toArray, List.set_cons_zero, List.set_cons_succ]
        refine wpAnyH_ready (rs := [3]) (by kernel_rfl) (by simp) (AllReadyH.cons rfl ?_ AllReadyH.nil)
        intro K hK
        rw [if_pos (by rfl)]
        go_simp
        refine (toDrum_any d1 _).mono ?_
        rintro e w5 ⟨rfl, hb5⟩
        have b5 := step_below hb5 b4
        have B0_5 := B0_4.keep hb5
        have B1_5 := B1_4.keep hb5
        have q3_5 := own_keep q3_4 hb5
        have tb5 := tb4.trans (hb5.mono tb4.size)
        have za5 := za4.keep hb5
        refine hK.out _ _ ⟨(B0_5.cell (i := 0) rfl), (B0_5.cell (i := 1) rfl), (show Dr w5 (w.heap.size + 1) 27 d1 from B1_5).range⟩ (fun hS5 => ?_)
        clear hK K
        try (change wpAnyH _ _ _ _ _ _ _ (Act.put _ (some 25) _) _)
        try simp only [Act.put, List.setIfInBounds_toArray, List.set_cons_zero, List.set_cons_succ]
        refine wpAnyH_ready (rs := [4]) (by kernel_rfl) (by simp) (AllReadyH.cons rfl ?_ AllReadyH.nil)
        intro K hK
        rw [if_pos (by rfl)]
        go_simp
        refine (KS _ _ (HA.of_own q3_5) (hT.keep b5)).mono ?_
        rintro e w6 ⟨C6, e6, D6, f6, rfl, own6, owm6, hb6⟩
        have b6 := step_below hb6 b5
        have B0_6 := B0_5.keep hb6
        have B1_6 := B1_5.keep hb6
        have v6_6 := own6
        have vz6_6 := owm6
        have t6 : Below w6.heap.size w6 w6 := Below.refl _ _
        have tb6 := tb5.trans (hb6.mono tb5.size)
        have za6 := za5.keep hb6
        have oo_6 := own_base own6 tb5.size
        have oz_6 := own_base owm6 tb5.size
        refine hK.out _ _ ⟨(B0_6.cell (i := 0) rfl), (B0_6.cell (i := 1) rfl), (show Dr w6 (w.heap.size + 1) 27 d1 from B1_6).range⟩ (fun hS6 => ?_)
        clear hK K
        try (change wpAnyH _ _ _ _ _ _ _ (Act.put _ (some 26) _) _)
        try simp only [Act.put, List.setIfInBounds_toArray, List.set_cons_zero, List.set_cons_succ]
        refine wpAnyH_take (i := 5) (v := .tuple #[.agg #[.slice C6 r0.length e6, .slice D6 rz0.length f6], .int .i64 r1]) rfl (by kernel_rfl) (by kernel_rfl) (by kernel_rfl) (fun _ _ _ h => h) (Or.inl ⟨by rfl, fun w' _ => by go_simp⟩) hS6 ?_
        change wpAnyH _ _ _ _ _ _ _ (Act.put _ (some 21) _) _
        simp only [Act.put, List.setIfInBounds_toArray, List.set_cons_zero, List.set_cons_succ]
        refine wpAnyH_take (i := 6) (v := .agg #[.slice C6 r0.length e6, .slice D6 rz0.length f6]) rfl (by kernel_rfl) (by kernel_rfl) (by kernel_rfl) (fun _ _ _ h => h) (Or.inl ⟨by rfl, fun w' _ => by go_simp⟩) hS6 ?_
        change wpAnyH _ _ _ _ _ _ _ (Act.put _ (some 27) _) _
        simp only [Act.put, List.setIfInBounds_toArray, List.set_cons_zero, List.set_cons_succ]
        refine wpAnyH_take (i := 7) (v := .int .i64 r1) rfl (by kernel_rfl) (by kernel_rfl) (by kernel_rfl) (fun _ _ _ h => h) (Or.inl ⟨by rfl, fun w' _ => by go_simp⟩) hS6 ?_
        change wpAnyH _ _ _ _ _ _ _ (Act.put _ (some 28) _) _
        simp only [Act.put, List.setIfInBounds_toArray, List.set_cons_zero, List.set_cons_succ]
        refine wpAnyH_ready (rs := [9]) (by kernel_rfl) (by simp) (AllReadyH.cons rfl ?_ AllReadyH.nil)
        intro K hK
        rw [if_pos (by rfl)]
        refine wp_store_row 32 (.tmp 6) (.tmp 27) rfl (w3.heap.size) #[.slice C6 r0.length e6, .slice D6 rz0.length f6] rfl rfl 32 _ za6 (infoWear _ _) (szWear _ _ _ _) (oneWear _ _ _ _ _ _) ?_
        have hb7 : Below w1.heap.size w6 (w6.setRow (w3.heap.size) #[.slice C6 r0.length e6, .slice D6 rz0.length f6]) := below_setRow (Below.refl _ _) ge4
        have DD : Bk (w6.setRow (w3.heap.size) #[.slice C6 r0.length e6, .slice D6 rz0.length f6]) (w3.heap.size) 32 #[.slice C6 r0.length e6, .slice D6 rz0.length f6] := setRow_heap _ _ _ _ _ _ za6
        have oo_7 := own_rowK oo_6 za6 (by decide) #[.slice C6 r0.length e6, .slice D6 rz0.length f6]
        have oz_7 := own_rowK oz_6 za6 (by decide) #[.slice C6 r0.length e6, .slice D6 rz0.length f6]
        have B0_7 : Bk (w6.setRow (w3.heap.size) #[.slice C6 r0.length e6, .slice D6 rz0.length f6]) (w.heap.size) 25 #[.int .i16 s0, .slice A0 l0.length c0] := (setRow_other _ _ _ _ (by have e1 := B0_1.lt; have e2 := ge4; omega)).trans B0_6
        have B1_7 : Bk (w6.setRow (w3.heap.size) #[.slice C6 r0.length e6, .slice D6 rz0.length f6]) (w.heap.size + 1) 27 (da d1) := (setRow_other _ _ _ _ (by have e1 := B1_1.lt; have e2 := ge4; omega)).trans B1_6
        have tb7 := tb6.trans hb7
        refine hK.out _ _ ⟨(B0_7.cell (i := 0) rfl), (B0_7.cell (i := 1) rfl), (show Dr (w6.setRow (w3.heap.size) #[.slice C6 r0.length e6, .slice D6 rz0.length f6]) (w.heap.size + 1) 27 d1 from B1_7).range⟩ (fun hS7 => ?_)
        clear hK K
        refine wpAnyH_take (i := 10) (v := .int .i64 r1) rfl (by kernel_rfl) (by kernel_rfl) (by kernel_rfl) (fun _ _ _ h => h) (Or.inl ⟨by rfl, fun w' _ => by go_simp⟩) hS7 ?_
        change wpAnyH _ _ _ _ _ _ _ (Act.put _ (some 7) _) _
        simp only [Act.put, List.setIfInBounds_toArray, List.set_cons_zero, List.set_cons_succ]
        refine wpAnyH_done (by kernel_rfl) ?_ _
        go_wp2_with fail
        go_meet
        exact ⟨_, C6, e6, D6, f6, _, rfl, rfl, rfl, DD, ge4, oo_7, oz_7, tb7⟩
    · obtain ⟨w3, hX3⟩ : ∃ X, X = wd2.alloc (.cells #[.slice none 0 0, .slice none 0 0] 32) := ⟨_, rfl⟩
      have hb3 : Below wd2.heap.size wd2 w3 := by rw [hX3]; exact (Below.refl _ _).alloc (Nat.le_refl _) _
      have za3 : Bk w3 wd2.heap.size 32 #[.slice none 0 0, .slice none 0 0] := by rw [hX3]; exact heap_new' _ _ _ rfl
      have ge3 : w1.heap.size ≤ wd2.heap.size := tb2.size
      intro K hK
      rw [if_pos (by rfl)]
      go_simp
      rw [← hX3]
      clear hX3
      have b3 := step_below hb3 b2
      have B0_3 := B0_2.keep hb3
      have B1_3 := B1_2.keep hb3
      have tb3 := tb2.trans (hb3.mono tb2.size)
      refine hK.out _ _ ⟨(B0_3.cell (i := 0) rfl), (B0_3.cell (i := 1) rfl), (show Dr w3 (w.heap.size + 1) 27 d1 from B1_3).range⟩ (fun hS3 => ?_)
      clear hK K
      try (change wpAnyH _ _ _ _ _ _ _ (Act.put _ (some 6) _) _)
      try simp only [Act.put, List.setIfInBounds_toArray, List.set_cons_zero, List.set_cons_succ]
      refine wpAnyH_ready (rs := [1]) (by kernel_rfl) (by simp) (AllReadyH.cons rfl ?_ AllReadyH.nil)
      intro K hK
      rw [if_pos (by rfl)]
      go_simp
      refine (toFrame_any s0 A0 c0 l0 _ (hA0.below b3) hn0).mono ?_
      rintro e w4 ⟨g4, rfl, hg4, own4, hb4⟩
      have b4 := step_below hb4 b3
      have B0_4 := B0_3.keep hb4
      have B1_4 := B1_3.keep hb4
      have gl4 : g4 < w4.heap.size := (own4.lt g4 rfl).2
      have q4_4 := own4
      have tb4 := tb3.trans (hb4.mono tb3.size)
      have za4 := za3.keep hb4
      refine hK.out _ _ ⟨(B0_4.cell (i := 0) rfl), (B0_4.cell (i := 1) rfl), (show Dr w4 (w.heap.size + 1) 27 d1 from B1_4).range⟩ (fun hS4 => ?_)
      clear hK K
      try (change wpAnyH _ _ _ _ _ _ _ (Act.put _ (some 23) _) _)
      try simp only [Act.put, List.setIfInBounds_toArray, List.set_cons_zero, List.set_cons_succ]
      refine wpAnyH_ready (rs := [3]) (by kernel_rfl) (by simp) (AllReadyH.cons rfl ?_ AllReadyH.nil)
      intro K hK
      rw [if_pos (by rfl)]
      go_simp
      refine (toDrum_any d1 _).mono ?_
      rintro e w5 ⟨rfl, hb5⟩
      have b5 := step_below hb5 b4
      have B0_5 := B0_4.keep hb5
      have B1_5 := B1_4.keep hb5
      have q4_5 := own_keep q4_4 hb5
      have tb5 := tb4.trans (hb5.mono tb4.size)
      have za5 := za4.keep hb5
      refine hK.out _ _ ⟨(B0_5.cell (i := 0) rfl), (B0_5.cell (i := 1) rfl), (show Dr w5 (w.heap.size + 1) 27 d1 from B1_5).range⟩ (fun hS5 => ?_)
      clear hK K
      try (change wpAnyH _ _ _ _ _ _ _ (Act.put _ (some 25) _) _)
      try simp only [Act.put, List.setIfInBounds_toArray, List.set_cons_zero, List.set_cons_succ]
      refine wpAnyH_ready (rs := [4]) (by kernel_rfl) (by simp) (AllReadyH.cons rfl ?_ AllReadyH.nil)
      intro K hK
      rw [if_pos (by rfl)]
      go_simp
      refine (KS _ _ (HA.of_own q4_5) (hT.keep b5)).mono ?_
      rintro e w6 ⟨C6, e6, D6, f6, rfl, own6, owm6, hb6⟩
      have b6 := step_below hb6 b5
      have B0_6 := B0_5.keep hb6
      have B1_6 := B1_5.keep hb6
      have v6_6 := own6
      have vz6_6 := owm6
      have t6 : Below w6.heap.size w6 w6 := Below.refl _ _
      have tb6 := tb5.trans (hb6.mono tb5.size)
      have za6 := za5.keep hb6
      have oo_6 := own_base own6 tb5.size
      have oz_6 := own_base owm6 tb5.size
      refine hK.out _ _ ⟨(B0_6.cell (i := 0) rfl), (B0_6.cell (i := 1) rfl), (show Dr w6 (w.heap.size + 1) 27 d1 from B1_6).range⟩ (fun hS6 => ?_)
      clear hK K
      try (change wpAnyH _ _ _ _ _ _ _ (Act.put _ (some 26) _) _)
      try simp only [Act.put, List.setIfInBounds_toArray, List.set_cons_zero, List.set_cons_succ]
      refine wpAnyH_take (i := 5) (v := .tuple #[.agg #[.slice C6 r0.length e6, .slice D6 rz0.length f6], .int .i64 r1]) rfl (by kernel_rfl) (by kernel_rfl) (by kernel_rfl) (fun _ _ _ h => h) (Or.inl ⟨by rfl, fun w' _ => by go_simp⟩) hS6 ?_
      change wpAnyH _ _ _ _ _ _ _ (Act.put _ (some 21) _) _
      simp only [Act.put, List.setIfInBounds_toArray, List.set_cons_zero, List.set_cons_succ]
      refine wpAnyH_take (i := 6) (v := .agg #[.slice C6 r0.length e6, .slice D6 rz0.length f6]) rfl (by kernel_rfl) (by kernel_rfl) (by kernel_rfl) (fun _ _ _ h => h) (Or.inl ⟨by rfl, fun w' _ => by go_simp⟩) hS6 ?_
      change wpAnyH _ _ _ _ _ _ _ (Act.put _ (some 27) _) _
      simp only [Act.put, List.setIfInBounds_toArray, List.set_cons_zero, List.set_cons_succ]
      refine wpAnyH_take (i := 7) (v := .int .i64 r1) rfl (by kernel_rfl) (by kernel_rfl) (by kernel_rfl) (fun _ _ _ h => h) (Or.inl ⟨by rfl, fun w' _ => by go_simp⟩) hS6 ?_
      change wpAnyH _ _ _ _ _ _ _ (Act.put _ (some 28) _) _
      simp only [Act.put, List.setIfInBounds_toArray, List.set_cons_zero, List.set_cons_succ]
      refine wpAnyH_ready (rs := [9]) (by kernel_rfl) (by simp) (AllReadyH.cons rfl ?_ AllReadyH.nil)
      intro K hK
      rw [if_pos (by rfl)]
      refine wp_store_row 32 (.tmp 6) (.tmp 27) rfl (wd2.heap.size) #[.slice C6 r0.length e6, .slice D6 rz0.length f6] rfl rfl 32 _ za6 (infoWear _ _) (szWear _ _ _ _) (oneWear _ _ _ _ _ _) ?_
      have hb7 : Below w1.heap.size w6 (w6.setRow (wd2.heap.size) #[.slice C6 r0.length e6, .slice D6 rz0.length f6]) := below_setRow (Below.refl _ _) ge3
      have DD : Bk (w6.setRow (wd2.heap.size) #[.slice C6 r0.length e6, .slice D6 rz0.length f6]) (wd2.heap.size) 32 #[.slice C6 r0.length e6, .slice D6 rz0.length f6] := setRow_heap _ _ _ _ _ _ za6
      have oo_7 := own_rowK oo_6 za6 (by decide) #[.slice C6 r0.length e6, .slice D6 rz0.length f6]
      have oz_7 := own_rowK oz_6 za6 (by decide) #[.slice C6 r0.length e6, .slice D6 rz0.length f6]
      have B0_7 : Bk (w6.setRow (wd2.heap.size) #[.slice C6 r0.length e6, .slice D6 rz0.length f6]) (w.heap.size) 25 #[.int .i16 s0, .slice A0 l0.length c0] := (setRow_other _ _ _ _ (by have e1 := B0_1.lt; have e2 := ge3; omega)).trans B0_6
      have B1_7 : Bk (w6.setRow (wd2.heap.size) #[.slice C6 r0.length e6, .slice D6 rz0.length f6]) (w.heap.size + 1) 27 (da d1) := (setRow_other _ _ _ _ (by have e1 := B1_1.lt; have e2 := ge3; omega)).trans B1_6
      have tb7 := tb6.trans hb7
      refine hK.out _ _ ⟨(B0_7.cell (i := 0) rfl), (B0_7.cell (i := 1) rfl), (show Dr (w6.setRow (wd2.heap.size) #[.slice C6 r0.length e6, .slice D6 rz0.length f6]) (w.heap.size + 1) 27 d1 from B1_7).range⟩ (fun hS7 => ?_)
      clear hK K
      refine wpAnyH_take (i := 10) (v := .int .i64 r1) rfl (by kernel_rfl) (by kernel_rfl) (by kernel_rfl) (fun _ _ _ h => h) (Or.inl ⟨by rfl, fun w' _ => by go_simp⟩) hS7 ?_
      change wpAnyH _ _ _ _ _ _ _ (Act.put _ (some 7) _) _
      simp only [Act.put, List.setIfInBounds_toArray, List.set_cons_zero, List.set_cons_succ]
      refine wpAnyH_done (by kernel_rfl) ?_ _
      go_wp2_with fail
      go_meet
      exact ⟨_, C6, e6, D6, f6, _, rfl, rfl, rfl, DD, ge3, oo_7, oz_7, tb7⟩
  obtain ⟨rg2, C2, e2, D2, f2, w2, rfl, rfl, rfl, K2, rge2, own2, owm2, hb2⟩ := hcut
  have b2 := step_below hb2 b1
  have B0_2 := B0_1.keep hb2
  have B1_2 := B1_1.keep hb2
  have t2 : Below w2.heap.size w2 w2 := Below.refl _ _
  have v2_2 := own2
  have vz2_2 := owm2
  have Rw2_2 := K2
  have pf29_0 := B0_2.cell (i := 0) rfl
  have pf29_1 := B0_2.cell (i := 1) rfl
  go_wp2_with fail
  clear pf29_0 pf29_1
  refine (toFrame_any s0 A0 c0 l0 _ (hA0.below b2) hn0).mono ?_
  rintro e w3 ⟨g3, rfl, hg3, own3, hb3⟩
  have b3 := step_below hb3 b2
  have B0_3 := B0_2.keep hb3
  have B1_3 := B1_2.keep hb3
  have Rw2_3 := Rw2_2.keep hb3
  have v2_3 := own_keep v2_2 hb3
  have vz2_3 := own_keep vz2_2 hb3
  have t3 := step_below hb3 t2
  have gl3 : g3 < w3.heap.size := (own3.lt g3 rfl).2
  have q3_3 := own3
  go_upto_region 7 with fail
  obtain ⟨w4, hX4⟩ : ∃ X, X = w3.alloc (.cells #[.int .i16 s0, .slice (some ⟨g3, 0, none⟩) l0.length l0.length] 37) := ⟨_, rfl⟩
  have hb4 : Below w3.heap.size w3 w4 := by rw [hX4]; exact (Below.refl _ _).alloc (Nat.le_refl _) _
  have K4 : Bk w4 w3.heap.size 37 #[.int .i16 s0, .slice (some ⟨g3, 0, none⟩) l0.length l0.length] := by rw [hX4]; exact Bk.new _ _ _ rfl
  rw [← hX4]
  clear hX4
  have b4 := step_below hb4 b3
  have B0_4 := B0_3.keep hb4
  have B1_4 := B1_3.keep hb4
  have Rw2_4 := Rw2_3.keep hb4
  have v2_4 := own_keep v2_3 hb4
  have vz2_4 := own_keep vz2_3 hb4
  have q3_4 := own_keep q3_3 hb4
  have t4 := step_below hb4 t3
  have Y0_4 := K4
  have yw0 : w3.heap.size < w4.heap.size := K4.lt
  go_upto_region 7 with fail
  go_cut [9, 10] from 31 to 37 (fun a_ b_ wx => ∃ (g : Nat) (C : Option Addr) (e : Nat) (D : Option Addr) (f : Nat) (W : World), a_ = .pointer (some ⟨g, 0, none⟩) ∧ b_ = .int .i64 r1 ∧ W = wx ∧ Bk W g 32 #[.slice C r0.length e, .slice D rz0.length f] ∧ w4.heap.size ≤ g ∧ W.ownsRow w4.heap.size 53 3 (.slice C r0.length e) r0.length (wnC r0) ∧ W.ownsRow w4.heap.size 2 1 (.slice D rz0.length f) rz0.length (icells rz0) ∧ Below w4.heap.size w4 W)
  case first =>
    have hb5 : Below w4.heap.size w4 w4.drew := (Below.refl _ _).drew
    have tb4 : Below w4.heap.size w4 w4 := Below.refl _ _
    have b5 := step_below hb5 b4
    have B0_5 := B0_4.keep hb5
    have B1_5 := B1_4.keep hb5
    have Rw2_5 := Rw2_4.keep hb5
    have Y0_5 := Y0_4.keep hb5
    have v2_5 := own_keep v2_4 hb5
    have vz2_5 := own_keep vz2_4 hb5
    have q3_5 := own_keep q3_4 hb5
    have t5 := step_below hb5 t4
    have tb5 := step_below hb5 tb4
    refine wp_region_held_drew (S := fun w' => w'.rangeAt (w.heap.size + 1) 0 (dv d1) ∧ w'.cell? ⟨w3.heap.size, 0, none⟩ = some (.int .i16 s0) ∧ w'.cell? ⟨w3.heap.size, 1, none⟩ = some (.slice (some ⟨g3, 0, none⟩) l0.length l0.length)) (by kernel_rfl) ⟨(show Dr w4.drew (w.heap.size + 1) 27 d1 from B1_5).range, (Y0_5.cell (i := 0) rfl), (Y0_5.cell (i := 1) rfl)⟩ fun hS5 => ?_
    generalize w4.drew = wd5 at *
    change wpAnyH _ _ _ _ _ _ #[false, false, false, false, false, false, false, false, false, false] _ _
    refine wpAnyH_take (i := 0) (v := .agg #[.int .i16 s0, .slice (some ⟨g3, 0, none⟩) l0.length l0.length]) rfl (by kernel_rfl) (by kernel_rfl) (by kernel_rfl) (fun _ _ _ h => h) (Or.inl ⟨by rfl, fun w' h => ?_⟩) hS5 ?_
    · have c0 := h.2.1
      have c1 := h.2.2
      clear h
      go_simp
    change wpAnyH _ _ _ _ _ _ _ (Act.put _ (some 32) _) _
    simp only [Act.put, List.setIfInBounds_toArray, List.set_cons_zero, List.set_cons_succ]
    refine wpAnyH_take (i := 1) rfl (by kernel_rfl) (by kernel_rfl) (by kernel_rfl) (fun _ _ _ h => h) (yieldsIf_load_mid (by rfl) _ _ rfl (w.heap.size + 1) 0 rfl (dv d1) _ (fun _ h => h.1) Tryd.underlying27 rfl (infoLt d1)) hS5 ?_
    change wpAnyH _ _ _ _ _ _ _ (Act.put _ (some 33) _) _
    simp only [Act.put, List.setIfInBounds_toArray, List.set_cons_zero, List.set_cons_succ]
    refine wpAnyH_ready (rs := [2, 7]) (by kernel_rfl) (by simp) (AllReadyH.cons rfl ?_ (AllReadyH.cons rfl ?_ AllReadyH.nil))
    · intro K hK
      rw [if_pos (by rfl)]
      go_simp
      refine (toDrum_any d1 _).mono ?_
      rintro e w6 ⟨rfl, hb6⟩
      have b6 := step_below hb6 b5
      have B1_6 := B1_5.keep hb6
      have Y0_6 := Y0_5.keep hb6
      have q3_6 := own_keep q3_5 hb6
      have t6 := step_below hb6 t5
      have tb6 := tb5.trans (hb6.mono tb5.size)
      refine hK.out _ _ ⟨(show Dr w6 (w.heap.size + 1) 27 d1 from B1_6).range, (Y0_6.cell (i := 0) rfl), (Y0_6.cell (i := 1) rfl)⟩ (fun hS6 => ?_)
      clear hK K
      try (change wpAnyH _ _ _ _ _ _ _ (Act.put _ (some 34) _) _)
      try simp only [Act.put, List.setIfInBounds_toArray, List.set_cons_zero, List.set_cons_succ]
      refine wpAnyH_ready (rs := [3, 7]) (by kernel_rfl) (by simp) (AllReadyH.cons rfl ?_ (AllReadyH.cons rfl ?_ AllReadyH.nil))
      · intro K hK
        rw [if_pos (by rfl)]
        go_simp
        refine (KI _ _ (HA.of_own q3_6) (hT.keep b6)).mono ?_
        rintro e w7 ⟨C7, e7, D7, f7, rfl, own7, owm7, hb7⟩
        have b7 := step_below hb7 b6
        have B1_7 := B1_6.keep hb7
        have Y0_7 := Y0_6.keep hb7
        have q3_7 := own_keep q3_6 hb7
        have t7 := step_below hb7 t6
        have r7_7 := own7
        have rz7_7 := owm7
        have tb7 := tb6.trans (hb7.mono tb6.size)
        have oo_7 := own_base own7 tb6.size
        have oz_7 := own_base owm7 tb6.size
        refine hK.out _ _ ⟨(show Dr w7 (w.heap.size + 1) 27 d1 from B1_7).range, (Y0_7.cell (i := 0) rfl), (Y0_7.cell (i := 1) rfl)⟩ (fun hS7 => ?_)
        clear hK K
        try (change wpAnyH _ _ _ _ _ _ _ (Act.put _ (some 35) _) _)
        try simp only [Act.put, List.setIfInBounds_toArray, List.set_cons_zero, List.set_cons_succ]
        refine wpAnyH_take (i := 4) (v := .tuple #[.agg #[.slice C7 r0.length e7, .slice D7 rz0.length f7], .int .i64 r1]) rfl (by kernel_rfl) (by kernel_rfl) (by kernel_rfl) (fun _ _ _ h => h) (Or.inl ⟨by rfl, fun w' _ => by go_simp⟩) hS7 ?_
        change wpAnyH _ _ _ _ _ _ _ (Act.put _ (some 31) _) _
        simp only [Act.put, List.setIfInBounds_toArray, List.set_cons_zero, List.set_cons_succ]
        refine wpAnyH_take (i := 5) (v := .agg #[.slice C7 r0.length e7, .slice D7 rz0.length f7]) rfl (by kernel_rfl) (by kernel_rfl) (by kernel_rfl) (fun _ _ _ h => h) (Or.inl ⟨by rfl, fun w' _ => by go_simp⟩) hS7 ?_
        change wpAnyH _ _ _ _ _ _ _ (Act.put _ (some 36) _) _
        simp only [Act.put, List.setIfInBounds_toArray, List.set_cons_zero, List.set_cons_succ]
        refine wpAnyH_take (i := 6) (v := .int .i64 r1) rfl (by kernel_rfl) (by kernel_rfl) (by kernel_rfl) (fun _ _ _ h => h) (Or.inl ⟨by rfl, fun w' _ => by go_simp⟩) hS7 ?_
        change wpAnyH _ _ _ _ _ _ _ (Act.put _ (some 37) _) _
        simp only [Act.put, List.setIfInBounds_toArray, List.set_cons_zero, List.set_cons_succ]
        refine wpAnyH_ready (rs := [7]) (by kernel_rfl) (by simp) (AllReadyH.cons rfl ?_ AllReadyH.nil)
        obtain ⟨w8, hX8⟩ : ∃ X, X = w7.alloc (.cells #[.slice none 0 0, .slice none 0 0] 32) := ⟨_, rfl⟩
        have hb8 : Below w7.heap.size w7 w8 := by rw [hX8]; exact (Below.refl _ _).alloc (Nat.le_refl _) _
        have za8 : Bk w8 w7.heap.size 32 #[.slice none 0 0, .slice none 0 0] := by rw [hX8]; exact heap_new' _ _ _ rfl
        have ge8 : w4.heap.size ≤ w7.heap.size := tb7.size
        intro K hK
        rw [if_pos (by rfl)]
        go_simp
        rw [← hX8]
        clear hX8
        have b8 := step_below hb8 b7
        have B1_8 := B1_7.keep hb8
        have Y0_8 := Y0_7.keep hb8
        have q3_8 := own_keep q3_7 hb8
        have r7_8 := own_keep r7_7 hb8
        have rz7_8 := own_keep rz7_7 hb8
        have t8 := step_below hb8 t7
        have tb8 := tb7.trans (hb8.mono tb7.size)
        have oo_8 := own_keep oo_7 hb8
        have oz_8 := own_keep oz_7 hb8
        refine hK.out _ _ ⟨(show Dr w8 (w.heap.size + 1) 27 d1 from B1_8).range, (Y0_8.cell (i := 0) rfl), (Y0_8.cell (i := 1) rfl)⟩ (fun hS8 => ?_)
        clear hK K
        try (change wpAnyH _ _ _ _ _ _ _ (Act.put _ (some 9) _) _)
        try simp only [Act.put, List.setIfInBounds_toArray, List.set_cons_zero, List.set_cons_succ]
        refine wpAnyH_ready (rs := [8]) (by kernel_rfl) (by simp) (AllReadyH.cons rfl ?_ AllReadyH.nil)
        intro K hK
        rw [if_pos (by rfl)]
        refine wp_store_row 32 (.tmp 9) (.tmp 36) rfl (w7.heap.size) #[.slice C7 r0.length e7, .slice D7 rz0.length f7] rfl rfl 32 _ za8 (infoWear _ _) (szWear _ _ _ _) (oneWear _ _ _ _ _ _) ?_
        have hb9 : Below w4.heap.size w8 (w8.setRow (w7.heap.size) #[.slice C7 r0.length e7, .slice D7 rz0.length f7]) := below_setRow (Below.refl _ _) ge8
        have DD : Bk (w8.setRow (w7.heap.size) #[.slice C7 r0.length e7, .slice D7 rz0.length f7]) (w7.heap.size) 32 #[.slice C7 r0.length e7, .slice D7 rz0.length f7] := setRow_heap _ _ _ _ _ _ za8
        have oo_9 := own_rowK oo_8 za8 (by decide) #[.slice C7 r0.length e7, .slice D7 rz0.length f7]
        have oz_9 := own_rowK oz_8 za8 (by decide) #[.slice C7 r0.length e7, .slice D7 rz0.length f7]
        have B1_9 : Bk (w8.setRow (w7.heap.size) #[.slice C7 r0.length e7, .slice D7 rz0.length f7]) (w.heap.size + 1) 27 (da d1) := (setRow_other _ _ _ _ (by have e1 := B1_4.lt; have e2 := ge8; omega)).trans B1_8
        have Y0_9 : Bk (w8.setRow (w7.heap.size) #[.slice C7 r0.length e7, .slice D7 rz0.length f7]) (w3.heap.size) 37 #[.int .i16 s0, .slice (some ⟨g3, 0, none⟩) l0.length l0.length] := (setRow_other _ _ _ _ (by have e1 := Y0_4.lt; have e2 := ge8; omega)).trans Y0_8
        have tb9 := tb8.trans hb9
        refine hK.out _ _ ⟨(show Dr (w8.setRow (w7.heap.size) #[.slice C7 r0.length e7, .slice D7 rz0.length f7]) (w.heap.size + 1) 27 d1 from B1_9).range, (Y0_9.cell (i := 0) rfl), (Y0_9.cell (i := 1) rfl)⟩ (fun hS9 => ?_)
        clear hK K
        refine wpAnyH_take (i := 9) (v := .int .i64 r1) rfl (by kernel_rfl) (by kernel_rfl) (by kernel_rfl) (fun _ _ _ h => h) (Or.inl ⟨by rfl, fun w' _ => by go_simp⟩) hS9 ?_
        change wpAnyH _ _ _ _ _ _ _ (Act.put _ (some 10) _) _
        simp only [Act.put, List.setIfInBounds_toArray, List.set_cons_zero, List.set_cons_succ]
        refine wpAnyH_done (by kernel_rfl) ?_ _
        go_wp2_with fail
        go_meet
        exact ⟨_, C7, e7, D7, f7, _, rfl, rfl, rfl, DD, ge8, oo_9, oz_9, tb9⟩
      · obtain ⟨w7, hX7⟩ : ∃ X, X = w6.alloc (.cells #[.slice none 0 0, .slice none 0 0] 32) := ⟨_, rfl⟩
        have hb7 : Below w6.heap.size w6 w7 := by rw [hX7]; exact (Below.refl _ _).alloc (Nat.le_refl _) _
        have za7 : Bk w7 w6.heap.size 32 #[.slice none 0 0, .slice none 0 0] := by rw [hX7]; exact heap_new' _ _ _ rfl
        have ge7 : w4.heap.size ≤ w6.heap.size := tb6.size
        intro K hK
        rw [if_pos (by rfl)]
        go_simp
        rw [← hX7]
        clear hX7
        have b7 := step_below hb7 b6
        have B1_7 := B1_6.keep hb7
        have Y0_7 := Y0_6.keep hb7
        have q3_7 := own_keep q3_6 hb7
        have t7 := step_below hb7 t6
        have tb7 := tb6.trans (hb7.mono tb6.size)
        refine hK.out _ _ ⟨(show Dr w7 (w.heap.size + 1) 27 d1 from B1_7).range, (Y0_7.cell (i := 0) rfl), (Y0_7.cell (i := 1) rfl)⟩ (fun hS7 => ?_)
        clear hK K
        try (change wpAnyH _ _ _ _ _ _ _ (Act.put _ (some 9) _) _)
        try simp only [Act.put, List.setIfInBounds_toArray, List.set_cons_zero, List.set_cons_succ]
        refine wpAnyH_ready (rs := [3]) (by kernel_rfl) (by simp) (AllReadyH.cons rfl ?_ AllReadyH.nil)
        intro K hK
        rw [if_pos (by rfl)]
        go_simp
        refine (KI _ _ (HA.of_own q3_7) (hT.keep b7)).mono ?_
        rintro e w8 ⟨C8, e8, D8, f8, rfl, own8, owm8, hb8⟩
        have b8 := step_below hb8 b7
        have B1_8 := B1_7.keep hb8
        have Y0_8 := Y0_7.keep hb8
        have q3_8 := own_keep q3_7 hb8
        have t8 := step_below hb8 t7
        have r8_8 := own8
        have rz8_8 := owm8
        have tb8 := tb7.trans (hb8.mono tb7.size)
        have za8 := za7.keep hb8
        have oo_8 := own_base own8 tb7.size
        have oz_8 := own_base owm8 tb7.size
        refine hK.out _ _ ⟨(show Dr w8 (w.heap.size + 1) 27 d1 from B1_8).range, (Y0_8.cell (i := 0) rfl), (Y0_8.cell (i := 1) rfl)⟩ (fun hS8 => ?_)
        clear hK K
        try (change wpAnyH _ _ _ _ _ _ _ (Act.put _ (some 35) _) _)
        try simp only [Act.put, List.setIfInBounds_toArray, List.set_cons_zero, List.set_cons_succ]
        refine wpAnyH_take (i := 4) (v := .tuple #[.agg #[.slice C8 r0.length e8, .slice D8 rz0.length f8], .int .i64 r1]) rfl (by kernel_rfl) (by kernel_rfl) (by kernel_rfl) (fun _ _ _ h => h) (Or.inl ⟨by rfl, fun w' _ => by go_simp⟩) hS8 ?_
        change wpAnyH _ _ _ _ _ _ _ (Act.put _ (some 31) _) _
        simp only [Act.put, List.setIfInBounds_toArray, List.set_cons_zero, List.set_cons_succ]
        refine wpAnyH_take (i := 5) (v := .agg #[.slice C8 r0.length e8, .slice D8 rz0.length f8]) rfl (by kernel_rfl) (by kernel_rfl) (by kernel_rfl) (fun _ _ _ h => h) (Or.inl ⟨by rfl, fun w' _ => by go_simp⟩) hS8 ?_
        change wpAnyH _ _ _ _ _ _ _ (Act.put _ (some 36) _) _
        simp only [Act.put, List.setIfInBounds_toArray, List.set_cons_zero, List.set_cons_succ]
        refine wpAnyH_take (i := 6) (v := .int .i64 r1) rfl (by kernel_rfl) (by kernel_rfl) (by kernel_rfl) (fun _ _ _ h => h) (Or.inl ⟨by rfl, fun w' _ => by go_simp⟩) hS8 ?_
        change wpAnyH _ _ _ _ _ _ _ (Act.put _ (some 37) _) _
        simp only [Act.put, List.setIfInBounds_toArray, List.set_cons_zero, List.set_cons_succ]
        refine wpAnyH_ready (rs := [8]) (by kernel_rfl) (by simp) (AllReadyH.cons rfl ?_ AllReadyH.nil)
        intro K hK
        rw [if_pos (by rfl)]
        refine wp_store_row 32 (.tmp 9) (.tmp 36) rfl (w6.heap.size) #[.slice C8 r0.length e8, .slice D8 rz0.length f8] rfl rfl 32 _ za8 (infoWear _ _) (szWear _ _ _ _) (oneWear _ _ _ _ _ _) ?_
        have hb9 : Below w4.heap.size w8 (w8.setRow (w6.heap.size) #[.slice C8 r0.length e8, .slice D8 rz0.length f8]) := below_setRow (Below.refl _ _) ge7
        have DD : Bk (w8.setRow (w6.heap.size) #[.slice C8 r0.length e8, .slice D8 rz0.length f8]) (w6.heap.size) 32 #[.slice C8 r0.length e8, .slice D8 rz0.length f8] := setRow_heap _ _ _ _ _ _ za8
        have oo_9 := own_rowK oo_8 za8 (by decide) #[.slice C8 r0.length e8, .slice D8 rz0.length f8]
        have oz_9 := own_rowK oz_8 za8 (by decide) #[.slice C8 r0.length e8, .slice D8 rz0.length f8]
        have B1_9 : Bk (w8.setRow (w6.heap.size) #[.slice C8 r0.length e8, .slice D8 rz0.length f8]) (w.heap.size + 1) 27 (da d1) := (setRow_other _ _ _ _ (by have e1 := B1_4.lt; have e2 := ge7; omega)).trans B1_8
        have Y0_9 : Bk (w8.setRow (w6.heap.size) #[.slice C8 r0.length e8, .slice D8 rz0.length f8]) (w3.heap.size) 37 #[.int .i16 s0, .slice (some ⟨g3, 0, none⟩) l0.length l0.length] := (setRow_other _ _ _ _ (by have e1 := Y0_4.lt; have e2 := ge7; omega)).trans Y0_8
        have tb9 := tb8.trans hb9
        refine hK.out _ _ ⟨(show Dr (w8.setRow (w6.heap.size) #[.slice C8 r0.length e8, .slice D8 rz0.length f8]) (w.heap.size + 1) 27 d1 from B1_9).range, (Y0_9.cell (i := 0) rfl), (Y0_9.cell (i := 1) rfl)⟩ (fun hS9 => ?_)
        clear hK K
        refine wpAnyH_take (i := 9) (v := .int .i64 r1) rfl (by kernel_rfl) (by kernel_rfl) (by kernel_rfl) (fun _ _ _ h => h) (Or.inl ⟨by rfl, fun w' _ => by go_simp⟩) hS9 ?_
        change wpAnyH _ _ _ _ _ _ _ (Act.put _ (some 10) _) _
        simp only [Act.put, List.setIfInBounds_toArray, List.set_cons_zero, List.set_cons_succ]
        refine wpAnyH_done (by kernel_rfl) ?_ _
        go_wp2_with fail
        go_meet
        exact ⟨_, C8, e8, D8, f8, _, rfl, rfl, rfl, DD, ge7, oo_9, oz_9, tb9⟩
    · obtain ⟨w6, hX6⟩ : ∃ X, X = wd5.alloc (.cells #[.slice none 0 0, .slice none 0 0] 32) := ⟨_, rfl⟩
      have hb6 : Below wd5.heap.size wd5 w6 := by rw [hX6]; exact (Below.refl _ _).alloc (Nat.le_refl _) _
      have za6 : Bk w6 wd5.heap.size 32 #[.slice none 0 0, .slice none 0 0] := by rw [hX6]; exact heap_new' _ _ _ rfl
      have ge6 : w4.heap.size ≤ wd5.heap.size := tb5.size
      intro K hK
      rw [if_pos (by rfl)]
      go_simp
      rw [← hX6]
      clear hX6
      have b6 := step_below hb6 b5
      have B1_6 := B1_5.keep hb6
      have Y0_6 := Y0_5.keep hb6
      have q3_6 := own_keep q3_5 hb6
      have t6 := step_below hb6 t5
      have tb6 := tb5.trans (hb6.mono tb5.size)
      refine hK.out _ _ ⟨(show Dr w6 (w.heap.size + 1) 27 d1 from B1_6).range, (Y0_6.cell (i := 0) rfl), (Y0_6.cell (i := 1) rfl)⟩ (fun hS6 => ?_)
      clear hK K
      try (change wpAnyH _ _ _ _ _ _ _ (Act.put _ (some 9) _) _)
      try simp only [Act.put, List.setIfInBounds_toArray, List.set_cons_zero, List.set_cons_succ]
      refine wpAnyH_ready (rs := [2]) (by kernel_rfl) (by simp) (AllReadyH.cons rfl ?_ AllReadyH.nil)
      intro K hK
      rw [if_pos (by rfl)]
      go_simp
      refine (toDrum_any d1 _).mono ?_
      rintro e w7 ⟨rfl, hb7⟩
      have b7 := step_below hb7 b6
      have B1_7 := B1_6.keep hb7
      have Y0_7 := Y0_6.keep hb7
      have q3_7 := own_keep q3_6 hb7
      have t7 := step_below hb7 t6
      have tb7 := tb6.trans (hb7.mono tb6.size)
      have za7 := za6.keep hb7
      refine hK.out _ _ ⟨(show Dr w7 (w.heap.size + 1) 27 d1 from B1_7).range, (Y0_7.cell (i := 0) rfl), (Y0_7.cell (i := 1) rfl)⟩ (fun hS7 => ?_)
      clear hK K
      try (change wpAnyH _ _ _ _ _ _ _ (Act.put _ (some 34) _) _)
      try simp only [Act.put, List.setIfInBounds_toArray, List.set_cons_zero, List.set_cons_succ]
      refine wpAnyH_ready (rs := [3]) (by kernel_rfl) (by simp) (AllReadyH.cons rfl ?_ AllReadyH.nil)
      intro K hK
      rw [if_pos (by rfl)]
      go_simp
      refine (KI _ _ (HA.of_own q3_7) (hT.keep b7)).mono ?_
      rintro e w8 ⟨C8, e8, D8, f8, rfl, own8, owm8, hb8⟩
      have b8 := step_below hb8 b7
      have B1_8 := B1_7.keep hb8
      have Y0_8 := Y0_7.keep hb8
      have q3_8 := own_keep q3_7 hb8
      have t8 := step_below hb8 t7
      have r8_8 := own8
      have rz8_8 := owm8
      have tb8 := tb7.trans (hb8.mono tb7.size)
      have za8 := za7.keep hb8
      have oo_8 := own_base own8 tb7.size
      have oz_8 := own_base owm8 tb7.size
      refine hK.out _ _ ⟨(show Dr w8 (w.heap.size + 1) 27 d1 from B1_8).range, (Y0_8.cell (i := 0) rfl), (Y0_8.cell (i := 1) rfl)⟩ (fun hS8 => ?_)
      clear hK K
      try (change wpAnyH _ _ _ _ _ _ _ (Act.put _ (some 35) _) _)
      try simp only [Act.put, List.setIfInBounds_toArray, List.set_cons_zero, List.set_cons_succ]
      refine wpAnyH_take (i := 4) (v := .tuple #[.agg #[.slice C8 r0.length e8, .slice D8 rz0.length f8], .int .i64 r1]) rfl (by kernel_rfl) (by kernel_rfl) (by kernel_rfl) (fun _ _ _ h => h) (Or.inl ⟨by rfl, fun w' _ => by go_simp⟩) hS8 ?_
      change wpAnyH _ _ _ _ _ _ _ (Act.put _ (some 31) _) _
      simp only [Act.put, List.setIfInBounds_toArray, List.set_cons_zero, List.set_cons_succ]
      refine wpAnyH_take (i := 5) (v := .agg #[.slice C8 r0.length e8, .slice D8 rz0.length f8]) rfl (by kernel_rfl) (by kernel_rfl) (by kernel_rfl) (fun _ _ _ h => h) (Or.inl ⟨by rfl, fun w' _ => by go_simp⟩) hS8 ?_
      change wpAnyH _ _ _ _ _ _ _ (Act.put _ (some 36) _) _
      simp only [Act.put, List.setIfInBounds_toArray, List.set_cons_zero, List.set_cons_succ]
      refine wpAnyH_take (i := 6) (v := .int .i64 r1) rfl (by kernel_rfl) (by kernel_rfl) (by kernel_rfl) (fun _ _ _ h => h) (Or.inl ⟨by rfl, fun w' _ => by go_simp⟩) hS8 ?_
      change wpAnyH _ _ _ _ _ _ _ (Act.put _ (some 37) _) _
      simp only [Act.put, List.setIfInBounds_toArray, List.set_cons_zero, List.set_cons_succ]
      refine wpAnyH_ready (rs := [8]) (by kernel_rfl) (by simp) (AllReadyH.cons rfl ?_ AllReadyH.nil)
      intro K hK
      rw [if_pos (by rfl)]
      refine wp_store_row 32 (.tmp 9) (.tmp 36) rfl (wd5.heap.size) #[.slice C8 r0.length e8, .slice D8 rz0.length f8] rfl rfl 32 _ za8 (infoWear _ _) (szWear _ _ _ _) (oneWear _ _ _ _ _ _) ?_
      have hb9 : Below w4.heap.size w8 (w8.setRow (wd5.heap.size) #[.slice C8 r0.length e8, .slice D8 rz0.length f8]) := below_setRow (Below.refl _ _) ge6
      have DD : Bk (w8.setRow (wd5.heap.size) #[.slice C8 r0.length e8, .slice D8 rz0.length f8]) (wd5.heap.size) 32 #[.slice C8 r0.length e8, .slice D8 rz0.length f8] := setRow_heap _ _ _ _ _ _ za8
      have oo_9 := own_rowK oo_8 za8 (by decide) #[.slice C8 r0.length e8, .slice D8 rz0.length f8]
      have oz_9 := own_rowK oz_8 za8 (by decide) #[.slice C8 r0.length e8, .slice D8 rz0.length f8]
      have B1_9 : Bk (w8.setRow (wd5.heap.size) #[.slice C8 r0.length e8, .slice D8 rz0.length f8]) (w.heap.size + 1) 27 (da d1) := (setRow_other _ _ _ _ (by have e1 := B1_4.lt; have e2 := ge6; omega)).trans B1_8
      have Y0_9 : Bk (w8.setRow (wd5.heap.size) #[.slice C8 r0.length e8, .slice D8 rz0.length f8]) (w3.heap.size) 37 #[.int .i16 s0, .slice (some ⟨g3, 0, none⟩) l0.length l0.length] := (setRow_other _ _ _ _ (by have e1 := Y0_4.lt; have e2 := ge6; omega)).trans Y0_8
      have tb9 := tb8.trans hb9
      refine hK.out _ _ ⟨(show Dr (w8.setRow (wd5.heap.size) #[.slice C8 r0.length e8, .slice D8 rz0.length f8]) (w.heap.size + 1) 27 d1 from B1_9).range, (Y0_9.cell (i := 0) rfl), (Y0_9.cell (i := 1) rfl)⟩ (fun hS9 => ?_)
      clear hK K
      refine wpAnyH_take (i := 9) (v := .int .i64 r1) rfl (by kernel_rfl) (by kernel_rfl) (by kernel_rfl) (fun _ _ _ h => h) (Or.inl ⟨by rfl, fun w' _ => by go_simp⟩) hS9 ?_
      change wpAnyH _ _ _ _ _ _ _ (Act.put _ (some 10) _) _
      simp only [Act.put, List.setIfInBounds_toArray, List.set_cons_zero, List.set_cons_succ]
      refine wpAnyH_done (by kernel_rfl) ?_ _
      go_wp2_with fail
      go_meet
      exact ⟨_, C8, e8, D8, f8, _, rfl, rfl, rfl, DD, ge6, oo_9, oz_9, tb9⟩
  obtain ⟨rg5, C5, e5, D5, f5, w5, rfl, rfl, rfl, K5, rge5, own5, owm5, hb5⟩ := hcut
  have b5 := step_below hb5 b4
  have B0_5 := B0_4.keep hb5
  have B1_5 := B1_4.keep hb5
  have Rw2_5 := Rw2_4.keep hb5
  have Y0_5 := Y0_4.keep hb5
  have v2_5 := own_keep v2_4 hb5
  have vz2_5 := own_keep vz2_4 hb5
  have q3_5 := own_keep q3_4 hb5
  have t5 := step_below hb5 t4
  have r5_5 := own5
  have rz5_5 := owm5
  have Rw5_5 := K5
  have pf38_0 := Rw5_5.cell (i := 0) rfl
  have pf38_1 := Rw5_5.cell (i := 1) rfl
  have pf39_0 := Rw2_5.cell (i := 0) rfl
  have pf39_1 := Rw2_5.cell (i := 1) rfl
  go_wp2_with fail
  clear pf38_0 pf38_1 pf39_0 pf39_1
  refine (eqWear_self _ _ _ _ r0 _ _ _ _ rz0 _ (WnA.of_own r5_5) (WnA.of_own v2_5) (SI.of_own rz5_5) (SI.of_own vz2_5) hrl0 hrlz0).mono ?_
  rintro e w6 ⟨rfl, hb6⟩
  have b6 := step_below hb6 b5
  have B0_6 := B0_5.keep hb6
  have B1_6 := B1_5.keep hb6
  have Rw2_6 := Rw2_5.keep hb6
  have Y0_6 := Y0_5.keep hb6
  have Rw5_6 := Rw5_5.keep hb6
  have v2_6 := own_keep v2_5 hb6
  have vz2_6 := own_keep vz2_5 hb6
  have q3_6 := own_keep q3_5 hb6
  have r5_6 := own_keep r5_5 hb6
  have rz5_6 := own_keep rz5_5 hb6
  have t6 := step_below hb6 t5
  go_wp2_with fail
  have hb7 : Below w6.heap.size w6 w6.drew := (Below.refl _ _).drew
  have b7 := step_below hb7 b6
  have B0_7 := B0_6.keep hb7
  have B1_7 := B1_6.keep hb7
  have Rw2_7 := Rw2_6.keep hb7
  have Y0_7 := Y0_6.keep hb7
  have Rw5_7 := Rw5_6.keep hb7
  have v2_7 := own_keep v2_6 hb7
  have vz2_7 := own_keep vz2_6 hb7
  have q3_7 := own_keep q3_6 hb7
  have r5_7 := own_keep r5_6 hb7
  have rz5_7 := own_keep rz5_6 hb7
  have t7 := step_below hb7 t6
  refine wp_region_held_drew (S := fun w' => w'.cell? ⟨w3.heap.size, 0, none⟩ = some (.int .i16 s0) ∧ w'.cell? ⟨w3.heap.size, 1, none⟩ = some (.slice (some ⟨g3, 0, none⟩) l0.length l0.length) ∧ w'.cell? ⟨w.heap.size, 0, none⟩ = some (.int .i16 s0) ∧ w'.cell? ⟨w.heap.size, 1, none⟩ = some (.slice A0 l0.length c0)) (by kernel_rfl) ⟨(Y0_7.cell (i := 0) rfl), (Y0_7.cell (i := 1) rfl), (B0_7.cell (i := 0) rfl), (B0_7.cell (i := 1) rfl)⟩ fun hS7 => ?_
  refine wpAnyH_take (i := 0) (v := .agg #[.int .i16 s0, .slice (some ⟨g3, 0, none⟩) l0.length l0.length]) rfl (by kernel_rfl) (by kernel_rfl) (by kernel_rfl) (fun _ _ _ h => h) (Or.inl ⟨by rfl, fun w' h => ?_⟩) hS7 ?_
  · have c0 := h.1
    have c1 := h.2.1
    clear h
    go_simp
  simp only [Act.put, List.setIfInBounds_toArray, List.set_cons_zero, List.set_cons_succ]
  refine wpAnyH_take (i := 1) (v := .agg #[.int .i16 s0, .slice A0 l0.length c0]) rfl (by kernel_rfl) (by kernel_rfl) (by kernel_rfl) (fun _ _ _ h => h) (Or.inl ⟨by rfl, fun w' h => ?_⟩) hS7 ?_
  · have c0 := h.2.2.1
    have c1 := h.2.2.2
    clear h
    go_simp
  simp only [Act.put, List.setIfInBounds_toArray, List.set_cons_zero, List.set_cons_succ]
  refine wpAnyH_ready (rs := [2]) (by kernel_rfl) (by simp) (AllReadyH.cons rfl ?_ AllReadyH.nil)
  intro K hK
  rw [if_pos (by rfl)]
  go_simp
  refine (toFrame_any s0 A0 c0 l0 _ (hA0.below b7) hn0).mono ?_
  rintro e w8 ⟨g8, rfl, hg8, own8, hb8⟩
  have b8 := step_below hb8 b7
  have B0_8 := B0_7.keep hb8
  have B1_8 := B1_7.keep hb8
  have Rw2_8 := Rw2_7.keep hb8
  have Y0_8 := Y0_7.keep hb8
  have Rw5_8 := Rw5_7.keep hb8
  have v2_8 := own_keep v2_7 hb8
  have vz2_8 := own_keep vz2_7 hb8
  have q3_8 := own_keep q3_7 hb8
  have r5_8 := own_keep r5_7 hb8
  have rz5_8 := own_keep rz5_7 hb8
  have t8 := step_below hb8 t7
  have gl8 : g8 < w8.heap.size := (own8.lt g8 rfl).2
  have q8_8 := own8
  refine hK.out _ _ ⟨(Y0_8.cell (i := 0) rfl), (Y0_8.cell (i := 1) rfl), (B0_8.cell (i := 0) rfl), (B0_8.cell (i := 1) rfl)⟩ (fun hS8 => ?_)
  clear hK K
  refine wpAnyH_ready (rs := [3]) (by kernel_rfl) (by simp) (AllReadyH.cons rfl ?_ AllReadyH.nil)
  intro K hK
  rw [if_pos (by rfl)]
  go_simp
  refine (eqFrame_any s0 _ _ _ _ l0 _ (HA.of_own q3_8) (HA.of_own q8_8) hn0).mono ?_
  rintro e w9 ⟨rfl, hb9⟩
  have b9 := step_below hb9 b8
  have B0_9 := B0_8.keep hb9
  have B1_9 := B1_8.keep hb9
  have Rw2_9 := Rw2_8.keep hb9
  have Y0_9 := Y0_8.keep hb9
  have Rw5_9 := Rw5_8.keep hb9
  have v2_9 := own_keep v2_8 hb9
  have vz2_9 := own_keep vz2_8 hb9
  have q3_9 := own_keep q3_8 hb9
  have r5_9 := own_keep r5_8 hb9
  have rz5_9 := own_keep rz5_8 hb9
  have t9 := step_below hb9 t8
  refine hK.out _ _ ⟨(Y0_9.cell (i := 0) rfl), (Y0_9.cell (i := 1) rfl), (B0_9.cell (i := 0) rfl), (B0_9.cell (i := 1) rfl)⟩ (fun hS9 => ?_)
  clear hK K
  refine wpAnyH_take (i := 4) (v := .bool false) rfl (by kernel_rfl) (by kernel_rfl) (by kernel_rfl) (fun _ _ _ h => h) (Or.inl ⟨by rfl, fun w' _ => by go_simp⟩) hS9 ?_
  change wpAnyH _ _ _ _ _ _ _ (Act.put _ (some 51) _) _
  simp only [Act.put, List.setIfInBounds_toArray, List.set_cons_zero, List.set_cons_succ]
  refine wpAnyH_done (by kernel_rfl) ?_ _
  have pf52_0 := Y0_9.cell (i := 0) rfl
  have pf52_1 := Y0_9.cell (i := 1) rfl
  go_wp2_with fail
  clear pf52_0 pf52_1
  refine (markFrame_from s0 _ _ l0 _ (1) _ q3_9 hn0 ⟨by omega, by omega⟩).mono ?_
  rintro e w10 ⟨rfl, mo10, hgr10⟩
  have hbs10 := hgr10.size
  have t10 : Below w2.heap.size w2 w10 := t9.grown hgr10 t9.size (fun j hj => by cases hj; exact Nat.le_trans t2.size hg3)
  have b10 : Below w.heap.size w w10 := b2.trans (t10.mono b2.size)
  have B0_10 := B0_2.keep t10
  have B1_10 := B1_2.keep t10
  have Rw2_10 := Rw2_2.keep t10
  have Rw5_10 := Rw5_9.grown hgr10 (own_neK q3_9 Rw5_9 (by decide))
  have Y0_10 := Y0_9.grown hgr10 (fun e => by have e' : g3 = w3.heap.size := Option.some.inj e; have gg := gl3; have gh := hg3; have h3_ := hb3.size; have h4_ := hb4.size; omega)
  have v2_10 := own_keep v2_2 t10
  have vz2_10 := own_keep vz2_2 t10
  have r5_10 := r5_9.kept hgr10 (own_ne2 r5_9 q3_9 (by decide))
  have rz5_10 := rz5_9.kept hgr10 (own_ne2 rz5_9 q3_9 (by decide))
  have hneg10 : decide (1 + 2 * (l0.length : Int) < 0) = false := by simp; omega
  have pf58_0 := Rw5_10.cell (i := 0) rfl
  have pf58_1 := Rw5_10.cell (i := 1) rfl
  have pf59_0 := Rw2_10.cell (i := 0) rfl
  have pf59_1 := Rw2_10.cell (i := 1) rfl
  go_wp2_with fail
  clear pf58_0 pf58_1 pf59_0 pf59_1
  refine (eqWear_self _ _ _ _ r0 _ _ _ _ rz0 _ (WnA.of_own r5_10) (WnA.of_own v2_10) (SI.of_own rz5_10) (SI.of_own vz2_10) hrl0 hrlz0).mono ?_
  rintro e w11 ⟨rfl, hb11⟩
  have b11 := step_below hb11 b10
  have B0_11 := B0_10.keep hb11
  have B1_11 := B1_10.keep hb11
  have Rw2_11 := Rw2_10.keep hb11
  have Y0_11 := Y0_10.keep hb11
  have Rw5_11 := Rw5_10.keep hb11
  have v2_11 := own_keep v2_10 hb11
  have vz2_11 := own_keep vz2_10 hb11
  have r5_11 := own_keep r5_10 hb11
  have rz5_11 := own_keep rz5_10 hb11
  have t11 := step_below hb11 t10
  have pf68_0 := Rw5_11.cell (i := 0) rfl
  have pf68_1 := Rw5_11.cell (i := 1) rfl
  go_wp2_with fail
  clear pf68_0 pf68_1
  refine (markWear_from _ _ r0 _ _ rz0 _ _ (1) _ r5_11 rz5_11 hrl0 hrlz0 ⟨by omega, by omega⟩).mono ?_
  rintro e w13 ⟨w12, rfl, mo12, hgr12, mo13, hgr13⟩
  have hbs12 := hgr12.size
  have t12 : Below w2.heap.size w2 w12 := t11.grown hgr12 t11.size (fun j hj => Nat.le_trans t4.size ((r5_11).lt j hj).1)
  have b12 : Below w.heap.size w w12 := b2.trans (t12.mono b2.size)
  have B0_12 := B0_2.keep t12
  have B1_12 := B1_2.keep t12
  have Rw2_12 := Rw2_2.keep t12
  have Rw5_12 := Rw5_11.grown hgr12 (own_neK r5_11 Rw5_11 (by decide))
  have v2_12 := own_keep v2_2 t12
  have vz2_12 := own_keep vz2_2 t12
  have rz5_12 := rz5_11.kept hgr12 (own_ne2 rz5_11 r5_11 (by decide))
  have k12_12 := mo12
  have hbs13 := hgr13.size
  have t13 : Below w2.heap.size w2 w13 := t12.grown hgr13 t12.size (fun j hj => Nat.le_trans t4.size ((rz5_12).lt j hj).1)
  have b13 : Below w.heap.size w w13 := b2.trans (t13.mono b2.size)
  have B0_13 := B0_2.keep t13
  have B1_13 := B1_2.keep t13
  have Rw2_13 := Rw2_2.keep t13
  have Rw5_13 := Rw5_12.grown hgr13 (own_neK rz5_12 Rw5_12 (by decide))
  have v2_13 := own_keep v2_2 t13
  have vz2_13 := own_keep vz2_2 t13
  have k12_13 := k12_12.kept hgr13 (own_ne2 k12_12 rz5_12 (by decide))
  have k13_13 := mo13
  have hneg12 : decide (1 + 3 * (r0.length : Int) + (rz0.length : Int) < 0) = false := by simp; omega
  have hneq12 : ((1 + 3 * (r0.length : Int) + (rz0.length : Int)) != (1 + 3 * (r0.length : Int) + (rz0.length : Int))) = false := by simp
  have pf71_0 := Rw5_13.cell (i := 0) rfl
  have pf71_1 := Rw5_13.cell (i := 1) rfl
  go_wp2_with fail
  clear pf71_0 pf71_1
  refine (heldWear_from _ _ r0.length _ _ rz0.length (1) _ (mkWn_of_own k12_13) (mkI_of_own k13_13) hrl0 hrlz0 ⟨by omega, by omega⟩).mono ?_
  rintro e w14 ⟨rfl, hb14⟩
  have b14 := step_below hb14 b13
  have B0_14 := B0_13.keep hb14
  have B1_14 := B1_13.keep hb14
  have Rw2_14 := Rw2_13.keep hb14
  have Rw5_14 := Rw5_13.keep hb14
  have v2_14 := own_keep v2_13 hb14
  have vz2_14 := own_keep vz2_13 hb14
  have k12_14 := own_keep k12_13 hb14
  have k13_14 := own_keep k13_13 hb14
  have t14 := step_below hb14 t13
  go_upto_region 24 with fail
  go_cut [14, 15] from 79 to 86 (fun a_ b_ wx => ∃ (g : Nat) (C : Option Addr) (e : Nat) (D : Option Addr) (f : Nat) (W : World), a_ = .pointer (some ⟨g, 0, none⟩) ∧ b_ = .int .i64 r1 ∧ W = wx ∧ Bk W g 32 #[.slice C r0.length e, .slice D rz0.length f] ∧ w14.heap.size ≤ g ∧ W.ownsRow w14.heap.size 53 3 (.slice C r0.length e) r0.length (wnC r0) ∧ W.ownsRow w14.heap.size 2 1 (.slice D rz0.length f) rz0.length (icells rz0) ∧ Below w14.heap.size w14 W)
  case first =>
    have hb15 : Below w14.heap.size w14 w14.drew := (Below.refl _ _).drew
    have tb14 : Below w14.heap.size w14 w14 := Below.refl _ _
    have b15 := step_below hb15 b14
    have B0_15 := B0_14.keep hb15
    have B1_15 := B1_14.keep hb15
    have Rw2_15 := Rw2_14.keep hb15
    have Rw5_15 := Rw5_14.keep hb15
    have v2_15 := own_keep v2_14 hb15
    have vz2_15 := own_keep vz2_14 hb15
    have k12_15 := own_keep k12_14 hb15
    have k13_15 := own_keep k13_14 hb15
    have t15 := step_below hb15 t14
    have tb15 := step_below hb15 tb14
    refine wp_region_held_drew (S := fun w' => w'.cell? ⟨w.heap.size, 0, none⟩ = some (.int .i16 s0) ∧ w'.cell? ⟨w.heap.size, 1, none⟩ = some (.slice A0 l0.length c0) ∧ w'.rangeAt (w.heap.size + 1) 0 (dv d1)) (by kernel_rfl) ⟨(B0_15.cell (i := 0) rfl), (B0_15.cell (i := 1) rfl), (show Dr w14.drew (w.heap.size + 1) 27 d1 from B1_15).range⟩ fun hS15 => ?_
    generalize w14.drew = wd15 at *
    change wpAnyH _ _ _ _ _ _ #[false, false, false, false, false, false, false, false, false, false, false] _ _
    refine wpAnyH_take (i := 0) (v := .agg #[.int .i16 s0, .slice A0 l0.length c0]) rfl (by kernel_rfl) (by kernel_rfl) (by kernel_rfl) (fun _ _ _ h => h) (Or.inl ⟨by rfl, fun w' h => ?_⟩) hS15 ?_
    · have c0 := h.1
      have c1 := h.2.1
      clear h
      go_simp
    change wpAnyH _ _ _ _ _ _ _ (Act.put _ (some 80) _) _
    simp only [Act.put, List.setIfInBounds_toArray, List.set_cons_zero, List.set_cons_succ]
    refine wpAnyH_take (i := 2) rfl (by kernel_rfl) (by kernel_rfl) (by kernel_rfl) (fun _ _ _ h => h) (yieldsIf_load_mid (by rfl) _ _ rfl (w.heap.size + 1) 0 rfl (dv d1) _ (fun _ h => h.2.2) Tryd.underlying27 rfl (infoLt d1)) hS15 ?_
    change wpAnyH _ _ _ _ _ _ _ (Act.put _ (some 82) _) _
    simp only [Act.put, List.setIfInBounds_toArray, List.set_cons_zero, List.set_cons_succ]
    refine wpAnyH_ready (rs := [1, 8]) (by kernel_rfl) (by simp) (AllReadyH.cons rfl ?_ (AllReadyH.cons rfl ?_ AllReadyH.nil))
    · intro K hK
      rw [if_pos (by rfl)]
      go_simp
      refine (toFrame_any s0 A0 c0 l0 _ (hA0.below b15) hn0).mono ?_
      rintro e w16 ⟨g16, rfl, hg16, own16, hb16⟩
      have b16 := step_below hb16 b15
      have B0_16 := B0_15.keep hb16
      have B1_16 := B1_15.keep hb16
      have t16 := step_below hb16 t15
      have gl16 : g16 < w16.heap.size := (own16.lt g16 rfl).2
      have q16_16 := own16
      have tb16 := tb15.trans (hb16.mono tb15.size)
      refine hK.out _ _ ⟨(B0_16.cell (i := 0) rfl), (B0_16.cell (i := 1) rfl), (show Dr w16 (w.heap.size + 1) 27 d1 from B1_16).range⟩ (fun hS16 => ?_)
      clear hK K
      try (change wpAnyH _ _ _ _ _ _ _ (Act.put _ (some 81) _) _)
      try simp only [Act.put, List.setIfInBounds_toArray, List.set_cons_zero, List.set_cons_succ]
      refine wpAnyH_ready (rs := [3, 8]) (by kernel_rfl) (by simp) (AllReadyH.cons rfl ?_ (AllReadyH.cons rfl ?_ AllReadyH.nil))
      · intro K hK
        rw [if_pos (by rfl)]
        go_simp
        refine (toDrum_any d1 _).mono ?_
        rintro e w17 ⟨rfl, hb17⟩
        have b17 := step_below hb17 b16
        have B0_17 := B0_16.keep hb17
        have B1_17 := B1_16.keep hb17
        have q16_17 := own_keep q16_16 hb17
        have t17 := step_below hb17 t16
        have tb17 := tb16.trans (hb17.mono tb16.size)
        refine hK.out _ _ ⟨(B0_17.cell (i := 0) rfl), (B0_17.cell (i := 1) rfl), (show Dr w17 (w.heap.size + 1) 27 d1 from B1_17).range⟩ (fun hS17 => ?_)
        clear hK K
        try (change wpAnyH _ _ _ _ _ _ _ (Act.put _ (some 83) _) _)
        try simp only [Act.put, List.setIfInBounds_toArray, List.set_cons_zero, List.set_cons_succ]
        refine wpAnyH_ready (rs := [4, 8]) (by kernel_rfl) (by simp) (AllReadyH.cons rfl ?_ (AllReadyH.cons rfl ?_ AllReadyH.nil))
        · intro K hK
          rw [if_pos (by rfl)]
          go_simp
          refine (KI _ _ (HA.of_own q16_17) (hT.keep b17)).mono ?_
          rintro e w18 ⟨C18, e18, D18, f18, rfl, own18, owm18, hb18⟩
          have b18 := step_below hb18 b17
          have B0_18 := B0_17.keep hb18
          have B1_18 := B1_17.keep hb18
          have q16_18 := own_keep q16_17 hb18
          have t18 := step_below hb18 t17
          have r18_18 := own18
          have rz18_18 := owm18
          have tb18 := tb17.trans (hb18.mono tb17.size)
          have oo_18 := own_base own18 tb17.size
          have oz_18 := own_base owm18 tb17.size
          refine hK.out _ _ ⟨(B0_18.cell (i := 0) rfl), (B0_18.cell (i := 1) rfl), (show Dr w18 (w.heap.size + 1) 27 d1 from B1_18).range⟩ (fun hS18 => ?_)
          clear hK K
          try (change wpAnyH _ _ _ _ _ _ _ (Act.put _ (some 84) _) _)
          try simp only [Act.put, List.setIfInBounds_toArray, List.set_cons_zero, List.set_cons_succ]
          refine wpAnyH_take (i := 5) (v := .tuple #[.agg #[.slice C18 r0.length e18, .slice D18 rz0.length f18], .int .i64 r1]) rfl (by kernel_rfl) (by kernel_rfl) (by kernel_rfl) (fun _ _ _ h => h) (Or.inl ⟨by rfl, fun w' _ => by go_simp⟩) hS18 ?_
          change wpAnyH _ _ _ _ _ _ _ (Act.put _ (some 79) _) _
          simp only [Act.put, List.setIfInBounds_toArray, List.set_cons_zero, List.set_cons_succ]
          refine wpAnyH_take (i := 6) (v := .agg #[.slice C18 r0.length e18, .slice D18 rz0.length f18]) rfl (by kernel_rfl) (by kernel_rfl) (by kernel_rfl) (fun _ _ _ h => h) (Or.inl ⟨by rfl, fun w' _ => by go_simp⟩) hS18 ?_
          change wpAnyH _ _ _ _ _ _ _ (Act.put _ (some 85) _) _
          simp only [Act.put, List.setIfInBounds_toArray, List.set_cons_zero, List.set_cons_succ]
          refine wpAnyH_take (i := 7) (v := .int .i64 r1) rfl (by kernel_rfl) (by kernel_rfl) (by kernel_rfl) (fun _ _ _ h => h) (Or.inl ⟨by rfl, fun w' _ => by go_simp⟩) hS18 ?_
          change wpAnyH _ _ _ _ _ _ _ (Act.put _ (some 86) _) _
          simp only [Act.put, List.setIfInBounds_toArray, List.set_cons_zero, List.set_cons_succ]
          refine wpAnyH_ready (rs := [8]) (by kernel_rfl) (by simp) (AllReadyH.cons rfl ?_ AllReadyH.nil)
          obtain ⟨w19, hX19⟩ : ∃ X, X = w18.alloc (.cells #[.slice none 0 0, .slice none 0 0] 32) := ⟨_, rfl⟩
          have hb19 : Below w18.heap.size w18 w19 := by rw [hX19]; exact (Below.refl _ _).alloc (Nat.le_refl _) _
          have za19 : Bk w19 w18.heap.size 32 #[.slice none 0 0, .slice none 0 0] := by rw [hX19]; exact heap_new' _ _ _ rfl
          have ge19 : w14.heap.size ≤ w18.heap.size := tb18.size
          intro K hK
          rw [if_pos (by rfl)]
          go_simp
          rw [← hX19]
          clear hX19
          have b19 := step_below hb19 b18
          have B0_19 := B0_18.keep hb19
          have B1_19 := B1_18.keep hb19
          have q16_19 := own_keep q16_18 hb19
          have r18_19 := own_keep r18_18 hb19
          have rz18_19 := own_keep rz18_18 hb19
          have t19 := step_below hb19 t18
          have tb19 := tb18.trans (hb19.mono tb18.size)
          have oo_19 := own_keep oo_18 hb19
          have oz_19 := own_keep oz_18 hb19
          refine hK.out _ _ ⟨(B0_19.cell (i := 0) rfl), (B0_19.cell (i := 1) rfl), (show Dr w19 (w.heap.size + 1) 27 d1 from B1_19).range⟩ (fun hS19 => ?_)
          clear hK K
          try (change wpAnyH _ _ _ _ _ _ _ (Act.put _ (some 14) _) _)
          try simp only [Act.put, List.setIfInBounds_toArray, List.set_cons_zero, List.set_cons_succ]
          refine wpAnyH_ready (rs := [9]) (by kernel_rfl) (by simp) (AllReadyH.cons rfl ?_ AllReadyH.nil)
          intro K hK
          rw [if_pos (by rfl)]
          refine wp_store_row 32 (.tmp 14) (.tmp 85) rfl (w18.heap.size) #[.slice C18 r0.length e18, .slice D18 rz0.length f18] rfl rfl 32 _ za19 (infoWear _ _) (szWear _ _ _ _) (oneWear _ _ _ _ _ _) ?_
          have hb20 : Below w14.heap.size w19 (w19.setRow (w18.heap.size) #[.slice C18 r0.length e18, .slice D18 rz0.length f18]) := below_setRow (Below.refl _ _) ge19
          have DD : Bk (w19.setRow (w18.heap.size) #[.slice C18 r0.length e18, .slice D18 rz0.length f18]) (w18.heap.size) 32 #[.slice C18 r0.length e18, .slice D18 rz0.length f18] := setRow_heap _ _ _ _ _ _ za19
          have oo_20 := own_rowK oo_19 za19 (by decide) #[.slice C18 r0.length e18, .slice D18 rz0.length f18]
          have oz_20 := own_rowK oz_19 za19 (by decide) #[.slice C18 r0.length e18, .slice D18 rz0.length f18]
          have B0_20 : Bk (w19.setRow (w18.heap.size) #[.slice C18 r0.length e18, .slice D18 rz0.length f18]) (w.heap.size) 25 #[.int .i16 s0, .slice A0 l0.length c0] := (setRow_other _ _ _ _ (by have e1 := B0_14.lt; have e2 := ge19; omega)).trans B0_19
          have B1_20 : Bk (w19.setRow (w18.heap.size) #[.slice C18 r0.length e18, .slice D18 rz0.length f18]) (w.heap.size + 1) 27 (da d1) := (setRow_other _ _ _ _ (by have e1 := B1_14.lt; have e2 := ge19; omega)).trans B1_19
          have tb20 := tb19.trans hb20
          refine hK.out _ _ ⟨(B0_20.cell (i := 0) rfl), (B0_20.cell (i := 1) rfl), (show Dr (w19.setRow (w18.heap.size) #[.slice C18 r0.length e18, .slice D18 rz0.length f18]) (w.heap.size + 1) 27 d1 from B1_20).range⟩ (fun hS20 => ?_)
          clear hK K
          refine wpAnyH_take (i := 10) (v := .int .i64 r1) rfl (by kernel_rfl) (by kernel_rfl) (by kernel_rfl) (fun _ _ _ h => h) (Or.inl ⟨by rfl, fun w' _ => by go_simp⟩) hS20 ?_
          change wpAnyH _ _ _ _ _ _ _ (Act.put _ (some 15) _) _
          simp only [Act.put, List.setIfInBounds_toArray, List.set_cons_zero, List.set_cons_succ]
          refine wpAnyH_done (by kernel_rfl) ?_ _
          go_wp2_with fail
          go_meet
          exact ⟨_, C18, e18, D18, f18, _, rfl, rfl, rfl, DD, ge19, oo_20, oz_20, tb20⟩
        · obtain ⟨w18, hX18⟩ : ∃ X, X = w17.alloc (.cells #[.slice none 0 0, .slice none 0 0] 32) := ⟨_, rfl⟩
          have hb18 : Below w17.heap.size w17 w18 := by rw [hX18]; exact (Below.refl _ _).alloc (Nat.le_refl _) _
          have za18 : Bk w18 w17.heap.size 32 #[.slice none 0 0, .slice none 0 0] := by rw [hX18]; exact heap_new' _ _ _ rfl
          have ge18 : w14.heap.size ≤ w17.heap.size := tb17.size
          intro K hK
          rw [if_pos (by rfl)]
          go_simp
          rw [← hX18]
          clear hX18
          have b18 := step_below hb18 b17
          have B0_18 := B0_17.keep hb18
          have B1_18 := B1_17.keep hb18
          have q16_18 := own_keep q16_17 hb18
          have t18 := step_below hb18 t17
          have tb18 := tb17.trans (hb18.mono tb17.size)
          refine hK.out _ _ ⟨(B0_18.cell (i := 0) rfl), (B0_18.cell (i := 1) rfl), (show Dr w18 (w.heap.size + 1) 27 d1 from B1_18).range⟩ (fun hS18 => ?_)
          clear hK K
          try (change wpAnyH _ _ _ _ _ _ _ (Act.put _ (some 14) _) _)
          try simp only [Act.put, List.setIfInBounds_toArray, List.set_cons_zero, List.set_cons_succ]
          refine wpAnyH_ready (rs := [4]) (by kernel_rfl) (by simp) (AllReadyH.cons rfl ?_ AllReadyH.nil)
          intro K hK
          rw [if_pos (by rfl)]
          go_simp
          refine (KI _ _ (HA.of_own q16_18) (hT.keep b18)).mono ?_
          rintro e w19 ⟨C19, e19, D19, f19, rfl, own19, owm19, hb19⟩
          have b19 := step_below hb19 b18
          have B0_19 := B0_18.keep hb19
          have B1_19 := B1_18.keep hb19
          have q16_19 := own_keep q16_18 hb19
          have t19 := step_below hb19 t18
          have r19_19 := own19
          have rz19_19 := owm19
          have tb19 := tb18.trans (hb19.mono tb18.size)
          have za19 := za18.keep hb19
          have oo_19 := own_base own19 tb18.size
          have oz_19 := own_base owm19 tb18.size
          refine hK.out _ _ ⟨(B0_19.cell (i := 0) rfl), (B0_19.cell (i := 1) rfl), (show Dr w19 (w.heap.size + 1) 27 d1 from B1_19).range⟩ (fun hS19 => ?_)
          clear hK K
          try (change wpAnyH _ _ _ _ _ _ _ (Act.put _ (some 84) _) _)
          try simp only [Act.put, List.setIfInBounds_toArray, List.set_cons_zero, List.set_cons_succ]
          refine wpAnyH_take (i := 5) (v := .tuple #[.agg #[.slice C19 r0.length e19, .slice D19 rz0.length f19], .int .i64 r1]) rfl (by kernel_rfl) (by kernel_rfl) (by kernel_rfl) (fun _ _ _ h => h) (Or.inl ⟨by rfl, fun w' _ => by go_simp⟩) hS19 ?_
          change wpAnyH _ _ _ _ _ _ _ (Act.put _ (some 79) _) _
          simp only [Act.put, List.setIfInBounds_toArray, List.set_cons_zero, List.set_cons_succ]
          refine wpAnyH_take (i := 6) (v := .agg #[.slice C19 r0.length e19, .slice D19 rz0.length f19]) rfl (by kernel_rfl) (by kernel_rfl) (by kernel_rfl) (fun _ _ _ h => h) (Or.inl ⟨by rfl, fun w' _ => by go_simp⟩) hS19 ?_
          change wpAnyH _ _ _ _ _ _ _ (Act.put _ (some 85) _) _
          simp only [Act.put, List.setIfInBounds_toArray, List.set_cons_zero, List.set_cons_succ]
          refine wpAnyH_take (i := 7) (v := .int .i64 r1) rfl (by kernel_rfl) (by kernel_rfl) (by kernel_rfl) (fun _ _ _ h => h) (Or.inl ⟨by rfl, fun w' _ => by go_simp⟩) hS19 ?_
          change wpAnyH _ _ _ _ _ _ _ (Act.put _ (some 86) _) _
          simp only [Act.put, List.setIfInBounds_toArray, List.set_cons_zero, List.set_cons_succ]
          refine wpAnyH_ready (rs := [9]) (by kernel_rfl) (by simp) (AllReadyH.cons rfl ?_ AllReadyH.nil)
          intro K hK
          rw [if_pos (by rfl)]
          refine wp_store_row 32 (.tmp 14) (.tmp 85) rfl (w17.heap.size) #[.slice C19 r0.length e19, .slice D19 rz0.length f19] rfl rfl 32 _ za19 (infoWear _ _) (szWear _ _ _ _) (oneWear _ _ _ _ _ _) ?_
          have hb20 : Below w14.heap.size w19 (w19.setRow (w17.heap.size) #[.slice C19 r0.length e19, .slice D19 rz0.length f19]) := below_setRow (Below.refl _ _) ge18
          have DD : Bk (w19.setRow (w17.heap.size) #[.slice C19 r0.length e19, .slice D19 rz0.length f19]) (w17.heap.size) 32 #[.slice C19 r0.length e19, .slice D19 rz0.length f19] := setRow_heap _ _ _ _ _ _ za19
          have oo_20 := own_rowK oo_19 za19 (by decide) #[.slice C19 r0.length e19, .slice D19 rz0.length f19]
          have oz_20 := own_rowK oz_19 za19 (by decide) #[.slice C19 r0.length e19, .slice D19 rz0.length f19]
          have B0_20 : Bk (w19.setRow (w17.heap.size) #[.slice C19 r0.length e19, .slice D19 rz0.length f19]) (w.heap.size) 25 #[.int .i16 s0, .slice A0 l0.length c0] := (setRow_other _ _ _ _ (by have e1 := B0_14.lt; have e2 := ge18; omega)).trans B0_19
          have B1_20 : Bk (w19.setRow (w17.heap.size) #[.slice C19 r0.length e19, .slice D19 rz0.length f19]) (w.heap.size + 1) 27 (da d1) := (setRow_other _ _ _ _ (by have e1 := B1_14.lt; have e2 := ge18; omega)).trans B1_19
          have tb20 := tb19.trans hb20
          refine hK.out _ _ ⟨(B0_20.cell (i := 0) rfl), (B0_20.cell (i := 1) rfl), (show Dr (w19.setRow (w17.heap.size) #[.slice C19 r0.length e19, .slice D19 rz0.length f19]) (w.heap.size + 1) 27 d1 from B1_20).range⟩ (fun hS20 => ?_)
          clear hK K
          refine wpAnyH_take (i := 10) (v := .int .i64 r1) rfl (by kernel_rfl) (by kernel_rfl) (by kernel_rfl) (fun _ _ _ h => h) (Or.inl ⟨by rfl, fun w' _ => by go_simp⟩) hS20 ?_
          change wpAnyH _ _ _ _ _ _ _ (Act.put _ (some 15) _) _
          simp only [Act.put, List.setIfInBounds_toArray, List.set_cons_zero, List.set_cons_succ]
          refine wpAnyH_done (by kernel_rfl) ?_ _
          go_wp2_with fail
          go_meet
          exact ⟨_, C19, e19, D19, f19, _, rfl, rfl, rfl, DD, ge18, oo_20, oz_20, tb20⟩
      · obtain ⟨w17, hX17⟩ : ∃ X, X = w16.alloc (.cells #[.slice none 0 0, .slice none 0 0] 32) := ⟨_, rfl⟩
        have hb17 : Below w16.heap.size w16 w17 := by rw [hX17]; exact (Below.refl _ _).alloc (Nat.le_refl _) _
        have za17 : Bk w17 w16.heap.size 32 #[.slice none 0 0, .slice none 0 0] := by rw [hX17]; exact heap_new' _ _ _ rfl
        have ge17 : w14.heap.size ≤ w16.heap.size := tb16.size
        intro K hK
        rw [if_pos (by rfl)]
        go_simp
        rw [← hX17]
        clear hX17
        have b17 := step_below hb17 b16
        have B0_17 := B0_16.keep hb17
        have B1_17 := B1_16.keep hb17
        have q16_17 := own_keep q16_16 hb17
        have t17 := step_below hb17 t16
        have tb17 := tb16.trans (hb17.mono tb16.size)
        refine hK.out _ _ ⟨(B0_17.cell (i := 0) rfl), (B0_17.cell (i := 1) rfl), (show Dr w17 (w.heap.size + 1) 27 d1 from B1_17).range⟩ (fun hS17 => ?_)
        clear hK K
        try (change wpAnyH _ _ _ _ _ _ _ (Act.put _ (some 14) _) _)
        try simp only [Act.put, List.setIfInBounds_toArray, List.set_cons_zero, List.set_cons_succ]
        refine wpAnyH_ready (rs := [3]) (by kernel_rfl) (by simp) (AllReadyH.cons rfl ?_ AllReadyH.nil)
        intro K hK
        rw [if_pos (by rfl)]
        go_simp
        refine (toDrum_any d1 _).mono ?_
        rintro e w18 ⟨rfl, hb18⟩
        have b18 := step_below hb18 b17
        have B0_18 := B0_17.keep hb18
        have B1_18 := B1_17.keep hb18
        have q16_18 := own_keep q16_17 hb18
        have t18 := step_below hb18 t17
        have tb18 := tb17.trans (hb18.mono tb17.size)
        have za18 := za17.keep hb18
        refine hK.out _ _ ⟨(B0_18.cell (i := 0) rfl), (B0_18.cell (i := 1) rfl), (show Dr w18 (w.heap.size + 1) 27 d1 from B1_18).range⟩ (fun hS18 => ?_)
        clear hK K
        try (change wpAnyH _ _ _ _ _ _ _ (Act.put _ (some 83) _) _)
        try simp only [Act.put, List.setIfInBounds_toArray, List.set_cons_zero, List.set_cons_succ]
        refine wpAnyH_ready (rs := [4]) (by kernel_rfl) (by simp) (AllReadyH.cons rfl ?_ AllReadyH.nil)
        intro K hK
        rw [if_pos (by rfl)]
        go_simp
        refine (KI _ _ (HA.of_own q16_18) (hT.keep b18)).mono ?_
        rintro e w19 ⟨C19, e19, D19, f19, rfl, own19, owm19, hb19⟩
        have b19 := step_below hb19 b18
        have B0_19 := B0_18.keep hb19
        have B1_19 := B1_18.keep hb19
        have q16_19 := own_keep q16_18 hb19
        have t19 := step_below hb19 t18
        have r19_19 := own19
        have rz19_19 := owm19
        have tb19 := tb18.trans (hb19.mono tb18.size)
        have za19 := za18.keep hb19
        have oo_19 := own_base own19 tb18.size
        have oz_19 := own_base owm19 tb18.size
        refine hK.out _ _ ⟨(B0_19.cell (i := 0) rfl), (B0_19.cell (i := 1) rfl), (show Dr w19 (w.heap.size + 1) 27 d1 from B1_19).range⟩ (fun hS19 => ?_)
        clear hK K
        try (change wpAnyH _ _ _ _ _ _ _ (Act.put _ (some 84) _) _)
        try simp only [Act.put, List.setIfInBounds_toArray, List.set_cons_zero, List.set_cons_succ]
        refine wpAnyH_take (i := 5) (v := .tuple #[.agg #[.slice C19 r0.length e19, .slice D19 rz0.length f19], .int .i64 r1]) rfl (by kernel_rfl) (by kernel_rfl) (by kernel_rfl) (fun _ _ _ h => h) (Or.inl ⟨by rfl, fun w' _ => by go_simp⟩) hS19 ?_
        change wpAnyH _ _ _ _ _ _ _ (Act.put _ (some 79) _) _
        simp only [Act.put, List.setIfInBounds_toArray, List.set_cons_zero, List.set_cons_succ]
        refine wpAnyH_take (i := 6) (v := .agg #[.slice C19 r0.length e19, .slice D19 rz0.length f19]) rfl (by kernel_rfl) (by kernel_rfl) (by kernel_rfl) (fun _ _ _ h => h) (Or.inl ⟨by rfl, fun w' _ => by go_simp⟩) hS19 ?_
        change wpAnyH _ _ _ _ _ _ _ (Act.put _ (some 85) _) _
        simp only [Act.put, List.setIfInBounds_toArray, List.set_cons_zero, List.set_cons_succ]
        refine wpAnyH_take (i := 7) (v := .int .i64 r1) rfl (by kernel_rfl) (by kernel_rfl) (by kernel_rfl) (fun _ _ _ h => h) (Or.inl ⟨by rfl, fun w' _ => by go_simp⟩) hS19 ?_
        change wpAnyH _ _ _ _ _ _ _ (Act.put _ (some 86) _) _
        simp only [Act.put, List.setIfInBounds_toArray, List.set_cons_zero, List.set_cons_succ]
        refine wpAnyH_ready (rs := [9]) (by kernel_rfl) (by simp) (AllReadyH.cons rfl ?_ AllReadyH.nil)
        intro K hK
        rw [if_pos (by rfl)]
        refine wp_store_row 32 (.tmp 14) (.tmp 85) rfl (w16.heap.size) #[.slice C19 r0.length e19, .slice D19 rz0.length f19] rfl rfl 32 _ za19 (infoWear _ _) (szWear _ _ _ _) (oneWear _ _ _ _ _ _) ?_
        have hb20 : Below w14.heap.size w19 (w19.setRow (w16.heap.size) #[.slice C19 r0.length e19, .slice D19 rz0.length f19]) := below_setRow (Below.refl _ _) ge17
        have DD : Bk (w19.setRow (w16.heap.size) #[.slice C19 r0.length e19, .slice D19 rz0.length f19]) (w16.heap.size) 32 #[.slice C19 r0.length e19, .slice D19 rz0.length f19] := setRow_heap _ _ _ _ _ _ za19
        have oo_20 := own_rowK oo_19 za19 (by decide) #[.slice C19 r0.length e19, .slice D19 rz0.length f19]
        have oz_20 := own_rowK oz_19 za19 (by decide) #[.slice C19 r0.length e19, .slice D19 rz0.length f19]
        have B0_20 : Bk (w19.setRow (w16.heap.size) #[.slice C19 r0.length e19, .slice D19 rz0.length f19]) (w.heap.size) 25 #[.int .i16 s0, .slice A0 l0.length c0] := (setRow_other _ _ _ _ (by have e1 := B0_14.lt; have e2 := ge17; omega)).trans B0_19
        have B1_20 : Bk (w19.setRow (w16.heap.size) #[.slice C19 r0.length e19, .slice D19 rz0.length f19]) (w.heap.size + 1) 27 (da d1) := (setRow_other _ _ _ _ (by have e1 := B1_14.lt; have e2 := ge17; omega)).trans B1_19
        have tb20 := tb19.trans hb20
        refine hK.out _ _ ⟨(B0_20.cell (i := 0) rfl), (B0_20.cell (i := 1) rfl), (show Dr (w19.setRow (w16.heap.size) #[.slice C19 r0.length e19, .slice D19 rz0.length f19]) (w.heap.size + 1) 27 d1 from B1_20).range⟩ (fun hS20 => ?_)
        clear hK K
        refine wpAnyH_take (i := 10) (v := .int .i64 r1) rfl (by kernel_rfl) (by kernel_rfl) (by kernel_rfl) (fun _ _ _ h => h) (Or.inl ⟨by rfl, fun w' _ => by go_simp⟩) hS20 ?_
        change wpAnyH _ _ _ _ _ _ _ (Act.put _ (some 15) _) _
        simp only [Act.put, List.setIfInBounds_toArray, List.set_cons_zero, List.set_cons_succ]
        refine wpAnyH_done (by kernel_rfl) ?_ _
        go_wp2_with fail
        go_meet
        exact ⟨_, C19, e19, D19, f19, _, rfl, rfl, rfl, DD, ge17, oo_20, oz_20, tb20⟩
    · obtain ⟨w16, hX16⟩ : ∃ X, X = wd15.alloc (.cells #[.slice none 0 0, .slice none 0 0] 32) := ⟨_, rfl⟩
      have hb16 : Below wd15.heap.size wd15 w16 := by rw [hX16]; exact (Below.refl _ _).alloc (Nat.le_refl _) _
      have za16 : Bk w16 wd15.heap.size 32 #[.slice none 0 0, .slice none 0 0] := by rw [hX16]; exact heap_new' _ _ _ rfl
      have ge16 : w14.heap.size ≤ wd15.heap.size := tb15.size
      intro K hK
      rw [if_pos (by rfl)]
      go_simp
      rw [← hX16]
      clear hX16
      have b16 := step_below hb16 b15
      have B0_16 := B0_15.keep hb16
      have B1_16 := B1_15.keep hb16
      have t16 := step_below hb16 t15
      have tb16 := tb15.trans (hb16.mono tb15.size)
      refine hK.out _ _ ⟨(B0_16.cell (i := 0) rfl), (B0_16.cell (i := 1) rfl), (show Dr w16 (w.heap.size + 1) 27 d1 from B1_16).range⟩ (fun hS16 => ?_)
      clear hK K
      try (change wpAnyH _ _ _ _ _ _ _ (Act.put _ (some 14) _) _)
      try simp only [Act.put, List.setIfInBounds_toArray, List.set_cons_zero, List.set_cons_succ]
      refine wpAnyH_ready (rs := [1]) (by kernel_rfl) (by simp) (AllReadyH.cons rfl ?_ AllReadyH.nil)
      intro K hK
      rw [if_pos (by rfl)]
      go_simp
      refine (toFrame_any s0 A0 c0 l0 _ (hA0.below b16) hn0).mono ?_
      rintro e w17 ⟨g17, rfl, hg17, own17, hb17⟩
      have b17 := step_below hb17 b16
      have B0_17 := B0_16.keep hb17
      have B1_17 := B1_16.keep hb17
      have t17 := step_below hb17 t16
      have gl17 : g17 < w17.heap.size := (own17.lt g17 rfl).2
      have q17_17 := own17
      have tb17 := tb16.trans (hb17.mono tb16.size)
      have za17 := za16.keep hb17
      refine hK.out _ _ ⟨(B0_17.cell (i := 0) rfl), (B0_17.cell (i := 1) rfl), (show Dr w17 (w.heap.size + 1) 27 d1 from B1_17).range⟩ (fun hS17 => ?_)
      clear hK K
      try (change wpAnyH _ _ _ _ _ _ _ (Act.put _ (some 81) _) _)
      try simp only [Act.put, List.setIfInBounds_toArray, List.set_cons_zero, List.set_cons_succ]
      refine wpAnyH_ready (rs := [3]) (by kernel_rfl) (by simp) (AllReadyH.cons rfl ?_ AllReadyH.nil)
      intro K hK
      rw [if_pos (by rfl)]
      go_simp
      refine (toDrum_any d1 _).mono ?_
      rintro e w18 ⟨rfl, hb18⟩
      have b18 := step_below hb18 b17
      have B0_18 := B0_17.keep hb18
      have B1_18 := B1_17.keep hb18
      have q17_18 := own_keep q17_17 hb18
      have t18 := step_below hb18 t17
      have tb18 := tb17.trans (hb18.mono tb17.size)
      have za18 := za17.keep hb18
      refine hK.out _ _ ⟨(B0_18.cell (i := 0) rfl), (B0_18.cell (i := 1) rfl), (show Dr w18 (w.heap.size + 1) 27 d1 from B1_18).range⟩ (fun hS18 => ?_)
      clear hK K
      try (change wpAnyH _ _ _ _ _ _ _ (Act.put _ (some 83) _) _)
      try simp only [Act.put, List.setIfInBounds_toArray, List.set_cons_zero, List.set_cons_succ]
      refine wpAnyH_ready (rs := [4]) (by kernel_rfl) (by simp) (AllReadyH.cons rfl ?_ AllReadyH.nil)
      intro K hK
      rw [if_pos (by rfl)]
      go_simp
      refine (KI _ _ (HA.of_own q17_18) (hT.keep b18)).mono ?_
      rintro e w19 ⟨C19, e19, D19, f19, rfl, own19, owm19, hb19⟩
      have b19 := step_below hb19 b18
      have B0_19 := B0_18.keep hb19
      have B1_19 := B1_18.keep hb19
      have q17_19 := own_keep q17_18 hb19
      have t19 := step_below hb19 t18
      have r19_19 := own19
      have rz19_19 := owm19
      have tb19 := tb18.trans (hb19.mono tb18.size)
      have za19 := za18.keep hb19
      have oo_19 := own_base own19 tb18.size
      have oz_19 := own_base owm19 tb18.size
      refine hK.out _ _ ⟨(B0_19.cell (i := 0) rfl), (B0_19.cell (i := 1) rfl), (show Dr w19 (w.heap.size + 1) 27 d1 from B1_19).range⟩ (fun hS19 => ?_)
      clear hK K
      try (change wpAnyH _ _ _ _ _ _ _ (Act.put _ (some 84) _) _)
      try simp only [Act.put, List.setIfInBounds_toArray, List.set_cons_zero, List.set_cons_succ]
      refine wpAnyH_take (i := 5) (v := .tuple #[.agg #[.slice C19 r0.length e19, .slice D19 rz0.length f19], .int .i64 r1]) rfl (by kernel_rfl) (by kernel_rfl) (by kernel_rfl) (fun _ _ _ h => h) (Or.inl ⟨by rfl, fun w' _ => by go_simp⟩) hS19 ?_
      change wpAnyH _ _ _ _ _ _ _ (Act.put _ (some 79) _) _
      simp only [Act.put, List.setIfInBounds_toArray, List.set_cons_zero, List.set_cons_succ]
      refine wpAnyH_take (i := 6) (v := .agg #[.slice C19 r0.length e19, .slice D19 rz0.length f19]) rfl (by kernel_rfl) (by kernel_rfl) (by kernel_rfl) (fun _ _ _ h => h) (Or.inl ⟨by rfl, fun w' _ => by go_simp⟩) hS19 ?_
      change wpAnyH _ _ _ _ _ _ _ (Act.put _ (some 85) _) _
      simp only [Act.put, List.setIfInBounds_toArray, List.set_cons_zero, List.set_cons_succ]
      refine wpAnyH_take (i := 7) (v := .int .i64 r1) rfl (by kernel_rfl) (by kernel_rfl) (by kernel_rfl) (fun _ _ _ h => h) (Or.inl ⟨by rfl, fun w' _ => by go_simp⟩) hS19 ?_
      change wpAnyH _ _ _ _ _ _ _ (Act.put _ (some 86) _) _
      simp only [Act.put, List.setIfInBounds_toArray, List.set_cons_zero, List.set_cons_succ]
      refine wpAnyH_ready (rs := [9]) (by kernel_rfl) (by simp) (AllReadyH.cons rfl ?_ AllReadyH.nil)
      intro K hK
      rw [if_pos (by rfl)]
      refine wp_store_row 32 (.tmp 14) (.tmp 85) rfl (wd15.heap.size) #[.slice C19 r0.length e19, .slice D19 rz0.length f19] rfl rfl 32 _ za19 (infoWear _ _) (szWear _ _ _ _) (oneWear _ _ _ _ _ _) ?_
      have hb20 : Below w14.heap.size w19 (w19.setRow (wd15.heap.size) #[.slice C19 r0.length e19, .slice D19 rz0.length f19]) := below_setRow (Below.refl _ _) ge16
      have DD : Bk (w19.setRow (wd15.heap.size) #[.slice C19 r0.length e19, .slice D19 rz0.length f19]) (wd15.heap.size) 32 #[.slice C19 r0.length e19, .slice D19 rz0.length f19] := setRow_heap _ _ _ _ _ _ za19
      have oo_20 := own_rowK oo_19 za19 (by decide) #[.slice C19 r0.length e19, .slice D19 rz0.length f19]
      have oz_20 := own_rowK oz_19 za19 (by decide) #[.slice C19 r0.length e19, .slice D19 rz0.length f19]
      have B0_20 : Bk (w19.setRow (wd15.heap.size) #[.slice C19 r0.length e19, .slice D19 rz0.length f19]) (w.heap.size) 25 #[.int .i16 s0, .slice A0 l0.length c0] := (setRow_other _ _ _ _ (by have e1 := B0_14.lt; have e2 := ge16; omega)).trans B0_19
      have B1_20 : Bk (w19.setRow (wd15.heap.size) #[.slice C19 r0.length e19, .slice D19 rz0.length f19]) (w.heap.size + 1) 27 (da d1) := (setRow_other _ _ _ _ (by have e1 := B1_14.lt; have e2 := ge16; omega)).trans B1_19
      have tb20 := tb19.trans hb20
      refine hK.out _ _ ⟨(B0_20.cell (i := 0) rfl), (B0_20.cell (i := 1) rfl), (show Dr (w19.setRow (wd15.heap.size) #[.slice C19 r0.length e19, .slice D19 rz0.length f19]) (w.heap.size + 1) 27 d1 from B1_20).range⟩ (fun hS20 => ?_)
      clear hK K
      refine wpAnyH_take (i := 10) (v := .int .i64 r1) rfl (by kernel_rfl) (by kernel_rfl) (by kernel_rfl) (fun _ _ _ h => h) (Or.inl ⟨by rfl, fun w' _ => by go_simp⟩) hS20 ?_
      change wpAnyH _ _ _ _ _ _ _ (Act.put _ (some 15) _) _
      simp only [Act.put, List.setIfInBounds_toArray, List.set_cons_zero, List.set_cons_succ]
      refine wpAnyH_done (by kernel_rfl) ?_ _
      go_wp2_with fail
      go_meet
      exact ⟨_, C19, e19, D19, f19, _, rfl, rfl, rfl, DD, ge16, oo_20, oz_20, tb20⟩
  obtain ⟨rg15, C15, e15, D15, f15, w15, rfl, rfl, rfl, K15, rge15, own15, owm15, hb15⟩ := hcut
  have b15 := step_below hb15 b14
  have B0_15 := B0_14.keep hb15
  have B1_15 := B1_14.keep hb15
  have Rw2_15 := Rw2_14.keep hb15
  have Rw5_15 := Rw5_14.keep hb15
  have v2_15 := own_keep v2_14 hb15
  have vz2_15 := own_keep vz2_14 hb15
  have k12_15 := own_keep k12_14 hb15
  have k13_15 := own_keep k13_14 hb15
  have t15 := step_below hb15 t14
  have r15_15 := own15
  have rz15_15 := owm15
  have Rw15_15 := K15
  have pf87_0 := Rw15_15.cell (i := 0) rfl
  have pf87_1 := Rw15_15.cell (i := 1) rfl
  have pf88_0 := Rw2_15.cell (i := 0) rfl
  have pf88_1 := Rw2_15.cell (i := 1) rfl
  go_wp2_with fail
  clear pf87_0 pf87_1 pf88_0 pf88_1
  refine (eqWear_self _ _ _ _ r0 _ _ _ _ rz0 _ (WnA.of_own r15_15) (WnA.of_own v2_15) (SI.of_own rz15_15) (SI.of_own vz2_15) hrl0 hrlz0).mono ?_
  rintro e w16 ⟨rfl, hb16⟩
  have b16 := step_below hb16 b15
  have B0_16 := B0_15.keep hb16
  have B1_16 := B1_15.keep hb16
  have Rw2_16 := Rw2_15.keep hb16
  have Rw5_16 := Rw5_15.keep hb16
  have v2_16 := own_keep v2_15 hb16
  have vz2_16 := own_keep vz2_15 hb16
  have k12_16 := own_keep k12_15 hb16
  have k13_16 := own_keep k13_15 hb16
  have t16 := step_below hb16 t15
  have pf96_0 := Rw5_16.cell (i := 0) rfl
  have pf96_1 := Rw5_16.cell (i := 1) rfl
  go_wp2_with fail
  clear pf96_0 pf96_1
  refine (heldWear_from _ _ r0.length _ _ rz0.length (1) _ (mkWn_of_own k12_16) (mkI_of_own k13_16) hrl0 hrlz0 ⟨by omega, by omega⟩).mono ?_
  rintro e w17 ⟨rfl, hb17⟩
  have b17 := step_below hb17 b16
  have B0_17 := B0_16.keep hb17
  have B1_17 := B1_16.keep hb17
  have Rw2_17 := Rw2_16.keep hb17
  have Rw5_17 := Rw5_16.keep hb17
  have v2_17 := own_keep v2_16 hb17
  have vz2_17 := own_keep vz2_16 hb17
  have k12_17 := own_keep k12_16 hb17
  have k13_17 := own_keep k13_16 hb17
  have t17 := step_below hb17 t16
  go_wp2
  go_ret
  exact ⟨rfl, b17⟩
theorem lawFreshWear_any (s0 : Int) (A0 : Option Addr) (c0 : Nat) (l0 : List (Int × Int)) (d1 : Nat → Int) (w : World) (hA0 : HA w A0 l0) (hwf0 : HWF l0) (hs0 : -32768 ≤ s0 ∧ s0 ≤ 32767) (hd1 : DWF d1) (hT : TabW w) (hm0 : l0.length ≤ maxLen)  :
    Calls Tryd.prog 3 #[.agg #[.int .i16 s0, .slice A0 l0.length c0], .agg (da d1)] w (Says true w) := by
  rcases Nat.lt_or_ge 1048576 (l0.length) with h0 | h0
  · exact lawFreshWear_big0 s0 A0 c0 l0 d1 w  h0 hm0
  exact lawFreshWear_small s0 A0 c0 l0 d1 w hA0 hwf0 hs0 hd1 hT h0 hm0 
end Go.Proofs.YtcocfnjbgceidaaDoor
