import Derived.Test.YtncdgjaadlpncaaLwf
import Derived.Test.YtncdgjaadlpncaaTui
import Derived.Deep.RegionHeld3
import Derived.Deep.CutRange
namespace Go.Proofs.Ytncdgjaadlpncaa
open Go.RowKit

set_option maxRecDepth 20000 in
set_option maxHeartbeats 1000000 in
theorem lawTurnDrum_big0 (s0 : Int) (A0 : Option Addr) (c0 : Nat) (l0 : List (Int × Int)) (d1 : Nat → Int) (x2 : Int) (w : World)  (hbg : 1048576 < l0.length) (hm0 : l0.length ≤ maxLen) :
    Calls Try.prog 3 #[.agg #[.int .i16 s0, .slice A0 l0.length c0], .agg (da d1), .int .i64 x2] w (Says true w) := by
  obtain ⟨X0, hX0⟩ : ∃ X, X = ((w.alloc (.cells #[.int .i16 s0, .slice A0 l0.length c0] 25)).alloc (.cells (da d1) 27)) := ⟨_, rfl⟩
  have b0 : Below w.heap.size w X0 := by rw [hX0]; exact (((Below.refl _ _).alloc (Nat.le_refl _) _).alloc (by simp) _)
  have B0_0 : Bk X0 (w.heap.size) 25 #[.int .i16 s0, .slice A0 l0.length c0] := by rw [hX0]; exact Bk.new _ _ _ rfl |>.old _
  have bw0 : w.heap.size < X0.heap.size := B0_0.lt
  have B1_0 : Bk X0 (w.heap.size + 1) 27 (da d1) := by rw [hX0]; exact Bk.new _ _ _ (by simp)
  have bw1 : w.heap.size + 1 < X0.heap.size := B1_0.lt
  go_enter Try.func3, Try.ntmps3
  go_upto_region 1 with fail
  rw [← hX0]
  clear hX0
  have pf13_ := B0_0.cell (i := 0) rfl
  have qf13_ := B0_0.cell (i := 1) rfl
  go_wp2_with fail
  clear pf13_ qf13_
  refine (szFrame_at_big s0 A0 l0.length c0 (1048576) (by omega) (by omega) hm0 (by omega) _).mono ?_
  rintro e w1 ⟨rfl, hb1⟩
  have b1 := step_below hb1 b0
  go_wp2
  go_ret
  exact ⟨rfl, b1⟩
set_option maxRecDepth 20000 in
set_option maxHeartbeats 4000000 in
theorem lawTurnDrum_small (s0 : Int) (A0 : Option Addr) (c0 : Nat) (l0 : List (Int × Int)) (d1 : Nat → Int) (x2 : Int) (w : World) (hA0 : HA w A0 l0) (hwf0 : HWF l0) (hs0 : -32768 ≤ s0 ∧ s0 ≤ 32767) (hd1 : DWF d1) (hc0 : l0.length ≤ 1048576) (hm0 : l0.length ≤ maxLen) :
    Calls Try.prog 3 #[.agg #[.int .i16 s0, .slice A0 l0.length c0], .agg (da d1), .int .i64 x2] w (Says true w) := by
  have hn0 : l0.length ≤ 1048576 := by omega
  obtain ⟨r0, hr0⟩ : ∃ r : Nat → Int, r = turD s0 l0 d1 x2 := ⟨_, rfl⟩
  obtain ⟨r1, hr1⟩ : ∃ r : Int, r = turC s0 l0 d1 x2 := ⟨_, rfl⟩
  have KS : ∀ (E0 : Option Addr) (W : World), HA W E0 l0 → Calls Try.prog 15 #[.agg #[.int .i16 s0, .slice E0 l0.length l0.length], .agg (da d1), .int .i64 x2] W (fun e w' => e = .returned (.tuple #[.agg (da r0), .int .i64 r1]) ∧ Below W.heap.size W w') := fun E0 W h0 => by rw [hr0, hr1]; exact specTurnDrum_any s0 E0 l0.length l0 d1 x2 W h0 hn0 hwf0 hs0 hd1 
  have KI : ∀ (E0 : Option Addr) (W : World), HA W E0 l0 → Calls Try.prog 18 #[.agg #[.int .i16 s0, .slice E0 l0.length l0.length], .agg (da d1), .int .i64 x2] W (fun e w' => e = .returned (.tuple #[.agg (da r0), .int .i64 r1]) ∧ Below W.heap.size W w') := fun E0 W h0 => by rw [hr0, hr1]; exact implTurnDrum_any s0 E0 l0.length l0 d1 x2 W h0 hn0 hwf0 hs0 hd1 
  clear hr0 hr1
  obtain ⟨X0, hX0⟩ : ∃ X, X = ((w.alloc (.cells #[.int .i16 s0, .slice A0 l0.length c0] 25)).alloc (.cells (da d1) 27)) := ⟨_, rfl⟩
  have b0 : Below w.heap.size w X0 := by rw [hX0]; exact (((Below.refl _ _).alloc (Nat.le_refl _) _).alloc (by simp) _)
  have B0_0 : Bk X0 (w.heap.size) 25 #[.int .i16 s0, .slice A0 l0.length c0] := by rw [hX0]; exact Bk.new _ _ _ rfl |>.old _
  have bw0 : w.heap.size < X0.heap.size := B0_0.lt
  have B1_0 : Bk X0 (w.heap.size + 1) 27 (da d1) := by rw [hX0]; exact Bk.new _ _ _ (by simp)
  have bw1 : w.heap.size + 1 < X0.heap.size := B1_0.lt
  go_enter Try.func3, Try.ntmps3
  go_upto_region 1 with fail
  rw [← hX0]
  clear hX0
  have pf13_ := B0_0.cell (i := 0) rfl
  have qf13_ := B0_0.cell (i := 1) rfl
  go_wp2_with fail
  clear pf13_ qf13_
  refine (szFrame_at_small s0 A0 l0.length c0 (1048576) (by omega) (by omega) hm0 (by omega) _).mono ?_
  rintro e w1 ⟨rfl, hb1⟩
  have b1 := step_below hb1 b0
  have B0_1 := B0_0.keep hb1
  have B1_1 := B1_0.keep hb1
  go_upto_region 5 with fail
  go_cut [8, 9] from 18 to 26 (fun a b wx => ∃ (g : Nat) (W : World), a = .pointer (some ⟨g, 0, none⟩) ∧ b = .int .i64 r1 ∧ W = wx ∧ Dr W g 29 r0 ∧ w1.heap.size ≤ g ∧ Below w1.heap.size w1 W)
  case first =>
    have hz := zeroDrum
    have hza : za.size = (da r0).size := by rw [da_size]; rfl
    have hb2 : Below w1.heap.size w1 w1.drew := (Below.refl _ _).drew
    have tb1 : Below w1.heap.size w1 w1 := Below.refl _ _
    have b2 := step_below hb2 b1
    have B0_2 := B0_1.keep hb2
    have B1_2 := B1_1.keep hb2
    have tb2 := step_below hb2 tb1
    refine wp_region_held_drew (S := fun w' => w'.cell? ⟨w.heap.size, 0, none⟩ = some (.int .i16 s0) ∧ w'.cell? ⟨w.heap.size, 1, none⟩ = some (.slice A0 l0.length c0) ∧ w'.rangeAt (w.heap.size + 1) 0 (dv d1)) (by kernel_rfl) ⟨(B0_2.cell (i := 0) rfl), (B0_2.cell (i := 1) rfl), (show Dr w1.drew (w.heap.size + 1) 27 d1 from B1_2).range⟩ fun hS2 => ?_
    refine wpAnyH_take (i := 0) (v := .agg #[.int .i16 s0, .slice A0 l0.length c0]) rfl (by kernel_rfl) (by kernel_rfl) (by kernel_rfl) (fun _ _ _ h => h) (Or.inl ⟨by rfl, fun w' h => ?_⟩) hS2 ?_
    · have c0 := h.1
      have c1 := h.2.1
      clear h
      go_simp
    simp only [Act.put, List.setIfInBounds_toArray, List.set_cons_zero, List.set_cons_succ]
    refine wpAnyH_take (i := 2) rfl (by kernel_rfl) (by kernel_rfl) (by kernel_rfl) (fun _ _ _ h => h) (yieldsIf_load_mid (by rfl) _ _ rfl (w.heap.size + 1) 0 rfl (dv d1) _ (fun _ h => h.2.2) Try.underlying27 rfl (infoLt d1)) hS2 ?_
    simp only [Act.put, List.setIfInBounds_toArray, List.set_cons_zero, List.set_cons_succ]
    refine wpAnyH_take (i := 4) (v := .int .i64 x2) rfl (by kernel_rfl) (by kernel_rfl) (by kernel_rfl) (fun _ _ _ h => h) (Or.inl ⟨by rfl, fun w' _ => by go_simp⟩) hS2 ?_
    change wpAnyH _ _ _ _ _ _ _ (Act.put _ (some 23) _) _
    simp only [Act.put, List.setIfInBounds_toArray, List.set_cons_zero, List.set_cons_succ]
    refine wpAnyH_ready (rs := [1, 9]) (by kernel_rfl) (by simp) (AllReadyH.cons rfl ?_ (AllReadyH.cons rfl ?_ AllReadyH.nil))
    · intro K hK
      rw [if_pos (by rfl)]
      go_simp
      refine (toFrame_any s0 A0 c0 l0 _ (hA0.below b2) hn0).mono ?_
      rintro e w3 ⟨g3, rfl, hg3, own3, hb3⟩
      have b3 := step_below hb3 b2
      have B0_3 := B0_2.keep hb3
      have B1_3 := B1_2.keep hb3
      have gl3 : g3 < w3.heap.size := (own3.lt g3 rfl).2
      have q3_3 := own3
      have tb3 := tb2.trans (hb3.mono tb2.size)
      refine hK.out _ _ ⟨(B0_3.cell (i := 0) rfl), (B0_3.cell (i := 1) rfl), (show Dr w3 (w.heap.size + 1) 27 d1 from B1_3).range⟩ (fun hS3 => ?_)
      clear hK K
      refine wpAnyH_ready (rs := [3, 9]) (by kernel_rfl) (by simp) (AllReadyH.cons rfl ?_ (AllReadyH.cons rfl ?_ AllReadyH.nil))
      · intro K hK
        rw [if_pos (by rfl)]
        go_simp
        refine (toDrum_any d1 _).mono ?_
        rintro e w4 ⟨rfl, hb4⟩
        have b4 := step_below hb4 b3
        have B0_4 := B0_3.keep hb4
        have B1_4 := B1_3.keep hb4
        have q3_4 := own_keep q3_3 hb4
        have tb4 := tb3.trans (hb4.mono tb3.size)
        refine hK.out _ _ ⟨(B0_4.cell (i := 0) rfl), (B0_4.cell (i := 1) rfl), (show Dr w4 (w.heap.size + 1) 27 d1 from B1_4).range⟩ (fun hS4 => ?_)
        clear hK K
        refine wpAnyH_ready (rs := [5, 9]) (by kernel_rfl) (by simp) (AllReadyH.cons rfl ?_ (AllReadyH.cons rfl ?_ AllReadyH.nil))
        · intro K hK
          rw [if_pos (by rfl)]
          go_simp
          refine (KS _ _ (HA.of_own q3_4) ).mono ?_
          rintro e w5 ⟨rfl, hb5⟩
          have b5 := step_below hb5 b4
          have B0_5 := B0_4.keep hb5
          have B1_5 := B1_4.keep hb5
          have t5 : Below w5.heap.size w5 w5 := Below.refl _ _
          have tb5 := tb4.trans (hb5.mono tb4.size)
          refine hK.out _ _ ⟨(B0_5.cell (i := 0) rfl), (B0_5.cell (i := 1) rfl), (show Dr w5 (w.heap.size + 1) 27 d1 from B1_5).range⟩ (fun hS5 => ?_)
          clear hK K
          refine wpAnyH_take (i := 6) (v := .tuple #[.agg (da r0), .int .i64 r1]) rfl (by kernel_rfl) (by kernel_rfl) (by kernel_rfl) (fun _ _ _ h => h) (Or.inl ⟨by rfl, fun w' _ => by go_simp⟩) hS5 ?_
          change wpAnyH _ _ _ _ _ _ _ (Act.put _ (some 18) _) _
          simp only [Act.put, List.setIfInBounds_toArray, List.set_cons_zero, List.set_cons_succ]
          refine wpAnyH_take (i := 7) (v := .agg (da r0)) rfl (by kernel_rfl) (by kernel_rfl) (by kernel_rfl) (fun _ _ _ h => h) (Or.inl ⟨by rfl, fun w' _ => by go_simp⟩) hS5 ?_
          change wpAnyH _ _ _ _ _ _ _ (Act.put _ (some 25) _) _
          simp only [Act.put, List.setIfInBounds_toArray, List.set_cons_zero, List.set_cons_succ]
          refine wpAnyH_take (i := 8) (v := .int .i64 r1) rfl (by kernel_rfl) (by kernel_rfl) (by kernel_rfl) (fun _ _ _ h => h) (Or.inl ⟨by rfl, fun w' _ => by go_simp⟩) hS5 ?_
          change wpAnyH _ _ _ _ _ _ _ (Act.put _ (some 26) _) _
          simp only [Act.put, List.setIfInBounds_toArray, List.set_cons_zero, List.set_cons_succ]
          refine wpAnyH_ready (rs := [9]) (by kernel_rfl) (by simp) (AllReadyH.cons rfl ?_ AllReadyH.nil)
          obtain ⟨w6, hX6⟩ : ∃ X, X = w5.alloc (.cells za 29) := ⟨_, rfl⟩
          have hb6 : Below w5.heap.size w5 w6 := by rw [hX6]; exact (Below.refl _ _).alloc (Nat.le_refl _) _
          have za6 : Dr w6 w5.heap.size 29 (fun _ => 0) := by rw [hX6, za_eq]; exact heap_new' _ _ _ rfl
          have ge6 : w1.heap.size ≤ w5.heap.size := tb5.size
          intro K hK
          rw [if_pos (by rfl)]
          go_simp
          rw [← hX6]
          clear hX6
          have b6 := step_below hb6 b5
          have B0_6 := B0_5.keep hb6
          have B1_6 := B1_5.keep hb6
          have t6 := step_below hb6 t5
          have tb6 := tb5.trans (hb6.mono tb5.size)
          refine hK.out _ _ ⟨(B0_6.cell (i := 0) rfl), (B0_6.cell (i := 1) rfl), (show Dr w6 (w.heap.size + 1) 27 d1 from B1_6).range⟩ (fun hS6 => ?_)
          clear hK K
          refine wpAnyH_ready (rs := [10]) (by kernel_rfl) (by simp) (AllReadyH.cons rfl ?_ AllReadyH.nil)
          intro K hK
          rw [if_pos (by rfl)]
          refine wp_store_row 29 (.tmp 8) (.tmp 25) rfl (w5.heap.size) (da r0) rfl rfl 29 _ za6 (by rw [da_size]; exact info29) (by simp only [da_size]) (da_one _) ?_
          have hb7 : Below w1.heap.size w6 (w6.setRow (w5.heap.size) (da r0)) := below_setRow (Below.refl _ _) ge6
          have DD : Dr (w6.setRow (w5.heap.size) (da r0)) (w5.heap.size) 29 r0 := setRow_heap _ _ _ _ _ _ za6
          have B0_7 : Bk (w6.setRow (w5.heap.size) (da r0)) (w.heap.size) 25 #[.int .i16 s0, .slice A0 l0.length c0] := (setRow_other _ _ _ _ (by have e1 := B0_1.lt; have e2 := ge6; omega)).trans B0_6
          have B1_7 : Bk (w6.setRow (w5.heap.size) (da r0)) (w.heap.size + 1) 27 (da d1) := (setRow_other _ _ _ _ (by have e1 := B1_1.lt; have e2 := ge6; omega)).trans B1_6
          have tb7 := tb6.trans hb7
          refine hK.out _ _ ⟨(B0_7.cell (i := 0) rfl), (B0_7.cell (i := 1) rfl), (show Dr (w6.setRow (w5.heap.size) (da r0)) (w.heap.size + 1) 27 d1 from B1_7).range⟩ (fun hS7 => ?_)
          clear hK K
          refine wpAnyH_take (i := 11) (v := .int .i64 r1) rfl (by kernel_rfl) (by kernel_rfl) (by kernel_rfl) (fun _ _ _ h => h) (Or.inl ⟨by rfl, fun w' _ => by go_simp⟩) hS7 ?_
          change wpAnyH _ _ _ _ _ _ _ (Act.put _ (some 9) _) _
          simp only [Act.put, List.setIfInBounds_toArray, List.set_cons_zero, List.set_cons_succ]
          refine wpAnyH_done (by kernel_rfl) ?_ _
          go_wp2_with fail
          go_meet
          exact ⟨_, _, rfl, rfl, rfl, DD, ge6, tb7⟩
        · obtain ⟨w5, hX5⟩ : ∃ X, X = w4.alloc (.cells za 29) := ⟨_, rfl⟩
          have hb5 : Below w4.heap.size w4 w5 := by rw [hX5]; exact (Below.refl _ _).alloc (Nat.le_refl _) _
          have za5 : Dr w5 w4.heap.size 29 (fun _ => 0) := by rw [hX5, za_eq]; exact heap_new' _ _ _ rfl
          have ge5 : w1.heap.size ≤ w4.heap.size := tb4.size
          intro K hK
          rw [if_pos (by rfl)]
          go_simp
          rw [← hX5]
          clear hX5
          have b5 := step_below hb5 b4
          have B0_5 := B0_4.keep hb5
          have B1_5 := B1_4.keep hb5
          have q3_5 := own_keep q3_4 hb5
          have tb5 := tb4.trans (hb5.mono tb4.size)
          refine hK.out _ _ ⟨(B0_5.cell (i := 0) rfl), (B0_5.cell (i := 1) rfl), (show Dr w5 (w.heap.size + 1) 27 d1 from B1_5).range⟩ (fun hS5 => ?_)
          clear hK K
          refine wpAnyH_ready (rs := [5]) (by kernel_rfl) (by simp) (AllReadyH.cons rfl ?_ AllReadyH.nil)
          intro K hK
          rw [if_pos (by rfl)]
          go_simp
          refine (KS _ _ (HA.of_own q3_5) ).mono ?_
          rintro e w6 ⟨rfl, hb6⟩
          have b6 := step_below hb6 b5
          have B0_6 := B0_5.keep hb6
          have B1_6 := B1_5.keep hb6
          have t6 : Below w6.heap.size w6 w6 := Below.refl _ _
          have tb6 := tb5.trans (hb6.mono tb5.size)
          have za6 := za5.keep hb6
          refine hK.out _ _ ⟨(B0_6.cell (i := 0) rfl), (B0_6.cell (i := 1) rfl), (show Dr w6 (w.heap.size + 1) 27 d1 from B1_6).range⟩ (fun hS6 => ?_)
          clear hK K
          refine wpAnyH_take (i := 6) (v := .tuple #[.agg (da r0), .int .i64 r1]) rfl (by kernel_rfl) (by kernel_rfl) (by kernel_rfl) (fun _ _ _ h => h) (Or.inl ⟨by rfl, fun w' _ => by go_simp⟩) hS6 ?_
          change wpAnyH _ _ _ _ _ _ _ (Act.put _ (some 18) _) _
          simp only [Act.put, List.setIfInBounds_toArray, List.set_cons_zero, List.set_cons_succ]
          refine wpAnyH_take (i := 7) (v := .agg (da r0)) rfl (by kernel_rfl) (by kernel_rfl) (by kernel_rfl) (fun _ _ _ h => h) (Or.inl ⟨by rfl, fun w' _ => by go_simp⟩) hS6 ?_
          change wpAnyH _ _ _ _ _ _ _ (Act.put _ (some 25) _) _
          simp only [Act.put, List.setIfInBounds_toArray, List.set_cons_zero, List.set_cons_succ]
          refine wpAnyH_take (i := 8) (v := .int .i64 r1) rfl (by kernel_rfl) (by kernel_rfl) (by kernel_rfl) (fun _ _ _ h => h) (Or.inl ⟨by rfl, fun w' _ => by go_simp⟩) hS6 ?_
          change wpAnyH _ _ _ _ _ _ _ (Act.put _ (some 26) _) _
          simp only [Act.put, List.setIfInBounds_toArray, List.set_cons_zero, List.set_cons_succ]
          refine wpAnyH_ready (rs := [10]) (by kernel_rfl) (by simp) (AllReadyH.cons rfl ?_ AllReadyH.nil)
          intro K hK
          rw [if_pos (by rfl)]
          refine wp_store_row 29 (.tmp 8) (.tmp 25) rfl (w4.heap.size) (da r0) rfl rfl 29 _ za6 (by rw [da_size]; exact info29) (by simp only [da_size]) (da_one _) ?_
          have hb7 : Below w1.heap.size w6 (w6.setRow (w4.heap.size) (da r0)) := below_setRow (Below.refl _ _) ge5
          have DD : Dr (w6.setRow (w4.heap.size) (da r0)) (w4.heap.size) 29 r0 := setRow_heap _ _ _ _ _ _ za6
          have B0_7 : Bk (w6.setRow (w4.heap.size) (da r0)) (w.heap.size) 25 #[.int .i16 s0, .slice A0 l0.length c0] := (setRow_other _ _ _ _ (by have e1 := B0_1.lt; have e2 := ge5; omega)).trans B0_6
          have B1_7 : Bk (w6.setRow (w4.heap.size) (da r0)) (w.heap.size + 1) 27 (da d1) := (setRow_other _ _ _ _ (by have e1 := B1_1.lt; have e2 := ge5; omega)).trans B1_6
          have tb7 := tb6.trans hb7
          refine hK.out _ _ ⟨(B0_7.cell (i := 0) rfl), (B0_7.cell (i := 1) rfl), (show Dr (w6.setRow (w4.heap.size) (da r0)) (w.heap.size + 1) 27 d1 from B1_7).range⟩ (fun hS7 => ?_)
          clear hK K
          refine wpAnyH_take (i := 11) (v := .int .i64 r1) rfl (by kernel_rfl) (by kernel_rfl) (by kernel_rfl) (fun _ _ _ h => h) (Or.inl ⟨by rfl, fun w' _ => by go_simp⟩) hS7 ?_
          change wpAnyH _ _ _ _ _ _ _ (Act.put _ (some 9) _) _
          simp only [Act.put, List.setIfInBounds_toArray, List.set_cons_zero, List.set_cons_succ]
          refine wpAnyH_done (by kernel_rfl) ?_ _
          go_wp2_with fail
          go_meet
          exact ⟨_, _, rfl, rfl, rfl, DD, ge5, tb7⟩
      · obtain ⟨w4, hX4⟩ : ∃ X, X = w3.alloc (.cells za 29) := ⟨_, rfl⟩
        have hb4 : Below w3.heap.size w3 w4 := by rw [hX4]; exact (Below.refl _ _).alloc (Nat.le_refl _) _
        have za4 : Dr w4 w3.heap.size 29 (fun _ => 0) := by rw [hX4, za_eq]; exact heap_new' _ _ _ rfl
        have ge4 : w1.heap.size ≤ w3.heap.size := tb3.size
        intro K hK
        rw [if_pos (by rfl)]
        go_simp
        rw [← hX4]
        clear hX4
        have b4 := step_below hb4 b3
        have B0_4 := B0_3.keep hb4
        have B1_4 := B1_3.keep hb4
        have q3_4 := own_keep q3_3 hb4
        have tb4 := tb3.trans (hb4.mono tb3.size)
        refine hK.out _ _ ⟨(B0_4.cell (i := 0) rfl), (B0_4.cell (i := 1) rfl), (show Dr w4 (w.heap.size + 1) 27 d1 from B1_4).range⟩ (fun hS4 => ?_)
        clear hK K
        refine wpAnyH_ready (rs := [3]) (by kernel_rfl) (by simp) (AllReadyH.cons rfl ?_ AllReadyH.nil)
        intro K hK
        rw [if_pos (by rfl)]
        go_simp
        refine (toDrum_any d1 _).mono ?_
        rintro e w5 ⟨rfl, hb5⟩
        have b5 := step_below hb5 b4
        have B0_5 := B0_4.keep hb5
        have B1_5 := B1_4.keep hb5
        have q3_5 := own_keep q3_4 hb5
        have tb5 := tb4.trans (hb5.mono tb4.size)
        have za5 := za4.keep hb5
        refine hK.out _ _ ⟨(B0_5.cell (i := 0) rfl), (B0_5.cell (i := 1) rfl), (show Dr w5 (w.heap.size + 1) 27 d1 from B1_5).range⟩ (fun hS5 => ?_)
        clear hK K
        refine wpAnyH_ready (rs := [5]) (by kernel_rfl) (by simp) (AllReadyH.cons rfl ?_ AllReadyH.nil)
        intro K hK
        rw [if_pos (by rfl)]
        go_simp
        refine (KS _ _ (HA.of_own q3_5) ).mono ?_
        rintro e w6 ⟨rfl, hb6⟩
        have b6 := step_below hb6 b5
        have B0_6 := B0_5.keep hb6
        have B1_6 := B1_5.keep hb6
        have t6 : Below w6.heap.size w6 w6 := Below.refl _ _
        have tb6 := tb5.trans (hb6.mono tb5.size)
        have za6 := za5.keep hb6
        refine hK.out _ _ ⟨(B0_6.cell (i := 0) rfl), (B0_6.cell (i := 1) rfl), (show Dr w6 (w.heap.size + 1) 27 d1 from B1_6).range⟩ (fun hS6 => ?_)
        clear hK K
        refine wpAnyH_take (i := 6) (v := .tuple #[.agg (da r0), .int .i64 r1]) rfl (by kernel_rfl) (by kernel_rfl) (by kernel_rfl) (fun _ _ _ h => h) (Or.inl ⟨by rfl, fun w' _ => by go_simp⟩) hS6 ?_
        change wpAnyH _ _ _ _ _ _ _ (Act.put _ (some 18) _) _
        simp only [Act.put, List.setIfInBounds_toArray, List.set_cons_zero, List.set_cons_succ]
        refine wpAnyH_take (i := 7) (v := .agg (da r0)) rfl (by kernel_rfl) (by kernel_rfl) (by kernel_rfl) (fun _ _ _ h => h) (Or.inl ⟨by rfl, fun w' _ => by go_simp⟩) hS6 ?_
        change wpAnyH _ _ _ _ _ _ _ (Act.put _ (some 25) _) _
        simp only [Act.put, List.setIfInBounds_toArray, List.set_cons_zero, List.set_cons_succ]
        refine wpAnyH_take (i := 8) (v := .int .i64 r1) rfl (by kernel_rfl) (by kernel_rfl) (by kernel_rfl) (fun _ _ _ h => h) (Or.inl ⟨by rfl, fun w' _ => by go_simp⟩) hS6 ?_
        change wpAnyH _ _ _ _ _ _ _ (Act.put _ (some 26) _) _
        simp only [Act.put, List.setIfInBounds_toArray, List.set_cons_zero, List.set_cons_succ]
        refine wpAnyH_ready (rs := [10]) (by kernel_rfl) (by simp) (AllReadyH.cons rfl ?_ AllReadyH.nil)
        intro K hK
        rw [if_pos (by rfl)]
        refine wp_store_row 29 (.tmp 8) (.tmp 25) rfl (w3.heap.size) (da r0) rfl rfl 29 _ za6 (by rw [da_size]; exact info29) (by simp only [da_size]) (da_one _) ?_
        have hb7 : Below w1.heap.size w6 (w6.setRow (w3.heap.size) (da r0)) := below_setRow (Below.refl _ _) ge4
        have DD : Dr (w6.setRow (w3.heap.size) (da r0)) (w3.heap.size) 29 r0 := setRow_heap _ _ _ _ _ _ za6
        have B0_7 : Bk (w6.setRow (w3.heap.size) (da r0)) (w.heap.size) 25 #[.int .i16 s0, .slice A0 l0.length c0] := (setRow_other _ _ _ _ (by have e1 := B0_1.lt; have e2 := ge4; omega)).trans B0_6
        have B1_7 : Bk (w6.setRow (w3.heap.size) (da r0)) (w.heap.size + 1) 27 (da d1) := (setRow_other _ _ _ _ (by have e1 := B1_1.lt; have e2 := ge4; omega)).trans B1_6
        have tb7 := tb6.trans hb7
        refine hK.out _ _ ⟨(B0_7.cell (i := 0) rfl), (B0_7.cell (i := 1) rfl), (show Dr (w6.setRow (w3.heap.size) (da r0)) (w.heap.size + 1) 27 d1 from B1_7).range⟩ (fun hS7 => ?_)
        clear hK K
        refine wpAnyH_take (i := 11) (v := .int .i64 r1) rfl (by kernel_rfl) (by kernel_rfl) (by kernel_rfl) (fun _ _ _ h => h) (Or.inl ⟨by rfl, fun w' _ => by go_simp⟩) hS7 ?_
        change wpAnyH _ _ _ _ _ _ _ (Act.put _ (some 9) _) _
        simp only [Act.put, List.setIfInBounds_toArray, List.set_cons_zero, List.set_cons_succ]
        refine wpAnyH_done (by kernel_rfl) ?_ _
        go_wp2_with fail
        go_meet
        exact ⟨_, _, rfl, rfl, rfl, DD, ge4, tb7⟩
    · obtain ⟨w3, hX3⟩ : ∃ X, X = (w1.alloc (.cells za 29)).drew := ⟨_, rfl⟩
      have hb3 : Below w1.drew.heap.size w1.drew w3 := by rw [hX3]; exact (Below.refl _ _).alloc (Nat.le_refl _) _
      have za3 : Dr w3 w1.heap.size 29 (fun _ => 0) := by rw [hX3, za_eq]; exact heap_new' _ _ _ rfl
      have ge3 : w1.heap.size ≤ w1.heap.size := tb2.size
      intro K hK
      rw [if_pos (by rfl)]
      go_simp
      rw [← hX3]
      clear hX3
      have b3 := step_below hb3 b2
      have B0_3 := B0_2.keep hb3
      have B1_3 := B1_2.keep hb3
      have tb3 := tb2.trans (hb3.mono tb2.size)
      refine hK.out _ _ ⟨(B0_3.cell (i := 0) rfl), (B0_3.cell (i := 1) rfl), (show Dr w3 (w.heap.size + 1) 27 d1 from B1_3).range⟩ (fun hS3 => ?_)
      clear hK K
      refine wpAnyH_ready (rs := [1]) (by kernel_rfl) (by simp) (AllReadyH.cons rfl ?_ AllReadyH.nil)
      intro K hK
      rw [if_pos (by rfl)]
      go_simp
      refine (toFrame_any s0 A0 c0 l0 _ (hA0.below b3) hn0).mono ?_
      rintro e w4 ⟨g4, rfl, hg4, own4, hb4⟩
      have b4 := step_below hb4 b3
      have B0_4 := B0_3.keep hb4
      have B1_4 := B1_3.keep hb4
      have gl4 : g4 < w4.heap.size := (own4.lt g4 rfl).2
      have q4_4 := own4
      have tb4 := tb3.trans (hb4.mono tb3.size)
      have za4 := za3.keep hb4
      refine hK.out _ _ ⟨(B0_4.cell (i := 0) rfl), (B0_4.cell (i := 1) rfl), (show Dr w4 (w.heap.size + 1) 27 d1 from B1_4).range⟩ (fun hS4 => ?_)
      clear hK K
      refine wpAnyH_ready (rs := [3]) (by kernel_rfl) (by simp) (AllReadyH.cons rfl ?_ AllReadyH.nil)
      intro K hK
      rw [if_pos (by rfl)]
      go_simp
      refine (toDrum_any d1 _).mono ?_
      rintro e w5 ⟨rfl, hb5⟩
      have b5 := step_below hb5 b4
      have B0_5 := B0_4.keep hb5
      have B1_5 := B1_4.keep hb5
      have q4_5 := own_keep q4_4 hb5
      have tb5 := tb4.trans (hb5.mono tb4.size)
      have za5 := za4.keep hb5
      refine hK.out _ _ ⟨(B0_5.cell (i := 0) rfl), (B0_5.cell (i := 1) rfl), (show Dr w5 (w.heap.size + 1) 27 d1 from B1_5).range⟩ (fun hS5 => ?_)
      clear hK K
      refine wpAnyH_ready (rs := [5]) (by kernel_rfl) (by simp) (AllReadyH.cons rfl ?_ AllReadyH.nil)
      intro K hK
      rw [if_pos (by rfl)]
      go_simp
      refine (KS _ _ (HA.of_own q4_5) ).mono ?_
      rintro e w6 ⟨rfl, hb6⟩
      have b6 := step_below hb6 b5
      have B0_6 := B0_5.keep hb6
      have B1_6 := B1_5.keep hb6
      have t6 : Below w6.heap.size w6 w6 := Below.refl _ _
      have tb6 := tb5.trans (hb6.mono tb5.size)
      have za6 := za5.keep hb6
      refine hK.out _ _ ⟨(B0_6.cell (i := 0) rfl), (B0_6.cell (i := 1) rfl), (show Dr w6 (w.heap.size + 1) 27 d1 from B1_6).range⟩ (fun hS6 => ?_)
      clear hK K
      refine wpAnyH_take (i := 6) (v := .tuple #[.agg (da r0), .int .i64 r1]) rfl (by kernel_rfl) (by kernel_rfl) (by kernel_rfl) (fun _ _ _ h => h) (Or.inl ⟨by rfl, fun w' _ => by go_simp⟩) hS6 ?_
      change wpAnyH _ _ _ _ _ _ _ (Act.put _ (some 18) _) _
      simp only [Act.put, List.setIfInBounds_toArray, List.set_cons_zero, List.set_cons_succ]
      refine wpAnyH_take (i := 7) (v := .agg (da r0)) rfl (by kernel_rfl) (by kernel_rfl) (by kernel_rfl) (fun _ _ _ h => h) (Or.inl ⟨by rfl, fun w' _ => by go_simp⟩) hS6 ?_
      change wpAnyH _ _ _ _ _ _ _ (Act.put _ (some 25) _) _
      simp only [Act.put, List.setIfInBounds_toArray, List.set_cons_zero, List.set_cons_succ]
      refine wpAnyH_take (i := 8) (v := .int .i64 r1) rfl (by kernel_rfl) (by kernel_rfl) (by kernel_rfl) (fun _ _ _ h => h) (Or.inl ⟨by rfl, fun w' _ => by go_simp⟩) hS6 ?_
      change wpAnyH _ _ _ _ _ _ _ (Act.put _ (some 26) _) _
      simp only [Act.put, List.setIfInBounds_toArray, List.set_cons_zero, List.set_cons_succ]
      refine wpAnyH_ready (rs := [10]) (by kernel_rfl) (by simp) (AllReadyH.cons rfl ?_ AllReadyH.nil)
      intro K hK
      rw [if_pos (by rfl)]
      refine wp_store_row 29 (.tmp 8) (.tmp 25) rfl (w1.heap.size) (da r0) rfl rfl 29 _ za6 (by rw [da_size]; exact info29) (by simp only [da_size]) (da_one _) ?_
      have hb7 : Below w1.heap.size w6 (w6.setRow (w1.heap.size) (da r0)) := below_setRow (Below.refl _ _) ge3
      have DD : Dr (w6.setRow (w1.heap.size) (da r0)) (w1.heap.size) 29 r0 := setRow_heap _ _ _ _ _ _ za6
      have B0_7 : Bk (w6.setRow (w1.heap.size) (da r0)) (w.heap.size) 25 #[.int .i16 s0, .slice A0 l0.length c0] := (setRow_other _ _ _ _ (by have e1 := B0_1.lt; have e2 := ge3; omega)).trans B0_6
      have B1_7 : Bk (w6.setRow (w1.heap.size) (da r0)) (w.heap.size + 1) 27 (da d1) := (setRow_other _ _ _ _ (by have e1 := B1_1.lt; have e2 := ge3; omega)).trans B1_6
      have tb7 := tb6.trans hb7
      refine hK.out _ _ ⟨(B0_7.cell (i := 0) rfl), (B0_7.cell (i := 1) rfl), (show Dr (w6.setRow (w1.heap.size) (da r0)) (w.heap.size + 1) 27 d1 from B1_7).range⟩ (fun hS7 => ?_)
      clear hK K
      refine wpAnyH_take (i := 11) (v := .int .i64 r1) rfl (by kernel_rfl) (by kernel_rfl) (by kernel_rfl) (fun _ _ _ h => h) (Or.inl ⟨by rfl, fun w' _ => by go_simp⟩) hS7 ?_
      change wpAnyH _ _ _ _ _ _ _ (Act.put _ (some 9) _) _
      simp only [Act.put, List.setIfInBounds_toArray, List.set_cons_zero, List.set_cons_succ]
      refine wpAnyH_done (by kernel_rfl) ?_ _
      go_wp2_with fail
      go_meet
      exact ⟨_, _, rfl, rfl, rfl, DD, ge3, tb7⟩
  obtain ⟨rg2, w2, rfl, rfl, rfl, K2, rge2, hb2⟩ := hcut
  have b2 := step_below hb2 b1
  have B0_2 := B0_1.keep hb2
  have B1_2 := B1_1.keep hb2
  have t2 : Below w2.heap.size w2 w2 := Below.refl _ _
  have R2_2 : Bk w2 rg2 29 (da r0) := K2
  have pf27_ := B0_2.cell (i := 0) rfl
  have qf27_ := B0_2.cell (i := 1) rfl
  go_wp2_with fail
  clear pf27_ qf27_
  refine (toFrame_any s0 A0 c0 l0 _ (hA0.below b2) hn0).mono ?_
  rintro e w3 ⟨g3, rfl, hg3, own3, hb3⟩
  have b3 := step_below hb3 b2
  have B0_3 := B0_2.keep hb3
  have B1_3 := B1_2.keep hb3
  have R2_3 := R2_2.keep hb3
  have t3 := step_below hb3 t2
  have gl3 : g3 < w3.heap.size := (own3.lt g3 rfl).2
  have q3_3 := own3
  go_upto_region 7 with fail
  obtain ⟨w4, hX4⟩ : ∃ X, X = w3.alloc (.cells #[.int .i16 s0, .slice (some ⟨g3, 0, none⟩) l0.length l0.length] 34) := ⟨_, rfl⟩
  have hb4 : Below w3.heap.size w3 w4 := by rw [hX4]; exact (Below.refl _ _).alloc (Nat.le_refl _) _
  have K4 : Bk w4 w3.heap.size 34 #[.int .i16 s0, .slice (some ⟨g3, 0, none⟩) l0.length l0.length] := by rw [hX4]; exact Bk.new _ _ _ rfl
  rw [← hX4]
  clear hX4
  have b4 := step_below hb4 b3
  have B0_4 := B0_3.keep hb4
  have B1_4 := B1_3.keep hb4
  have R2_4 := R2_3.keep hb4
  have q3_4 := own_keep q3_3 hb4
  have t4 := step_below hb4 t3
  have Y0_4 := K4
  have yw0 : w3.heap.size < w4.heap.size := K4.lt
  go_upto_region 7 with fail
  go_cut [11, 12] from 29 to 36 (fun a b wx => ∃ (g : Nat) (W : World), a = .pointer (some ⟨g, 0, none⟩) ∧ b = .int .i64 r1 ∧ W = wx ∧ Dr W g 29 r0 ∧ w4.heap.size ≤ g ∧ Below w4.heap.size w4 W)
  case first =>
    have hz := zeroDrum
    have hza : za.size = (da r0).size := by rw [da_size]; rfl
    have hb5 : Below w4.heap.size w4 w4.drew := (Below.refl _ _).drew
    have tb4 : Below w4.heap.size w4 w4 := Below.refl _ _
    have b5 := step_below hb5 b4
    have B0_5 := B0_4.keep hb5
    have B1_5 := B1_4.keep hb5
    have R2_5 := R2_4.keep hb5
    have Y0_5 := Y0_4.keep hb5
    have q3_5 := own_keep q3_4 hb5
    have t5 := step_below hb5 t4
    have tb5 := step_below hb5 tb4
    refine wp_region_held_drew (S := fun w' => w'.rangeAt (w.heap.size + 1) 0 (dv d1) ∧ w'.cell? ⟨w3.heap.size, 0, none⟩ = some (.int .i16 s0) ∧ w'.cell? ⟨w3.heap.size, 1, none⟩ = some (.slice (some ⟨g3, 0, none⟩) l0.length l0.length)) (by kernel_rfl) ⟨(show Dr w4.drew (w.heap.size + 1) 27 d1 from B1_5).range, (Y0_5.cell (i := 0) rfl), (Y0_5.cell (i := 1) rfl)⟩ fun hS5 => ?_
    refine wpAnyH_take (i := 0) (v := .agg #[.int .i16 s0, .slice (some ⟨g3, 0, none⟩) l0.length l0.length]) rfl (by kernel_rfl) (by kernel_rfl) (by kernel_rfl) (fun _ _ _ h => h) (Or.inl ⟨by rfl, fun w' h => ?_⟩) hS5 ?_
    · have c0 := h.2.1
      have c1 := h.2.2
      clear h
      go_simp
    simp only [Act.put, List.setIfInBounds_toArray, List.set_cons_zero, List.set_cons_succ]
    refine wpAnyH_take (i := 1) rfl (by kernel_rfl) (by kernel_rfl) (by kernel_rfl) (fun _ _ _ h => h) (yieldsIf_load_mid (by rfl) _ _ rfl (w.heap.size + 1) 0 rfl (dv d1) _ (fun _ h => h.1) Try.underlying27 rfl (infoLt d1)) hS5 ?_
    simp only [Act.put, List.setIfInBounds_toArray, List.set_cons_zero, List.set_cons_succ]
    refine wpAnyH_take (i := 3) (v := .int .i64 x2) rfl (by kernel_rfl) (by kernel_rfl) (by kernel_rfl) (fun _ _ _ h => h) (Or.inl ⟨by rfl, fun w' _ => by go_simp⟩) hS5 ?_
    change wpAnyH _ _ _ _ _ _ _ (Act.put _ (some 33) _) _
    simp only [Act.put, List.setIfInBounds_toArray, List.set_cons_zero, List.set_cons_succ]
    refine wpAnyH_ready (rs := [2, 8]) (by kernel_rfl) (by simp) (AllReadyH.cons rfl ?_ (AllReadyH.cons rfl ?_ AllReadyH.nil))
    · intro K hK
      rw [if_pos (by rfl)]
      go_simp
      refine (toDrum_any d1 _).mono ?_
      rintro e w6 ⟨rfl, hb6⟩
      have b6 := step_below hb6 b5
      have B0_6 := B0_5.keep hb6
      have B1_6 := B1_5.keep hb6
      have R2_6 := R2_5.keep hb6
      have Y0_6 := Y0_5.keep hb6
      have q3_6 := own_keep q3_5 hb6
      have t6 := step_below hb6 t5
      have tb6 := tb5.trans (hb6.mono tb5.size)
      refine hK.out _ _ ⟨(show Dr w6 (w.heap.size + 1) 27 d1 from B1_6).range, (Y0_6.cell (i := 0) rfl), (Y0_6.cell (i := 1) rfl)⟩ (fun hS6 => ?_)
      clear hK K
      refine wpAnyH_ready (rs := [4, 8]) (by kernel_rfl) (by simp) (AllReadyH.cons rfl ?_ (AllReadyH.cons rfl ?_ AllReadyH.nil))
      · intro K hK
        rw [if_pos (by rfl)]
        go_simp
        refine (KI _ _ (HA.of_own q3_6) ).mono ?_
        rintro e w7 ⟨rfl, hb7⟩
        have b7 := step_below hb7 b6
        have B0_7 := B0_6.keep hb7
        have B1_7 := B1_6.keep hb7
        have R2_7 := R2_6.keep hb7
        have Y0_7 := Y0_6.keep hb7
        have q3_7 := own_keep q3_6 hb7
        have t7 := step_below hb7 t6
        have tb7 := tb6.trans (hb7.mono tb6.size)
        refine hK.out _ _ ⟨(show Dr w7 (w.heap.size + 1) 27 d1 from B1_7).range, (Y0_7.cell (i := 0) rfl), (Y0_7.cell (i := 1) rfl)⟩ (fun hS7 => ?_)
        clear hK K
        refine wpAnyH_take (i := 5) (v := .tuple #[.agg (da r0), .int .i64 r1]) rfl (by kernel_rfl) (by kernel_rfl) (by kernel_rfl) (fun _ _ _ h => h) (Or.inl ⟨by rfl, fun w' _ => by go_simp⟩) hS7 ?_
        change wpAnyH _ _ _ _ _ _ _ (Act.put _ (some 29) _) _
        simp only [Act.put, List.setIfInBounds_toArray, List.set_cons_zero, List.set_cons_succ]
        refine wpAnyH_take (i := 6) (v := .agg (da r0)) rfl (by kernel_rfl) (by kernel_rfl) (by kernel_rfl) (fun _ _ _ h => h) (Or.inl ⟨by rfl, fun w' _ => by go_simp⟩) hS7 ?_
        change wpAnyH _ _ _ _ _ _ _ (Act.put _ (some 35) _) _
        simp only [Act.put, List.setIfInBounds_toArray, List.set_cons_zero, List.set_cons_succ]
        refine wpAnyH_take (i := 7) (v := .int .i64 r1) rfl (by kernel_rfl) (by kernel_rfl) (by kernel_rfl) (fun _ _ _ h => h) (Or.inl ⟨by rfl, fun w' _ => by go_simp⟩) hS7 ?_
        change wpAnyH _ _ _ _ _ _ _ (Act.put _ (some 36) _) _
        simp only [Act.put, List.setIfInBounds_toArray, List.set_cons_zero, List.set_cons_succ]
        refine wpAnyH_ready (rs := [8]) (by kernel_rfl) (by simp) (AllReadyH.cons rfl ?_ AllReadyH.nil)
        obtain ⟨w8, hX8⟩ : ∃ X, X = w7.alloc (.cells za 29) := ⟨_, rfl⟩
        have hb8 : Below w7.heap.size w7 w8 := by rw [hX8]; exact (Below.refl _ _).alloc (Nat.le_refl _) _
        have za8 : Dr w8 w7.heap.size 29 (fun _ => 0) := by rw [hX8, za_eq]; exact heap_new' _ _ _ rfl
        have ge8 : w4.heap.size ≤ w7.heap.size := tb7.size
        intro K hK
        rw [if_pos (by rfl)]
        go_simp
        rw [← hX8]
        clear hX8
        have b8 := step_below hb8 b7
        have B0_8 := B0_7.keep hb8
        have B1_8 := B1_7.keep hb8
        have R2_8 := R2_7.keep hb8
        have Y0_8 := Y0_7.keep hb8
        have q3_8 := own_keep q3_7 hb8
        have t8 := step_below hb8 t7
        have tb8 := tb7.trans (hb8.mono tb7.size)
        refine hK.out _ _ ⟨(show Dr w8 (w.heap.size + 1) 27 d1 from B1_8).range, (Y0_8.cell (i := 0) rfl), (Y0_8.cell (i := 1) rfl)⟩ (fun hS8 => ?_)
        clear hK K
        refine wpAnyH_ready (rs := [9]) (by kernel_rfl) (by simp) (AllReadyH.cons rfl ?_ AllReadyH.nil)
        intro K hK
        rw [if_pos (by rfl)]
        refine wp_store_row 29 (.tmp 11) (.tmp 35) rfl (w7.heap.size) (da r0) rfl rfl 29 _ za8 (by rw [da_size]; exact info29) (by simp only [da_size]) (da_one _) ?_
        have hb9 : Below w4.heap.size w8 (w8.setRow (w7.heap.size) (da r0)) := below_setRow (Below.refl _ _) ge8
        have DD : Dr (w8.setRow (w7.heap.size) (da r0)) (w7.heap.size) 29 r0 := setRow_heap _ _ _ _ _ _ za8
        have B1_9 : Bk (w8.setRow (w7.heap.size) (da r0)) (w.heap.size + 1) 27 (da d1) := (setRow_other _ _ _ _ (by have e1 := B1_4.lt; have e2 := ge8; omega)).trans B1_8
        have Y0_9 : Bk (w8.setRow (w7.heap.size) (da r0)) (w3.heap.size) 34 #[.int .i16 s0, .slice (some ⟨g3, 0, none⟩) l0.length l0.length] := (setRow_other _ _ _ _ (by have e1 := Y0_4.lt; have e2 := ge8; omega)).trans Y0_8
        have tb9 := tb8.trans hb9
        refine hK.out _ _ ⟨(show Dr (w8.setRow (w7.heap.size) (da r0)) (w.heap.size + 1) 27 d1 from B1_9).range, (Y0_9.cell (i := 0) rfl), (Y0_9.cell (i := 1) rfl)⟩ (fun hS9 => ?_)
        clear hK K
        refine wpAnyH_take (i := 10) (v := .int .i64 r1) rfl (by kernel_rfl) (by kernel_rfl) (by kernel_rfl) (fun _ _ _ h => h) (Or.inl ⟨by rfl, fun w' _ => by go_simp⟩) hS9 ?_
        change wpAnyH _ _ _ _ _ _ _ (Act.put _ (some 12) _) _
        simp only [Act.put, List.setIfInBounds_toArray, List.set_cons_zero, List.set_cons_succ]
        refine wpAnyH_done (by kernel_rfl) ?_ _
        go_wp2_with fail
        go_meet
        exact ⟨_, _, rfl, rfl, rfl, DD, ge8, tb9⟩
      · obtain ⟨w7, hX7⟩ : ∃ X, X = w6.alloc (.cells za 29) := ⟨_, rfl⟩
        have hb7 : Below w6.heap.size w6 w7 := by rw [hX7]; exact (Below.refl _ _).alloc (Nat.le_refl _) _
        have za7 : Dr w7 w6.heap.size 29 (fun _ => 0) := by rw [hX7, za_eq]; exact heap_new' _ _ _ rfl
        have ge7 : w4.heap.size ≤ w6.heap.size := tb6.size
        intro K hK
        rw [if_pos (by rfl)]
        go_simp
        rw [← hX7]
        clear hX7
        have b7 := step_below hb7 b6
        have B0_7 := B0_6.keep hb7
        have B1_7 := B1_6.keep hb7
        have R2_7 := R2_6.keep hb7
        have Y0_7 := Y0_6.keep hb7
        have q3_7 := own_keep q3_6 hb7
        have t7 := step_below hb7 t6
        have tb7 := tb6.trans (hb7.mono tb6.size)
        refine hK.out _ _ ⟨(show Dr w7 (w.heap.size + 1) 27 d1 from B1_7).range, (Y0_7.cell (i := 0) rfl), (Y0_7.cell (i := 1) rfl)⟩ (fun hS7 => ?_)
        clear hK K
        refine wpAnyH_ready (rs := [4]) (by kernel_rfl) (by simp) (AllReadyH.cons rfl ?_ AllReadyH.nil)
        intro K hK
        rw [if_pos (by rfl)]
        go_simp
        refine (KI _ _ (HA.of_own q3_7) ).mono ?_
        rintro e w8 ⟨rfl, hb8⟩
        have b8 := step_below hb8 b7
        have B0_8 := B0_7.keep hb8
        have B1_8 := B1_7.keep hb8
        have R2_8 := R2_7.keep hb8
        have Y0_8 := Y0_7.keep hb8
        have q3_8 := own_keep q3_7 hb8
        have t8 := step_below hb8 t7
        have tb8 := tb7.trans (hb8.mono tb7.size)
        have za8 := za7.keep hb8
        refine hK.out _ _ ⟨(show Dr w8 (w.heap.size + 1) 27 d1 from B1_8).range, (Y0_8.cell (i := 0) rfl), (Y0_8.cell (i := 1) rfl)⟩ (fun hS8 => ?_)
        clear hK K
        refine wpAnyH_take (i := 5) (v := .tuple #[.agg (da r0), .int .i64 r1]) rfl (by kernel_rfl) (by kernel_rfl) (by kernel_rfl) (fun _ _ _ h => h) (Or.inl ⟨by rfl, fun w' _ => by go_simp⟩) hS8 ?_
        change wpAnyH _ _ _ _ _ _ _ (Act.put _ (some 29) _) _
        simp only [Act.put, List.setIfInBounds_toArray, List.set_cons_zero, List.set_cons_succ]
        refine wpAnyH_take (i := 6) (v := .agg (da r0)) rfl (by kernel_rfl) (by kernel_rfl) (by kernel_rfl) (fun _ _ _ h => h) (Or.inl ⟨by rfl, fun w' _ => by go_simp⟩) hS8 ?_
        change wpAnyH _ _ _ _ _ _ _ (Act.put _ (some 35) _) _
        simp only [Act.put, List.setIfInBounds_toArray, List.set_cons_zero, List.set_cons_succ]
        refine wpAnyH_take (i := 7) (v := .int .i64 r1) rfl (by kernel_rfl) (by kernel_rfl) (by kernel_rfl) (fun _ _ _ h => h) (Or.inl ⟨by rfl, fun w' _ => by go_simp⟩) hS8 ?_
        change wpAnyH _ _ _ _ _ _ _ (Act.put _ (some 36) _) _
        simp only [Act.put, List.setIfInBounds_toArray, List.set_cons_zero, List.set_cons_succ]
        refine wpAnyH_ready (rs := [9]) (by kernel_rfl) (by simp) (AllReadyH.cons rfl ?_ AllReadyH.nil)
        intro K hK
        rw [if_pos (by rfl)]
        refine wp_store_row 29 (.tmp 11) (.tmp 35) rfl (w6.heap.size) (da r0) rfl rfl 29 _ za8 (by rw [da_size]; exact info29) (by simp only [da_size]) (da_one _) ?_
        have hb9 : Below w4.heap.size w8 (w8.setRow (w6.heap.size) (da r0)) := below_setRow (Below.refl _ _) ge7
        have DD : Dr (w8.setRow (w6.heap.size) (da r0)) (w6.heap.size) 29 r0 := setRow_heap _ _ _ _ _ _ za8
        have B1_9 : Bk (w8.setRow (w6.heap.size) (da r0)) (w.heap.size + 1) 27 (da d1) := (setRow_other _ _ _ _ (by have e1 := B1_4.lt; have e2 := ge7; omega)).trans B1_8
        have Y0_9 : Bk (w8.setRow (w6.heap.size) (da r0)) (w3.heap.size) 34 #[.int .i16 s0, .slice (some ⟨g3, 0, none⟩) l0.length l0.length] := (setRow_other _ _ _ _ (by have e1 := Y0_4.lt; have e2 := ge7; omega)).trans Y0_8
        have tb9 := tb8.trans hb9
        refine hK.out _ _ ⟨(show Dr (w8.setRow (w6.heap.size) (da r0)) (w.heap.size + 1) 27 d1 from B1_9).range, (Y0_9.cell (i := 0) rfl), (Y0_9.cell (i := 1) rfl)⟩ (fun hS9 => ?_)
        clear hK K
        refine wpAnyH_take (i := 10) (v := .int .i64 r1) rfl (by kernel_rfl) (by kernel_rfl) (by kernel_rfl) (fun _ _ _ h => h) (Or.inl ⟨by rfl, fun w' _ => by go_simp⟩) hS9 ?_
        change wpAnyH _ _ _ _ _ _ _ (Act.put _ (some 12) _) _
        simp only [Act.put, List.setIfInBounds_toArray, List.set_cons_zero, List.set_cons_succ]
        refine wpAnyH_done (by kernel_rfl) ?_ _
        go_wp2_with fail
        go_meet
        exact ⟨_, _, rfl, rfl, rfl, DD, ge7, tb9⟩
    · obtain ⟨w6, hX6⟩ : ∃ X, X = (w4.alloc (.cells za 29)).drew := ⟨_, rfl⟩
      have hb6 : Below w4.drew.heap.size w4.drew w6 := by rw [hX6]; exact (Below.refl _ _).alloc (Nat.le_refl _) _
      have za6 : Dr w6 w4.heap.size 29 (fun _ => 0) := by rw [hX6, za_eq]; exact heap_new' _ _ _ rfl
      have ge6 : w4.heap.size ≤ w4.heap.size := tb5.size
      intro K hK
      rw [if_pos (by rfl)]
      go_simp
      rw [← hX6]
      clear hX6
      have b6 := step_below hb6 b5
      have B0_6 := B0_5.keep hb6
      have B1_6 := B1_5.keep hb6
      have R2_6 := R2_5.keep hb6
      have Y0_6 := Y0_5.keep hb6
      have q3_6 := own_keep q3_5 hb6
      have t6 := step_below hb6 t5
      have tb6 := tb5.trans (hb6.mono tb5.size)
      refine hK.out _ _ ⟨(show Dr w6 (w.heap.size + 1) 27 d1 from B1_6).range, (Y0_6.cell (i := 0) rfl), (Y0_6.cell (i := 1) rfl)⟩ (fun hS6 => ?_)
      clear hK K
      refine wpAnyH_ready (rs := [2]) (by kernel_rfl) (by simp) (AllReadyH.cons rfl ?_ AllReadyH.nil)
      intro K hK
      rw [if_pos (by rfl)]
      go_simp
      refine (toDrum_any d1 _).mono ?_
      rintro e w7 ⟨rfl, hb7⟩
      have b7 := step_below hb7 b6
      have B0_7 := B0_6.keep hb7
      have B1_7 := B1_6.keep hb7
      have R2_7 := R2_6.keep hb7
      have Y0_7 := Y0_6.keep hb7
      have q3_7 := own_keep q3_6 hb7
      have t7 := step_below hb7 t6
      have tb7 := tb6.trans (hb7.mono tb6.size)
      have za7 := za6.keep hb7
      refine hK.out _ _ ⟨(show Dr w7 (w.heap.size + 1) 27 d1 from B1_7).range, (Y0_7.cell (i := 0) rfl), (Y0_7.cell (i := 1) rfl)⟩ (fun hS7 => ?_)
      clear hK K
      refine wpAnyH_ready (rs := [4]) (by kernel_rfl) (by simp) (AllReadyH.cons rfl ?_ AllReadyH.nil)
      intro K hK
      rw [if_pos (by rfl)]
      go_simp
      refine (KI _ _ (HA.of_own q3_7) ).mono ?_
      rintro e w8 ⟨rfl, hb8⟩
      have b8 := step_below hb8 b7
      have B0_8 := B0_7.keep hb8
      have B1_8 := B1_7.keep hb8
      have R2_8 := R2_7.keep hb8
      have Y0_8 := Y0_7.keep hb8
      have q3_8 := own_keep q3_7 hb8
      have t8 := step_below hb8 t7
      have tb8 := tb7.trans (hb8.mono tb7.size)
      have za8 := za7.keep hb8
      refine hK.out _ _ ⟨(show Dr w8 (w.heap.size + 1) 27 d1 from B1_8).range, (Y0_8.cell (i := 0) rfl), (Y0_8.cell (i := 1) rfl)⟩ (fun hS8 => ?_)
      clear hK K
      refine wpAnyH_take (i := 5) (v := .tuple #[.agg (da r0), .int .i64 r1]) rfl (by kernel_rfl) (by kernel_rfl) (by kernel_rfl) (fun _ _ _ h => h) (Or.inl ⟨by rfl, fun w' _ => by go_simp⟩) hS8 ?_
      change wpAnyH _ _ _ _ _ _ _ (Act.put _ (some 29) _) _
      simp only [Act.put, List.setIfInBounds_toArray, List.set_cons_zero, List.set_cons_succ]
      refine wpAnyH_take (i := 6) (v := .agg (da r0)) rfl (by kernel_rfl) (by kernel_rfl) (by kernel_rfl) (fun _ _ _ h => h) (Or.inl ⟨by rfl, fun w' _ => by go_simp⟩) hS8 ?_
      change wpAnyH _ _ _ _ _ _ _ (Act.put _ (some 35) _) _
      simp only [Act.put, List.setIfInBounds_toArray, List.set_cons_zero, List.set_cons_succ]
      refine wpAnyH_take (i := 7) (v := .int .i64 r1) rfl (by kernel_rfl) (by kernel_rfl) (by kernel_rfl) (fun _ _ _ h => h) (Or.inl ⟨by rfl, fun w' _ => by go_simp⟩) hS8 ?_
      change wpAnyH _ _ _ _ _ _ _ (Act.put _ (some 36) _) _
      simp only [Act.put, List.setIfInBounds_toArray, List.set_cons_zero, List.set_cons_succ]
      refine wpAnyH_ready (rs := [9]) (by kernel_rfl) (by simp) (AllReadyH.cons rfl ?_ AllReadyH.nil)
      intro K hK
      rw [if_pos (by rfl)]
      refine wp_store_row 29 (.tmp 11) (.tmp 35) rfl (w4.heap.size) (da r0) rfl rfl 29 _ za8 (by rw [da_size]; exact info29) (by simp only [da_size]) (da_one _) ?_
      have hb9 : Below w4.heap.size w8 (w8.setRow (w4.heap.size) (da r0)) := below_setRow (Below.refl _ _) ge6
      have DD : Dr (w8.setRow (w4.heap.size) (da r0)) (w4.heap.size) 29 r0 := setRow_heap _ _ _ _ _ _ za8
      have B1_9 : Bk (w8.setRow (w4.heap.size) (da r0)) (w.heap.size + 1) 27 (da d1) := (setRow_other _ _ _ _ (by have e1 := B1_4.lt; have e2 := ge6; omega)).trans B1_8
      have Y0_9 : Bk (w8.setRow (w4.heap.size) (da r0)) (w3.heap.size) 34 #[.int .i16 s0, .slice (some ⟨g3, 0, none⟩) l0.length l0.length] := (setRow_other _ _ _ _ (by have e1 := Y0_4.lt; have e2 := ge6; omega)).trans Y0_8
      have tb9 := tb8.trans hb9
      refine hK.out _ _ ⟨(show Dr (w8.setRow (w4.heap.size) (da r0)) (w.heap.size + 1) 27 d1 from B1_9).range, (Y0_9.cell (i := 0) rfl), (Y0_9.cell (i := 1) rfl)⟩ (fun hS9 => ?_)
      clear hK K
      refine wpAnyH_take (i := 10) (v := .int .i64 r1) rfl (by kernel_rfl) (by kernel_rfl) (by kernel_rfl) (fun _ _ _ h => h) (Or.inl ⟨by rfl, fun w' _ => by go_simp⟩) hS9 ?_
      change wpAnyH _ _ _ _ _ _ _ (Act.put _ (some 12) _) _
      simp only [Act.put, List.setIfInBounds_toArray, List.set_cons_zero, List.set_cons_succ]
      refine wpAnyH_done (by kernel_rfl) ?_ _
      go_wp2_with fail
      go_meet
      exact ⟨_, _, rfl, rfl, rfl, DD, ge6, tb9⟩
  obtain ⟨rg5, w5, rfl, rfl, rfl, K5, rge5, hb5⟩ := hcut
  have b5 := step_below hb5 b4
  have B0_5 := B0_4.keep hb5
  have B1_5 := B1_4.keep hb5
  have R2_5 := R2_4.keep hb5
  have Y0_5 := Y0_4.keep hb5
  have q3_5 := own_keep q3_4 hb5
  have t5 := step_below hb5 t4
  have R5_5 : Bk w5 rg5 29 (da r0) := K5
  have HD37_ := hide (show Dr w5 (rg5) 29 r0 from R5_5).range
  have HD38_ := hide (show Dr w5 (rg2) 29 r0 from R2_5).range
  go_wp2_with (first | (with_reducible refine wpList_load_da rfl 29 (.tmp 11) rfl (rg5) 0 rfl r0 _ HD37_.out Try.underlying29 rfl (dInfo r0) ?_) | (with_reducible refine wpList_load_da rfl 29 (.tmp 8) rfl (rg2) 0 rfl r0 _ HD38_.out Try.underlying29 rfl (dInfo r0) ?_))
  clear HD37_ HD38_
  refine (eqDrum_any r0 _).mono ?_
  rintro e w6 ⟨rfl, hb6⟩
  have b6 := step_below hb6 b5
  have B0_6 := B0_5.keep hb6
  have B1_6 := B1_5.keep hb6
  have R2_6 := R2_5.keep hb6
  have Y0_6 := Y0_5.keep hb6
  have R5_6 := R5_5.keep hb6
  have q3_6 := own_keep q3_5 hb6
  have t6 := step_below hb6 t5
  go_wp2_with fail
  have hb7 : Below w6.heap.size w6 w6.drew := (Below.refl _ _).drew
  have b7 := step_below hb7 b6
  have B0_7 := B0_6.keep hb7
  have B1_7 := B1_6.keep hb7
  have R2_7 := R2_6.keep hb7
  have Y0_7 := Y0_6.keep hb7
  have R5_7 := R5_6.keep hb7
  have q3_7 := own_keep q3_6 hb7
  have t7 := step_below hb7 t6
  refine wp_region_held_drew (S := fun w' => w'.cell? ⟨w3.heap.size, 0, none⟩ = some (.int .i16 s0) ∧ w'.cell? ⟨w3.heap.size, 1, none⟩ = some (.slice (some ⟨g3, 0, none⟩) l0.length l0.length) ∧ w'.cell? ⟨w.heap.size, 0, none⟩ = some (.int .i16 s0) ∧ w'.cell? ⟨w.heap.size, 1, none⟩ = some (.slice A0 l0.length c0)) (by kernel_rfl) ⟨(Y0_7.cell (i := 0) rfl), (Y0_7.cell (i := 1) rfl), (B0_7.cell (i := 0) rfl), (B0_7.cell (i := 1) rfl)⟩ fun hS7 => ?_
  refine wpAnyH_take (i := 0) (v := .agg #[.int .i16 s0, .slice (some ⟨g3, 0, none⟩) l0.length l0.length]) rfl (by kernel_rfl) (by kernel_rfl) (by kernel_rfl) (fun _ _ _ h => h) (Or.inl ⟨by rfl, fun w' h => ?_⟩) hS7 ?_
  · have c0 := h.1
    have c1 := h.2.1
    clear h
    go_simp
  simp only [Act.put, List.setIfInBounds_toArray, List.set_cons_zero, List.set_cons_succ]
  refine wpAnyH_take (i := 1) (v := .agg #[.int .i16 s0, .slice A0 l0.length c0]) rfl (by kernel_rfl) (by kernel_rfl) (by kernel_rfl) (fun _ _ _ h => h) (Or.inl ⟨by rfl, fun w' h => ?_⟩) hS7 ?_
  · have c0 := h.2.2.1
    have c1 := h.2.2.2
    clear h
    go_simp
  simp only [Act.put, List.setIfInBounds_toArray, List.set_cons_zero, List.set_cons_succ]
  refine wpAnyH_ready (rs := [2]) (by kernel_rfl) (by simp) (AllReadyH.cons rfl ?_ AllReadyH.nil)
  intro K hK
  rw [if_pos (by rfl)]
  go_simp
  refine (toFrame_any s0 A0 c0 l0 _ (hA0.below b7) hn0).mono ?_
  rintro e w8 ⟨g8, rfl, hg8, own8, hb8⟩
  have b8 := step_below hb8 b7
  have B0_8 := B0_7.keep hb8
  have B1_8 := B1_7.keep hb8
  have R2_8 := R2_7.keep hb8
  have Y0_8 := Y0_7.keep hb8
  have R5_8 := R5_7.keep hb8
  have q3_8 := own_keep q3_7 hb8
  have t8 := step_below hb8 t7
  have gl8 : g8 < w8.heap.size := (own8.lt g8 rfl).2
  have q8_8 := own8
  refine hK.out _ _ ⟨(Y0_8.cell (i := 0) rfl), (Y0_8.cell (i := 1) rfl), (B0_8.cell (i := 0) rfl), (B0_8.cell (i := 1) rfl)⟩ (fun hS8 => ?_)
  clear hK K
  refine wpAnyH_ready (rs := [3]) (by kernel_rfl) (by simp) (AllReadyH.cons rfl ?_ AllReadyH.nil)
  intro K hK
  rw [if_pos (by rfl)]
  go_simp
  refine (eqFrame_any s0 _ _ _ _ l0 _ (HA.of_own q3_8) (HA.of_own q8_8) hn0).mono ?_
  rintro e w9 ⟨rfl, hb9⟩
  have b9 := step_below hb9 b8
  have B0_9 := B0_8.keep hb9
  have B1_9 := B1_8.keep hb9
  have R2_9 := R2_8.keep hb9
  have Y0_9 := Y0_8.keep hb9
  have R5_9 := R5_8.keep hb9
  have q3_9 := own_keep q3_8 hb9
  have t9 := step_below hb9 t8
  refine hK.out _ _ ⟨(Y0_9.cell (i := 0) rfl), (Y0_9.cell (i := 1) rfl), (B0_9.cell (i := 0) rfl), (B0_9.cell (i := 1) rfl)⟩ (fun hS9 => ?_)
  clear hK K
  refine wpAnyH_take (i := 4) (v := .bool false) rfl (by kernel_rfl) (by kernel_rfl) (by kernel_rfl) (fun _ _ _ h => h) (Or.inl ⟨by rfl, fun w' _ => by go_simp⟩) hS9 ?_
  change wpAnyH _ _ _ _ _ _ _ (Act.put _ (some 50) _) _
  simp only [Act.put, List.setIfInBounds_toArray, List.set_cons_zero, List.set_cons_succ]
  refine wpAnyH_done (by kernel_rfl) ?_ _
  go_wp2
  go_ret
  exact ⟨rfl, b9⟩
theorem lawTurnDrum_any (s0 : Int) (A0 : Option Addr) (c0 : Nat) (l0 : List (Int × Int)) (d1 : Nat → Int) (x2 : Int) (w : World) (hA0 : HA w A0 l0) (hwf0 : HWF l0) (hs0 : -32768 ≤ s0 ∧ s0 ≤ 32767) (hd1 : DWF d1) (hm0 : l0.length ≤ maxLen) (_hx2 : -9223372036854775808 ≤ x2 ∧ x2 ≤ 9223372036854775807) :
    Calls Try.prog 3 #[.agg #[.int .i16 s0, .slice A0 l0.length c0], .agg (da d1), .int .i64 x2] w (Says true w) := by
  rcases Nat.lt_or_ge 1048576 (l0.length) with h0 | h0
  · exact lawTurnDrum_big0 s0 A0 c0 l0 d1 x2 w  h0 hm0
  exact lawTurnDrum_small s0 A0 c0 l0 d1 x2 w hA0 hwf0 hs0 hd1 h0 hm0 
end Go.Proofs.Ytncdgjaadlpncaa
