import Derived.Test.YtakdnmakgblamaaLwf
import Derived.Test.YtakdnmakgblamaaDwi
import Derived.Test.YtakdnmakgblamaaEqd
import Derived.Test.YtakdnmakgblamaaRw
import Derived.Deep.RegionHeld3
import Derived.Deep.CutRange
namespace Go.Proofs.Ytakdnmakgblamaa
open Go.RowKit

set_option maxRecDepth 20000 in
set_option maxHeartbeats 1000000 in
theorem lawDrumOfWear_big0 (s0 : Int) (A0 : Option Addr) (c0 : Nat) (l0 : List (Int × Int)) (A1 : Option Addr) (c1 : Nat) (l1 : List (Int × Int × Int)) (U1 : Option Addr) (v1 : Nat) (z1 : List Int) (w : World)  (hbg : 1048576 < l0.length) (hm0 : l0.length ≤ maxLen) (hm1 : l1.length ≤ maxLen ∧ z1.length ≤ maxLen) :
    Calls Try.prog 6 #[.agg #[.int .i16 s0, .slice A0 l0.length c0], .agg #[.slice A1 l1.length c1, .slice U1 z1.length v1]] w (Says true w) := by
  obtain ⟨X0, hX0⟩ : ∃ X, X = ((w.alloc (.cells #[.int .i16 s0, .slice A0 l0.length c0] 31)).alloc (.cells #[.slice A1 l1.length c1, .slice U1 z1.length v1] 35)) := ⟨_, rfl⟩
  have b0 : Below w.heap.size w X0 := by rw [hX0]; exact (((Below.refl _ _).alloc (Nat.le_refl _) _).alloc (by simp) _)
  have B0_0 : Bk X0 (w.heap.size) 31 #[.int .i16 s0, .slice A0 l0.length c0] := by rw [hX0]; exact Bk.new _ _ _ rfl |>.old _
  have bw0 : w.heap.size < X0.heap.size := B0_0.lt
  have B1_0 : Bk X0 (w.heap.size + 1) 35 #[.slice A1 l1.length c1, .slice U1 z1.length v1] := by rw [hX0]; exact Bk.new _ _ _ (by simp)
  have bw1 : w.heap.size + 1 < X0.heap.size := B1_0.lt
  go_enter Try.func6, Try.ntmps6
  go_upto_region 1 with fail
  rw [← hX0]
  clear hX0
  have pf12_ := B0_0.cell (i := 0) rfl
  have qf12_ := B0_0.cell (i := 1) rfl
  go_wp2_with fail
  clear pf12_ qf12_
  refine (szFrame_at_big s0 A0 l0.length c0 (1048576) (by omega) (by omega) hm0 (by omega) _).mono ?_
  rintro e w1 ⟨rfl, hb1⟩
  have b1 := step_below hb1 b0
  go_wp2
  go_ret
  exact ⟨rfl, b1⟩
set_option maxRecDepth 20000 in
set_option maxHeartbeats 1000000 in
theorem lawDrumOfWear_big1 (s0 : Int) (A0 : Option Addr) (c0 : Nat) (l0 : List (Int × Int)) (A1 : Option Addr) (c1 : Nat) (l1 : List (Int × Int × Int)) (U1 : Option Addr) (v1 : Nat) (z1 : List Int) (w : World) (hc0 : l0.length ≤ 1048576) (hbg : 1048576 < l0.length + (l1.length + z1.length)) (hm0 : l0.length ≤ maxLen) (hm1 : l1.length ≤ maxLen ∧ z1.length ≤ maxLen) :
    Calls Try.prog 6 #[.agg #[.int .i16 s0, .slice A0 l0.length c0], .agg #[.slice A1 l1.length c1, .slice U1 z1.length v1]] w (Says true w) := by
  obtain ⟨X0, hX0⟩ : ∃ X, X = ((w.alloc (.cells #[.int .i16 s0, .slice A0 l0.length c0] 31)).alloc (.cells #[.slice A1 l1.length c1, .slice U1 z1.length v1] 35)) := ⟨_, rfl⟩
  have b0 : Below w.heap.size w X0 := by rw [hX0]; exact (((Below.refl _ _).alloc (Nat.le_refl _) _).alloc (by simp) _)
  have B0_0 : Bk X0 (w.heap.size) 31 #[.int .i16 s0, .slice A0 l0.length c0] := by rw [hX0]; exact Bk.new _ _ _ rfl |>.old _
  have bw0 : w.heap.size < X0.heap.size := B0_0.lt
  have B1_0 : Bk X0 (w.heap.size + 1) 35 #[.slice A1 l1.length c1, .slice U1 z1.length v1] := by rw [hX0]; exact Bk.new _ _ _ (by simp)
  have bw1 : w.heap.size + 1 < X0.heap.size := B1_0.lt
  go_enter Try.func6, Try.ntmps6
  go_upto_region 1 with fail
  rw [← hX0]
  clear hX0
  have pf12_ := B0_0.cell (i := 0) rfl
  have qf12_ := B0_0.cell (i := 1) rfl
  go_wp2_with fail
  clear pf12_ qf12_
  refine (szFrame_at_small s0 A0 l0.length c0 (1048576) (by omega) (by omega) hm0 (by omega) _).mono ?_
  rintro e w1 ⟨rfl, hb1⟩
  have b1 := step_below hb1 b0
  have B0_1 := B0_0.keep hb1
  have B1_1 := B1_0.keep hb1
  have pf17_ := B1_1.cell (i := 0) rfl
  have qf17_ := B1_1.cell (i := 1) rfl
  go_wp2_with fail
  clear pf17_ qf17_
  refine (szWear_big A1 l1.length c1 U1 z1.length v1 (1048576 - (l0.length : Int)) (by omega) (by omega) hm1.1 hm1.2 (by omega) _).mono ?_
  rintro e w2 ⟨rfl, hb2⟩
  have b2 := step_below hb2 b1
  go_wp2
  go_ret
  exact ⟨rfl, b2⟩
set_option maxRecDepth 20000 in
set_option maxHeartbeats 16000000 in
theorem lawDrumOfWear_small (s0 : Int) (A0 : Option Addr) (c0 : Nat) (l0 : List (Int × Int)) (A1 : Option Addr) (c1 : Nat) (l1 : List (Int × Int × Int)) (U1 : Option Addr) (v1 : Nat) (z1 : List Int) (w : World) (hA0 : HA w A0 l0) (hwf0 : HWF l0) (hs0 : -32768 ≤ s0 ∧ s0 ≤ 32767) (hA1 : WnA w A1 l1) (hU1 : SZ w U1 z1) (hwf1 : WnWF l1) (hzwf1 : ZWF z1) (hc0 : l0.length ≤ 1048576) (hc1 : l0.length + (l1.length + z1.length) ≤ 1048576) (hm0 : l0.length ≤ maxLen) (hm1 : l1.length ≤ maxLen ∧ z1.length ≤ maxLen) :
    Calls Try.prog 6 #[.agg #[.int .i16 s0, .slice A0 l0.length c0], .agg #[.slice A1 l1.length c1, .slice U1 z1.length v1]] w (Says true w) := by
  have hn0 : l0.length ≤ 1048576 := by omega
  have hn1 : l1.length ≤ 1048576 ∧ z1.length ≤ 1048576 := ⟨by omega, by omega⟩
  obtain ⟨r0, hr0⟩ : ∃ r : Nat → Int, r = dwR s0 l0 l1 z1 := ⟨_, rfl⟩
  obtain ⟨r1, hr1⟩ : ∃ r : Int, r = dwC s0 l0 l1 z1 := ⟨_, rfl⟩
  have KS : ∀ (E0 : Option Addr) (E1 O1 : Option Addr) (W : World), HA W E0 l0 → WnA W E1 l1 → SZ W O1 z1 → Calls Try.prog 24 #[.agg #[.int .i16 s0, .slice E0 l0.length l0.length], .agg #[.slice E1 l1.length l1.length, .slice O1 z1.length z1.length]] W (fun e w' => e = .returned (.tuple #[.agg (da r0), .int .i64 r1]) ∧ Below W.heap.size W w') := fun E0 E1 O1 W h0 h1 h1z => by rw [hr0, hr1]; exact specDrumOfWear_any s0 E0 l0.length l0 E1 l1.length l1 O1 z1.length z1 W h0 hn0 hwf0 hs0 h1 h1z hn1.1 hn1.2 hwf1 hzwf1
  have KI : ∀ (E0 : Option Addr) (E1 O1 : Option Addr) (W : World), HA W E0 l0 → WnA W E1 l1 → SZ W O1 z1 → Calls Try.prog 25 #[.agg #[.int .i16 s0, .slice E0 l0.length l0.length], .agg #[.slice E1 l1.length l1.length, .slice O1 z1.length z1.length]] W (fun e w' => e = .returned (.tuple #[.agg (da r0), .int .i64 r1]) ∧ Below W.heap.size W w') := fun E0 E1 O1 W h0 h1 h1z => by rw [hr0, hr1]; exact implDrumOfWear_any s0 E0 l0.length l0 E1 l1.length l1 O1 z1.length z1 W h0 hn0 hwf0 hs0 h1 h1z hn1.1 hn1.2 hwf1 hzwf1
  clear hr0 hr1
  obtain ⟨X0, hX0⟩ : ∃ X, X = ((w.alloc (.cells #[.int .i16 s0, .slice A0 l0.length c0] 31)).alloc (.cells #[.slice A1 l1.length c1, .slice U1 z1.length v1] 35)) := ⟨_, rfl⟩
  have b0 : Below w.heap.size w X0 := by rw [hX0]; exact (((Below.refl _ _).alloc (Nat.le_refl _) _).alloc (by simp) _)
  have B0_0 : Bk X0 (w.heap.size) 31 #[.int .i16 s0, .slice A0 l0.length c0] := by rw [hX0]; exact Bk.new _ _ _ rfl |>.old _
  have bw0 : w.heap.size < X0.heap.size := B0_0.lt
  have B1_0 : Bk X0 (w.heap.size + 1) 35 #[.slice A1 l1.length c1, .slice U1 z1.length v1] := by rw [hX0]; exact Bk.new _ _ _ (by simp)
  have bw1 : w.heap.size + 1 < X0.heap.size := B1_0.lt
  go_enter Try.func6, Try.ntmps6
  go_upto_region 1 with fail
  rw [← hX0]
  clear hX0
  have pf12_ := B0_0.cell (i := 0) rfl
  have qf12_ := B0_0.cell (i := 1) rfl
  go_wp2_with fail
  clear pf12_ qf12_
  refine (szFrame_at_small s0 A0 l0.length c0 (1048576) (by omega) (by omega) hm0 (by omega) _).mono ?_
  rintro e w1 ⟨rfl, hb1⟩
  have b1 := step_below hb1 b0
  have B0_1 := B0_0.keep hb1
  have B1_1 := B1_0.keep hb1
  have pf17_ := B1_1.cell (i := 0) rfl
  have qf17_ := B1_1.cell (i := 1) rfl
  clear B0_0 B1_0 b0 hb1
  go_wp2_with fail
  clear pf17_ qf17_
  refine (szWear_small A1 l1.length c1 U1 z1.length v1 (1048576 - (l0.length : Int)) (by omega) (by omega) hm1.1 hm1.2 (by omega) _).mono ?_
  rintro e w2 ⟨rfl, hb2⟩
  have b2 := step_below hb2 b1
  have B0_2 := B0_1.keep hb2
  have B1_2 := B1_1.keep hb2
  clear B0_1 B1_1 b1 hb2
  go_upto_region 8 with fail
  go_cut [6, 7] from 22 to 29 (fun a b wx => ∃ (g : Nat) (W : World), a = .pointer (some ⟨g, 0, none⟩) ∧ b = .int .i64 r1 ∧ W = wx ∧ Dr W g 53 r0 ∧ w2.heap.size ≤ g ∧ Below w2.heap.size w2 W)
  case first =>
    have hz := zeroDrum
    have hza : za.size = (da r0).size := by rw [da_size]; rfl
    have hb3 : Below w2.heap.size w2 w2.drew := (Below.refl _ _).drew
    have tb2 : Below w2.heap.size w2 w2 := Below.refl _ _
    have b3 := step_below hb3 b2
    have B0_3 := B0_2.keep hb3
    have B1_3 := B1_2.keep hb3
    have tb3 := step_below hb3 tb2
    clear b2 hb3 tb2
    refine wp_region_held_drew (S := fun w' => w'.cell? ⟨w.heap.size, 0, none⟩ = some (.int .i16 s0) ∧ w'.cell? ⟨w.heap.size, 1, none⟩ = some (.slice A0 l0.length c0) ∧ w'.cell? ⟨w.heap.size + 1, 0, none⟩ = some (.slice A1 l1.length c1) ∧ w'.cell? ⟨w.heap.size + 1, 1, none⟩ = some (.slice U1 z1.length v1)) (by kernel_rfl) ⟨(B0_3.cell (i := 0) rfl), (B0_3.cell (i := 1) rfl), (B1_3.cell (i := 0) rfl), (B1_3.cell (i := 1) rfl)⟩ fun hS3 => ?_
    refine wpAnyH_take (i := 0) (v := .agg #[.int .i16 s0, .slice A0 l0.length c0]) rfl (by kernel_rfl) (by kernel_rfl) (by kernel_rfl) (fun _ _ _ h => h) (Or.inl ⟨by rfl, fun w' h => ?_⟩) hS3 ?_
    · have c0 := h.1
      have c1 := h.2.1
      clear h
      go_simp
    simp only [Act.put, List.setIfInBounds_toArray, List.set_cons_zero, List.set_cons_succ]
    refine wpAnyH_take (i := 2) (v := .agg #[.slice A1 l1.length c1, .slice U1 z1.length v1]) rfl (by kernel_rfl) (by kernel_rfl) (by kernel_rfl) (fun _ _ _ h => h) (Or.inl ⟨by rfl, fun w' h => ?_⟩) hS3 ?_
    · have c0 := h.2.2.1
      have c1 := h.2.2.2
      clear h
      go_simp
    simp only [Act.put, List.setIfInBounds_toArray, List.set_cons_zero, List.set_cons_succ]
    refine wpAnyH_ready (rs := [1, 8]) (by kernel_rfl) (by simp) (AllReadyH.cons rfl ?_ (AllReadyH.cons rfl ?_ AllReadyH.nil))
    · intro K hK
      rw [if_pos (by rfl)]
      go_simp
      refine (toFrame_any s0 A0 c0 l0 _ (hA0.below b3) hn0).mono ?_
      rintro e w4 ⟨g4, rfl, hg4, own4, hb4⟩
      have b4 := step_below hb4 b3
      have B0_4 := B0_3.keep hb4
      have B1_4 := B1_3.keep hb4
      have gl4 : g4 < w4.heap.size := (own4.lt g4 rfl).2
      have q4_4 := own4
      have tb4 := tb3.trans (hb4.mono tb3.size)
      clear B0_3 B1_3 b3 hb4 own4 tb3
      refine hK.out _ _ ⟨(B0_4.cell (i := 0) rfl), (B0_4.cell (i := 1) rfl), (B1_4.cell (i := 0) rfl), (B1_4.cell (i := 1) rfl)⟩ (fun hS4 => ?_)
      clear hK K
      refine wpAnyH_ready (rs := [3, 8]) (by kernel_rfl) (by simp) (AllReadyH.cons rfl ?_ (AllReadyH.cons rfl ?_ AllReadyH.nil))
      · intro K hK
        rw [if_pos (by rfl)]
        go_simp
        refine (toWear_any A1 c1 l1 U1 v1 z1 _ (hA1.below b4) (hU1.below b4) hn1.1 hn1.2).mono ?_
        rintro e w5 ⟨g5, m5, rfl, hg5, hgm5, own5, owm5, hb5⟩
        have b5 := step_below hb5 b4
        have B0_5 := B0_4.keep hb5
        have B1_5 := B1_4.keep hb5
        have q4_5 := own_keep q4_4 hb5
        have gl5 : g5 < w5.heap.size := (own5.lt g5 rfl).2
        have gm5 : m5 < w5.heap.size := (owm5.lt m5 rfl).2
        have q5_5 := own5
        have d5_5 := owm5
        have tb5 := tb4.trans (hb5.mono tb4.size)
        clear B0_4 B1_4 b4 hb5 own5 q4_4 tb4
        refine hK.out _ _ ⟨(B0_5.cell (i := 0) rfl), (B0_5.cell (i := 1) rfl), (B1_5.cell (i := 0) rfl), (B1_5.cell (i := 1) rfl)⟩ (fun hS5 => ?_)
        clear hK K
        refine wpAnyH_ready (rs := [4, 8]) (by kernel_rfl) (by simp) (AllReadyH.cons rfl ?_ (AllReadyH.cons rfl ?_ AllReadyH.nil))
        · clear b5
          intro K hK
          rw [if_pos (by rfl)]
          go_simp
          refine (KS _ _ _ _ (HA.of_own q4_5) (WnA.of_own q5_5) (SZ.of_own d5_5) ).mono ?_
          rintro e w6 ⟨rfl, hb6⟩
          have B0_6 := B0_5.keep hb6
          have B1_6 := B1_5.keep hb6
          have tb6 := tb5.trans (hb6.mono tb5.size)
          clear B0_5 B1_5 d5_5 hb6 q4_5 q5_5 tb5
          refine hK.out _ _ ⟨(B0_6.cell (i := 0) rfl), (B0_6.cell (i := 1) rfl), (B1_6.cell (i := 0) rfl), (B1_6.cell (i := 1) rfl)⟩ (fun hS6 => ?_)
          clear hK K
          refine wpAnyH_take (i := 5) (v := .tuple #[.agg (da r0), .int .i64 r1]) rfl (by kernel_rfl) (by kernel_rfl) (by kernel_rfl) (fun _ _ _ h => h) (Or.inl ⟨by rfl, fun w' _ => by go_simp⟩) hS6 ?_
          change wpAnyH _ _ _ _ _ _ _ (Act.put _ (some 22) _) _
          simp only [Act.put, List.setIfInBounds_toArray, List.set_cons_zero, List.set_cons_succ]
          refine wpAnyH_take (i := 6) (v := .agg (da r0)) rfl (by kernel_rfl) (by kernel_rfl) (by kernel_rfl) (fun _ _ _ h => h) (Or.inl ⟨by rfl, fun w' _ => by go_simp⟩) hS6 ?_
          change wpAnyH _ _ _ _ _ _ _ (Act.put _ (some 28) _) _
          simp only [Act.put, List.setIfInBounds_toArray, List.set_cons_zero, List.set_cons_succ]
          refine wpAnyH_take (i := 7) (v := .int .i64 r1) rfl (by kernel_rfl) (by kernel_rfl) (by kernel_rfl) (fun _ _ _ h => h) (Or.inl ⟨by rfl, fun w' _ => by go_simp⟩) hS6 ?_
          change wpAnyH _ _ _ _ _ _ _ (Act.put _ (some 29) _) _
          simp only [Act.put, List.setIfInBounds_toArray, List.set_cons_zero, List.set_cons_succ]
          refine wpAnyH_ready (rs := [8]) (by kernel_rfl) (by simp) (AllReadyH.cons rfl ?_ AllReadyH.nil)
          obtain ⟨w7, hX7⟩ : ∃ X, X = w6.alloc (.cells za 53) := ⟨_, rfl⟩
          have hb7 : Below w6.heap.size w6 w7 := by rw [hX7]; exact (Below.refl _ _).alloc (Nat.le_refl _) _
          have za7 : Dr w7 w6.heap.size 53 (fun _ => 0) := by rw [hX7, za_eq]; exact heap_new' _ _ _ rfl
          have ge7 : w2.heap.size ≤ w6.heap.size := tb6.size
          intro K hK
          rw [if_pos (by rfl)]
          go_simp
          rw [← hX7]
          clear hX7
          have B0_7 := B0_6.keep hb7
          have B1_7 := B1_6.keep hb7
          have tb7 := tb6.trans (hb7.mono tb6.size)
          clear B0_6 B1_6 hb7 tb6
          refine hK.out _ _ ⟨(B0_7.cell (i := 0) rfl), (B0_7.cell (i := 1) rfl), (B1_7.cell (i := 0) rfl), (B1_7.cell (i := 1) rfl)⟩ (fun hS7 => ?_)
          clear hK K
          refine wpAnyH_ready (rs := [9]) (by kernel_rfl) (by simp) (AllReadyH.cons rfl ?_ AllReadyH.nil)
          intro K hK
          rw [if_pos (by rfl)]
          refine wp_store_row 53 (.tmp 6) (.tmp 28) rfl (w6.heap.size) (da r0) rfl rfl 53 _ za7 (by rw [da_size]; exact info53) (by simp only [da_size]) (da_one _) ?_
          have hb8 : Below w2.heap.size w7 (w7.setRow (w6.heap.size) (da r0)) := below_setRow (Below.refl _ _) ge7
          have DD : Dr (w7.setRow (w6.heap.size) (da r0)) (w6.heap.size) 53 r0 := setRow_heap _ _ _ _ _ _ za7
          have B0_8 : Bk (w7.setRow (w6.heap.size) (da r0)) (w.heap.size) 31 #[.int .i16 s0, .slice A0 l0.length c0] := (setRow_other _ _ _ _ (by have e1 := B0_2.lt; have e2 := ge7; omega)).trans B0_7
          have B1_8 : Bk (w7.setRow (w6.heap.size) (da r0)) (w.heap.size + 1) 35 #[.slice A1 l1.length c1, .slice U1 z1.length v1] := (setRow_other _ _ _ _ (by have e1 := B1_2.lt; have e2 := ge7; omega)).trans B1_7
          have tb8 := tb7.trans hb8
          clear B0_2 B0_7 B1_2 B1_7 hb8 tb7
          refine hK.out _ _ ⟨(B0_8.cell (i := 0) rfl), (B0_8.cell (i := 1) rfl), (B1_8.cell (i := 0) rfl), (B1_8.cell (i := 1) rfl)⟩ (fun hS8 => ?_)
          clear hK K
          clear B0_8 B1_8
          refine wpAnyH_take (i := 10) (v := .int .i64 r1) rfl (by kernel_rfl) (by kernel_rfl) (by kernel_rfl) (fun _ _ _ h => h) (Or.inl ⟨by rfl, fun w' _ => by go_simp⟩) hS8 ?_
          change wpAnyH _ _ _ _ _ _ _ (Act.put _ (some 7) _) _
          simp only [Act.put, List.setIfInBounds_toArray, List.set_cons_zero, List.set_cons_succ]
          refine wpAnyH_done (by kernel_rfl) ?_ _
          go_wp2_with fail
          go_meet
          exact ⟨_, _, rfl, rfl, rfl, DD, ge7, tb8⟩
        · clear b5
          obtain ⟨w6, hX6⟩ : ∃ X, X = w5.alloc (.cells za 53) := ⟨_, rfl⟩
          have hb6 : Below w5.heap.size w5 w6 := by rw [hX6]; exact (Below.refl _ _).alloc (Nat.le_refl _) _
          have za6 : Dr w6 w5.heap.size 53 (fun _ => 0) := by rw [hX6, za_eq]; exact heap_new' _ _ _ rfl
          have ge6 : w2.heap.size ≤ w5.heap.size := tb5.size
          intro K hK
          rw [if_pos (by rfl)]
          go_simp
          rw [← hX6]
          clear hX6
          have B0_6 := B0_5.keep hb6
          have B1_6 := B1_5.keep hb6
          have q4_6 := own_keep q4_5 hb6
          have q5_6 := own_keep q5_5 hb6
          have d5_6 := own_keep d5_5 hb6
          have tb6 := tb5.trans (hb6.mono tb5.size)
          clear B0_5 B1_5 d5_5 hb6 q4_5 q5_5 tb5
          refine hK.out _ _ ⟨(B0_6.cell (i := 0) rfl), (B0_6.cell (i := 1) rfl), (B1_6.cell (i := 0) rfl), (B1_6.cell (i := 1) rfl)⟩ (fun hS6 => ?_)
          clear hK K
          refine wpAnyH_ready (rs := [4]) (by kernel_rfl) (by simp) (AllReadyH.cons rfl ?_ AllReadyH.nil)
          intro K hK
          rw [if_pos (by rfl)]
          go_simp
          refine (KS _ _ _ _ (HA.of_own q4_6) (WnA.of_own q5_6) (SZ.of_own d5_6) ).mono ?_
          rintro e w7 ⟨rfl, hb7⟩
          have B0_7 := B0_6.keep hb7
          have B1_7 := B1_6.keep hb7
          have tb7 := tb6.trans (hb7.mono tb6.size)
          have za7 := za6.keep hb7
          clear B0_6 B1_6 d5_6 hb7 q4_6 q5_6 tb6
          refine hK.out _ _ ⟨(B0_7.cell (i := 0) rfl), (B0_7.cell (i := 1) rfl), (B1_7.cell (i := 0) rfl), (B1_7.cell (i := 1) rfl)⟩ (fun hS7 => ?_)
          clear hK K
          refine wpAnyH_take (i := 5) (v := .tuple #[.agg (da r0), .int .i64 r1]) rfl (by kernel_rfl) (by kernel_rfl) (by kernel_rfl) (fun _ _ _ h => h) (Or.inl ⟨by rfl, fun w' _ => by go_simp⟩) hS7 ?_
          change wpAnyH _ _ _ _ _ _ _ (Act.put _ (some 22) _) _
          simp only [Act.put, List.setIfInBounds_toArray, List.set_cons_zero, List.set_cons_succ]
          refine wpAnyH_take (i := 6) (v := .agg (da r0)) rfl (by kernel_rfl) (by kernel_rfl) (by kernel_rfl) (fun _ _ _ h => h) (Or.inl ⟨by rfl, fun w' _ => by go_simp⟩) hS7 ?_
          change wpAnyH _ _ _ _ _ _ _ (Act.put _ (some 28) _) _
          simp only [Act.put, List.setIfInBounds_toArray, List.set_cons_zero, List.set_cons_succ]
          refine wpAnyH_take (i := 7) (v := .int .i64 r1) rfl (by kernel_rfl) (by kernel_rfl) (by kernel_rfl) (fun _ _ _ h => h) (Or.inl ⟨by rfl, fun w' _ => by go_simp⟩) hS7 ?_
          change wpAnyH _ _ _ _ _ _ _ (Act.put _ (some 29) _) _
          simp only [Act.put, List.setIfInBounds_toArray, List.set_cons_zero, List.set_cons_succ]
          refine wpAnyH_ready (rs := [9]) (by kernel_rfl) (by simp) (AllReadyH.cons rfl ?_ AllReadyH.nil)
          intro K hK
          rw [if_pos (by rfl)]
          refine wp_store_row 53 (.tmp 6) (.tmp 28) rfl (w5.heap.size) (da r0) rfl rfl 53 _ za7 (by rw [da_size]; exact info53) (by simp only [da_size]) (da_one _) ?_
          have hb8 : Below w2.heap.size w7 (w7.setRow (w5.heap.size) (da r0)) := below_setRow (Below.refl _ _) ge6
          have DD : Dr (w7.setRow (w5.heap.size) (da r0)) (w5.heap.size) 53 r0 := setRow_heap _ _ _ _ _ _ za7
          have B0_8 : Bk (w7.setRow (w5.heap.size) (da r0)) (w.heap.size) 31 #[.int .i16 s0, .slice A0 l0.length c0] := (setRow_other _ _ _ _ (by have e1 := B0_2.lt; have e2 := ge6; omega)).trans B0_7
          have B1_8 : Bk (w7.setRow (w5.heap.size) (da r0)) (w.heap.size + 1) 35 #[.slice A1 l1.length c1, .slice U1 z1.length v1] := (setRow_other _ _ _ _ (by have e1 := B1_2.lt; have e2 := ge6; omega)).trans B1_7
          have tb8 := tb7.trans hb8
          clear B0_2 B0_7 B1_2 B1_7 hb8 tb7
          refine hK.out _ _ ⟨(B0_8.cell (i := 0) rfl), (B0_8.cell (i := 1) rfl), (B1_8.cell (i := 0) rfl), (B1_8.cell (i := 1) rfl)⟩ (fun hS8 => ?_)
          clear hK K
          clear B0_8 B1_8
          refine wpAnyH_take (i := 10) (v := .int .i64 r1) rfl (by kernel_rfl) (by kernel_rfl) (by kernel_rfl) (fun _ _ _ h => h) (Or.inl ⟨by rfl, fun w' _ => by go_simp⟩) hS8 ?_
          change wpAnyH _ _ _ _ _ _ _ (Act.put _ (some 7) _) _
          simp only [Act.put, List.setIfInBounds_toArray, List.set_cons_zero, List.set_cons_succ]
          refine wpAnyH_done (by kernel_rfl) ?_ _
          go_wp2_with fail
          go_meet
          exact ⟨_, _, rfl, rfl, rfl, DD, ge6, tb8⟩
      · obtain ⟨w5, hX5⟩ : ∃ X, X = w4.alloc (.cells za 53) := ⟨_, rfl⟩
        have hb5 : Below w4.heap.size w4 w5 := by rw [hX5]; exact (Below.refl _ _).alloc (Nat.le_refl _) _
        have za5 : Dr w5 w4.heap.size 53 (fun _ => 0) := by rw [hX5, za_eq]; exact heap_new' _ _ _ rfl
        have ge5 : w2.heap.size ≤ w4.heap.size := tb4.size
        intro K hK
        rw [if_pos (by rfl)]
        go_simp
        rw [← hX5]
        clear hX5
        have b5 := step_below hb5 b4
        have B0_5 := B0_4.keep hb5
        have B1_5 := B1_4.keep hb5
        have q4_5 := own_keep q4_4 hb5
        have tb5 := tb4.trans (hb5.mono tb4.size)
        clear B0_4 B1_4 b4 hb5 q4_4 tb4
        refine hK.out _ _ ⟨(B0_5.cell (i := 0) rfl), (B0_5.cell (i := 1) rfl), (B1_5.cell (i := 0) rfl), (B1_5.cell (i := 1) rfl)⟩ (fun hS5 => ?_)
        clear hK K
        refine wpAnyH_ready (rs := [3]) (by kernel_rfl) (by simp) (AllReadyH.cons rfl ?_ AllReadyH.nil)
        intro K hK
        rw [if_pos (by rfl)]
        go_simp
        refine (toWear_any A1 c1 l1 U1 v1 z1 _ (hA1.below b5) (hU1.below b5) hn1.1 hn1.2).mono ?_
        rintro e w6 ⟨g6, m6, rfl, hg6, hgm6, own6, owm6, hb6⟩
        have B0_6 := B0_5.keep hb6
        have B1_6 := B1_5.keep hb6
        have q4_6 := own_keep q4_5 hb6
        have gl6 : g6 < w6.heap.size := (own6.lt g6 rfl).2
        have gm6 : m6 < w6.heap.size := (owm6.lt m6 rfl).2
        have q6_6 := own6
        have d6_6 := owm6
        have tb6 := tb5.trans (hb6.mono tb5.size)
        have za6 := za5.keep hb6
        clear B0_5 B1_5 b5 hb6 own6 q4_5 tb5
        refine hK.out _ _ ⟨(B0_6.cell (i := 0) rfl), (B0_6.cell (i := 1) rfl), (B1_6.cell (i := 0) rfl), (B1_6.cell (i := 1) rfl)⟩ (fun hS6 => ?_)
        clear hK K
        refine wpAnyH_ready (rs := [4]) (by kernel_rfl) (by simp) (AllReadyH.cons rfl ?_ AllReadyH.nil)
        intro K hK
        rw [if_pos (by rfl)]
        go_simp
        refine (KS _ _ _ _ (HA.of_own q4_6) (WnA.of_own q6_6) (SZ.of_own d6_6) ).mono ?_
        rintro e w7 ⟨rfl, hb7⟩
        have B0_7 := B0_6.keep hb7
        have B1_7 := B1_6.keep hb7
        have tb7 := tb6.trans (hb7.mono tb6.size)
        have za7 := za6.keep hb7
        clear B0_6 B1_6 d6_6 hb7 q4_6 q6_6 tb6
        refine hK.out _ _ ⟨(B0_7.cell (i := 0) rfl), (B0_7.cell (i := 1) rfl), (B1_7.cell (i := 0) rfl), (B1_7.cell (i := 1) rfl)⟩ (fun hS7 => ?_)
        clear hK K
        refine wpAnyH_take (i := 5) (v := .tuple #[.agg (da r0), .int .i64 r1]) rfl (by kernel_rfl) (by kernel_rfl) (by kernel_rfl) (fun _ _ _ h => h) (Or.inl ⟨by rfl, fun w' _ => by go_simp⟩) hS7 ?_
        change wpAnyH _ _ _ _ _ _ _ (Act.put _ (some 22) _) _
        simp only [Act.put, List.setIfInBounds_toArray, List.set_cons_zero, List.set_cons_succ]
        refine wpAnyH_take (i := 6) (v := .agg (da r0)) rfl (by kernel_rfl) (by kernel_rfl) (by kernel_rfl) (fun _ _ _ h => h) (Or.inl ⟨by rfl, fun w' _ => by go_simp⟩) hS7 ?_
        change wpAnyH _ _ _ _ _ _ _ (Act.put _ (some 28) _) _
        simp only [Act.put, List.setIfInBounds_toArray, List.set_cons_zero, List.set_cons_succ]
        refine wpAnyH_take (i := 7) (v := .int .i64 r1) rfl (by kernel_rfl) (by kernel_rfl) (by kernel_rfl) (fun _ _ _ h => h) (Or.inl ⟨by rfl, fun w' _ => by go_simp⟩) hS7 ?_
        change wpAnyH _ _ _ _ _ _ _ (Act.put _ (some 29) _) _
        simp only [Act.put, List.setIfInBounds_toArray, List.set_cons_zero, List.set_cons_succ]
        refine wpAnyH_ready (rs := [9]) (by kernel_rfl) (by simp) (AllReadyH.cons rfl ?_ AllReadyH.nil)
        intro K hK
        rw [if_pos (by rfl)]
        refine wp_store_row 53 (.tmp 6) (.tmp 28) rfl (w4.heap.size) (da r0) rfl rfl 53 _ za7 (by rw [da_size]; exact info53) (by simp only [da_size]) (da_one _) ?_
        have hb8 : Below w2.heap.size w7 (w7.setRow (w4.heap.size) (da r0)) := below_setRow (Below.refl _ _) ge5
        have DD : Dr (w7.setRow (w4.heap.size) (da r0)) (w4.heap.size) 53 r0 := setRow_heap _ _ _ _ _ _ za7
        have B0_8 : Bk (w7.setRow (w4.heap.size) (da r0)) (w.heap.size) 31 #[.int .i16 s0, .slice A0 l0.length c0] := (setRow_other _ _ _ _ (by have e1 := B0_2.lt; have e2 := ge5; omega)).trans B0_7
        have B1_8 : Bk (w7.setRow (w4.heap.size) (da r0)) (w.heap.size + 1) 35 #[.slice A1 l1.length c1, .slice U1 z1.length v1] := (setRow_other _ _ _ _ (by have e1 := B1_2.lt; have e2 := ge5; omega)).trans B1_7
        have tb8 := tb7.trans hb8
        clear B0_2 B0_7 B1_2 B1_7 hb8 tb7
        refine hK.out _ _ ⟨(B0_8.cell (i := 0) rfl), (B0_8.cell (i := 1) rfl), (B1_8.cell (i := 0) rfl), (B1_8.cell (i := 1) rfl)⟩ (fun hS8 => ?_)
        clear hK K
        clear B0_8 B1_8
        refine wpAnyH_take (i := 10) (v := .int .i64 r1) rfl (by kernel_rfl) (by kernel_rfl) (by kernel_rfl) (fun _ _ _ h => h) (Or.inl ⟨by rfl, fun w' _ => by go_simp⟩) hS8 ?_
        change wpAnyH _ _ _ _ _ _ _ (Act.put _ (some 7) _) _
        simp only [Act.put, List.setIfInBounds_toArray, List.set_cons_zero, List.set_cons_succ]
        refine wpAnyH_done (by kernel_rfl) ?_ _
        go_wp2_with fail
        go_meet
        exact ⟨_, _, rfl, rfl, rfl, DD, ge5, tb8⟩
    · obtain ⟨w4, hX4⟩ : ∃ X, X = (w2.alloc (.cells za 53)).drew := ⟨_, rfl⟩
      have hb4 : Below w2.drew.heap.size w2.drew w4 := by rw [hX4]; exact (Below.refl _ _).alloc (Nat.le_refl _) _
      have za4 : Dr w4 w2.heap.size 53 (fun _ => 0) := by rw [hX4, za_eq]; exact heap_new' _ _ _ rfl
      have ge4 : w2.heap.size ≤ w2.heap.size := tb3.size
      intro K hK
      rw [if_pos (by rfl)]
      go_simp
      rw [← hX4]
      clear hX4
      have b4 := step_below hb4 b3
      have B0_4 := B0_3.keep hb4
      have B1_4 := B1_3.keep hb4
      have tb4 := tb3.trans (hb4.mono tb3.size)
      clear B0_3 B1_3 b3 hb4 tb3
      refine hK.out _ _ ⟨(B0_4.cell (i := 0) rfl), (B0_4.cell (i := 1) rfl), (B1_4.cell (i := 0) rfl), (B1_4.cell (i := 1) rfl)⟩ (fun hS4 => ?_)
      clear hK K
      refine wpAnyH_ready (rs := [1]) (by kernel_rfl) (by simp) (AllReadyH.cons rfl ?_ AllReadyH.nil)
      intro K hK
      rw [if_pos (by rfl)]
      go_simp
      refine (toFrame_any s0 A0 c0 l0 _ (hA0.below b4) hn0).mono ?_
      rintro e w5 ⟨g5, rfl, hg5, own5, hb5⟩
      have b5 := step_below hb5 b4
      have B0_5 := B0_4.keep hb5
      have B1_5 := B1_4.keep hb5
      have gl5 : g5 < w5.heap.size := (own5.lt g5 rfl).2
      have q5_5 := own5
      have tb5 := tb4.trans (hb5.mono tb4.size)
      have za5 := za4.keep hb5
      clear B0_4 B1_4 b4 hb5 own5 tb4
      refine hK.out _ _ ⟨(B0_5.cell (i := 0) rfl), (B0_5.cell (i := 1) rfl), (B1_5.cell (i := 0) rfl), (B1_5.cell (i := 1) rfl)⟩ (fun hS5 => ?_)
      clear hK K
      refine wpAnyH_ready (rs := [3]) (by kernel_rfl) (by simp) (AllReadyH.cons rfl ?_ AllReadyH.nil)
      intro K hK
      rw [if_pos (by rfl)]
      go_simp
      refine (toWear_any A1 c1 l1 U1 v1 z1 _ (hA1.below b5) (hU1.below b5) hn1.1 hn1.2).mono ?_
      rintro e w6 ⟨g6, m6, rfl, hg6, hgm6, own6, owm6, hb6⟩
      have B0_6 := B0_5.keep hb6
      have B1_6 := B1_5.keep hb6
      have q5_6 := own_keep q5_5 hb6
      have gl6 : g6 < w6.heap.size := (own6.lt g6 rfl).2
      have gm6 : m6 < w6.heap.size := (owm6.lt m6 rfl).2
      have q6_6 := own6
      have d6_6 := owm6
      have tb6 := tb5.trans (hb6.mono tb5.size)
      have za6 := za5.keep hb6
      clear B0_5 B1_5 b5 hb6 own6 q5_5 tb5
      refine hK.out _ _ ⟨(B0_6.cell (i := 0) rfl), (B0_6.cell (i := 1) rfl), (B1_6.cell (i := 0) rfl), (B1_6.cell (i := 1) rfl)⟩ (fun hS6 => ?_)
      clear hK K
      refine wpAnyH_ready (rs := [4]) (by kernel_rfl) (by simp) (AllReadyH.cons rfl ?_ AllReadyH.nil)
      intro K hK
      rw [if_pos (by rfl)]
      go_simp
      refine (KS _ _ _ _ (HA.of_own q5_6) (WnA.of_own q6_6) (SZ.of_own d6_6) ).mono ?_
      rintro e w7 ⟨rfl, hb7⟩
      have B0_7 := B0_6.keep hb7
      have B1_7 := B1_6.keep hb7
      have tb7 := tb6.trans (hb7.mono tb6.size)
      have za7 := za6.keep hb7
      clear B0_6 B1_6 d6_6 hb7 q5_6 q6_6 tb6
      refine hK.out _ _ ⟨(B0_7.cell (i := 0) rfl), (B0_7.cell (i := 1) rfl), (B1_7.cell (i := 0) rfl), (B1_7.cell (i := 1) rfl)⟩ (fun hS7 => ?_)
      clear hK K
      refine wpAnyH_take (i := 5) (v := .tuple #[.agg (da r0), .int .i64 r1]) rfl (by kernel_rfl) (by kernel_rfl) (by kernel_rfl) (fun _ _ _ h => h) (Or.inl ⟨by rfl, fun w' _ => by go_simp⟩) hS7 ?_
      change wpAnyH _ _ _ _ _ _ _ (Act.put _ (some 22) _) _
      simp only [Act.put, List.setIfInBounds_toArray, List.set_cons_zero, List.set_cons_succ]
      refine wpAnyH_take (i := 6) (v := .agg (da r0)) rfl (by kernel_rfl) (by kernel_rfl) (by kernel_rfl) (fun _ _ _ h => h) (Or.inl ⟨by rfl, fun w' _ => by go_simp⟩) hS7 ?_
      change wpAnyH _ _ _ _ _ _ _ (Act.put _ (some 28) _) _
      simp only [Act.put, List.setIfInBounds_toArray, List.set_cons_zero, List.set_cons_succ]
      refine wpAnyH_take (i := 7) (v := .int .i64 r1) rfl (by kernel_rfl) (by kernel_rfl) (by kernel_rfl) (fun _ _ _ h => h) (Or.inl ⟨by rfl, fun w' _ => by go_simp⟩) hS7 ?_
      change wpAnyH _ _ _ _ _ _ _ (Act.put _ (some 29) _) _
      simp only [Act.put, List.setIfInBounds_toArray, List.set_cons_zero, List.set_cons_succ]
      refine wpAnyH_ready (rs := [9]) (by kernel_rfl) (by simp) (AllReadyH.cons rfl ?_ AllReadyH.nil)
      intro K hK
      rw [if_pos (by rfl)]
      refine wp_store_row 53 (.tmp 6) (.tmp 28) rfl (w2.heap.size) (da r0) rfl rfl 53 _ za7 (by rw [da_size]; exact info53) (by simp only [da_size]) (da_one _) ?_
      have hb8 : Below w2.heap.size w7 (w7.setRow (w2.heap.size) (da r0)) := below_setRow (Below.refl _ _) ge4
      have DD : Dr (w7.setRow (w2.heap.size) (da r0)) (w2.heap.size) 53 r0 := setRow_heap _ _ _ _ _ _ za7
      have B0_8 : Bk (w7.setRow (w2.heap.size) (da r0)) (w.heap.size) 31 #[.int .i16 s0, .slice A0 l0.length c0] := (setRow_other _ _ _ _ (by have e1 := B0_2.lt; have e2 := ge4; omega)).trans B0_7
      have B1_8 : Bk (w7.setRow (w2.heap.size) (da r0)) (w.heap.size + 1) 35 #[.slice A1 l1.length c1, .slice U1 z1.length v1] := (setRow_other _ _ _ _ (by have e1 := B1_2.lt; have e2 := ge4; omega)).trans B1_7
      have tb8 := tb7.trans hb8
      clear B0_2 B0_7 B1_2 B1_7 hb8 tb7
      refine hK.out _ _ ⟨(B0_8.cell (i := 0) rfl), (B0_8.cell (i := 1) rfl), (B1_8.cell (i := 0) rfl), (B1_8.cell (i := 1) rfl)⟩ (fun hS8 => ?_)
      clear hK K
      clear B0_8 B1_8
      refine wpAnyH_take (i := 10) (v := .int .i64 r1) rfl (by kernel_rfl) (by kernel_rfl) (by kernel_rfl) (fun _ _ _ h => h) (Or.inl ⟨by rfl, fun w' _ => by go_simp⟩) hS8 ?_
      change wpAnyH _ _ _ _ _ _ _ (Act.put _ (some 7) _) _
      simp only [Act.put, List.setIfInBounds_toArray, List.set_cons_zero, List.set_cons_succ]
      refine wpAnyH_done (by kernel_rfl) ?_ _
      go_wp2_with fail
      go_meet
      exact ⟨_, _, rfl, rfl, rfl, DD, ge4, tb8⟩
  obtain ⟨rg3, w3, rfl, rfl, rfl, K3, rge3, hb3⟩ := hcut
  have b3 := step_below hb3 b2
  have B0_3 := B0_2.keep hb3
  have B1_3 := B1_2.keep hb3
  have R3_3 : Bk w3 rg3 53 (da r0) := K3
  have pf30_ := B0_3.cell (i := 0) rfl
  have qf30_ := B0_3.cell (i := 1) rfl
  clear B0_2 B1_2 b2 hb3
  go_wp2_with fail
  clear pf30_ qf30_
  refine (toFrame_any s0 A0 c0 l0 _ (hA0.below b3) hn0).mono ?_
  rintro e w4 ⟨g4, rfl, hg4, own4, hb4⟩
  have b4 := step_below hb4 b3
  have B0_4 := B0_3.keep hb4
  have B1_4 := B1_3.keep hb4
  have R3_4 := R3_3.keep hb4
  have gl4 : g4 < w4.heap.size := (own4.lt g4 rfl).2
  have q4_4 := own4
  clear B0_3 B1_3 b3 hb4 own4
  go_upto_region 10 with fail
  obtain ⟨w5, hX5⟩ : ∃ X, X = w4.alloc (.cells #[.int .i16 s0, .slice (some ⟨g4, 0, none⟩) l0.length l0.length] 41) := ⟨_, rfl⟩
  have hb5 : Below w4.heap.size w4 w5 := by rw [hX5]; exact (Below.refl _ _).alloc (Nat.le_refl _) _
  have K5 : Bk w5 w4.heap.size 41 #[.int .i16 s0, .slice (some ⟨g4, 0, none⟩) l0.length l0.length] := by rw [hX5]; exact Bk.new _ _ _ rfl
  rw [← hX5]
  clear hX5
  have b5 := step_below hb5 b4
  have B0_5 := B0_4.keep hb5
  have B1_5 := B1_4.keep hb5
  have R3_5 := R3_4.keep hb5
  have q4_5 := own_keep q4_4 hb5
  have Y0_5 := K5
  have yw0 : w4.heap.size < w5.heap.size := K5.lt
  have pf32_ := B1_5.cell (i := 0) rfl
  have qf32_ := B1_5.cell (i := 1) rfl
  clear B0_4 B1_4 b4 hb5 q4_4
  go_wp2_with fail
  clear pf32_ qf32_
  refine (toWear_any A1 c1 l1 U1 v1 z1 _ (hA1.below b5) (hU1.below b5) hn1.1 hn1.2).mono ?_
  rintro e w6 ⟨g6, m6, rfl, hg6, hgm6, own6, owm6, hb6⟩
  have b6 := step_below hb6 b5
  have B0_6 := B0_5.keep hb6
  have B1_6 := B1_5.keep hb6
  have R3_6 := R3_5.keep hb6
  have Y0_6 := Y0_5.keep hb6
  have q4_6 := own_keep q4_5 hb6
  have gl6 : g6 < w6.heap.size := (own6.lt g6 rfl).2
  have gm6 : m6 < w6.heap.size := (owm6.lt m6 rfl).2
  have q6_6 := own6
  have d6_6 := owm6
  clear B0_5 B1_5 Y0_5 b5 hb6 own6 q4_5
  go_upto_region 11 with fail
  obtain ⟨w7, hX7⟩ : ∃ X, X = w6.alloc (.cells #[.slice (some ⟨g6, 0, none⟩) l1.length l1.length, .slice (some ⟨m6, 0, none⟩) z1.length z1.length] 45) := ⟨_, rfl⟩
  have hb7 : Below w6.heap.size w6 w7 := by rw [hX7]; exact (Below.refl _ _).alloc (Nat.le_refl _) _
  have K7 : Bk w7 w6.heap.size 45 #[.slice (some ⟨g6, 0, none⟩) l1.length l1.length, .slice (some ⟨m6, 0, none⟩) z1.length z1.length] := by rw [hX7]; exact Bk.new _ _ _ rfl
  rw [← hX7]
  clear hX7
  have b7 := step_below hb7 b6
  have B0_7 := B0_6.keep hb7
  have B1_7 := B1_6.keep hb7
  have R3_7 := R3_6.keep hb7
  have Y0_7 := Y0_6.keep hb7
  have q4_7 := own_keep q4_6 hb7
  have q6_7 := own_keep q6_6 hb7
  have d6_7 := own_keep d6_6 hb7
  have Y1_7 := K7
  have yw1 : w6.heap.size < w7.heap.size := K7.lt
  have pf35_ := Y0_7.cell (i := 0) rfl
  have qf35_ := Y0_7.cell (i := 1) rfl
  have pf36_ := Y1_7.cell (i := 0) rfl
  have qf36_ := Y1_7.cell (i := 1) rfl
  clear B0_6 B1_6 Y0_6 b6 d6_6 hb7 q4_6 q6_6
  go_wp2_with fail
  clear pf35_ qf35_ pf36_ qf36_
  refine (KI _ _ _ _ (HA.of_own q4_7) (WnA.of_own q6_7) (SZ.of_own d6_7) ).mono ?_
  rintro e w8 ⟨rfl, hb8⟩
  have b8 := step_below hb8 b7
  have B0_8 := B0_7.keep hb8
  have B1_8 := B1_7.keep hb8
  have R3_8 := R3_7.keep hb8
  have Y0_8 := Y0_7.keep hb8
  have Y1_8 := Y1_7.keep hb8
  have q4_8 := own_keep q4_7 hb8
  have q6_8 := own_keep q6_7 hb8
  have d6_8 := own_keep d6_7 hb8
  have hz := zeroDrum
  have hza : za.size = (da r0).size := by rw [da_size]; rfl
  clear B0_7 B1_7 Y0_7 Y1_7 b7 d6_7 hb8 q4_7 q6_7
  go_upto_region 12 with (with_reducible refine wpList_store_new rfl 53 (.tmp 10) (.tmp 38) rfl r0 rfl rfl 53 _ (dInfo r0) hza ?_)
  clear hz hza
  obtain ⟨w9, hX9⟩ : ∃ X, X = w8.alloc (.cells (da r0) 53) := ⟨_, rfl⟩
  have hb9 : Below w8.heap.size w8 w9 := by rw [hX9]; exact (Below.refl _ _).alloc (Nat.le_refl _) _
  have K9 : Bk w9 w8.heap.size 53 (da r0) := by rw [hX9]; exact Bk.new _ _ _ rfl
  rw [← hX9]
  clear hX9
  have b9 := step_below hb9 b8
  have B0_9 := B0_8.keep hb9
  have B1_9 := B1_8.keep hb9
  have R3_9 := R3_8.keep hb9
  have Y0_9 := Y0_8.keep hb9
  have Y1_9 := Y1_8.keep hb9
  have q4_9 := own_keep q4_8 hb9
  have q6_9 := own_keep q6_8 hb9
  have d6_9 := own_keep d6_8 hb9
  have R9_9 := K9
  have HD40_ := hide (show Dr w9 (w8.heap.size) 53 r0 from R9_9).range
  have HD41_ := hide (show Dr w9 (rg3) 53 r0 from R3_9).range
  clear B0_8 B1_8 Y0_8 Y1_8 b8 d6_8 hb9 q4_8 q6_8
  go_wp2_with (first | (with_reducible refine wpList_load_da rfl 53 (.tmp 10) rfl (w8.heap.size) 0 rfl r0 _ HD40_.out Try.underlying53 rfl (dInfo r0) ?_) | (with_reducible refine wpList_load_da rfl 53 (.tmp 6) rfl (rg3) 0 rfl r0 _ HD41_.out Try.underlying53 rfl (dInfo r0) ?_))
  clear HD40_ HD41_
  refine (eqDrum_any r0 _).mono ?_
  rintro e w10 ⟨rfl, hb10⟩
  have b10 := step_below hb10 b9
  have B0_10 := B0_9.keep hb10
  have B1_10 := B1_9.keep hb10
  have R3_10 := R3_9.keep hb10
  have Y0_10 := Y0_9.keep hb10
  have Y1_10 := Y1_9.keep hb10
  have R9_10 := R9_9.keep hb10
  have q4_10 := own_keep q4_9 hb10
  have q6_10 := own_keep q6_9 hb10
  have d6_10 := own_keep d6_9 hb10
  clear B0_9 B1_9 Y0_9 Y1_9 b9 d6_9 hb10 q4_9 q6_9
  go_wp2_with fail
  have hb11 : Below w10.heap.size w10 w10.drew := (Below.refl _ _).drew
  have b11 := step_below hb11 b10
  have B0_11 := B0_10.keep hb11
  have B1_11 := B1_10.keep hb11
  have R3_11 := R3_10.keep hb11
  have Y0_11 := Y0_10.keep hb11
  have Y1_11 := Y1_10.keep hb11
  have R9_11 := R9_10.keep hb11
  have q4_11 := own_keep q4_10 hb11
  have q6_11 := own_keep q6_10 hb11
  have d6_11 := own_keep d6_10 hb11
  clear B0_10 B1_10 Y0_10 Y1_10 b10 d6_10 hb11 q4_10 q6_10
  refine wp_region_held_drew (S := fun w' => w'.cell? ⟨w4.heap.size, 0, none⟩ = some (.int .i16 s0) ∧ w'.cell? ⟨w4.heap.size, 1, none⟩ = some (.slice (some ⟨g4, 0, none⟩) l0.length l0.length) ∧ w'.cell? ⟨w.heap.size, 0, none⟩ = some (.int .i16 s0) ∧ w'.cell? ⟨w.heap.size, 1, none⟩ = some (.slice A0 l0.length c0)) (by kernel_rfl) ⟨(Y0_11.cell (i := 0) rfl), (Y0_11.cell (i := 1) rfl), (B0_11.cell (i := 0) rfl), (B0_11.cell (i := 1) rfl)⟩ fun hS11 => ?_
  refine wpAnyH_take (i := 0) (v := .agg #[.int .i16 s0, .slice (some ⟨g4, 0, none⟩) l0.length l0.length]) rfl (by kernel_rfl) (by kernel_rfl) (by kernel_rfl) (fun _ _ _ h => h) (Or.inl ⟨by rfl, fun w' h => ?_⟩) hS11 ?_
  · have c0 := h.1
    have c1 := h.2.1
    clear h
    go_simp
  simp only [Act.put, List.setIfInBounds_toArray, List.set_cons_zero, List.set_cons_succ]
  refine wpAnyH_take (i := 1) (v := .agg #[.int .i16 s0, .slice A0 l0.length c0]) rfl (by kernel_rfl) (by kernel_rfl) (by kernel_rfl) (fun _ _ _ h => h) (Or.inl ⟨by rfl, fun w' h => ?_⟩) hS11 ?_
  · have c0 := h.2.2.1
    have c1 := h.2.2.2
    clear h
    go_simp
  simp only [Act.put, List.setIfInBounds_toArray, List.set_cons_zero, List.set_cons_succ]
  refine wpAnyH_ready (rs := [2]) (by kernel_rfl) (by simp) (AllReadyH.cons rfl ?_ AllReadyH.nil)
  intro K hK
  rw [if_pos (by rfl)]
  go_simp
  refine (toFrame_any s0 A0 c0 l0 _ (hA0.below b11) hn0).mono ?_
  rintro e w12 ⟨g12, rfl, hg12, own12, hb12⟩
  have b12 := step_below hb12 b11
  have B0_12 := B0_11.keep hb12
  have B1_12 := B1_11.keep hb12
  have R3_12 := R3_11.keep hb12
  have Y0_12 := Y0_11.keep hb12
  have Y1_12 := Y1_11.keep hb12
  have R9_12 := R9_11.keep hb12
  have q4_12 := own_keep q4_11 hb12
  have q6_12 := own_keep q6_11 hb12
  have d6_12 := own_keep d6_11 hb12
  have gl12 : g12 < w12.heap.size := (own12.lt g12 rfl).2
  have q12_12 := own12
  clear B0_11 B1_11 Y0_11 Y1_11 b11 d6_11 hb12 own12 q4_11 q6_11
  refine hK.out _ _ ⟨(Y0_12.cell (i := 0) rfl), (Y0_12.cell (i := 1) rfl), (B0_12.cell (i := 0) rfl), (B0_12.cell (i := 1) rfl)⟩ (fun hS12 => ?_)
  clear hK K
  refine wpAnyH_ready (rs := [3]) (by kernel_rfl) (by simp) (AllReadyH.cons rfl ?_ AllReadyH.nil)
  intro K hK
  rw [if_pos (by rfl)]
  go_simp
  refine (eqFrame_any s0 _ _ _ _ l0 _ (HA.of_own q4_12) (HA.of_own q12_12) hn0).mono ?_
  rintro e w13 ⟨rfl, hb13⟩
  have b13 := step_below hb13 b12
  have B0_13 := B0_12.keep hb13
  have B1_13 := B1_12.keep hb13
  have R3_13 := R3_12.keep hb13
  have Y0_13 := Y0_12.keep hb13
  have Y1_13 := Y1_12.keep hb13
  have R9_13 := R9_12.keep hb13
  have q6_13 := own_keep q6_12 hb13
  have d6_13 := own_keep d6_12 hb13
  clear B0_12 B1_12 Y0_12 Y1_12 b12 d6_12 hb13 q12_12 q4_12 q6_12
  refine hK.out _ _ ⟨(Y0_13.cell (i := 0) rfl), (Y0_13.cell (i := 1) rfl), (B0_13.cell (i := 0) rfl), (B0_13.cell (i := 1) rfl)⟩ (fun hS13 => ?_)
  clear hK K
  clear B0_13 Y0_13
  refine wpAnyH_take (i := 4) (v := .bool false) rfl (by kernel_rfl) (by kernel_rfl) (by kernel_rfl) (fun _ _ _ h => h) (Or.inl ⟨by rfl, fun w' _ => by go_simp⟩) hS13 ?_
  change wpAnyH _ _ _ _ _ _ _ (Act.put _ (some 53) _) _
  simp only [Act.put, List.setIfInBounds_toArray, List.set_cons_zero, List.set_cons_succ]
  refine wpAnyH_done (by kernel_rfl) ?_ _
  go_wp2_with fail
  have hb14 : Below w13.heap.size w13 w13.drew := (Below.refl _ _).drew
  have b14 := step_below hb14 b13
  have B1_14 := B1_13.keep hb14
  have R3_14 := R3_13.keep hb14
  have Y1_14 := Y1_13.keep hb14
  have R9_14 := R9_13.keep hb14
  have q6_14 := own_keep q6_13 hb14
  have d6_14 := own_keep d6_13 hb14
  clear B1_13 Y1_13 b13 d6_13 hb14 q6_13
  refine wp_region_held_drew (S := fun w' => w'.cell? ⟨w6.heap.size, 0, none⟩ = some (.slice (some ⟨g6, 0, none⟩) l1.length l1.length) ∧ w'.cell? ⟨w6.heap.size, 1, none⟩ = some (.slice (some ⟨m6, 0, none⟩) z1.length z1.length) ∧ w'.cell? ⟨w.heap.size + 1, 0, none⟩ = some (.slice A1 l1.length c1) ∧ w'.cell? ⟨w.heap.size + 1, 1, none⟩ = some (.slice U1 z1.length v1)) (by kernel_rfl) ⟨(Y1_14.cell (i := 0) rfl), (Y1_14.cell (i := 1) rfl), (B1_14.cell (i := 0) rfl), (B1_14.cell (i := 1) rfl)⟩ fun hS14 => ?_
  refine wpAnyH_take (i := 0) (v := .agg #[.slice (some ⟨g6, 0, none⟩) l1.length l1.length, .slice (some ⟨m6, 0, none⟩) z1.length z1.length]) rfl (by kernel_rfl) (by kernel_rfl) (by kernel_rfl) (fun _ _ _ h => h) (Or.inl ⟨by rfl, fun w' h => ?_⟩) hS14 ?_
  · have c0 := h.1
    have c1 := h.2.1
    clear h
    go_simp
  simp only [Act.put, List.setIfInBounds_toArray, List.set_cons_zero, List.set_cons_succ]
  refine wpAnyH_take (i := 1) (v := .agg #[.slice A1 l1.length c1, .slice U1 z1.length v1]) rfl (by kernel_rfl) (by kernel_rfl) (by kernel_rfl) (fun _ _ _ h => h) (Or.inl ⟨by rfl, fun w' h => ?_⟩) hS14 ?_
  · have c0 := h.2.2.1
    have c1 := h.2.2.2
    clear h
    go_simp
  simp only [Act.put, List.setIfInBounds_toArray, List.set_cons_zero, List.set_cons_succ]
  refine wpAnyH_ready (rs := [2]) (by kernel_rfl) (by simp) (AllReadyH.cons rfl ?_ AllReadyH.nil)
  intro K hK
  rw [if_pos (by rfl)]
  go_simp
  refine (toWear_any A1 c1 l1 U1 v1 z1 _ (hA1.below b14) (hU1.below b14) hn1.1 hn1.2).mono ?_
  rintro e w15 ⟨g15, m15, rfl, hg15, hgm15, own15, owm15, hb15⟩
  have b15 := step_below hb15 b14
  have B1_15 := B1_14.keep hb15
  have R3_15 := R3_14.keep hb15
  have Y1_15 := Y1_14.keep hb15
  have R9_15 := R9_14.keep hb15
  have q6_15 := own_keep q6_14 hb15
  have d6_15 := own_keep d6_14 hb15
  have gl15 : g15 < w15.heap.size := (own15.lt g15 rfl).2
  have gm15 : m15 < w15.heap.size := (owm15.lt m15 rfl).2
  have q15_15 := own15
  have d15_15 := owm15
  clear B1_14 Y1_14 b14 d6_14 hb15 own15 q6_14
  refine hK.out _ _ ⟨(Y1_15.cell (i := 0) rfl), (Y1_15.cell (i := 1) rfl), (B1_15.cell (i := 0) rfl), (B1_15.cell (i := 1) rfl)⟩ (fun hS15 => ?_)
  clear hK K
  refine wpAnyH_ready (rs := [3]) (by kernel_rfl) (by simp) (AllReadyH.cons rfl ?_ AllReadyH.nil)
  intro K hK
  rw [if_pos (by rfl)]
  go_simp
  refine (eqWear_self _ _ _ _ l1 _ _ _ _ z1 _ (WnA.of_own q6_15) (WnA.of_own q15_15) (SI.of_own d6_15) (SI.of_own d15_15) hn1.1 hn1.2).mono ?_
  rintro e w16 ⟨rfl, hb16⟩
  have b16 := step_below hb16 b15
  have B1_16 := B1_15.keep hb16
  have R3_16 := R3_15.keep hb16
  have Y1_16 := Y1_15.keep hb16
  have R9_16 := R9_15.keep hb16
  clear B1_15 Y1_15 b15 d15_15 d6_15 hb16 q15_15 q6_15
  refine hK.out _ _ ⟨(Y1_16.cell (i := 0) rfl), (Y1_16.cell (i := 1) rfl), (B1_16.cell (i := 0) rfl), (B1_16.cell (i := 1) rfl)⟩ (fun hS16 => ?_)
  clear hK K
  clear B1_16 Y1_16
  refine wpAnyH_take (i := 4) (v := .bool false) rfl (by kernel_rfl) (by kernel_rfl) (by kernel_rfl) (fun _ _ _ h => h) (Or.inl ⟨by rfl, fun w' _ => by go_simp⟩) hS16 ?_
  change wpAnyH _ _ _ _ _ _ _ (Act.put _ (some 58) _) _
  simp only [Act.put, List.setIfInBounds_toArray, List.set_cons_zero, List.set_cons_succ]
  refine wpAnyH_done (by kernel_rfl) ?_ _
  go_wp2
  go_ret
  exact ⟨rfl, b16⟩
theorem lawDrumOfWear_any (s0 : Int) (A0 : Option Addr) (c0 : Nat) (l0 : List (Int × Int)) (A1 : Option Addr) (c1 : Nat) (l1 : List (Int × Int × Int)) (U1 : Option Addr) (v1 : Nat) (z1 : List Int) (w : World) (hA0 : HA w A0 l0) (hwf0 : HWF l0) (hs0 : -32768 ≤ s0 ∧ s0 ≤ 32767) (hA1 : WnA w A1 l1) (hU1 : SZ w U1 z1) (hwf1 : WnWF l1) (hzwf1 : ZWF z1) (hm0 : l0.length ≤ maxLen) (hm1 : l1.length ≤ maxLen ∧ z1.length ≤ maxLen)  :
    Calls Try.prog 6 #[.agg #[.int .i16 s0, .slice A0 l0.length c0], .agg #[.slice A1 l1.length c1, .slice U1 z1.length v1]] w (Says true w) := by
  rcases Nat.lt_or_ge 1048576 (l0.length) with h0 | h0
  · exact lawDrumOfWear_big0 s0 A0 c0 l0 A1 c1 l1 U1 v1 z1 w  h0 hm0 hm1
  rcases Nat.lt_or_ge 1048576 (l0.length + (l1.length + z1.length)) with h1 | h1
  · exact lawDrumOfWear_big1 s0 A0 c0 l0 A1 c1 l1 U1 v1 z1 w h0 h1 hm0 hm1
  exact lawDrumOfWear_small s0 A0 c0 l0 A1 c1 l1 U1 v1 z1 w hA0 hwf0 hs0 hA1 hU1 hwf1 hzwf1 h0 h1 hm0 hm1 
end Go.Proofs.Ytakdnmakgblamaa
