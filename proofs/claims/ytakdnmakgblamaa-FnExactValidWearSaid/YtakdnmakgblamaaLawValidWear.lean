import Derived.Test.YtakdnmakgblamaaLwf
import Derived.Test.YtakdnmakgblamaaVwe
import Derived.Deep.RegionHeld3
import Derived.Deep.CutRange
namespace Go.Proofs.Ytakdnmakgblamaa
open Go.RowKit

set_option maxRecDepth 20000 in
set_option maxHeartbeats 1000000 in
theorem lawValidWear_big0 (s0 : Int) (A0 : Option Addr) (c0 : Nat) (l0 : List (Int × Int)) (A1 : Option Addr) (c1 : Nat) (l1 : List (Int × Int × Int)) (U1 : Option Addr) (v1 : Nat) (z1 : List Int) (w : World)  (hbg : 1048576 < l0.length) (hm0 : l0.length ≤ maxLen) (hm1 : l1.length ≤ maxLen ∧ z1.length ≤ maxLen) :
    Calls Try.prog 4 #[.agg #[.int .i16 s0, .slice A0 l0.length c0], .agg #[.slice A1 l1.length c1, .slice U1 z1.length v1]] w (Says true w) := by
  obtain ⟨X0, hX0⟩ : ∃ X, X = ((w.alloc (.cells #[.int .i16 s0, .slice A0 l0.length c0] 31)).alloc (.cells #[.slice A1 l1.length c1, .slice U1 z1.length v1] 35)) := ⟨_, rfl⟩
  have b0 : Below w.heap.size w X0 := by rw [hX0]; exact (((Below.refl _ _).alloc (Nat.le_refl _) _).alloc (by simp) _)
  have B0_0 : Bk X0 (w.heap.size) 31 #[.int .i16 s0, .slice A0 l0.length c0] := by rw [hX0]; exact Bk.new _ _ _ rfl |>.old _
  have bw0 : w.heap.size < X0.heap.size := B0_0.lt
  have B1_0 : Bk X0 (w.heap.size + 1) 35 #[.slice A1 l1.length c1, .slice U1 z1.length v1] := by rw [hX0]; exact Bk.new _ _ _ (by simp)
  have bw1 : w.heap.size + 1 < X0.heap.size := B1_0.lt
  go_enter Try.func4, Try.ntmps4
  go_upto_region 1 with fail
  rw [← hX0]
  clear hX0
  have pf10_ := B0_0.cell (i := 0) rfl
  have qf10_ := B0_0.cell (i := 1) rfl
  go_wp2_with fail
  clear pf10_ qf10_
  refine (szFrame_at_big s0 A0 l0.length c0 (1048576) (by omega) (by omega) hm0 (by omega) _).mono ?_
  rintro e w1 ⟨rfl, hb1⟩
  have b1 := step_below hb1 b0
  go_wp2
  go_ret
  exact ⟨rfl, b1⟩
set_option maxRecDepth 20000 in
set_option maxHeartbeats 1000000 in
theorem lawValidWear_big1 (s0 : Int) (A0 : Option Addr) (c0 : Nat) (l0 : List (Int × Int)) (A1 : Option Addr) (c1 : Nat) (l1 : List (Int × Int × Int)) (U1 : Option Addr) (v1 : Nat) (z1 : List Int) (w : World) (hc0 : l0.length ≤ 1048576) (hbg : 1048576 < l0.length + (l1.length + z1.length)) (hm0 : l0.length ≤ maxLen) (hm1 : l1.length ≤ maxLen ∧ z1.length ≤ maxLen) :
    Calls Try.prog 4 #[.agg #[.int .i16 s0, .slice A0 l0.length c0], .agg #[.slice A1 l1.length c1, .slice U1 z1.length v1]] w (Says true w) := by
  obtain ⟨X0, hX0⟩ : ∃ X, X = ((w.alloc (.cells #[.int .i16 s0, .slice A0 l0.length c0] 31)).alloc (.cells #[.slice A1 l1.length c1, .slice U1 z1.length v1] 35)) := ⟨_, rfl⟩
  have b0 : Below w.heap.size w X0 := by rw [hX0]; exact (((Below.refl _ _).alloc (Nat.le_refl _) _).alloc (by simp) _)
  have B0_0 : Bk X0 (w.heap.size) 31 #[.int .i16 s0, .slice A0 l0.length c0] := by rw [hX0]; exact Bk.new _ _ _ rfl |>.old _
  have bw0 : w.heap.size < X0.heap.size := B0_0.lt
  have B1_0 : Bk X0 (w.heap.size + 1) 35 #[.slice A1 l1.length c1, .slice U1 z1.length v1] := by rw [hX0]; exact Bk.new _ _ _ (by simp)
  have bw1 : w.heap.size + 1 < X0.heap.size := B1_0.lt
  go_enter Try.func4, Try.ntmps4
  go_upto_region 1 with fail
  rw [← hX0]
  clear hX0
  have pf10_ := B0_0.cell (i := 0) rfl
  have qf10_ := B0_0.cell (i := 1) rfl
  go_wp2_with fail
  clear pf10_ qf10_
  refine (szFrame_at_small s0 A0 l0.length c0 (1048576) (by omega) (by omega) hm0 (by omega) _).mono ?_
  rintro e w1 ⟨rfl, hb1⟩
  have b1 := step_below hb1 b0
  have B0_1 := B0_0.keep hb1
  have B1_1 := B1_0.keep hb1
  have pf15_ := B1_1.cell (i := 0) rfl
  have qf15_ := B1_1.cell (i := 1) rfl
  go_wp2_with fail
  clear pf15_ qf15_
  refine (szWear_big A1 l1.length c1 U1 z1.length v1 (1048576 - (l0.length : Int)) (by omega) (by omega) hm1.1 hm1.2 (by omega) _).mono ?_
  rintro e w2 ⟨rfl, hb2⟩
  have b2 := step_below hb2 b1
  go_wp2
  go_ret
  exact ⟨rfl, b2⟩
set_option maxRecDepth 20000 in
set_option maxHeartbeats 4000000 in
theorem lawValidWear_small (s0 : Int) (A0 : Option Addr) (c0 : Nat) (l0 : List (Int × Int)) (A1 : Option Addr) (c1 : Nat) (l1 : List (Int × Int × Int)) (U1 : Option Addr) (v1 : Nat) (z1 : List Int) (w : World) (hA0 : HA w A0 l0) (hwf0 : HWF l0) (hs0 : -32768 ≤ s0 ∧ s0 ≤ 32767) (hA1 : WnA w A1 l1) (hU1 : SZ w U1 z1) (hwf1 : WnWF l1) (hzwf1 : ZWF z1) (hc0 : l0.length ≤ 1048576) (hc1 : l0.length + (l1.length + z1.length) ≤ 1048576) (hm0 : l0.length ≤ maxLen) (hm1 : l1.length ≤ maxLen ∧ z1.length ≤ maxLen) :
    Calls Try.prog 4 #[.agg #[.int .i16 s0, .slice A0 l0.length c0], .agg #[.slice A1 l1.length c1, .slice U1 z1.length v1]] w (Says true w) := by
  have hn0 : l0.length ≤ 1048576 := by omega
  have hn1 : l1.length ≤ 1048576 ∧ z1.length ≤ 1048576 := ⟨by omega, by omega⟩
  obtain ⟨r0, hr0⟩ : ∃ r : Bool, r = weB s0 l0 l1 z1 := ⟨_, rfl⟩
  have KS : ∀ (E0 : Option Addr) (E1 O1 : Option Addr) (W : World), HA W E0 l0 → WnA W E1 l1 → SZ W O1 z1 → Calls Try.prog 16 #[.agg #[.int .i16 s0, .slice E0 l0.length l0.length], .agg #[.slice E1 l1.length l1.length, .slice O1 z1.length z1.length]] W (fun e w' => e = .returned (.bool r0) ∧ Below W.heap.size W w') := fun E0 E1 O1 W h0 h1 h1z => by rw [hr0]; exact specValidWear_any s0 E0 l0.length l0 E1 l1.length l1 O1 z1.length z1 W h0 hn0 hwf0 hs0 h1 h1z hn1.1 hn1.2 hwf1 hzwf1
  have KI : ∀ (E0 : Option Addr) (E1 O1 : Option Addr) (W : World), HA W E0 l0 → WnA W E1 l1 → SZ W O1 z1 → Calls Try.prog 19 #[.agg #[.int .i16 s0, .slice E0 l0.length l0.length], .agg #[.slice E1 l1.length l1.length, .slice O1 z1.length z1.length]] W (fun e w' => e = .returned (.bool r0) ∧ Below W.heap.size W w') := fun E0 E1 O1 W h0 h1 h1z => by rw [hr0]; exact implValidWear_any s0 E0 l0.length l0 E1 l1.length l1 O1 z1.length z1 W h0 hn0 hwf0 hs0 h1 h1z hn1.1 hn1.2 hwf1 hzwf1
  clear hr0
  obtain ⟨X0, hX0⟩ : ∃ X, X = ((w.alloc (.cells #[.int .i16 s0, .slice A0 l0.length c0] 31)).alloc (.cells #[.slice A1 l1.length c1, .slice U1 z1.length v1] 35)) := ⟨_, rfl⟩
  have b0 : Below w.heap.size w X0 := by rw [hX0]; exact (((Below.refl _ _).alloc (Nat.le_refl _) _).alloc (by simp) _)
  have B0_0 : Bk X0 (w.heap.size) 31 #[.int .i16 s0, .slice A0 l0.length c0] := by rw [hX0]; exact Bk.new _ _ _ rfl |>.old _
  have bw0 : w.heap.size < X0.heap.size := B0_0.lt
  have B1_0 : Bk X0 (w.heap.size + 1) 35 #[.slice A1 l1.length c1, .slice U1 z1.length v1] := by rw [hX0]; exact Bk.new _ _ _ (by simp)
  have bw1 : w.heap.size + 1 < X0.heap.size := B1_0.lt
  go_enter Try.func4, Try.ntmps4
  go_upto_region 1 with fail
  rw [← hX0]
  clear hX0
  have pf10_ := B0_0.cell (i := 0) rfl
  have qf10_ := B0_0.cell (i := 1) rfl
  go_wp2_with fail
  clear pf10_ qf10_
  refine (szFrame_at_small s0 A0 l0.length c0 (1048576) (by omega) (by omega) hm0 (by omega) _).mono ?_
  rintro e w1 ⟨rfl, hb1⟩
  have b1 := step_below hb1 b0
  have B0_1 := B0_0.keep hb1
  have B1_1 := B1_0.keep hb1
  have pf15_ := B1_1.cell (i := 0) rfl
  have qf15_ := B1_1.cell (i := 1) rfl
  clear B0_0 B1_0 b0 hb1
  go_wp2_with fail
  clear pf15_ qf15_
  refine (szWear_small A1 l1.length c1 U1 z1.length v1 (1048576 - (l0.length : Int)) (by omega) (by omega) hm1.1 hm1.2 (by omega) _).mono ?_
  rintro e w2 ⟨rfl, hb2⟩
  have b2 := step_below hb2 b1
  have B0_2 := B0_1.keep hb2
  have B1_2 := B1_1.keep hb2
  clear B0_1 B1_1 b1 hb2
  go_wp2_with fail
  have hb3 : Below w2.heap.size w2 w2.drew := (Below.refl _ _).drew
  have b3 := step_below hb3 b2
  have B0_3 := B0_2.keep hb3
  have B1_3 := B1_2.keep hb3
  clear B0_2 B1_2 b2 hb3
  refine wp_region_held_drew (S := fun w' => w'.cell? ⟨w.heap.size, 0, none⟩ = some (.int .i16 s0) ∧ w'.cell? ⟨w.heap.size, 1, none⟩ = some (.slice A0 l0.length c0) ∧ w'.cell? ⟨w.heap.size + 1, 0, none⟩ = some (.slice A1 l1.length c1) ∧ w'.cell? ⟨w.heap.size + 1, 1, none⟩ = some (.slice U1 z1.length v1)) (by kernel_rfl) ⟨(B0_3.cell (i := 0) rfl), (B0_3.cell (i := 1) rfl), (B1_3.cell (i := 0) rfl), (B1_3.cell (i := 1) rfl)⟩ fun hS3 => ?_
  refine wpAnyH_take (i := 0) (v := .agg #[.int .i16 s0, .slice A0 l0.length c0]) rfl (by kernel_rfl) (by kernel_rfl) (by kernel_rfl) (fun _ _ _ h => h) (Or.inl ⟨by rfl, fun w' h => ?_⟩) hS3 ?_
  · have c0 := h.1
    have c1 := h.2.1
    clear h
    go_simp
  simp only [Act.put, List.setIfInBounds_toArray, List.set_cons_zero, List.set_cons_succ]
  refine wpAnyH_take (i := 2) (v := .agg #[.slice A1 l1.length c1, .slice U1 z1.length v1]) rfl (by kernel_rfl) (by kernel_rfl) (by kernel_rfl) (fun _ _ _ h => h) (Or.inl ⟨by rfl, fun w' h => ?_⟩) hS3 ?_
  · have c0 := h.2.2.1
    have c1 := h.2.2.2
    clear h
    go_simp
  simp only [Act.put, List.setIfInBounds_toArray, List.set_cons_zero, List.set_cons_succ]
  refine wpAnyH_ready (rs := [1]) (by kernel_rfl) (by simp) (AllReadyH.cons rfl ?_ AllReadyH.nil)
  intro K hK
  rw [if_pos (by rfl)]
  go_simp
  refine (toFrame_any s0 A0 c0 l0 _ (hA0.below b3) hn0).mono ?_
  rintro e w4 ⟨g4, rfl, hg4, own4, hb4⟩
  have b4 := step_below hb4 b3
  have B0_4 := B0_3.keep hb4
  have B1_4 := B1_3.keep hb4
  have gl4 : g4 < w4.heap.size := (own4.lt g4 rfl).2
  have q4_4 := own4
  clear B0_3 B1_3 b3 hb4 own4
  refine hK.out _ _ ⟨(B0_4.cell (i := 0) rfl), (B0_4.cell (i := 1) rfl), (B1_4.cell (i := 0) rfl), (B1_4.cell (i := 1) rfl)⟩ (fun hS4 => ?_)
  clear hK K
  refine wpAnyH_ready (rs := [3]) (by kernel_rfl) (by simp) (AllReadyH.cons rfl ?_ AllReadyH.nil)
  intro K hK
  rw [if_pos (by rfl)]
  go_simp
  refine (toWear_any A1 c1 l1 U1 v1 z1 _ (hA1.below b4) (hU1.below b4) hn1.1 hn1.2).mono ?_
  rintro e w5 ⟨g5, m5, rfl, hg5, hgm5, own5, owm5, hb5⟩
  have b5 := step_below hb5 b4
  have B0_5 := B0_4.keep hb5
  have B1_5 := B1_4.keep hb5
  have q4_5 := own_keep q4_4 hb5
  have gl5 : g5 < w5.heap.size := (own5.lt g5 rfl).2
  have gm5 : m5 < w5.heap.size := (owm5.lt m5 rfl).2
  have q5_5 := own5
  have d5_5 := owm5
  clear B0_4 B1_4 b4 hb5 own5 q4_4
  refine hK.out _ _ ⟨(B0_5.cell (i := 0) rfl), (B0_5.cell (i := 1) rfl), (B1_5.cell (i := 0) rfl), (B1_5.cell (i := 1) rfl)⟩ (fun hS5 => ?_)
  clear hK K
  refine wpAnyH_ready (rs := [4]) (by kernel_rfl) (by simp) (AllReadyH.cons rfl ?_ AllReadyH.nil)
  intro K hK
  rw [if_pos (by rfl)]
  go_simp
  refine (KS _ _ _ _ (HA.of_own q4_5) (WnA.of_own q5_5) (SZ.of_own d5_5) ).mono ?_
  rintro e w6 ⟨rfl, hb6⟩
  have b6 := step_below hb6 b5
  have B0_6 := B0_5.keep hb6
  have B1_6 := B1_5.keep hb6
  clear B0_5 B1_5 b5 d5_5 hb6 q4_5 q5_5
  refine hK.out _ _ ⟨(B0_6.cell (i := 0) rfl), (B0_6.cell (i := 1) rfl), (B1_6.cell (i := 0) rfl), (B1_6.cell (i := 1) rfl)⟩ (fun hS6 => ?_)
  clear hK K
  refine wpAnyH_take (i := 5) (v := .bool r0) rfl (by kernel_rfl) (by kernel_rfl) (by kernel_rfl) (fun _ _ _ h => h) (Or.inl ⟨by rfl, fun w' _ => by go_simp⟩) hS6 ?_
  change wpAnyH _ _ _ _ _ _ _ (Act.put _ (some 6) _) _
  simp only [Act.put, List.setIfInBounds_toArray, List.set_cons_zero, List.set_cons_succ]
  refine wpAnyH_done (by kernel_rfl) ?_ _
  have pf25_ := B0_6.cell (i := 0) rfl
  have qf25_ := B0_6.cell (i := 1) rfl
  go_wp2_with fail
  clear pf25_ qf25_
  refine (toFrame_any s0 A0 c0 l0 _ (hA0.below b6) hn0).mono ?_
  rintro e w7 ⟨g7, rfl, hg7, own7, hb7⟩
  have b7 := step_below hb7 b6
  have B0_7 := B0_6.keep hb7
  have B1_7 := B1_6.keep hb7
  have gl7 : g7 < w7.heap.size := (own7.lt g7 rfl).2
  have q7_7 := own7
  clear B0_6 B1_6 b6 hb7 own7
  go_upto_region 10 with fail
  obtain ⟨w8, hX8⟩ : ∃ X, X = w7.alloc (.cells #[.int .i16 s0, .slice (some ⟨g7, 0, none⟩) l0.length l0.length] 41) := ⟨_, rfl⟩
  have hb8 : Below w7.heap.size w7 w8 := by rw [hX8]; exact (Below.refl _ _).alloc (Nat.le_refl _) _
  have K8 : Bk w8 w7.heap.size 41 #[.int .i16 s0, .slice (some ⟨g7, 0, none⟩) l0.length l0.length] := by rw [hX8]; exact Bk.new _ _ _ rfl
  rw [← hX8]
  clear hX8
  have b8 := step_below hb8 b7
  have B0_8 := B0_7.keep hb8
  have B1_8 := B1_7.keep hb8
  have q7_8 := own_keep q7_7 hb8
  have Y0_8 := K8
  have yw0 : w7.heap.size < w8.heap.size := K8.lt
  have pf27_ := B1_8.cell (i := 0) rfl
  have qf27_ := B1_8.cell (i := 1) rfl
  clear B0_7 B1_7 b7 hb8 q7_7
  go_wp2_with fail
  clear pf27_ qf27_
  refine (toWear_any A1 c1 l1 U1 v1 z1 _ (hA1.below b8) (hU1.below b8) hn1.1 hn1.2).mono ?_
  rintro e w9 ⟨g9, m9, rfl, hg9, hgm9, own9, owm9, hb9⟩
  have b9 := step_below hb9 b8
  have B0_9 := B0_8.keep hb9
  have B1_9 := B1_8.keep hb9
  have Y0_9 := Y0_8.keep hb9
  have q7_9 := own_keep q7_8 hb9
  have gl9 : g9 < w9.heap.size := (own9.lt g9 rfl).2
  have gm9 : m9 < w9.heap.size := (owm9.lt m9 rfl).2
  have q9_9 := own9
  have d9_9 := owm9
  clear B0_8 B1_8 Y0_8 b8 hb9 own9 q7_8
  go_upto_region 11 with fail
  obtain ⟨w10, hX10⟩ : ∃ X, X = w9.alloc (.cells #[.slice (some ⟨g9, 0, none⟩) l1.length l1.length, .slice (some ⟨m9, 0, none⟩) z1.length z1.length] 45) := ⟨_, rfl⟩
  have hb10 : Below w9.heap.size w9 w10 := by rw [hX10]; exact (Below.refl _ _).alloc (Nat.le_refl _) _
  have K10 : Bk w10 w9.heap.size 45 #[.slice (some ⟨g9, 0, none⟩) l1.length l1.length, .slice (some ⟨m9, 0, none⟩) z1.length z1.length] := by rw [hX10]; exact Bk.new _ _ _ rfl
  rw [← hX10]
  clear hX10
  have b10 := step_below hb10 b9
  have B0_10 := B0_9.keep hb10
  have B1_10 := B1_9.keep hb10
  have Y0_10 := Y0_9.keep hb10
  have q7_10 := own_keep q7_9 hb10
  have q9_10 := own_keep q9_9 hb10
  have d9_10 := own_keep d9_9 hb10
  have Y1_10 := K10
  have yw1 : w9.heap.size < w10.heap.size := K10.lt
  have pf29_ := Y0_10.cell (i := 0) rfl
  have qf29_ := Y0_10.cell (i := 1) rfl
  have pf30_ := Y1_10.cell (i := 0) rfl
  have qf30_ := Y1_10.cell (i := 1) rfl
  clear B0_9 B1_9 Y0_9 b9 d9_9 hb10 q7_9 q9_9
  go_wp2_with fail
  clear pf29_ qf29_ pf30_ qf30_
  refine (KI _ _ _ _ (HA.of_own q7_10) (WnA.of_own q9_10) (SZ.of_own d9_10) ).mono ?_
  rintro e w11 ⟨rfl, hb11⟩
  have b11 := step_below hb11 b10
  have B0_11 := B0_10.keep hb11
  have B1_11 := B1_10.keep hb11
  have Y0_11 := Y0_10.keep hb11
  have Y1_11 := Y1_10.keep hb11
  have q7_11 := own_keep q7_10 hb11
  have q9_11 := own_keep q9_10 hb11
  have d9_11 := own_keep d9_10 hb11
  clear B0_10 B1_10 Y0_10 Y1_10 b10 d9_10 hb11 q7_10 q9_10
  go_wp2_with fail
  have hb12 : Below w11.heap.size w11 w11.drew := (Below.refl _ _).drew
  have b12 := step_below hb12 b11
  have B0_12 := B0_11.keep hb12
  have B1_12 := B1_11.keep hb12
  have Y0_12 := Y0_11.keep hb12
  have Y1_12 := Y1_11.keep hb12
  have q7_12 := own_keep q7_11 hb12
  have q9_12 := own_keep q9_11 hb12
  have d9_12 := own_keep d9_11 hb12
  clear B0_11 B1_11 Y0_11 Y1_11 b11 d9_11 hb12 q7_11 q9_11
  refine wp_region_held_drew (S := fun w' => w'.cell? ⟨w7.heap.size, 0, none⟩ = some (.int .i16 s0) ∧ w'.cell? ⟨w7.heap.size, 1, none⟩ = some (.slice (some ⟨g7, 0, none⟩) l0.length l0.length) ∧ w'.cell? ⟨w.heap.size, 0, none⟩ = some (.int .i16 s0) ∧ w'.cell? ⟨w.heap.size, 1, none⟩ = some (.slice A0 l0.length c0)) (by kernel_rfl) ⟨(Y0_12.cell (i := 0) rfl), (Y0_12.cell (i := 1) rfl), (B0_12.cell (i := 0) rfl), (B0_12.cell (i := 1) rfl)⟩ fun hS12 => ?_
  refine wpAnyH_take (i := 0) (v := .agg #[.int .i16 s0, .slice (some ⟨g7, 0, none⟩) l0.length l0.length]) rfl (by kernel_rfl) (by kernel_rfl) (by kernel_rfl) (fun _ _ _ h => h) (Or.inl ⟨by rfl, fun w' h => ?_⟩) hS12 ?_
  · have c0 := h.1
    have c1 := h.2.1
    clear h
    go_simp
  simp only [Act.put, List.setIfInBounds_toArray, List.set_cons_zero, List.set_cons_succ]
  refine wpAnyH_take (i := 1) (v := .agg #[.int .i16 s0, .slice A0 l0.length c0]) rfl (by kernel_rfl) (by kernel_rfl) (by kernel_rfl) (fun _ _ _ h => h) (Or.inl ⟨by rfl, fun w' h => ?_⟩) hS12 ?_
  · have c0 := h.2.2.1
    have c1 := h.2.2.2
    clear h
    go_simp
  simp only [Act.put, List.setIfInBounds_toArray, List.set_cons_zero, List.set_cons_succ]
  refine wpAnyH_ready (rs := [2]) (by kernel_rfl) (by simp) (AllReadyH.cons rfl ?_ AllReadyH.nil)
  intro K hK
  rw [if_pos (by rfl)]
  go_simp
  refine (toFrame_any s0 A0 c0 l0 _ (hA0.below b12) hn0).mono ?_
  rintro e w13 ⟨g13, rfl, hg13, own13, hb13⟩
  have b13 := step_below hb13 b12
  have B0_13 := B0_12.keep hb13
  have B1_13 := B1_12.keep hb13
  have Y0_13 := Y0_12.keep hb13
  have Y1_13 := Y1_12.keep hb13
  have q7_13 := own_keep q7_12 hb13
  have q9_13 := own_keep q9_12 hb13
  have d9_13 := own_keep d9_12 hb13
  have gl13 : g13 < w13.heap.size := (own13.lt g13 rfl).2
  have q13_13 := own13
  clear B0_12 B1_12 Y0_12 Y1_12 b12 d9_12 hb13 own13 q7_12 q9_12
  refine hK.out _ _ ⟨(Y0_13.cell (i := 0) rfl), (Y0_13.cell (i := 1) rfl), (B0_13.cell (i := 0) rfl), (B0_13.cell (i := 1) rfl)⟩ (fun hS13 => ?_)
  clear hK K
  refine wpAnyH_ready (rs := [3]) (by kernel_rfl) (by simp) (AllReadyH.cons rfl ?_ AllReadyH.nil)
  intro K hK
  rw [if_pos (by rfl)]
  go_simp
  refine (eqFrame_any s0 _ _ _ _ l0 _ (HA.of_own q7_13) (HA.of_own q13_13) hn0).mono ?_
  rintro e w14 ⟨rfl, hb14⟩
  have b14 := step_below hb14 b13
  have B0_14 := B0_13.keep hb14
  have B1_14 := B1_13.keep hb14
  have Y0_14 := Y0_13.keep hb14
  have Y1_14 := Y1_13.keep hb14
  have q9_14 := own_keep q9_13 hb14
  have d9_14 := own_keep d9_13 hb14
  clear B0_13 B1_13 Y0_13 Y1_13 b13 d9_13 hb14 q13_13 q7_13 q9_13
  refine hK.out _ _ ⟨(Y0_14.cell (i := 0) rfl), (Y0_14.cell (i := 1) rfl), (B0_14.cell (i := 0) rfl), (B0_14.cell (i := 1) rfl)⟩ (fun hS14 => ?_)
  clear hK K
  clear B0_14 Y0_14
  refine wpAnyH_take (i := 4) (v := .bool false) rfl (by kernel_rfl) (by kernel_rfl) (by kernel_rfl) (fun _ _ _ h => h) (Or.inl ⟨by rfl, fun w' _ => by go_simp⟩) hS14 ?_
  change wpAnyH _ _ _ _ _ _ _ (Act.put _ (some 39) _) _
  simp only [Act.put, List.setIfInBounds_toArray, List.set_cons_zero, List.set_cons_succ]
  refine wpAnyH_done (by kernel_rfl) ?_ _
  go_wp2_with fail
  have hb15 : Below w14.heap.size w14 w14.drew := (Below.refl _ _).drew
  have b15 := step_below hb15 b14
  have B1_15 := B1_14.keep hb15
  have Y1_15 := Y1_14.keep hb15
  have q9_15 := own_keep q9_14 hb15
  have d9_15 := own_keep d9_14 hb15
  clear B1_14 Y1_14 b14 d9_14 hb15 q9_14
  refine wp_region_held_drew (S := fun w' => w'.cell? ⟨w9.heap.size, 0, none⟩ = some (.slice (some ⟨g9, 0, none⟩) l1.length l1.length) ∧ w'.cell? ⟨w9.heap.size, 1, none⟩ = some (.slice (some ⟨m9, 0, none⟩) z1.length z1.length) ∧ w'.cell? ⟨w.heap.size + 1, 0, none⟩ = some (.slice A1 l1.length c1) ∧ w'.cell? ⟨w.heap.size + 1, 1, none⟩ = some (.slice U1 z1.length v1)) (by kernel_rfl) ⟨(Y1_15.cell (i := 0) rfl), (Y1_15.cell (i := 1) rfl), (B1_15.cell (i := 0) rfl), (B1_15.cell (i := 1) rfl)⟩ fun hS15 => ?_
  refine wpAnyH_take (i := 0) (v := .agg #[.slice (some ⟨g9, 0, none⟩) l1.length l1.length, .slice (some ⟨m9, 0, none⟩) z1.length z1.length]) rfl (by kernel_rfl) (by kernel_rfl) (by kernel_rfl) (fun _ _ _ h => h) (Or.inl ⟨by rfl, fun w' h => ?_⟩) hS15 ?_
  · have c0 := h.1
    have c1 := h.2.1
    clear h
    go_simp
  simp only [Act.put, List.setIfInBounds_toArray, List.set_cons_zero, List.set_cons_succ]
  refine wpAnyH_take (i := 1) (v := .agg #[.slice A1 l1.length c1, .slice U1 z1.length v1]) rfl (by kernel_rfl) (by kernel_rfl) (by kernel_rfl) (fun _ _ _ h => h) (Or.inl ⟨by rfl, fun w' h => ?_⟩) hS15 ?_
  · have c0 := h.2.2.1
    have c1 := h.2.2.2
    clear h
    go_simp
  simp only [Act.put, List.setIfInBounds_toArray, List.set_cons_zero, List.set_cons_succ]
  refine wpAnyH_ready (rs := [2]) (by kernel_rfl) (by simp) (AllReadyH.cons rfl ?_ AllReadyH.nil)
  intro K hK
  rw [if_pos (by rfl)]
  go_simp
  refine (toWear_any A1 c1 l1 U1 v1 z1 _ (hA1.below b15) (hU1.below b15) hn1.1 hn1.2).mono ?_
  rintro e w16 ⟨g16, m16, rfl, hg16, hgm16, own16, owm16, hb16⟩
  have b16 := step_below hb16 b15
  have B1_16 := B1_15.keep hb16
  have Y1_16 := Y1_15.keep hb16
  have q9_16 := own_keep q9_15 hb16
  have d9_16 := own_keep d9_15 hb16
  have gl16 : g16 < w16.heap.size := (own16.lt g16 rfl).2
  have gm16 : m16 < w16.heap.size := (owm16.lt m16 rfl).2
  have q16_16 := own16
  have d16_16 := owm16
  clear B1_15 Y1_15 b15 d9_15 hb16 own16 q9_15
  refine hK.out _ _ ⟨(Y1_16.cell (i := 0) rfl), (Y1_16.cell (i := 1) rfl), (B1_16.cell (i := 0) rfl), (B1_16.cell (i := 1) rfl)⟩ (fun hS16 => ?_)
  clear hK K
  refine wpAnyH_ready (rs := [3]) (by kernel_rfl) (by simp) (AllReadyH.cons rfl ?_ AllReadyH.nil)
  intro K hK
  rw [if_pos (by rfl)]
  go_simp
  refine (eqWear_self _ _ _ _ l1 _ _ _ _ z1 _ (WnA.of_own q9_16) (WnA.of_own q16_16) (SI.of_own d9_16) (SI.of_own d16_16) hn1.1 hn1.2).mono ?_
  rintro e w17 ⟨rfl, hb17⟩
  have b17 := step_below hb17 b16
  have B1_17 := B1_16.keep hb17
  have Y1_17 := Y1_16.keep hb17
  clear B1_16 Y1_16 b16 d16_16 d9_16 hb17 q16_16 q9_16
  refine hK.out _ _ ⟨(Y1_17.cell (i := 0) rfl), (Y1_17.cell (i := 1) rfl), (B1_17.cell (i := 0) rfl), (B1_17.cell (i := 1) rfl)⟩ (fun hS17 => ?_)
  clear hK K
  clear B1_17 Y1_17
  refine wpAnyH_take (i := 4) (v := .bool false) rfl (by kernel_rfl) (by kernel_rfl) (by kernel_rfl) (fun _ _ _ h => h) (Or.inl ⟨by rfl, fun w' _ => by go_simp⟩) hS17 ?_
  change wpAnyH _ _ _ _ _ _ _ (Act.put _ (some 44) _) _
  simp only [Act.put, List.setIfInBounds_toArray, List.set_cons_zero, List.set_cons_succ]
  refine wpAnyH_done (by kernel_rfl) ?_ _
  go_wp2
  go_ret
  exact ⟨rfl, b17⟩
theorem lawValidWear_any (s0 : Int) (A0 : Option Addr) (c0 : Nat) (l0 : List (Int × Int)) (A1 : Option Addr) (c1 : Nat) (l1 : List (Int × Int × Int)) (U1 : Option Addr) (v1 : Nat) (z1 : List Int) (w : World) (hA0 : HA w A0 l0) (hwf0 : HWF l0) (hs0 : -32768 ≤ s0 ∧ s0 ≤ 32767) (hA1 : WnA w A1 l1) (hU1 : SZ w U1 z1) (hwf1 : WnWF l1) (hzwf1 : ZWF z1) (hm0 : l0.length ≤ maxLen) (hm1 : l1.length ≤ maxLen ∧ z1.length ≤ maxLen)  :
    Calls Try.prog 4 #[.agg #[.int .i16 s0, .slice A0 l0.length c0], .agg #[.slice A1 l1.length c1, .slice U1 z1.length v1]] w (Says true w) := by
  rcases Nat.lt_or_ge 1048576 (l0.length) with h0 | h0
  · exact lawValidWear_big0 s0 A0 c0 l0 A1 c1 l1 U1 v1 z1 w  h0 hm0 hm1
  rcases Nat.lt_or_ge 1048576 (l0.length + (l1.length + z1.length)) with h1 | h1
  · exact lawValidWear_big1 s0 A0 c0 l0 A1 c1 l1 U1 v1 z1 w h0 h1 hm0 hm1
  exact lawValidWear_small s0 A0 c0 l0 A1 c1 l1 U1 v1 z1 w hA0 hwf0 hs0 hA1 hU1 hwf1 hzwf1 h0 h1 hm0 hm1 
end Go.Proofs.Ytakdnmakgblamaa
