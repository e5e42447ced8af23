import Derived.Test.YtcocfnjbgceidaaGad
import Derived.Test.YtcocfnjbgceidaaMkf
import Derived.Test.YtcocfnjbgceidaaGau
import Derived.Test.YtcocfnjbgceidaaGav
import Derived.Test.YtcocfnjbgceidaaGbq
import Derived.Test.YtcocfnjbgceidaaWos
import Derived.Test.YtcocfnjbgceidaaGbp
import Derived.Deep.RegionHeld3
import Derived.Deep.CutRange
namespace Go.Proofs.Ytcocfnjbgceidaa
open Go.RowKit

set_option maxRecDepth 20000 in
set_option maxHeartbeats 1000000 in
theorem lawWornOut_big0 (s0 : Int) (A0 : Option Addr) (c0 : Nat) (l0 : List (Int × Int)) (A1 : Option Addr) (c1 : Nat) (l1 : List (Int × Int × Int)) (U1 : Option Addr) (v1 : Nat) (z1 : List Int) (x2_0 : Int) (x2_1 : Int) (w : World)  (hbg : 1048576 < l0.length) (hm0 : l0.length ≤ maxLen) (hm1 : l1.length ≤ maxLen ∧ z1.length ≤ maxLen) :
    Calls Try.prog 7 #[.agg #[.int .i16 s0, .slice A0 l0.length c0], .agg #[.slice A1 l1.length c1, .slice U1 z1.length v1], .agg #[.int .i64 x2_0, .int .i64 x2_1]] w (Says true w) := by
  obtain ⟨X0, hX0⟩ : ∃ X, X = (((w.alloc (.cells #[.int .i16 s0, .slice A0 l0.length c0] 46)).alloc (.cells #[.slice A1 l1.length c1, .slice U1 z1.length v1] 50)).alloc (.cells #[.int .i64 x2_0, .int .i64 x2_1] 52)) := ⟨_, rfl⟩
  have b0 : Below w.heap.size w X0 := by rw [hX0]; exact ((((Below.refl _ _).alloc (Nat.le_refl _) _).alloc (by simp) _).alloc (by simp; omega) _)
  have B0_0 : Bk X0 (w.heap.size) 46 #[.int .i16 s0, .slice A0 l0.length c0] := by rw [hX0]; exact Bk.new _ _ _ rfl |>.old _ |>.old _
  have bw0 : w.heap.size < X0.heap.size := B0_0.lt
  have B1_0 : Bk X0 (w.heap.size + 1) 50 #[.slice A1 l1.length c1, .slice U1 z1.length v1] := by rw [hX0]; exact Bk.new _ _ _ (by simp) |>.old _
  have bw1 : w.heap.size + 1 < X0.heap.size := B1_0.lt
  have B2_0 : Bk X0 (w.heap.size + 1 + 1) 52 #[.int .i64 x2_0, .int .i64 x2_1] := by rw [hX0]; exact Bk.new _ _ _ (by simp)
  have bw2 : w.heap.size + 1 + 1 < X0.heap.size := B2_0.lt
  go_enter Try.func7, Try.ntmps7
  go_upto_region 1 with fail
  rw [← hX0]
  clear hX0
  have pf22_0 := B0_0.cell (i := 0) rfl
  have pf22_1 := B0_0.cell (i := 1) rfl
  go_wp2_with fail
  clear pf22_0 pf22_1
  refine (szFrame_at_big s0 A0 l0.length c0 (1048576) (by omega) (by omega) hm0 (by omega) _).mono ?_
  rintro e w1 ⟨rfl, hb1⟩
  have b1 := step_below hb1 b0
  go_wp2
  go_ret
  exact ⟨rfl, b1⟩
set_option maxRecDepth 20000 in
set_option maxHeartbeats 1000000 in
theorem lawWornOut_big1 (s0 : Int) (A0 : Option Addr) (c0 : Nat) (l0 : List (Int × Int)) (A1 : Option Addr) (c1 : Nat) (l1 : List (Int × Int × Int)) (U1 : Option Addr) (v1 : Nat) (z1 : List Int) (x2_0 : Int) (x2_1 : Int) (w : World) (hc0 : l0.length ≤ 1048576) (hbg : 1048576 < l0.length + (l1.length + z1.length)) (hm0 : l0.length ≤ maxLen) (hm1 : l1.length ≤ maxLen ∧ z1.length ≤ maxLen) :
    Calls Try.prog 7 #[.agg #[.int .i16 s0, .slice A0 l0.length c0], .agg #[.slice A1 l1.length c1, .slice U1 z1.length v1], .agg #[.int .i64 x2_0, .int .i64 x2_1]] w (Says true w) := by
  obtain ⟨X0, hX0⟩ : ∃ X, X = (((w.alloc (.cells #[.int .i16 s0, .slice A0 l0.length c0] 46)).alloc (.cells #[.slice A1 l1.length c1, .slice U1 z1.length v1] 50)).alloc (.cells #[.int .i64 x2_0, .int .i64 x2_1] 52)) := ⟨_, rfl⟩
  have b0 : Below w.heap.size w X0 := by rw [hX0]; exact ((((Below.refl _ _).alloc (Nat.le_refl _) _).alloc (by simp) _).alloc (by simp; omega) _)
  have B0_0 : Bk X0 (w.heap.size) 46 #[.int .i16 s0, .slice A0 l0.length c0] := by rw [hX0]; exact Bk.new _ _ _ rfl |>.old _ |>.old _
  have bw0 : w.heap.size < X0.heap.size := B0_0.lt
  have B1_0 : Bk X0 (w.heap.size + 1) 50 #[.slice A1 l1.length c1, .slice U1 z1.length v1] := by rw [hX0]; exact Bk.new _ _ _ (by simp) |>.old _
  have bw1 : w.heap.size + 1 < X0.heap.size := B1_0.lt
  have B2_0 : Bk X0 (w.heap.size + 1 + 1) 52 #[.int .i64 x2_0, .int .i64 x2_1] := by rw [hX0]; exact Bk.new _ _ _ (by simp)
  have bw2 : w.heap.size + 1 + 1 < X0.heap.size := B2_0.lt
  go_enter Try.func7, Try.ntmps7
  go_upto_region 1 with fail
  rw [← hX0]
  clear hX0
  have pf22_0 := B0_0.cell (i := 0) rfl
  have pf22_1 := B0_0.cell (i := 1) rfl
  go_wp2_with fail
  clear pf22_0 pf22_1
  refine (szFrame_at_small s0 A0 l0.length c0 (1048576) (by omega) (by omega) hm0 (by omega) _).mono ?_
  rintro e w1 ⟨rfl, hb1⟩
  have b1 := step_below hb1 b0
  have B0_1 := B0_0.keep hb1
  have B1_1 := B1_0.keep hb1
  have B2_1 := B2_0.keep hb1
  have pf27_0 := B1_1.cell (i := 0) rfl
  have pf27_1 := B1_1.cell (i := 1) rfl
  go_wp2_with fail
  clear pf27_0 pf27_1
  refine (szWear_big A1 l1.length c1 U1 z1.length v1 (1048576 - (l0.length : Int)) (by omega) (by omega) hm1.1 hm1.2 (by omega) _).mono ?_
  rintro e w2 ⟨rfl, hb2⟩
  have b2 := step_below hb2 b1
  go_wp2
  go_ret
  exact ⟨rfl, b2⟩
set_option maxRecDepth 20000 in
set_option maxHeartbeats 16000000 in
theorem lawWornOut_small (s0 : Int) (A0 : Option Addr) (c0 : Nat) (l0 : List (Int × Int)) (A1 : Option Addr) (c1 : Nat) (l1 : List (Int × Int × Int)) (U1 : Option Addr) (v1 : Nat) (z1 : List Int) (x2_0 : Int) (x2_1 : Int) (w : World) (hA0 : HA w A0 l0) (hwf0 : HWF l0) (hs0 : -32768 ≤ s0 ∧ s0 ≤ 32767) (hA1 : WnA w A1 l1) (hU1 : SZ w U1 z1) (hwf1 : WnWF l1) (hzwf1 : ZWF z1) (hv2 : LvWF x2_0 x2_1) (hc0 : l0.length ≤ 1048576) (hc1 : l0.length + (l1.length + z1.length) ≤ 1048576) (hm0 : l0.length ≤ maxLen) (hm1 : l1.length ≤ maxLen ∧ z1.length ≤ maxLen) :
    Calls Try.prog 7 #[.agg #[.int .i16 s0, .slice A0 l0.length c0], .agg #[.slice A1 l1.length c1, .slice U1 z1.length v1], .agg #[.int .i64 x2_0, .int .i64 x2_1]] w (Says true w) := by
  have hn0 : l0.length ≤ 1048576 := by omega
  have hn1 : l1.length ≤ 1048576 ∧ z1.length ≤ 1048576 := ⟨by omega, by omega⟩
  obtain ⟨r0, hr0⟩ : ∃ r : List (Int × Int × Int), r = wuT s0 l0 l1 z1 x2_0 x2_1 := ⟨_, rfl⟩
  obtain ⟨r1, hr1⟩ : ∃ r : List Int, r = wuK s0 l0 l1 z1 x2_0 x2_1 := ⟨_, rfl⟩
  obtain ⟨r2, hr2⟩ : ∃ r : Int, r = wuC s0 l0 l1 z1 x2_0 x2_1 := ⟨_, rfl⟩
  have hrl0 : r0.length ≤ 1048576 := by rw [hr0]; exact wuT_len _ _ _ _ _ _ hn1.1
  have hrl1 : r1.length ≤ 1048576 := by rw [hr1]; exact wuK_len _ _ _ _ _ _ hn1.2
  have KS : ∀ (E0 : Option Addr) (E1 O1 : Option Addr) (W : World), HA W E0 l0 → WnA W E1 l1 → SZ W O1 z1 → Calls Try.prog 34 #[.agg #[.int .i16 s0, .slice E0 l0.length l0.length], .agg #[.slice E1 l1.length l1.length, .slice O1 z1.length z1.length], .agg #[.int .i64 x2_0, .int .i64 x2_1]] W (fun e w' => ∃ (C : Option Addr) (q : Nat) (Cb : Option Addr) (qb : Nat), e = .returned (.tuple #[.slice C r0.length q, .slice Cb r1.length qb, .int .i64 r2]) ∧ w'.ownsRow W.heap.size 136 3 (.slice C r0.length q) r0.length (wnC r0) ∧ w'.ownsRow W.heap.size 2 1 (.slice Cb r1.length qb) r1.length (icells r1) ∧ Below W.heap.size W w') := fun E0 E1 O1 W h0 h1 h1z => by rw [hr0, hr1, hr2]; exact specWornOut_any s0 E0 l0.length l0 E1 l1.length l1 O1 z1.length z1 x2_0 x2_1 W h0 hn0 hwf0 hs0 h1 h1z hn1.1 hn1.2 hwf1 hzwf1 hv2
  have KI : ∀ (E0 : Option Addr) (E1 O1 : Option Addr) (W : World), HA W E0 l0 → WnA W E1 l1 → SZ W O1 z1 → Calls Try.prog 35 #[.agg #[.int .i16 s0, .slice E0 l0.length l0.length], .agg #[.slice E1 l1.length l1.length, .slice O1 z1.length z1.length], .agg #[.int .i64 x2_0, .int .i64 x2_1]] W (fun e w' => ∃ (C : Option Addr) (q : Nat) (Cb : Option Addr) (qb : Nat), e = .returned (.tuple #[.slice C r0.length q, .slice Cb r1.length qb, .int .i64 r2]) ∧ w'.ownsRow W.heap.size 136 3 (.slice C r0.length q) r0.length (wnC r0) ∧ w'.ownsRow W.heap.size 2 1 (.slice Cb r1.length qb) r1.length (icells r1) ∧ Below W.heap.size W w') := fun E0 E1 O1 W h0 h1 h1z => by rw [hr0, hr1, hr2]; exact implWornOut_any s0 E0 l0.length l0 E1 l1.length l1 O1 z1.length z1 x2_0 x2_1 W h0 hn0 hwf0 hs0 h1 h1z hn1.1 hn1.2 hwf1 hzwf1 hv2
  clear hr0 hr1 hr2
  obtain ⟨X0, hX0⟩ : ∃ X, X = (((w.alloc (.cells #[.int .i16 s0, .slice A0 l0.length c0] 46)).alloc (.cells #[.slice A1 l1.length c1, .slice U1 z1.length v1] 50)).alloc (.cells #[.int .i64 x2_0, .int .i64 x2_1] 52)) := ⟨_, rfl⟩
  have b0 : Below w.heap.size w X0 := by rw [hX0]; exact ((((Below.refl _ _).alloc (Nat.le_refl _) _).alloc (by simp) _).alloc (by simp; omega) _)
  have B0_0 : Bk X0 (w.heap.size) 46 #[.int .i16 s0, .slice A0 l0.length c0] := by rw [hX0]; exact Bk.new _ _ _ rfl |>.old _ |>.old _
  have bw0 : w.heap.size < X0.heap.size := B0_0.lt
  have B1_0 : Bk X0 (w.heap.size + 1) 50 #[.slice A1 l1.length c1, .slice U1 z1.length v1] := by rw [hX0]; exact Bk.new _ _ _ (by simp) |>.old _
  have bw1 : w.heap.size + 1 < X0.heap.size := B1_0.lt
  have B2_0 : Bk X0 (w.heap.size + 1 + 1) 52 #[.int .i64 x2_0, .int .i64 x2_1] := by rw [hX0]; exact Bk.new _ _ _ (by simp)
  have bw2 : w.heap.size + 1 + 1 < X0.heap.size := B2_0.lt
  go_enter Try.func7, Try.ntmps7
  go_upto_region 1 with fail
  rw [← hX0]
  clear hX0
  have pf22_0 := B0_0.cell (i := 0) rfl
  have pf22_1 := B0_0.cell (i := 1) rfl
  go_wp2_with fail
  clear pf22_0 pf22_1
  refine (szFrame_at_small s0 A0 l0.length c0 (1048576) (by omega) (by omega) hm0 (by omega) _).mono ?_
  rintro e w1 ⟨rfl, hb1⟩
  have b1 := step_below hb1 b0
  have B0_1 := B0_0.keep hb1
  have B1_1 := B1_0.keep hb1
  have B2_1 := B2_0.keep hb1
  have pf27_0 := B1_1.cell (i := 0) rfl
  have pf27_1 := B1_1.cell (i := 1) rfl
  go_wp2_with fail
  clear pf27_0 pf27_1
  refine (szWear_small A1 l1.length c1 U1 z1.length v1 (1048576 - (l0.length : Int)) (by omega) (by omega) hm1.1 hm1.2 (by omega) _).mono ?_
  rintro e w2 ⟨rfl, hb2⟩
  have b2 := step_below hb2 b1
  have B0_2 := B0_1.keep hb2
  have B1_2 := B1_1.keep hb2
  have B2_2 := B2_1.keep hb2
  go_wp2_with fail
  have hb3 : Below w2.heap.size w2 w2.drew := (Below.refl _ _).drew
  have b3 := step_below hb3 b2
  have B0_3 := B0_2.keep hb3
  have B1_3 := B1_2.keep hb3
  have B2_3 := B2_2.keep hb3
  refine wp_region_held_drew (S := fun w' => w'.cell? ⟨w.heap.size, 0, none⟩ = some (.int .i16 s0) ∧ w'.cell? ⟨w.heap.size, 1, none⟩ = some (.slice A0 l0.length c0) ∧ w'.cell? ⟨w.heap.size + 1, 0, none⟩ = some (.slice A1 l1.length c1) ∧ w'.cell? ⟨w.heap.size + 1, 1, none⟩ = some (.slice U1 z1.length v1) ∧ w'.cell? ⟨w.heap.size + 1 + 1, 0, none⟩ = some (.int .i64 x2_0) ∧ w'.cell? ⟨w.heap.size + 1 + 1, 1, none⟩ = some (.int .i64 x2_1)) (by kernel_rfl) ⟨(B0_3.cell (i := 0) rfl), (B0_3.cell (i := 1) rfl), (B1_3.cell (i := 0) rfl), (B1_3.cell (i := 1) rfl), (B2_3.cell (i := 0) rfl), (B2_3.cell (i := 1) rfl)⟩ fun hS3 => ?_
  refine wpAnyH_take (i := 0) (v := .agg #[.int .i16 s0, .slice A0 l0.length c0]) rfl (by kernel_rfl) (by kernel_rfl) (by kernel_rfl) (fun _ _ _ h => h) (Or.inl ⟨by rfl, fun w' h => ?_⟩) hS3 ?_
  · have c0 := h.1
    have c1 := h.2.1
    clear h
    go_simp
  simp only [Act.put, List.setIfInBounds_toArray, List.set_cons_zero, List.set_cons_succ]
  refine wpAnyH_take (i := 2) (v := .agg #[.slice A1 l1.length c1, .slice U1 z1.length v1]) rfl (by kernel_rfl) (by kernel_rfl) (by kernel_rfl) (fun _ _ _ h => h) (Or.inl ⟨by rfl, fun w' h => ?_⟩) hS3 ?_
  · have c0 := h.2.2.1
    have c1 := h.2.2.2.1
    clear h
    go_simp
  simp only [Act.put, List.setIfInBounds_toArray, List.set_cons_zero, List.set_cons_succ]
  refine wpAnyH_take (i := 4) (v := .agg #[.int .i64 x2_0, .int .i64 x2_1]) rfl (by kernel_rfl) (by kernel_rfl) (by kernel_rfl) (fun _ _ _ h => h) (Or.inl ⟨by rfl, fun w' h => ?_⟩) hS3 ?_
  · have c0 := h.2.2.2.2.1
    have c1 := h.2.2.2.2.2
    clear h
    go_simp
  simp only [Act.put, List.setIfInBounds_toArray, List.set_cons_zero, List.set_cons_succ]
  refine wpAnyH_ready (rs := [1]) (by kernel_rfl) (by simp) (AllReadyH.cons rfl ?_ AllReadyH.nil)
  intro K hK
  rw [if_pos (by rfl)]
  go_simp
  refine (toFrame_any s0 A0 c0 l0 _ (hA0.below b3) hn0).mono ?_
  rintro e w4 ⟨g4, rfl, hg4, own4, hb4⟩
  have b4 := step_below hb4 b3
  have B0_4 := B0_3.keep hb4
  have B1_4 := B1_3.keep hb4
  have B2_4 := B2_3.keep hb4
  have gl4 : g4 < w4.heap.size := (own4.lt g4 rfl).2
  have q4_4 := own4
  refine hK.out _ _ ⟨(B0_4.cell (i := 0) rfl), (B0_4.cell (i := 1) rfl), (B1_4.cell (i := 0) rfl), (B1_4.cell (i := 1) rfl), (B2_4.cell (i := 0) rfl), (B2_4.cell (i := 1) rfl)⟩ (fun hS4 => ?_)
  clear hK K
  refine wpAnyH_ready (rs := [3]) (by kernel_rfl) (by simp) (AllReadyH.cons rfl ?_ AllReadyH.nil)
  intro K hK
  rw [if_pos (by rfl)]
  go_simp
  refine (toWear_any A1 c1 l1 U1 v1 z1 _ (hA1.below b4) (hU1.below b4) hn1.1 hn1.2).mono ?_
  rintro e w5 ⟨g5, m5, rfl, hg5, hgm5, own5, owm5, hb5⟩
  have b5 := step_below hb5 b4
  have B0_5 := B0_4.keep hb5
  have B1_5 := B1_4.keep hb5
  have B2_5 := B2_4.keep hb5
  have q4_5 := own_keep q4_4 hb5
  have gl5 : g5 < w5.heap.size := (own5.lt g5 rfl).2
  have gm5 : m5 < w5.heap.size := (owm5.lt m5 rfl).2
  have q5_5 := own5
  have d5_5 := owm5
  refine hK.out _ _ ⟨(B0_5.cell (i := 0) rfl), (B0_5.cell (i := 1) rfl), (B1_5.cell (i := 0) rfl), (B1_5.cell (i := 1) rfl), (B2_5.cell (i := 0) rfl), (B2_5.cell (i := 1) rfl)⟩ (fun hS5 => ?_)
  clear hK K
  refine wpAnyH_ready (rs := [5]) (by kernel_rfl) (by simp) (AllReadyH.cons rfl ?_ AllReadyH.nil)
  intro K hK
  rw [if_pos (by rfl)]
  go_simp
  refine (toLives_any x2_0 x2_1 _).mono ?_
  rintro e w6 ⟨rfl, hb6⟩
  have b6 := step_below hb6 b5
  have B0_6 := B0_5.keep hb6
  have B1_6 := B1_5.keep hb6
  have B2_6 := B2_5.keep hb6
  have q4_6 := own_keep q4_5 hb6
  have q5_6 := own_keep q5_5 hb6
  have d5_6 := own_keep d5_5 hb6
  refine hK.out _ _ ⟨(B0_6.cell (i := 0) rfl), (B0_6.cell (i := 1) rfl), (B1_6.cell (i := 0) rfl), (B1_6.cell (i := 1) rfl), (B2_6.cell (i := 0) rfl), (B2_6.cell (i := 1) rfl)⟩ (fun hS6 => ?_)
  clear hK K
  refine wpAnyH_ready (rs := [6]) (by kernel_rfl) (by simp) (AllReadyH.cons rfl ?_ AllReadyH.nil)
  intro K hK
  rw [if_pos (by rfl)]
  go_simp
  refine (KS _ _ _ _ (HA.of_own q4_6) (WnA.of_own q5_6) (SZ.of_own d5_6) ).mono ?_
  rintro e w7 ⟨C7, e7, C7b, e7b, rfl, own7, owm7, hb7⟩
  have b7 := step_below hb7 b6
  have B0_7 := B0_6.keep hb7
  have B1_7 := B1_6.keep hb7
  have B2_7 := B2_6.keep hb7
  have v7_7 := own7
  have vz7_7 := owm7
  have t7 : Below w7.heap.size w7 w7 := Below.refl _ _
  refine hK.out _ _ ⟨(B0_7.cell (i := 0) rfl), (B0_7.cell (i := 1) rfl), (B1_7.cell (i := 0) rfl), (B1_7.cell (i := 1) rfl), (B2_7.cell (i := 0) rfl), (B2_7.cell (i := 1) rfl)⟩ (fun hS7 => ?_)
  clear hK K
  refine wpAnyH_take (i := 7) (v := .tuple #[.slice C7 r0.length e7, .slice C7b r1.length e7b, .int .i64 r2]) rfl (by kernel_rfl) (by kernel_rfl) (by kernel_rfl) (fun _ _ _ h => h) (Or.inl ⟨by rfl, fun w' _ => by go_simp⟩) hS7 ?_
  change wpAnyH _ _ _ _ _ _ _ (Act.put _ (some 32) _) _
  simp only [Act.put, List.setIfInBounds_toArray, List.set_cons_zero, List.set_cons_succ]
  refine wpAnyH_take (i := 8) (v := .slice C7 r0.length e7) rfl (by kernel_rfl) (by kernel_rfl) (by kernel_rfl) (fun _ _ _ h => h) (Or.inl ⟨by rfl, fun w' _ => by go_simp⟩) hS7 ?_
  change wpAnyH _ _ _ _ _ _ _ (Act.put _ (some 40) _) _
  simp only [Act.put, List.setIfInBounds_toArray, List.set_cons_zero, List.set_cons_succ]
  refine wpAnyH_take (i := 9) (v := .slice C7b r1.length e7b) rfl (by kernel_rfl) (by kernel_rfl) (by kernel_rfl) (fun _ _ _ h => h) (Or.inl ⟨by rfl, fun w' _ => by go_simp⟩) hS7 ?_
  change wpAnyH _ _ _ _ _ _ _ (Act.put _ (some 41) _) _
  simp only [Act.put, List.setIfInBounds_toArray, List.set_cons_zero, List.set_cons_succ]
  refine wpAnyH_take (i := 10) (v := .int .i64 r2) rfl (by kernel_rfl) (by kernel_rfl) (by kernel_rfl) (fun _ _ _ h => h) (Or.inl ⟨by rfl, fun w' _ => by go_simp⟩) hS7 ?_
  change wpAnyH _ _ _ _ _ _ _ (Act.put _ (some 42) _) _
  simp only [Act.put, List.setIfInBounds_toArray, List.set_cons_zero, List.set_cons_succ]
  refine wpAnyH_take (i := 11) (v := .slice C7 r0.length e7) rfl (by kernel_rfl) (by kernel_rfl) (by kernel_rfl) (fun _ _ _ h => h) (Or.inl ⟨by rfl, fun w' _ => by go_simp⟩) hS7 ?_
  change wpAnyH _ _ _ _ _ _ _ (Act.put _ (some 8) _) _
  simp only [Act.put, List.setIfInBounds_toArray, List.set_cons_zero, List.set_cons_succ]
  refine wpAnyH_take (i := 12) (v := .slice C7b r1.length e7b) rfl (by kernel_rfl) (by kernel_rfl) (by kernel_rfl) (fun _ _ _ h => h) (Or.inl ⟨by rfl, fun w' _ => by go_simp⟩) hS7 ?_
  change wpAnyH _ _ _ _ _ _ _ (Act.put _ (some 9) _) _
  simp only [Act.put, List.setIfInBounds_toArray, List.set_cons_zero, List.set_cons_succ]
  refine wpAnyH_take (i := 13) (v := .int .i64 r2) rfl (by kernel_rfl) (by kernel_rfl) (by kernel_rfl) (fun _ _ _ h => h) (Or.inl ⟨by rfl, fun w' _ => by go_simp⟩) hS7 ?_
  change wpAnyH _ _ _ _ _ _ _ (Act.put _ (some 10) _) _
  simp only [Act.put, List.setIfInBounds_toArray, List.set_cons_zero, List.set_cons_succ]
  refine wpAnyH_done (by kernel_rfl) ?_ _
  have pf43_0 := B0_7.cell (i := 0) rfl
  have pf43_1 := B0_7.cell (i := 1) rfl
  go_wp2_with fail
  clear pf43_0 pf43_1
  refine (toFrame_any s0 A0 c0 l0 _ (hA0.below b7) hn0).mono ?_
  rintro e w8 ⟨g8, rfl, hg8, own8, hb8⟩
  have b8 := step_below hb8 b7
  have B0_8 := B0_7.keep hb8
  have B1_8 := B1_7.keep hb8
  have B2_8 := B2_7.keep hb8
  have v7_8 := own_keep v7_7 hb8
  have vz7_8 := own_keep vz7_7 hb8
  have t8 := step_below hb8 t7
  have gl8 : g8 < w8.heap.size := (own8.lt g8 rfl).2
  have q8_8 := own8
  go_upto_region 10 with fail
  obtain ⟨w9, hX9⟩ : ∃ X, X = w8.alloc (.cells #[.int .i16 s0, .slice (some ⟨g8, 0, none⟩) l0.length l0.length] 60) := ⟨_, rfl⟩
  have hb9 : Below w8.heap.size w8 w9 := by rw [hX9]; exact (Below.refl _ _).alloc (Nat.le_refl _) _
  have K9 : Bk w9 w8.heap.size 60 #[.int .i16 s0, .slice (some ⟨g8, 0, none⟩) l0.length l0.length] := by rw [hX9]; exact Bk.new _ _ _ rfl
  rw [← hX9]
  clear hX9
  have b9 := step_below hb9 b8
  have B0_9 := B0_8.keep hb9
  have B1_9 := B1_8.keep hb9
  have B2_9 := B2_8.keep hb9
  have v7_9 := own_keep v7_8 hb9
  have vz7_9 := own_keep vz7_8 hb9
  have q8_9 := own_keep q8_8 hb9
  have t9 := step_below hb9 t8
  have Y0_9 := K9
  have yw0 : w8.heap.size < w9.heap.size := K9.lt
  have pf45_0 := B1_9.cell (i := 0) rfl
  have pf45_1 := B1_9.cell (i := 1) rfl
  go_wp2_with fail
  clear pf45_0 pf45_1
  refine (toWear_any A1 c1 l1 U1 v1 z1 _ (hA1.below b9) (hU1.below b9) hn1.1 hn1.2).mono ?_
  rintro e w10 ⟨g10, m10, rfl, hg10, hgm10, own10, owm10, hb10⟩
  have b10 := step_below hb10 b9
  have B0_10 := B0_9.keep hb10
  have B1_10 := B1_9.keep hb10
  have B2_10 := B2_9.keep hb10
  have Y0_10 := Y0_9.keep hb10
  have v7_10 := own_keep v7_9 hb10
  have vz7_10 := own_keep vz7_9 hb10
  have q8_10 := own_keep q8_9 hb10
  have t10 := step_below hb10 t9
  have gl10 : g10 < w10.heap.size := (own10.lt g10 rfl).2
  have gm10 : m10 < w10.heap.size := (owm10.lt m10 rfl).2
  have q10_10 := own10
  have d10_10 := owm10
  go_upto_region 11 with fail
  obtain ⟨w11, hX11⟩ : ∃ X, X = w10.alloc (.cells #[.slice (some ⟨g10, 0, none⟩) l1.length l1.length, .slice (some ⟨m10, 0, none⟩) z1.length z1.length] 64) := ⟨_, rfl⟩
  have hb11 : Below w10.heap.size w10 w11 := by rw [hX11]; exact (Below.refl _ _).alloc (Nat.le_refl _) _
  have K11 : Bk w11 w10.heap.size 64 #[.slice (some ⟨g10, 0, none⟩) l1.length l1.length, .slice (some ⟨m10, 0, none⟩) z1.length z1.length] := by rw [hX11]; exact Bk.new _ _ _ rfl
  rw [← hX11]
  clear hX11
  have b11 := step_below hb11 b10
  have B0_11 := B0_10.keep hb11
  have B1_11 := B1_10.keep hb11
  have B2_11 := B2_10.keep hb11
  have Y0_11 := Y0_10.keep hb11
  have v7_11 := own_keep v7_10 hb11
  have vz7_11 := own_keep vz7_10 hb11
  have q8_11 := own_keep q8_10 hb11
  have q10_11 := own_keep q10_10 hb11
  have d10_11 := own_keep d10_10 hb11
  have t11 := step_below hb11 t10
  have Y1_11 := K11
  have yw1 : w10.heap.size < w11.heap.size := K11.lt
  go_wp2_with fail
  have hb12 : Below w11.heap.size w11 w11.drew := (Below.refl _ _).drew
  have b12 := step_below hb12 b11
  have B0_12 := B0_11.keep hb12
  have B1_12 := B1_11.keep hb12
  have B2_12 := B2_11.keep hb12
  have Y0_12 := Y0_11.keep hb12
  have Y1_12 := Y1_11.keep hb12
  have v7_12 := own_keep v7_11 hb12
  have vz7_12 := own_keep vz7_11 hb12
  have q8_12 := own_keep q8_11 hb12
  have q10_12 := own_keep q10_11 hb12
  have d10_12 := own_keep d10_11 hb12
  have t12 := step_below hb12 t11
  refine wp_region_held_drew (S := fun w' => w'.cell? ⟨w8.heap.size, 0, none⟩ = some (.int .i16 s0) ∧ w'.cell? ⟨w8.heap.size, 1, none⟩ = some (.slice (some ⟨g8, 0, none⟩) l0.length l0.length) ∧ w'.cell? ⟨w10.heap.size, 0, none⟩ = some (.slice (some ⟨g10, 0, none⟩) l1.length l1.length) ∧ w'.cell? ⟨w10.heap.size, 1, none⟩ = some (.slice (some ⟨m10, 0, none⟩) z1.length z1.length) ∧ w'.cell? ⟨w.heap.size + 1 + 1, 0, none⟩ = some (.int .i64 x2_0) ∧ w'.cell? ⟨w.heap.size + 1 + 1, 1, none⟩ = some (.int .i64 x2_1)) (by kernel_rfl) ⟨(Y0_12.cell (i := 0) rfl), (Y0_12.cell (i := 1) rfl), (Y1_12.cell (i := 0) rfl), (Y1_12.cell (i := 1) rfl), (B2_12.cell (i := 0) rfl), (B2_12.cell (i := 1) rfl)⟩ fun hS12 => ?_
  refine wpAnyH_take (i := 0) (v := .agg #[.int .i16 s0, .slice (some ⟨g8, 0, none⟩) l0.length l0.length]) rfl (by kernel_rfl) (by kernel_rfl) (by kernel_rfl) (fun _ _ _ h => h) (Or.inl ⟨by rfl, fun w' h => ?_⟩) hS12 ?_
  · have c0 := h.1
    have c1 := h.2.1
    clear h
    go_simp
  simp only [Act.put, List.setIfInBounds_toArray, List.set_cons_zero, List.set_cons_succ]
  refine wpAnyH_take (i := 1) (v := .agg #[.slice (some ⟨g10, 0, none⟩) l1.length l1.length, .slice (some ⟨m10, 0, none⟩) z1.length z1.length]) rfl (by kernel_rfl) (by kernel_rfl) (by kernel_rfl) (fun _ _ _ h => h) (Or.inl ⟨by rfl, fun w' h => ?_⟩) hS12 ?_
  · have c0 := h.2.2.1
    have c1 := h.2.2.2.1
    clear h
    go_simp
  simp only [Act.put, List.setIfInBounds_toArray, List.set_cons_zero, List.set_cons_succ]
  refine wpAnyH_take (i := 2) (v := .agg #[.int .i64 x2_0, .int .i64 x2_1]) rfl (by kernel_rfl) (by kernel_rfl) (by kernel_rfl) (fun _ _ _ h => h) (Or.inl ⟨by rfl, fun w' h => ?_⟩) hS12 ?_
  · have c0 := h.2.2.2.2.1
    have c1 := h.2.2.2.2.2
    clear h
    go_simp
  simp only [Act.put, List.setIfInBounds_toArray, List.set_cons_zero, List.set_cons_succ]
  refine wpAnyH_ready (rs := [3]) (by kernel_rfl) (by simp) (AllReadyH.cons rfl ?_ AllReadyH.nil)
  intro K hK
  rw [if_pos (by rfl)]
  go_simp
  refine (toLives_any x2_0 x2_1 _).mono ?_
  rintro e w13 ⟨rfl, hb13⟩
  have b13 := step_below hb13 b12
  have B0_13 := B0_12.keep hb13
  have B1_13 := B1_12.keep hb13
  have B2_13 := B2_12.keep hb13
  have Y0_13 := Y0_12.keep hb13
  have Y1_13 := Y1_12.keep hb13
  have v7_13 := own_keep v7_12 hb13
  have vz7_13 := own_keep vz7_12 hb13
  have q8_13 := own_keep q8_12 hb13
  have q10_13 := own_keep q10_12 hb13
  have d10_13 := own_keep d10_12 hb13
  have t13 := step_below hb13 t12
  refine hK.out _ _ ⟨(Y0_13.cell (i := 0) rfl), (Y0_13.cell (i := 1) rfl), (Y1_13.cell (i := 0) rfl), (Y1_13.cell (i := 1) rfl), (B2_13.cell (i := 0) rfl), (B2_13.cell (i := 1) rfl)⟩ (fun hS13 => ?_)
  clear hK K
  refine wpAnyH_ready (rs := [4]) (by kernel_rfl) (by simp) (AllReadyH.cons rfl ?_ AllReadyH.nil)
  intro K hK
  rw [if_pos (by rfl)]
  go_simp
  refine (KI _ _ _ _ (HA.of_own q8_13) (WnA.of_own q10_13) (SZ.of_own d10_13) ).mono ?_
  rintro e w14 ⟨C14, e14, C14b, e14b, rfl, own14, owm14, hb14⟩
  have b14 := step_below hb14 b13
  have B0_14 := B0_13.keep hb14
  have B1_14 := B1_13.keep hb14
  have B2_14 := B2_13.keep hb14
  have Y0_14 := Y0_13.keep hb14
  have Y1_14 := Y1_13.keep hb14
  have v7_14 := own_keep v7_13 hb14
  have vz7_14 := own_keep vz7_13 hb14
  have q8_14 := own_keep q8_13 hb14
  have q10_14 := own_keep q10_13 hb14
  have d10_14 := own_keep d10_13 hb14
  have t14 := step_below hb14 t13
  have r14_14 := own14
  have rz14_14 := owm14
  refine hK.out _ _ ⟨(Y0_14.cell (i := 0) rfl), (Y0_14.cell (i := 1) rfl), (Y1_14.cell (i := 0) rfl), (Y1_14.cell (i := 1) rfl), (B2_14.cell (i := 0) rfl), (B2_14.cell (i := 1) rfl)⟩ (fun hS14 => ?_)
  clear hK K
  refine wpAnyH_take (i := 5) (v := .tuple #[.slice C14 r0.length e14, .slice C14b r1.length e14b, .int .i64 r2]) rfl (by kernel_rfl) (by kernel_rfl) (by kernel_rfl) (fun _ _ _ h => h) (Or.inl ⟨by rfl, fun w' _ => by go_simp⟩) hS14 ?_
  change wpAnyH _ _ _ _ _ _ _ (Act.put _ (some 47) _) _
  simp only [Act.put, List.setIfInBounds_toArray, List.set_cons_zero, List.set_cons_succ]
  refine wpAnyH_take (i := 6) (v := .slice C14 r0.length e14) rfl (by kernel_rfl) (by kernel_rfl) (by kernel_rfl) (fun _ _ _ h => h) (Or.inl ⟨by rfl, fun w' _ => by go_simp⟩) hS14 ?_
  change wpAnyH _ _ _ _ _ _ _ (Act.put _ (some 53) _) _
  simp only [Act.put, List.setIfInBounds_toArray, List.set_cons_zero, List.set_cons_succ]
  refine wpAnyH_take (i := 7) (v := .slice C14b r1.length e14b) rfl (by kernel_rfl) (by kernel_rfl) (by kernel_rfl) (fun _ _ _ h => h) (Or.inl ⟨by rfl, fun w' _ => by go_simp⟩) hS14 ?_
  change wpAnyH _ _ _ _ _ _ _ (Act.put _ (some 54) _) _
  simp only [Act.put, List.setIfInBounds_toArray, List.set_cons_zero, List.set_cons_succ]
  refine wpAnyH_take (i := 8) (v := .int .i64 r2) rfl (by kernel_rfl) (by kernel_rfl) (by kernel_rfl) (fun _ _ _ h => h) (Or.inl ⟨by rfl, fun w' _ => by go_simp⟩) hS14 ?_
  change wpAnyH _ _ _ _ _ _ _ (Act.put _ (some 55) _) _
  simp only [Act.put, List.setIfInBounds_toArray, List.set_cons_zero, List.set_cons_succ]
  refine wpAnyH_take (i := 9) (v := .slice C14 r0.length e14) rfl (by kernel_rfl) (by kernel_rfl) (by kernel_rfl) (fun _ _ _ h => h) (Or.inl ⟨by rfl, fun w' _ => by go_simp⟩) hS14 ?_
  change wpAnyH _ _ _ _ _ _ _ (Act.put _ (some 13) _) _
  simp only [Act.put, List.setIfInBounds_toArray, List.set_cons_zero, List.set_cons_succ]
  refine wpAnyH_take (i := 10) (v := .slice C14b r1.length e14b) rfl (by kernel_rfl) (by kernel_rfl) (by kernel_rfl) (fun _ _ _ h => h) (Or.inl ⟨by rfl, fun w' _ => by go_simp⟩) hS14 ?_
  change wpAnyH _ _ _ _ _ _ _ (Act.put _ (some 14) _) _
  simp only [Act.put, List.setIfInBounds_toArray, List.set_cons_zero, List.set_cons_succ]
  refine wpAnyH_take (i := 11) (v := .int .i64 r2) rfl (by kernel_rfl) (by kernel_rfl) (by kernel_rfl) (fun _ _ _ h => h) (Or.inl ⟨by rfl, fun w' _ => by go_simp⟩) hS14 ?_
  change wpAnyH _ _ _ _ _ _ _ (Act.put _ (some 15) _) _
  simp only [Act.put, List.setIfInBounds_toArray, List.set_cons_zero, List.set_cons_succ]
  refine wpAnyH_done (by kernel_rfl) ?_ _
  go_wp2_with fail
  refine (eqWornPinS_self _ _ _ _ r0 _ (WnA.of_own r14_14) (WnA.of_own v7_14) hrl0).mono ?_
  rintro e w15 ⟨rfl, hb15⟩
  have b15 := step_below hb15 b14
  have B0_15 := B0_14.keep hb15
  have B1_15 := B1_14.keep hb15
  have B2_15 := B2_14.keep hb15
  have Y0_15 := Y0_14.keep hb15
  have Y1_15 := Y1_14.keep hb15
  have v7_15 := own_keep v7_14 hb15
  have vz7_15 := own_keep vz7_14 hb15
  have q8_15 := own_keep q8_14 hb15
  have q10_15 := own_keep q10_14 hb15
  have d10_15 := own_keep d10_14 hb15
  have r14_15 := own_keep r14_14 hb15
  have rz14_15 := own_keep rz14_14 hb15
  have t15 := step_below hb15 t14
  go_wp2_with fail
  refine (eqInt64S_self _ _ _ _ r1 _ (SI.of_own rz14_15) (SI.of_own vz7_15) hrl1).mono ?_
  rintro e w16 ⟨rfl, hb16⟩
  have b16 := step_below hb16 b15
  have B0_16 := B0_15.keep hb16
  have B1_16 := B1_15.keep hb16
  have B2_16 := B2_15.keep hb16
  have Y0_16 := Y0_15.keep hb16
  have Y1_16 := Y1_15.keep hb16
  have v7_16 := own_keep v7_15 hb16
  have vz7_16 := own_keep vz7_15 hb16
  have q8_16 := own_keep q8_15 hb16
  have q10_16 := own_keep q10_15 hb16
  have d10_16 := own_keep d10_15 hb16
  have r14_16 := own_keep r14_15 hb16
  have rz14_16 := own_keep rz14_15 hb16
  have t16 := step_below hb16 t15
  go_wp2_with fail
  have hb17 : Below w16.heap.size w16 w16.drew := (Below.refl _ _).drew
  have b17 := step_below hb17 b16
  have B0_17 := B0_16.keep hb17
  have B1_17 := B1_16.keep hb17
  have B2_17 := B2_16.keep hb17
  have Y0_17 := Y0_16.keep hb17
  have Y1_17 := Y1_16.keep hb17
  have v7_17 := own_keep v7_16 hb17
  have vz7_17 := own_keep vz7_16 hb17
  have q8_17 := own_keep q8_16 hb17
  have q10_17 := own_keep q10_16 hb17
  have d10_17 := own_keep d10_16 hb17
  have r14_17 := own_keep r14_16 hb17
  have rz14_17 := own_keep rz14_16 hb17
  have t17 := step_below hb17 t16
  refine wp_region_held_drew (S := fun w' => w'.cell? ⟨w8.heap.size, 0, none⟩ = some (.int .i16 s0) ∧ w'.cell? ⟨w8.heap.size, 1, none⟩ = some (.slice (some ⟨g8, 0, none⟩) l0.length l0.length) ∧ w'.cell? ⟨w.heap.size, 0, none⟩ = some (.int .i16 s0) ∧ w'.cell? ⟨w.heap.size, 1, none⟩ = some (.slice A0 l0.length c0)) (by kernel_rfl) ⟨(Y0_17.cell (i := 0) rfl), (Y0_17.cell (i := 1) rfl), (B0_17.cell (i := 0) rfl), (B0_17.cell (i := 1) rfl)⟩ fun hS17 => ?_
  refine wpAnyH_take (i := 0) (v := .agg #[.int .i16 s0, .slice (some ⟨g8, 0, none⟩) l0.length l0.length]) rfl (by kernel_rfl) (by kernel_rfl) (by kernel_rfl) (fun _ _ _ h => h) (Or.inl ⟨by rfl, fun w' h => ?_⟩) hS17 ?_
  · have c0 := h.1
    have c1 := h.2.1
    clear h
    go_simp
  simp only [Act.put, List.setIfInBounds_toArray, List.set_cons_zero, List.set_cons_succ]
  refine wpAnyH_take (i := 1) (v := .agg #[.int .i16 s0, .slice A0 l0.length c0]) rfl (by kernel_rfl) (by kernel_rfl) (by kernel_rfl) (fun _ _ _ h => h) (Or.inl ⟨by rfl, fun w' h => ?_⟩) hS17 ?_
  · have c0 := h.2.2.1
    have c1 := h.2.2.2
    clear h
    go_simp
  simp only [Act.put, List.setIfInBounds_toArray, List.set_cons_zero, List.set_cons_succ]
  refine wpAnyH_ready (rs := [2]) (by kernel_rfl) (by simp) (AllReadyH.cons rfl ?_ AllReadyH.nil)
  intro K hK
  rw [if_pos (by rfl)]
  go_simp
  refine (toFrame_any s0 A0 c0 l0 _ (hA0.below b17) hn0).mono ?_
  rintro e w18 ⟨g18, rfl, hg18, own18, hb18⟩
  have b18 := step_below hb18 b17
  have B0_18 := B0_17.keep hb18
  have B1_18 := B1_17.keep hb18
  have B2_18 := B2_17.keep hb18
  have Y0_18 := Y0_17.keep hb18
  have Y1_18 := Y1_17.keep hb18
  have v7_18 := own_keep v7_17 hb18
  have vz7_18 := own_keep vz7_17 hb18
  have q8_18 := own_keep q8_17 hb18
  have q10_18 := own_keep q10_17 hb18
  have d10_18 := own_keep d10_17 hb18
  have r14_18 := own_keep r14_17 hb18
  have rz14_18 := own_keep rz14_17 hb18
  have t18 := step_below hb18 t17
  have gl18 : g18 < w18.heap.size := (own18.lt g18 rfl).2
  have q18_18 := own18
  refine hK.out _ _ ⟨(Y0_18.cell (i := 0) rfl), (Y0_18.cell (i := 1) rfl), (B0_18.cell (i := 0) rfl), (B0_18.cell (i := 1) rfl)⟩ (fun hS18 => ?_)
  clear hK K
  refine wpAnyH_ready (rs := [3]) (by kernel_rfl) (by simp) (AllReadyH.cons rfl ?_ AllReadyH.nil)
  intro K hK
  rw [if_pos (by rfl)]
  go_simp
  refine (eqFrame_any s0 _ _ _ _ l0 _ (HA.of_own q8_18) (HA.of_own q18_18) hn0).mono ?_
  rintro e w19 ⟨rfl, hb19⟩
  have b19 := step_below hb19 b18
  have B0_19 := B0_18.keep hb19
  have B1_19 := B1_18.keep hb19
  have B2_19 := B2_18.keep hb19
  have Y0_19 := Y0_18.keep hb19
  have Y1_19 := Y1_18.keep hb19
  have v7_19 := own_keep v7_18 hb19
  have vz7_19 := own_keep vz7_18 hb19
  have q8_19 := own_keep q8_18 hb19
  have q10_19 := own_keep q10_18 hb19
  have d10_19 := own_keep d10_18 hb19
  have r14_19 := own_keep r14_18 hb19
  have rz14_19 := own_keep rz14_18 hb19
  have t19 := step_below hb19 t18
  refine hK.out _ _ ⟨(Y0_19.cell (i := 0) rfl), (Y0_19.cell (i := 1) rfl), (B0_19.cell (i := 0) rfl), (B0_19.cell (i := 1) rfl)⟩ (fun hS19 => ?_)
  clear hK K
  refine wpAnyH_take (i := 4) (v := .bool false) rfl (by kernel_rfl) (by kernel_rfl) (by kernel_rfl) (fun _ _ _ h => h) (Or.inl ⟨by rfl, fun w' _ => by go_simp⟩) hS19 ?_
  change wpAnyH _ _ _ _ _ _ _ (Act.put _ (some 75) _) _
  simp only [Act.put, List.setIfInBounds_toArray, List.set_cons_zero, List.set_cons_succ]
  refine wpAnyH_done (by kernel_rfl) ?_ _
  go_wp2_with fail
  have hb20 : Below w19.heap.size w19 w19.drew := (Below.refl _ _).drew
  have b20 := step_below hb20 b19
  have B0_20 := B0_19.keep hb20
  have B1_20 := B1_19.keep hb20
  have B2_20 := B2_19.keep hb20
  have Y0_20 := Y0_19.keep hb20
  have Y1_20 := Y1_19.keep hb20
  have v7_20 := own_keep v7_19 hb20
  have vz7_20 := own_keep vz7_19 hb20
  have q8_20 := own_keep q8_19 hb20
  have q10_20 := own_keep q10_19 hb20
  have d10_20 := own_keep d10_19 hb20
  have r14_20 := own_keep r14_19 hb20
  have rz14_20 := own_keep rz14_19 hb20
  have t20 := step_below hb20 t19
  refine wp_region_held_drew (S := fun w' => w'.cell? ⟨w10.heap.size, 0, none⟩ = some (.slice (some ⟨g10, 0, none⟩) l1.length l1.length) ∧ w'.cell? ⟨w10.heap.size, 1, none⟩ = some (.slice (some ⟨m10, 0, none⟩) z1.length z1.length) ∧ w'.cell? ⟨w.heap.size + 1, 0, none⟩ = some (.slice A1 l1.length c1) ∧ w'.cell? ⟨w.heap.size + 1, 1, none⟩ = some (.slice U1 z1.length v1)) (by kernel_rfl) ⟨(Y1_20.cell (i := 0) rfl), (Y1_20.cell (i := 1) rfl), (B1_20.cell (i := 0) rfl), (B1_20.cell (i := 1) rfl)⟩ fun hS20 => ?_
  refine wpAnyH_take (i := 0) (v := .agg #[.slice (some ⟨g10, 0, none⟩) l1.length l1.length, .slice (some ⟨m10, 0, none⟩) z1.length z1.length]) rfl (by kernel_rfl) (by kernel_rfl) (by kernel_rfl) (fun _ _ _ h => h) (Or.inl ⟨by rfl, fun w' h => ?_⟩) hS20 ?_
  · have c0 := h.1
    have c1 := h.2.1
    clear h
    go_simp
  simp only [Act.put, List.setIfInBounds_toArray, List.set_cons_zero, List.set_cons_succ]
  refine wpAnyH_take (i := 1) (v := .agg #[.slice A1 l1.length c1, .slice U1 z1.length v1]) rfl (by kernel_rfl) (by kernel_rfl) (by kernel_rfl) (fun _ _ _ h => h) (Or.inl ⟨by rfl, fun w' h => ?_⟩) hS20 ?_
  · have c0 := h.2.2.1
    have c1 := h.2.2.2
    clear h
    go_simp
  simp only [Act.put, List.setIfInBounds_toArray, List.set_cons_zero, List.set_cons_succ]
  refine wpAnyH_ready (rs := [2]) (by kernel_rfl) (by simp) (AllReadyH.cons rfl ?_ AllReadyH.nil)
  intro K hK
  rw [if_pos (by rfl)]
  go_simp
  refine (toWear_any A1 c1 l1 U1 v1 z1 _ (hA1.below b20) (hU1.below b20) hn1.1 hn1.2).mono ?_
  rintro e w21 ⟨g21, m21, rfl, hg21, hgm21, own21, owm21, hb21⟩
  have b21 := step_below hb21 b20
  have B0_21 := B0_20.keep hb21
  have B1_21 := B1_20.keep hb21
  have B2_21 := B2_20.keep hb21
  have Y0_21 := Y0_20.keep hb21
  have Y1_21 := Y1_20.keep hb21
  have v7_21 := own_keep v7_20 hb21
  have vz7_21 := own_keep vz7_20 hb21
  have q8_21 := own_keep q8_20 hb21
  have q10_21 := own_keep q10_20 hb21
  have d10_21 := own_keep d10_20 hb21
  have r14_21 := own_keep r14_20 hb21
  have rz14_21 := own_keep rz14_20 hb21
  have t21 := step_below hb21 t20
  have gl21 : g21 < w21.heap.size := (own21.lt g21 rfl).2
  have gm21 : m21 < w21.heap.size := (owm21.lt m21 rfl).2
  have q21_21 := own21
  have d21_21 := owm21
  refine hK.out _ _ ⟨(Y1_21.cell (i := 0) rfl), (Y1_21.cell (i := 1) rfl), (B1_21.cell (i := 0) rfl), (B1_21.cell (i := 1) rfl)⟩ (fun hS21 => ?_)
  clear hK K
  refine wpAnyH_ready (rs := [3]) (by kernel_rfl) (by simp) (AllReadyH.cons rfl ?_ AllReadyH.nil)
  intro K hK
  rw [if_pos (by rfl)]
  go_simp
  refine (eqWear_self _ _ _ _ l1 _ _ _ _ z1 _ (WnA.of_own q10_21) (WnA.of_own q21_21) (SI.of_own d10_21) (SI.of_own d21_21) hn1.1 hn1.2).mono ?_
  rintro e w22 ⟨rfl, hb22⟩
  have b22 := step_below hb22 b21
  have B0_22 := B0_21.keep hb22
  have B1_22 := B1_21.keep hb22
  have B2_22 := B2_21.keep hb22
  have Y0_22 := Y0_21.keep hb22
  have Y1_22 := Y1_21.keep hb22
  have v7_22 := own_keep v7_21 hb22
  have vz7_22 := own_keep vz7_21 hb22
  have q8_22 := own_keep q8_21 hb22
  have q10_22 := own_keep q10_21 hb22
  have d10_22 := own_keep d10_21 hb22
  have r14_22 := own_keep r14_21 hb22
  have rz14_22 := own_keep rz14_21 hb22
  have t22 := step_below hb22 t21
  refine hK.out _ _ ⟨(Y1_22.cell (i := 0) rfl), (Y1_22.cell (i := 1) rfl), (B1_22.cell (i := 0) rfl), (B1_22.cell (i := 1) rfl)⟩ (fun hS22 => ?_)
  clear hK K
  refine wpAnyH_take (i := 4) (v := .bool false) rfl (by kernel_rfl) (by kernel_rfl) (by kernel_rfl) (fun _ _ _ h => h) (Or.inl ⟨by rfl, fun w' _ => by go_simp⟩) hS22 ?_
  change wpAnyH _ _ _ _ _ _ _ (Act.put _ (some 80) _) _
  simp only [Act.put, List.setIfInBounds_toArray, List.set_cons_zero, List.set_cons_succ]
  refine wpAnyH_done (by kernel_rfl) ?_ _
  have pf81_0 := Y0_22.cell (i := 0) rfl
  have pf81_1 := Y0_22.cell (i := 1) rfl
  go_wp2_with fail
  clear pf81_0 pf81_1
  refine (markFrame_from s0 _ _ l0 _ (1) _ q8_22 hn0 ⟨by omega, by omega⟩).mono ?_
  rintro e w23 ⟨rfl, mo23, hgr23⟩
  have hbs23 := hgr23.size
  have t23 : Below w7.heap.size w7 w23 := t22.grown hgr23 t22.size (fun j hj => by cases hj; exact Nat.le_trans t7.size hg8)
  have b23 : Below w.heap.size w w23 := b7.trans (t23.mono b7.size)
  have B0_23 := B0_7.keep t23
  have B1_23 := B1_7.keep t23
  have B2_23 := B2_7.keep t23
  have Y0_23 := Y0_22.grown hgr23 (fun e => by have e' : g8 = w8.heap.size := Option.some.inj e; have gg := gl8; have gh := hg8; have h8_ := hb8.size; have h9_ := hb9.size; omega)
  have Y1_23 := Y1_22.grown hgr23 (fun e => by have e' : g8 = w10.heap.size := Option.some.inj e; have gg := gl8; have gh := hg8; have h8_ := hb8.size; have h9_ := hb9.size; have h10_ := hb10.size; have h11_ := hb11.size; omega)
  have v7_23 := own_keep v7_7 t23
  have vz7_23 := own_keep vz7_7 t23
  have q10_23 := q10_22.kept hgr23 (own_ne2 q10_22 q8_22 (by decide))
  have d10_23 := d10_22.kept hgr23 (own_ne2 d10_22 q8_22 (by decide))
  have r14_23 := r14_22.kept hgr23 (own_ne2 r14_22 q8_22 (by decide))
  have rz14_23 := rz14_22.kept hgr23 (own_ne2 rz14_22 q8_22 (by decide))
  have hneg23 : decide (1 + 2 * (l0.length : Int) < 0) = false := by simp; omega
  have pf84_0 := Y1_23.cell (i := 0) rfl
  have pf84_1 := Y1_23.cell (i := 1) rfl
  go_wp2_with fail
  clear pf84_0 pf84_1
  refine (markWear_from _ _ l1 _ _ z1 _ _ (1 + 2 * (l0.length : Int)) _ q10_23 d10_23 hn1.1 hn1.2 ⟨by omega, by omega⟩).mono ?_
  rintro e w25 ⟨w24, rfl, mo24, hgr24, mo25, hgr25⟩
  have hbs24 := hgr24.size
  have t24 : Below w7.heap.size w7 w24 := t23.grown hgr24 t23.size (fun j hj => by cases hj; exact Nat.le_trans t9.size hg10)
  have b24 : Below w.heap.size w w24 := b7.trans (t24.mono b7.size)
  have B0_24 := B0_7.keep t24
  have B1_24 := B1_7.keep t24
  have B2_24 := B2_7.keep t24
  have Y0_24 := Y0_23.grown hgr24 (own_neK q10_23 Y0_23 (by decide))
  have Y1_24 := Y1_23.grown hgr24 (own_neK q10_23 Y1_23 (by decide))
  have v7_24 := own_keep v7_7 t24
  have vz7_24 := own_keep vz7_7 t24
  have d10_24 := d10_23.kept hgr24 (own_ne2 d10_23 q10_23 (by decide))
  have r14_24 := r14_23.kept hgr24 (Or.inr (fun e => by have h1 := r14_23.lt g10 (by rw [e]; rfl); have gg := gl10; have h11_ := hb11.size; have h12_ := hb12.size; have h13_ := hb13.size; omega))
  have rz14_24 := rz14_23.kept hgr24 (own_ne2 rz14_23 q10_23 (by decide))
  have hbs25 := hgr25.size
  have t25 : Below w7.heap.size w7 w25 := t24.grown hgr25 t24.size (fun j hj => by cases hj; exact Nat.le_trans t9.size hgm10)
  have b25 : Below w.heap.size w w25 := b7.trans (t25.mono b7.size)
  have B0_25 := B0_7.keep t25
  have B1_25 := B1_7.keep t25
  have B2_25 := B2_7.keep t25
  have Y0_25 := Y0_24.grown hgr25 (own_neK d10_24 Y0_24 (by decide))
  have Y1_25 := Y1_24.grown hgr25 (own_neK d10_24 Y1_24 (by decide))
  have v7_25 := own_keep v7_7 t25
  have vz7_25 := own_keep vz7_7 t25
  have r14_25 := r14_24.kept hgr25 (own_ne2 r14_24 d10_24 (by decide))
  have rz14_25 := rz14_24.kept hgr25 (Or.inr (fun e => by have h1 := rz14_24.lt m10 (by rw [e]; rfl); have gg := gm10; have h11_ := hb11.size; have h12_ := hb12.size; have h13_ := hb13.size; omega))
  have hneg24 : decide (1 + 2 * (l0.length : Int) + 3 * (l1.length : Int) + (z1.length : Int) < 0) = false := by simp; omega
  go_wp2_with fail
  refine (eqWornPinS_self _ _ _ _ r0 _ (WnA.of_own r14_25) (WnA.of_own v7_25) hrl0).mono ?_
  rintro e w26 ⟨rfl, hb26⟩
  have b26 := step_below hb26 b25
  have B0_26 := B0_25.keep hb26
  have B1_26 := B1_25.keep hb26
  have B2_26 := B2_25.keep hb26
  have Y0_26 := Y0_25.keep hb26
  have Y1_26 := Y1_25.keep hb26
  have v7_26 := own_keep v7_25 hb26
  have vz7_26 := own_keep vz7_25 hb26
  have r14_26 := own_keep r14_25 hb26
  have rz14_26 := own_keep rz14_25 hb26
  have t26 := step_below hb26 t25
  go_wp2_with fail
  refine (eqInt64S_self _ _ _ _ r1 _ (SI.of_own rz14_26) (SI.of_own vz7_26) hrl1).mono ?_
  rintro e w27 ⟨rfl, hb27⟩
  have b27 := step_below hb27 b26
  have B0_27 := B0_26.keep hb27
  have B1_27 := B1_26.keep hb27
  have B2_27 := B2_26.keep hb27
  have Y0_27 := Y0_26.keep hb27
  have Y1_27 := Y1_26.keep hb27
  have v7_27 := own_keep v7_26 hb27
  have vz7_27 := own_keep vz7_26 hb27
  have r14_27 := own_keep r14_26 hb27
  have rz14_27 := own_keep rz14_26 hb27
  have t27 := step_below hb27 t26
  go_wp2_with fail
  refine (markWornPinS_from _ _ r0 _ (1) _ r14_27 hrl0 ⟨by omega, by omega⟩).mono ?_
  rintro e w28 ⟨rfl, mo28, hgr28⟩
  have hbs28 := hgr28.size
  have t28 : Below w7.heap.size w7 w28 := t27.grown hgr28 t27.size (fun j hj => Nat.le_trans t13.size ((r14_27).lt j hj).1)
  have b28 : Below w.heap.size w w28 := b7.trans (t28.mono b7.size)
  have B0_28 := B0_7.keep t28
  have B1_28 := B1_7.keep t28
  have B2_28 := B2_7.keep t28
  have v7_28 := own_keep v7_7 t28
  have vz7_28 := own_keep vz7_7 t28
  have rz14_28 := rz14_27.kept hgr28 (own_ne2 rz14_27 r14_27 (by decide))
  have k28_28 := mo28
  have hneg28 : decide (1 + 3 * (r0.length : Int) < 0) = false := by simp; omega
  have hneq28 : ((1 + 3 * (r0.length : Int)) != (1 + 3 * (r0.length : Int))) = false := by simp
  go_wp2_with fail
  refine (markInt64S_from _ _ r1 _ (1 + 3 * (r0.length : Int)) _ rz14_28 hrl1 ⟨by omega, by omega⟩).mono ?_
  rintro e w29 ⟨rfl, mo29, hgr29⟩
  have hbs29 := hgr29.size
  have t29 : Below w7.heap.size w7 w29 := t28.grown hgr29 t28.size (fun j hj => Nat.le_trans t13.size ((rz14_28).lt j hj).1)
  have b29 : Below w.heap.size w w29 := b7.trans (t29.mono b7.size)
  have B0_29 := B0_7.keep t29
  have B1_29 := B1_7.keep t29
  have B2_29 := B2_7.keep t29
  have v7_29 := own_keep v7_7 t29
  have vz7_29 := own_keep vz7_7 t29
  have k28_29 := k28_28.kept hgr29 (own_ne2 k28_28 rz14_28 (by decide))
  have k29_29 := mo29
  have hneg29 : decide (1 + 3 * (r0.length : Int) + (r1.length : Int) < 0) = false := by simp; omega
  have hneq29 : ((1 + 3 * (r0.length : Int) + (r1.length : Int)) != (1 + 3 * (r0.length : Int) + (r1.length : Int))) = false := by simp
  go_wp2_with fail
  refine (heldWornPinS_from _ _ r0.length (1) _ (mkWn_of_own k28_29) hrl0 ⟨by omega, by omega⟩).mono ?_
  rintro e w30' ⟨rfl, rfl⟩
  go_wp2_with fail
  refine (heldInt64S_from _ _ r1.length _ (1 + 3 * (r0.length : Int)) _ (mkI_of_own k29_29) hrl1 ⟨by omega, by omega⟩).mono ?_
  rintro e w30' ⟨rfl, rfl⟩
  go_wp2_with fail
  have hb30 : Below w29.heap.size w29 w29.drew := (Below.refl _ _).drew
  have b30 := step_below hb30 b29
  have B0_30 := B0_29.keep hb30
  have B1_30 := B1_29.keep hb30
  have B2_30 := B2_29.keep hb30
  have v7_30 := own_keep v7_29 hb30
  have vz7_30 := own_keep vz7_29 hb30
  have k28_30 := own_keep k28_29 hb30
  have k29_30 := own_keep k29_29 hb30
  have t30 := step_below hb30 t29
  refine wp_region_held_drew (S := fun w' => w'.cell? ⟨w.heap.size, 0, none⟩ = some (.int .i16 s0) ∧ w'.cell? ⟨w.heap.size, 1, none⟩ = some (.slice A0 l0.length c0) ∧ w'.cell? ⟨w.heap.size + 1, 0, none⟩ = some (.slice A1 l1.length c1) ∧ w'.cell? ⟨w.heap.size + 1, 1, none⟩ = some (.slice U1 z1.length v1) ∧ w'.cell? ⟨w.heap.size + 1 + 1, 0, none⟩ = some (.int .i64 x2_0) ∧ w'.cell? ⟨w.heap.size + 1 + 1, 1, none⟩ = some (.int .i64 x2_1)) (by kernel_rfl) ⟨(B0_30.cell (i := 0) rfl), (B0_30.cell (i := 1) rfl), (B1_30.cell (i := 0) rfl), (B1_30.cell (i := 1) rfl), (B2_30.cell (i := 0) rfl), (B2_30.cell (i := 1) rfl)⟩ fun hS30 => ?_
  refine wpAnyH_take (i := 0) (v := .agg #[.int .i16 s0, .slice A0 l0.length c0]) rfl (by kernel_rfl) (by kernel_rfl) (by kernel_rfl) (fun _ _ _ h => h) (Or.inl ⟨by rfl, fun w' h => ?_⟩) hS30 ?_
  · have c0 := h.1
    have c1 := h.2.1
    clear h
    go_simp
  simp only [Act.put, List.setIfInBounds_toArray, List.set_cons_zero, List.set_cons_succ]
  refine wpAnyH_take (i := 2) (v := .agg #[.slice A1 l1.length c1, .slice U1 z1.length v1]) rfl (by kernel_rfl) (by kernel_rfl) (by kernel_rfl) (fun _ _ _ h => h) (Or.inl ⟨by rfl, fun w' h => ?_⟩) hS30 ?_
  · have c0 := h.2.2.1
    have c1 := h.2.2.2.1
    clear h
    go_simp
  simp only [Act.put, List.setIfInBounds_toArray, List.set_cons_zero, List.set_cons_succ]
  refine wpAnyH_take (i := 4) (v := .agg #[.int .i64 x2_0, .int .i64 x2_1]) rfl (by kernel_rfl) (by kernel_rfl) (by kernel_rfl) (fun _ _ _ h => h) (Or.inl ⟨by rfl, fun w' h => ?_⟩) hS30 ?_
  · have c0 := h.2.2.2.2.1
    have c1 := h.2.2.2.2.2
    clear h
    go_simp
  simp only [Act.put, List.setIfInBounds_toArray, List.set_cons_zero, List.set_cons_succ]
  refine wpAnyH_ready (rs := [1]) (by kernel_rfl) (by simp) (AllReadyH.cons rfl ?_ AllReadyH.nil)
  intro K hK
  rw [if_pos (by rfl)]
  go_simp
  refine (toFrame_any s0 A0 c0 l0 _ (hA0.below b30) hn0).mono ?_
  rintro e w31 ⟨g31, rfl, hg31, own31, hb31⟩
  have b31 := step_below hb31 b30
  have B0_31 := B0_30.keep hb31
  have B1_31 := B1_30.keep hb31
  have B2_31 := B2_30.keep hb31
  have v7_31 := own_keep v7_30 hb31
  have vz7_31 := own_keep vz7_30 hb31
  have k28_31 := own_keep k28_30 hb31
  have k29_31 := own_keep k29_30 hb31
  have t31 := step_below hb31 t30
  have gl31 : g31 < w31.heap.size := (own31.lt g31 rfl).2
  have q31_31 := own31
  refine hK.out _ _ ⟨(B0_31.cell (i := 0) rfl), (B0_31.cell (i := 1) rfl), (B1_31.cell (i := 0) rfl), (B1_31.cell (i := 1) rfl), (B2_31.cell (i := 0) rfl), (B2_31.cell (i := 1) rfl)⟩ (fun hS31 => ?_)
  clear hK K
  refine wpAnyH_ready (rs := [3]) (by kernel_rfl) (by simp) (AllReadyH.cons rfl ?_ AllReadyH.nil)
  intro K hK
  rw [if_pos (by rfl)]
  go_simp
  refine (toWear_any A1 c1 l1 U1 v1 z1 _ (hA1.below b31) (hU1.below b31) hn1.1 hn1.2).mono ?_
  rintro e w32 ⟨g32, m32, rfl, hg32, hgm32, own32, owm32, hb32⟩
  have b32 := step_below hb32 b31
  have B0_32 := B0_31.keep hb32
  have B1_32 := B1_31.keep hb32
  have B2_32 := B2_31.keep hb32
  have v7_32 := own_keep v7_31 hb32
  have vz7_32 := own_keep vz7_31 hb32
  have k28_32 := own_keep k28_31 hb32
  have k29_32 := own_keep k29_31 hb32
  have q31_32 := own_keep q31_31 hb32
  have t32 := step_below hb32 t31
  have gl32 : g32 < w32.heap.size := (own32.lt g32 rfl).2
  have gm32 : m32 < w32.heap.size := (owm32.lt m32 rfl).2
  have q32_32 := own32
  have d32_32 := owm32
  refine hK.out _ _ ⟨(B0_32.cell (i := 0) rfl), (B0_32.cell (i := 1) rfl), (B1_32.cell (i := 0) rfl), (B1_32.cell (i := 1) rfl), (B2_32.cell (i := 0) rfl), (B2_32.cell (i := 1) rfl)⟩ (fun hS32 => ?_)
  clear hK K
  refine wpAnyH_ready (rs := [5]) (by kernel_rfl) (by simp) (AllReadyH.cons rfl ?_ AllReadyH.nil)
  intro K hK
  rw [if_pos (by rfl)]
  go_simp
  refine (toLives_any x2_0 x2_1 _).mono ?_
  rintro e w33 ⟨rfl, hb33⟩
  have b33 := step_below hb33 b32
  have B0_33 := B0_32.keep hb33
  have B1_33 := B1_32.keep hb33
  have B2_33 := B2_32.keep hb33
  have v7_33 := own_keep v7_32 hb33
  have vz7_33 := own_keep vz7_32 hb33
  have k28_33 := own_keep k28_32 hb33
  have k29_33 := own_keep k29_32 hb33
  have q31_33 := own_keep q31_32 hb33
  have q32_33 := own_keep q32_32 hb33
  have d32_33 := own_keep d32_32 hb33
  have t33 := step_below hb33 t32
  refine hK.out _ _ ⟨(B0_33.cell (i := 0) rfl), (B0_33.cell (i := 1) rfl), (B1_33.cell (i := 0) rfl), (B1_33.cell (i := 1) rfl), (B2_33.cell (i := 0) rfl), (B2_33.cell (i := 1) rfl)⟩ (fun hS33 => ?_)
  clear hK K
  refine wpAnyH_ready (rs := [6]) (by kernel_rfl) (by simp) (AllReadyH.cons rfl ?_ AllReadyH.nil)
  intro K hK
  rw [if_pos (by rfl)]
  go_simp
  refine (KI _ _ _ _ (HA.of_own q31_33) (WnA.of_own q32_33) (SZ.of_own d32_33) ).mono ?_
  rintro e w34 ⟨C34, e34, C34b, e34b, rfl, own34, owm34, hb34⟩
  have b34 := step_below hb34 b33
  have B0_34 := B0_33.keep hb34
  have B1_34 := B1_33.keep hb34
  have B2_34 := B2_33.keep hb34
  have v7_34 := own_keep v7_33 hb34
  have vz7_34 := own_keep vz7_33 hb34
  have k28_34 := own_keep k28_33 hb34
  have k29_34 := own_keep k29_33 hb34
  have q31_34 := own_keep q31_33 hb34
  have q32_34 := own_keep q32_33 hb34
  have d32_34 := own_keep d32_33 hb34
  have t34 := step_below hb34 t33
  have r34_34 := own34
  have rz34_34 := owm34
  refine hK.out _ _ ⟨(B0_34.cell (i := 0) rfl), (B0_34.cell (i := 1) rfl), (B1_34.cell (i := 0) rfl), (B1_34.cell (i := 1) rfl), (B2_34.cell (i := 0) rfl), (B2_34.cell (i := 1) rfl)⟩ (fun hS34 => ?_)
  clear hK K
  refine wpAnyH_take (i := 7) (v := .tuple #[.slice C34 r0.length e34, .slice C34b r1.length e34b, .int .i64 r2]) rfl (by kernel_rfl) (by kernel_rfl) (by kernel_rfl) (fun _ _ _ h => h) (Or.inl ⟨by rfl, fun w' _ => by go_simp⟩) hS34 ?_
  change wpAnyH _ _ _ _ _ _ _ (Act.put _ (some 125) _) _
  simp only [Act.put, List.setIfInBounds_toArray, List.set_cons_zero, List.set_cons_succ]
  refine wpAnyH_take (i := 8) (v := .slice C34 r0.length e34) rfl (by kernel_rfl) (by kernel_rfl) (by kernel_rfl) (fun _ _ _ h => h) (Or.inl ⟨by rfl, fun w' _ => by go_simp⟩) hS34 ?_
  change wpAnyH _ _ _ _ _ _ _ (Act.put _ (some 133) _) _
  simp only [Act.put, List.setIfInBounds_toArray, List.set_cons_zero, List.set_cons_succ]
  refine wpAnyH_take (i := 9) (v := .slice C34b r1.length e34b) rfl (by kernel_rfl) (by kernel_rfl) (by kernel_rfl) (fun _ _ _ h => h) (Or.inl ⟨by rfl, fun w' _ => by go_simp⟩) hS34 ?_
  change wpAnyH _ _ _ _ _ _ _ (Act.put _ (some 134) _) _
  simp only [Act.put, List.setIfInBounds_toArray, List.set_cons_zero, List.set_cons_succ]
  refine wpAnyH_take (i := 10) (v := .int .i64 r2) rfl (by kernel_rfl) (by kernel_rfl) (by kernel_rfl) (fun _ _ _ h => h) (Or.inl ⟨by rfl, fun w' _ => by go_simp⟩) hS34 ?_
  change wpAnyH _ _ _ _ _ _ _ (Act.put _ (some 135) _) _
  simp only [Act.put, List.setIfInBounds_toArray, List.set_cons_zero, List.set_cons_succ]
  refine wpAnyH_take (i := 11) (v := .slice C34 r0.length e34) rfl (by kernel_rfl) (by kernel_rfl) (by kernel_rfl) (fun _ _ _ h => h) (Or.inl ⟨by rfl, fun w' _ => by go_simp⟩) hS34 ?_
  change wpAnyH _ _ _ _ _ _ _ (Act.put _ (some 19) _) _
  simp only [Act.put, List.setIfInBounds_toArray, List.set_cons_zero, List.set_cons_succ]
  refine wpAnyH_take (i := 12) (v := .slice C34b r1.length e34b) rfl (by kernel_rfl) (by kernel_rfl) (by kernel_rfl) (fun _ _ _ h => h) (Or.inl ⟨by rfl, fun w' _ => by go_simp⟩) hS34 ?_
  change wpAnyH _ _ _ _ _ _ _ (Act.put _ (some 20) _) _
  simp only [Act.put, List.setIfInBounds_toArray, List.set_cons_zero, List.set_cons_succ]
  refine wpAnyH_take (i := 13) (v := .int .i64 r2) rfl (by kernel_rfl) (by kernel_rfl) (by kernel_rfl) (fun _ _ _ h => h) (Or.inl ⟨by rfl, fun w' _ => by go_simp⟩) hS34 ?_
  change wpAnyH _ _ _ _ _ _ _ (Act.put _ (some 21) _) _
  simp only [Act.put, List.setIfInBounds_toArray, List.set_cons_zero, List.set_cons_succ]
  refine wpAnyH_done (by kernel_rfl) ?_ _
  go_wp2_with fail
  refine (eqWornPinS_self _ _ _ _ r0 _ (WnA.of_own r34_34) (WnA.of_own v7_34) hrl0).mono ?_
  rintro e w35 ⟨rfl, hb35⟩
  have b35 := step_below hb35 b34
  have B0_35 := B0_34.keep hb35
  have B1_35 := B1_34.keep hb35
  have B2_35 := B2_34.keep hb35
  have v7_35 := own_keep v7_34 hb35
  have vz7_35 := own_keep vz7_34 hb35
  have k28_35 := own_keep k28_34 hb35
  have k29_35 := own_keep k29_34 hb35
  have q31_35 := own_keep q31_34 hb35
  have q32_35 := own_keep q32_34 hb35
  have d32_35 := own_keep d32_34 hb35
  have rz34_35 := own_keep rz34_34 hb35
  have t35 := step_below hb35 t34
  go_wp2_with fail
  refine (eqInt64S_self _ _ _ _ r1 _ (SI.of_own rz34_35) (SI.of_own vz7_35) hrl1).mono ?_
  rintro e w36 ⟨rfl, hb36⟩
  have b36 := step_below hb36 b35
  have B0_36 := B0_35.keep hb36
  have B1_36 := B1_35.keep hb36
  have B2_36 := B2_35.keep hb36
  have v7_36 := own_keep v7_35 hb36
  have vz7_36 := own_keep vz7_35 hb36
  have k28_36 := own_keep k28_35 hb36
  have k29_36 := own_keep k29_35 hb36
  have q31_36 := own_keep q31_35 hb36
  have q32_36 := own_keep q32_35 hb36
  have d32_36 := own_keep d32_35 hb36
  have t36 := step_below hb36 t35
  go_wp2_with fail
  refine (heldWornPinS_from _ _ r0.length (1) _ (mkWn_of_own k28_36) hrl0 ⟨by omega, by omega⟩).mono ?_
  rintro e w37' ⟨rfl, rfl⟩
  go_wp2_with fail
  refine (heldInt64S_from _ _ r1.length _ (1 + 3 * (r0.length : Int)) _ (mkI_of_own k29_36) hrl1 ⟨by omega, by omega⟩).mono ?_
  rintro e w37' ⟨rfl, rfl⟩
  go_wp2
  go_ret
  exact ⟨rfl, b36⟩
theorem lawWornOut_any (s0 : Int) (A0 : Option Addr) (c0 : Nat) (l0 : List (Int × Int)) (A1 : Option Addr) (c1 : Nat) (l1 : List (Int × Int × Int)) (U1 : Option Addr) (v1 : Nat) (z1 : List Int) (x2_0 : Int) (x2_1 : Int) (w : World) (hA0 : HA w A0 l0) (hwf0 : HWF l0) (hs0 : -32768 ≤ s0 ∧ s0 ≤ 32767) (hA1 : WnA w A1 l1) (hU1 : SZ w U1 z1) (hwf1 : WnWF l1) (hzwf1 : ZWF z1) (hv2 : LvWF x2_0 x2_1) (hm0 : l0.length ≤ maxLen) (hm1 : l1.length ≤ maxLen ∧ z1.length ≤ maxLen)  :
    Calls Try.prog 7 #[.agg #[.int .i16 s0, .slice A0 l0.length c0], .agg #[.slice A1 l1.length c1, .slice U1 z1.length v1], .agg #[.int .i64 x2_0, .int .i64 x2_1]] w (Says true w) := by
  rcases Nat.lt_or_ge 1048576 (l0.length) with h0 | h0
  · exact lawWornOut_big0 s0 A0 c0 l0 A1 c1 l1 U1 v1 z1 x2_0 x2_1 w  h0 hm0 hm1
  rcases Nat.lt_or_ge 1048576 (l0.length + (l1.length + z1.length)) with h1 | h1
  · exact lawWornOut_big1 s0 A0 c0 l0 A1 c1 l1 U1 v1 z1 x2_0 x2_1 w h0 h1 hm0 hm1
  exact lawWornOut_small s0 A0 c0 l0 A1 c1 l1 U1 v1 z1 x2_0 x2_1 w hA0 hwf0 hs0 hA1 hU1 hwf1 hzwf1 hv2 h0 h1 hm0 hm1 
end Go.Proofs.Ytcocfnjbgceidaa
