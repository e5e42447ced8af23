import Derived.Test.YtcocfnjbgceidaaGreatGb
import Derived.Test.YtcocfnjbgceidaaGreatMkw
import Derived.Test.YtcocfnjbgceidaaGreatGg
import Derived.Test.YtcocfnjbgceidaaGreatGn
import Derived.Test.YtcocfnjbgceidaaGreatAct
import Derived.Deep.RegionHeld3
import Derived.Deep.CutRange
namespace Go.Proofs.YtcocfnjbgceidaaGreat
open Go.RowKit

set_option maxRecDepth 20000 in
set_option maxHeartbeats 1000000 in
theorem lawDoWearAct_big0 (s0 : Int) (A0 : Option Addr) (c0 : Nat) (l0 : List (Int × Int)) (A1 : Option Addr) (c1 : Nat) (l1 : List (Int × Int × Int)) (U1 : Option Addr) (v1 : Nat) (z1 : List Int) (x2_0 : Int) (x2_1 : Int) (x2_2 : Int) (x2_3 : Int) (x2_4 : Int) (w : World)  (hbg : 1048576 < l0.length) (hm0 : l0.length ≤ maxLen) (hm1 : l1.length ≤ maxLen ∧ z1.length ≤ maxLen) :
    Calls Tryz.prog 6 #[.agg #[.int .i16 s0, .slice A0 l0.length c0], .agg #[.slice A1 l1.length c1, .slice U1 z1.length v1], .agg #[.int .i8 x2_0, .int .i64 x2_1, .int .i64 x2_2, .int .i64 x2_3, .int .i64 x2_4]] w (Says true w) := by
  obtain ⟨X0, hX0⟩ : ∃ X, X = (((w.alloc (.cells #[.int .i16 s0, .slice A0 l0.length c0] 25)).alloc (.cells #[.slice A1 l1.length c1, .slice U1 z1.length v1] 29)).alloc (.cells #[.int .i8 x2_0, .int .i64 x2_1, .int .i64 x2_2, .int .i64 x2_3, .int .i64 x2_4] 53)) := ⟨_, rfl⟩
  have b0 : Below w.heap.size w X0 := by rw [hX0]; exact ((((Below.refl _ _).alloc (Nat.le_refl _) _).alloc (by simp) _).alloc (by simp; omega) _)
  have B0_0 : Bk X0 (w.heap.size) 25 #[.int .i16 s0, .slice A0 l0.length c0] := by rw [hX0]; exact Bk.new _ _ _ rfl |>.old _ |>.old _
  have bw0 : w.heap.size < X0.heap.size := B0_0.lt
  have B1_0 : Bk X0 (w.heap.size + 1) 29 #[.slice A1 l1.length c1, .slice U1 z1.length v1] := by rw [hX0]; exact Bk.new _ _ _ (by simp) |>.old _
  have bw1 : w.heap.size + 1 < X0.heap.size := B1_0.lt
  have B2_0 : Bk X0 (w.heap.size + 1 + 1) 53 #[.int .i8 x2_0, .int .i64 x2_1, .int .i64 x2_2, .int .i64 x2_3, .int .i64 x2_4] := by rw [hX0]; exact Bk.new _ _ _ (by simp)
  have bw2 : w.heap.size + 1 + 1 < X0.heap.size := B2_0.lt
  go_enter Tryz.func6, Tryz.ntmps6
  go_upto_region 1 with fail
  rw [← hX0]
  clear hX0
  have pf19_0 := B0_0.cell (i := 0) rfl
  have pf19_1 := B0_0.cell (i := 1) rfl
  go_wp2_with fail
  clear pf19_0 pf19_1
  refine (szFrame_at_big s0 A0 l0.length c0 (1048576) (by omega) (by omega) hm0 (by omega) _).mono ?_
  rintro e w1 ⟨rfl, hb1⟩
  have b1 := step_below hb1 b0
  go_wp2
  go_ret
  exact ⟨rfl, b1⟩
set_option maxRecDepth 20000 in
set_option maxHeartbeats 1000000 in
theorem lawDoWearAct_big1 (s0 : Int) (A0 : Option Addr) (c0 : Nat) (l0 : List (Int × Int)) (A1 : Option Addr) (c1 : Nat) (l1 : List (Int × Int × Int)) (U1 : Option Addr) (v1 : Nat) (z1 : List Int) (x2_0 : Int) (x2_1 : Int) (x2_2 : Int) (x2_3 : Int) (x2_4 : Int) (w : World) (hc0 : l0.length ≤ 1048576) (hbg : 1048576 < l0.length + (l1.length + z1.length)) (hm0 : l0.length ≤ maxLen) (hm1 : l1.length ≤ maxLen ∧ z1.length ≤ maxLen) :
    Calls Tryz.prog 6 #[.agg #[.int .i16 s0, .slice A0 l0.length c0], .agg #[.slice A1 l1.length c1, .slice U1 z1.length v1], .agg #[.int .i8 x2_0, .int .i64 x2_1, .int .i64 x2_2, .int .i64 x2_3, .int .i64 x2_4]] w (Says true w) := by
  obtain ⟨X0, hX0⟩ : ∃ X, X = (((w.alloc (.cells #[.int .i16 s0, .slice A0 l0.length c0] 25)).alloc (.cells #[.slice A1 l1.length c1, .slice U1 z1.length v1] 29)).alloc (.cells #[.int .i8 x2_0, .int .i64 x2_1, .int .i64 x2_2, .int .i64 x2_3, .int .i64 x2_4] 53)) := ⟨_, rfl⟩
  have b0 : Below w.heap.size w X0 := by rw [hX0]; exact ((((Below.refl _ _).alloc (Nat.le_refl _) _).alloc (by simp) _).alloc (by simp; omega) _)
  have B0_0 : Bk X0 (w.heap.size) 25 #[.int .i16 s0, .slice A0 l0.length c0] := by rw [hX0]; exact Bk.new _ _ _ rfl |>.old _ |>.old _
  have bw0 : w.heap.size < X0.heap.size := B0_0.lt
  have B1_0 : Bk X0 (w.heap.size + 1) 29 #[.slice A1 l1.length c1, .slice U1 z1.length v1] := by rw [hX0]; exact Bk.new _ _ _ (by simp) |>.old _
  have bw1 : w.heap.size + 1 < X0.heap.size := B1_0.lt
  have B2_0 : Bk X0 (w.heap.size + 1 + 1) 53 #[.int .i8 x2_0, .int .i64 x2_1, .int .i64 x2_2, .int .i64 x2_3, .int .i64 x2_4] := by rw [hX0]; exact Bk.new _ _ _ (by simp)
  have bw2 : w.heap.size + 1 + 1 < X0.heap.size := B2_0.lt
  go_enter Tryz.func6, Tryz.ntmps6
  go_upto_region 1 with fail
  rw [← hX0]
  clear hX0
  have pf19_0 := B0_0.cell (i := 0) rfl
  have pf19_1 := B0_0.cell (i := 1) rfl
  go_wp2_with fail
  clear pf19_0 pf19_1
  refine (szFrame_at_small s0 A0 l0.length c0 (1048576) (by omega) (by omega) hm0 (by omega) _).mono ?_
  rintro e w1 ⟨rfl, hb1⟩
  have b1 := step_below hb1 b0
  have B0_1 := B0_0.keep hb1
  have B1_1 := B1_0.keep hb1
  have B2_1 := B2_0.keep hb1
  have pf24_0 := B1_1.cell (i := 0) rfl
  have pf24_1 := B1_1.cell (i := 1) rfl
  go_wp2_with fail
  clear pf24_0 pf24_1
  refine (szWear_big A1 l1.length c1 U1 z1.length v1 (1048576 - (l0.length : Int)) (by omega) (by omega) hm1.1 hm1.2 (by omega) _).mono ?_
  rintro e w2 ⟨rfl, hb2⟩
  have b2 := step_below hb2 b1
  go_wp2
  go_ret
  exact ⟨rfl, b2⟩
set_option maxRecDepth 20000 in
set_option maxHeartbeats 16000000 in
theorem lawDoWearAct_small (s0 : Int) (A0 : Option Addr) (c0 : Nat) (l0 : List (Int × Int)) (A1 : Option Addr) (c1 : Nat) (l1 : List (Int × Int × Int)) (U1 : Option Addr) (v1 : Nat) (z1 : List Int) (x2_0 : Int) (x2_1 : Int) (x2_2 : Int) (x2_3 : Int) (x2_4 : Int) (w : World) (hA0 : HA w A0 l0) (hwf0 : HWF l0) (hs0 : -32768 ≤ s0 ∧ s0 ≤ 32767) (hA1 : WnA w A1 l1) (hU1 : SZ w U1 z1) (hwf1 : WnWF l1) (hzwf1 : ZWF z1) (hv2 : AvWF x2_0 x2_1 x2_2 x2_3 x2_4) (hc0 : l0.length ≤ 1048576) (hc1 : l0.length + (l1.length + z1.length) ≤ 1048576) (hm0 : l0.length ≤ maxLen) (hm1 : l1.length ≤ maxLen ∧ z1.length ≤ maxLen) :
    Calls Tryz.prog 6 #[.agg #[.int .i16 s0, .slice A0 l0.length c0], .agg #[.slice A1 l1.length c1, .slice U1 z1.length v1], .agg #[.int .i8 x2_0, .int .i64 x2_1, .int .i64 x2_2, .int .i64 x2_3, .int .i64 x2_4]] w (Says true w) := by
  have hn0 : l0.length ≤ 1048576 := by omega
  have hn1 : l1.length ≤ 1048576 ∧ z1.length ≤ 1048576 := ⟨by omega, by omega⟩
  obtain ⟨r0, hr0⟩ : ∃ r : List (Int × Int × Int), r = waT s0 l0 l1 z1 (acC s0 l0.length l1 z1 x2_0 x2_1 x2_2 x2_3 x2_4) (acT l1 x2_0 x2_1 x2_2 x2_3 x2_4) := ⟨_, rfl⟩
  obtain ⟨r1, hr1⟩ : ∃ r : Int, r = waC s0 l0 l1 z1 (acC s0 l0.length l1 z1 x2_0 x2_1 x2_2 x2_3 x2_4) := ⟨_, rfl⟩
  obtain ⟨rz0, hrz0⟩ : ∃ r : List Int, r = waZ s0 l0 l1 z1 (acC s0 l0.length l1 z1 x2_0 x2_1 x2_2 x2_3 x2_4) (acZ l0.length l1 z1 x2_0 x2_1 x2_2 x2_3 x2_4) := ⟨_, rfl⟩
  have hrl0 : r0.length ≤ 1048576 := by rw [hr0]; exact daT_len _ _ _ _ _ _ _ _ _ hn1.1
  have hrlz0 : rz0.length ≤ 1048576 := by rw [hrz0]; exact daZ_len _ _ _ _ _ _ _ _ _ hn1.2
  have KS : ∀ (E0 : Option Addr) (E1 O1 : Option Addr) (W : World), HA W E0 l0 → WnA W E1 l1 → SZ W O1 z1 → Calls Tryz.prog 25 #[.agg #[.int .i16 s0, .slice E0 l0.length l0.length], .agg #[.slice E1 l1.length l1.length, .slice O1 z1.length z1.length], .agg #[.int .i8 x2_0, .int .i64 x2_1, .int .i64 x2_2, .int .i64 x2_3, .int .i64 x2_4]] W (fun e w' => ∃ (C : Option Addr) (q : Nat) (C2 : Option Addr) (q2 : Nat), e = .returned (.tuple #[.agg #[.slice C r0.length q, .slice C2 rz0.length q2], .int .i64 r1]) ∧ w'.ownsRow W.heap.size 97 3 (.slice C r0.length q) r0.length (wnC r0) ∧ w'.ownsRow W.heap.size 2 1 (.slice C2 rz0.length q2) rz0.length (icells rz0) ∧ Below W.heap.size W w') := fun E0 E1 O1 W h0 h1 h1z => by rw [hr0, hrz0, hr1]; exact specDoWearAct_any s0 E0 l0.length l0 E1 l1.length l1 O1 z1.length z1 x2_0 x2_1 x2_2 x2_3 x2_4 W h0 hn0 hwf0 hs0 h1 h1z hn1.1 hn1.2 hwf1 hzwf1 hv2
  have KI : ∀ (E0 : Option Addr) (E1 O1 : Option Addr) (W : World), HA W E0 l0 → WnA W E1 l1 → SZ W O1 z1 → Calls Tryz.prog 27 #[.agg #[.int .i16 s0, .slice E0 l0.length l0.length], .agg #[.slice E1 l1.length l1.length, .slice O1 z1.length z1.length], .agg #[.int .i8 x2_0, .int .i64 x2_1, .int .i64 x2_2, .int .i64 x2_3, .int .i64 x2_4]] W (fun e w' => ∃ (C : Option Addr) (q : Nat) (C2 : Option Addr) (q2 : Nat), e = .returned (.tuple #[.agg #[.slice C r0.length q, .slice C2 rz0.length q2], .int .i64 r1]) ∧ w'.ownsRow W.heap.size 97 3 (.slice C r0.length q) r0.length (wnC r0) ∧ w'.ownsRow W.heap.size 2 1 (.slice C2 rz0.length q2) rz0.length (icells rz0) ∧ Below W.heap.size W w') := fun E0 E1 O1 W h0 h1 h1z => by rw [hr0, hrz0, hr1]; exact implDoWearAct_any s0 E0 l0.length l0 E1 l1.length l1 O1 z1.length z1 x2_0 x2_1 x2_2 x2_3 x2_4 W h0 hn0 hwf0 hs0 h1 h1z hn1.1 hn1.2 hwf1 hzwf1 hv2
  clear hr0 hrz0 hr1
  obtain ⟨X0, hX0⟩ : ∃ X, X = (((w.alloc (.cells #[.int .i16 s0, .slice A0 l0.length c0] 25)).alloc (.cells #[.slice A1 l1.length c1, .slice U1 z1.length v1] 29)).alloc (.cells #[.int .i8 x2_0, .int .i64 x2_1, .int .i64 x2_2, .int .i64 x2_3, .int .i64 x2_4] 53)) := ⟨_, rfl⟩
  have b0 : Below w.heap.size w X0 := by rw [hX0]; exact ((((Below.refl _ _).alloc (Nat.le_refl _) _).alloc (by simp) _).alloc (by simp; omega) _)
  have B0_0 : Bk X0 (w.heap.size) 25 #[.int .i16 s0, .slice A0 l0.length c0] := by rw [hX0]; exact Bk.new _ _ _ rfl |>.old _ |>.old _
  have bw0 : w.heap.size < X0.heap.size := B0_0.lt
  have B1_0 : Bk X0 (w.heap.size + 1) 29 #[.slice A1 l1.length c1, .slice U1 z1.length v1] := by rw [hX0]; exact Bk.new _ _ _ (by simp) |>.old _
  have bw1 : w.heap.size + 1 < X0.heap.size := B1_0.lt
  have B2_0 : Bk X0 (w.heap.size + 1 + 1) 53 #[.int .i8 x2_0, .int .i64 x2_1, .int .i64 x2_2, .int .i64 x2_3, .int .i64 x2_4] := by rw [hX0]; exact Bk.new _ _ _ (by simp)
  have bw2 : w.heap.size + 1 + 1 < X0.heap.size := B2_0.lt
  go_enter Tryz.func6, Tryz.ntmps6
  go_upto_region 1 with fail
  rw [← hX0]
  clear hX0
  have pf19_0 := B0_0.cell (i := 0) rfl
  have pf19_1 := B0_0.cell (i := 1) rfl
  go_wp2_with fail
  clear pf19_0 pf19_1
  refine (szFrame_at_small s0 A0 l0.length c0 (1048576) (by omega) (by omega) hm0 (by omega) _).mono ?_
  rintro e w1 ⟨rfl, hb1⟩
  have b1 := step_below hb1 b0
  have B0_1 := B0_0.keep hb1
  have B1_1 := B1_0.keep hb1
  have B2_1 := B2_0.keep hb1
  have pf24_0 := B1_1.cell (i := 0) rfl
  have pf24_1 := B1_1.cell (i := 1) rfl
  go_wp2_with fail
  clear pf24_0 pf24_1
  refine (szWear_small A1 l1.length c1 U1 z1.length v1 (1048576 - (l0.length : Int)) (by omega) (by omega) hm1.1 hm1.2 (by omega) _).mono ?_
  rintro e w2 ⟨rfl, hb2⟩
  have b2 := step_below hb2 b1
  have B0_2 := B0_1.keep hb2
  have B1_2 := B1_1.keep hb2
  have B2_2 := B2_1.keep hb2
  go_upto_region 8 with fail
  go_cut [8, 9] from 29 to 38 (fun a_ b_ wx => ∃ (g : Nat) (C : Option Addr) (e : Nat) (D : Option Addr) (f : Nat) (W : World), a_ = .pointer (some ⟨g, 0, none⟩) ∧ b_ = .int .i64 r1 ∧ W = wx ∧ Bk W g 34 #[.slice C r0.length e, .slice D rz0.length f] ∧ w2.heap.size ≤ g ∧ W.ownsRow w2.heap.size 97 3 (.slice C r0.length e) r0.length (wnC r0) ∧ W.ownsRow w2.heap.size 2 1 (.slice D rz0.length f) rz0.length (icells rz0) ∧ Below w2.heap.size w2 W)
  case first =>
    have hb3 : Below w2.heap.size w2 w2.drew := (Below.refl _ _).drew
    have tb2 : Below w2.heap.size w2 w2 := Below.refl _ _
    have b3 := step_below hb3 b2
    have B0_3 := B0_2.keep hb3
    have B1_3 := B1_2.keep hb3
    have B2_3 := B2_2.keep hb3
    have tb3 := step_below hb3 tb2
    refine wp_region_held_drew (S := fun w' => w'.cell? ⟨w.heap.size, 0, none⟩ = some (.int .i16 s0) ∧ w'.cell? ⟨w.heap.size, 1, none⟩ = some (.slice A0 l0.length c0) ∧ w'.cell? ⟨w.heap.size + 1, 0, none⟩ = some (.slice A1 l1.length c1) ∧ w'.cell? ⟨w.heap.size + 1, 1, none⟩ = some (.slice U1 z1.length v1) ∧ w'.cell? ⟨w.heap.size + 1 + 1, 0, none⟩ = some (.int .i8 x2_0) ∧ w'.cell? ⟨w.heap.size + 1 + 1, 1, none⟩ = some (.int .i64 x2_1) ∧ w'.cell? ⟨w.heap.size + 1 + 1, 2, none⟩ = some (.int .i64 x2_2) ∧ w'.cell? ⟨w.heap.size + 1 + 1, 3, none⟩ = some (.int .i64 x2_3) ∧ w'.cell? ⟨w.heap.size + 1 + 1, 4, none⟩ = some (.int .i64 x2_4)) (by kernel_rfl) ⟨(B0_3.cell (i := 0) rfl), (B0_3.cell (i := 1) rfl), (B1_3.cell (i := 0) rfl), (B1_3.cell (i := 1) rfl), (B2_3.cell (i := 0) rfl), (B2_3.cell (i := 1) rfl), (B2_3.cell (i := 2) rfl), (B2_3.cell (i := 3) rfl), (B2_3.cell (i := 4) rfl)⟩ fun hS3 => ?_
    generalize w2.drew = wd3 at *
    change wpAnyH _ _ _ _ _ _ #[false, false, false, false, false, false, false, false, false, false, false, false, false] _ _
    refine wpAnyH_take (i := 0) (v := .agg #[.int .i16 s0, .slice A0 l0.length c0]) rfl (by kernel_rfl) (by kernel_rfl) (by kernel_rfl) (fun _ _ _ h => h) (Or.inl ⟨by rfl, fun w' h => ?_⟩) hS3 ?_
    · have c0 := h.1
      have c1 := h.2.1
      clear h
      go_simp
    change wpAnyH _ _ _ _ _ _ _ (Act.put _ (some 30) _) _
    simp only [Act.put, List.setIfInBounds_toArray, List.set_cons_zero, List.set_cons_succ]
    refine wpAnyH_take (i := 2) (v := .agg #[.slice A1 l1.length c1, .slice U1 z1.length v1]) rfl (by kernel_rfl) (by kernel_rfl) (by kernel_rfl) (fun _ _ _ h => h) (Or.inl ⟨by rfl, fun w' h => ?_⟩) hS3 ?_
    · have c0 := h.2.2.1
      have c1 := h.2.2.2.1
      clear h
      go_simp
    change wpAnyH _ _ _ _ _ _ _ (Act.put _ (some 32) _) _
    simp only [Act.put, List.setIfInBounds_toArray, List.set_cons_zero, List.set_cons_succ]
    refine wpAnyH_take (i := 4) (v := .agg #[.int .i8 x2_0, .int .i64 x2_1, .int .i64 x2_2, .int .i64 x2_3, .int .i64 x2_4]) rfl (by kernel_rfl) (by kernel_rfl) (by kernel_rfl) (fun _ _ _ h => h) (Or.inl ⟨by rfl, fun w' h => ?_⟩) hS3 ?_
    · have c0 := h.2.2.2.2.1
      have c1 := h.2.2.2.2.2.1
      have c2 := h.2.2.2.2.2.2.1
      have c3 := h.2.2.2.2.2.2.2.1
      have c4 := h.2.2.2.2.2.2.2.2
      clear h
      go_simp
    change wpAnyH _ _ _ _ _ _ _ (Act.put _ (some 34) _) _
    simp only [Act.put, List.setIfInBounds_toArray, List.set_cons_zero, List.set_cons_succ]
    refine wpAnyH_ready (rs := [1, 10]) (by kernel_rfl) (by simp) (AllReadyH.cons rfl ?_ (AllReadyH.cons rfl ?_ AllReadyH.nil))
    · intro K hK
      rw [if_pos (by rfl)]
      go_simp
      refine (toFrame_any s0 A0 c0 l0 _ (hA0.below b3) hn0).mono ?_
      rintro e w4 ⟨g4, rfl, hg4, own4, hb4⟩
      have b4 := step_below hb4 b3
      have B0_4 := B0_3.keep hb4
      have B1_4 := B1_3.keep hb4
      have B2_4 := B2_3.keep hb4
      have gl4 : g4 < w4.heap.size := (own4.lt g4 rfl).2
      have q4_4 := own4
      have tb4 := tb3.trans (hb4.mono tb3.size)
      refine hK.out _ _ ⟨(B0_4.cell (i := 0) rfl), (B0_4.cell (i := 1) rfl), (B1_4.cell (i := 0) rfl), (B1_4.cell (i := 1) rfl), (B2_4.cell (i := 0) rfl), (B2_4.cell (i := 1) rfl), (B2_4.cell (i := 2) rfl), (B2_4.cell (i := 3) rfl), (B2_4.cell (i := 4) rfl)⟩ (fun hS4 => ?_)
      clear hK K
      try (change wpAnyH _ _ _ _ _ _ _ (Act.put _ (some 31) _) _)
      try simp only [Act.put, List.setIfInBounds_toArray, List.set_cons_zero, List.set_cons_succ]
      refine wpAnyH_ready (rs := [3, 10]) (by kernel_rfl) (by simp) (AllReadyH.cons rfl ?_ (AllReadyH.cons rfl ?_ AllReadyH.nil))
      · intro K hK
        rw [if_pos (by rfl)]
        go_simp
        refine (toWear_any A1 c1 l1 U1 v1 z1 _ (hA1.below b4) (hU1.below b4) hn1.1 hn1.2).mono ?_
        rintro e w5 ⟨g5, m5, rfl, hg5, hgm5, own5, owm5, hb5⟩
        have b5 := step_below hb5 b4
        have B0_5 := B0_4.keep hb5
        have B1_5 := B1_4.keep hb5
        have B2_5 := B2_4.keep hb5
        have q4_5 := own_keep q4_4 hb5
        have gl5 : g5 < w5.heap.size := (own5.lt g5 rfl).2
        have gm5 : m5 < w5.heap.size := (owm5.lt m5 rfl).2
        have q5_5 := own5
        have d5_5 := owm5
        have tb5 := tb4.trans (hb5.mono tb4.size)
        refine hK.out _ _ ⟨(B0_5.cell (i := 0) rfl), (B0_5.cell (i := 1) rfl), (B1_5.cell (i := 0) rfl), (B1_5.cell (i := 1) rfl), (B2_5.cell (i := 0) rfl), (B2_5.cell (i := 1) rfl), (B2_5.cell (i := 2) rfl), (B2_5.cell (i := 3) rfl), (B2_5.cell (i := 4) rfl)⟩ (fun hS5 => ?_)
        clear hK K
        try (change wpAnyH _ _ _ _ _ _ _ (Act.put _ (some 33) _) _)
        try simp only [Act.put, List.setIfInBounds_toArray, List.set_cons_zero, List.set_cons_succ]
        refine wpAnyH_ready (rs := [5, 10]) (by kernel_rfl) (by simp) (AllReadyH.cons rfl ?_ (AllReadyH.cons rfl ?_ AllReadyH.nil))
        · intro K hK
          rw [if_pos (by rfl)]
          go_simp
          refine (toAct_any x2_0 x2_1 x2_2 x2_3 x2_4 _).mono ?_
          rintro e w6 ⟨rfl, hb6⟩
          have b6 := step_below hb6 b5
          have B0_6 := B0_5.keep hb6
          have B1_6 := B1_5.keep hb6
          have B2_6 := B2_5.keep hb6
          have q4_6 := own_keep q4_5 hb6
          have q5_6 := own_keep q5_5 hb6
          have d5_6 := own_keep d5_5 hb6
          have tb6 := tb5.trans (hb6.mono tb5.size)
          refine hK.out _ _ ⟨(B0_6.cell (i := 0) rfl), (B0_6.cell (i := 1) rfl), (B1_6.cell (i := 0) rfl), (B1_6.cell (i := 1) rfl), (B2_6.cell (i := 0) rfl), (B2_6.cell (i := 1) rfl), (B2_6.cell (i := 2) rfl), (B2_6.cell (i := 3) rfl), (B2_6.cell (i := 4) rfl)⟩ (fun hS6 => ?_)
          clear hK K
          try (change wpAnyH _ _ _ _ _ _ _ (Act.put _ (some 35) _) _)
          try simp only [Act.put, List.setIfInBounds_toArray, List.set_cons_zero, List.set_cons_succ]
          refine wpAnyH_ready (rs := [6, 10]) (by kernel_rfl) (by simp) (AllReadyH.cons rfl ?_ (AllReadyH.cons rfl ?_ AllReadyH.nil))
          · intro K hK
            rw [if_pos (by rfl)]
            go_simp
            refine (KS _ _ _ _ (HA.of_own q4_6) (WnA.of_own q5_6) (SZ.of_own d5_6) ).mono ?_
            rintro e w7 ⟨C7, e7, D7, f7, rfl, own7, owm7, hb7⟩
            have b7 := step_below hb7 b6
            have B0_7 := B0_6.keep hb7
            have B1_7 := B1_6.keep hb7
            have B2_7 := B2_6.keep hb7
            have v7_7 := own7
            have vz7_7 := owm7
            have t7 : Below w7.heap.size w7 w7 := Below.refl _ _
            have tb7 := tb6.trans (hb7.mono tb6.size)
            have oo_7 := own_base own7 tb6.size
            have oz_7 := own_base owm7 tb6.size
            refine hK.out _ _ ⟨(B0_7.cell (i := 0) rfl), (B0_7.cell (i := 1) rfl), (B1_7.cell (i := 0) rfl), (B1_7.cell (i := 1) rfl), (B2_7.cell (i := 0) rfl), (B2_7.cell (i := 1) rfl), (B2_7.cell (i := 2) rfl), (B2_7.cell (i := 3) rfl), (B2_7.cell (i := 4) rfl)⟩ (fun hS7 => ?_)
            clear hK K
            try (change wpAnyH _ _ _ _ _ _ _ (Act.put _ (some 36) _) _)
            try simp only [Act.put, List.setIfInBounds_toArray, List.set_cons_zero, List.set_cons_succ]
            refine wpAnyH_take (i := 7) (v := .tuple #[.agg #[.slice C7 r0.length e7, .slice D7 rz0.length f7], .int .i64 r1]) rfl (by kernel_rfl) (by kernel_rfl) (by kernel_rfl) (fun _ _ _ h => h) (Or.inl ⟨by rfl, fun w' _ => by go_simp⟩) hS7 ?_
            change wpAnyH _ _ _ _ _ _ _ (Act.put _ (some 29) _) _
            simp only [Act.put, List.setIfInBounds_toArray, List.set_cons_zero, List.set_cons_succ]
            refine wpAnyH_take (i := 8) (v := .agg #[.slice C7 r0.length e7, .slice D7 rz0.length f7]) rfl (by kernel_rfl) (by kernel_rfl) (by kernel_rfl) (fun _ _ _ h => h) (Or.inl ⟨by rfl, fun w' _ => by go_simp⟩) hS7 ?_
            change wpAnyH _ _ _ _ _ _ _ (Act.put _ (some 37) _) _
            simp only [Act.put, List.setIfInBounds_toArray, List.set_cons_zero, List.set_cons_succ]
            refine wpAnyH_take (i := 9) (v := .int .i64 r1) rfl (by kernel_rfl) (by kernel_rfl) (by kernel_rfl) (fun _ _ _ h => h) (Or.inl ⟨by rfl, fun w' _ => by go_simp⟩) hS7 ?_
            change wpAnyH _ _ _ _ _ _ _ (Act.put _ (some 38) _) _
            simp only [Act.put, List.setIfInBounds_toArray, List.set_cons_zero, List.set_cons_succ]
            refine wpAnyH_ready (rs := [10]) (by kernel_rfl) (by simp) (AllReadyH.cons rfl ?_ AllReadyH.nil)
            obtain ⟨w8, hX8⟩ : ∃ X, X = w7.alloc (.cells #[.slice none 0 0, .slice none 0 0] 34) := ⟨_, rfl⟩
            have hb8 : Below w7.heap.size w7 w8 := by rw [hX8]; exact (Below.refl _ _).alloc (Nat.le_refl _) _
            have za8 : Bk w8 w7.heap.size 34 #[.slice none 0 0, .slice none 0 0] := by rw [hX8]; exact heap_new' _ _ _ rfl
            have ge8 : w2.heap.size ≤ w7.heap.size := tb7.size
            intro K hK
            rw [if_pos (by rfl)]
            go_simp
            rw [← hX8]
            clear hX8
            have b8 := step_below hb8 b7
            have B0_8 := B0_7.keep hb8
            have B1_8 := B1_7.keep hb8
            have B2_8 := B2_7.keep hb8
            have v7_8 := own_keep v7_7 hb8
            have vz7_8 := own_keep vz7_7 hb8
            have t8 := step_below hb8 t7
            have tb8 := tb7.trans (hb8.mono tb7.size)
            have oo_8 := own_keep oo_7 hb8
            have oz_8 := own_keep oz_7 hb8
            refine hK.out _ _ ⟨(B0_8.cell (i := 0) rfl), (B0_8.cell (i := 1) rfl), (B1_8.cell (i := 0) rfl), (B1_8.cell (i := 1) rfl), (B2_8.cell (i := 0) rfl), (B2_8.cell (i := 1) rfl), (B2_8.cell (i := 2) rfl), (B2_8.cell (i := 3) rfl), (B2_8.cell (i := 4) rfl)⟩ (fun hS8 => ?_)
            clear hK K
            try (change wpAnyH _ _ _ _ _ _ _ (Act.put _ (some 8) _) _)
            try simp only [Act.put, List.setIfInBounds_toArray, List.set_cons_zero, List.set_cons_succ]
            refine wpAnyH_ready (rs := [11]) (by kernel_rfl) (by simp) (AllReadyH.cons rfl ?_ AllReadyH.nil)
            intro K hK
            rw [if_pos (by rfl)]
            refine wp_store_row 34 (.tmp 8) (.tmp 37) rfl (w7.heap.size) #[.slice C7 r0.length e7, .slice D7 rz0.length f7] rfl rfl 34 _ za8 (infoWear _ _) (szWear _ _ _ _) (oneWear _ _ _ _ _ _) ?_
            have hb9 : Below w2.heap.size w8 (w8.setRow (w7.heap.size) #[.slice C7 r0.length e7, .slice D7 rz0.length f7]) := below_setRow (Below.refl _ _) ge8
            have DD : Bk (w8.setRow (w7.heap.size) #[.slice C7 r0.length e7, .slice D7 rz0.length f7]) (w7.heap.size) 34 #[.slice C7 r0.length e7, .slice D7 rz0.length f7] := setRow_heap _ _ _ _ _ _ za8
            have oo_9 := own_rowK oo_8 za8 (by decide) #[.slice C7 r0.length e7, .slice D7 rz0.length f7]
            have oz_9 := own_rowK oz_8 za8 (by decide) #[.slice C7 r0.length e7, .slice D7 rz0.length f7]
            have B0_9 : Bk (w8.setRow (w7.heap.size) #[.slice C7 r0.length e7, .slice D7 rz0.length f7]) (w.heap.size) 25 #[.int .i16 s0, .slice A0 l0.length c0] := (setRow_other _ _ _ _ (by have e1 := B0_2.lt; have e2 := ge8; omega)).trans B0_8
            have B1_9 : Bk (w8.setRow (w7.heap.size) #[.slice C7 r0.length e7, .slice D7 rz0.length f7]) (w.heap.size + 1) 29 #[.slice A1 l1.length c1, .slice U1 z1.length v1] := (setRow_other _ _ _ _ (by have e1 := B1_2.lt; have e2 := ge8; omega)).trans B1_8
            have B2_9 : Bk (w8.setRow (w7.heap.size) #[.slice C7 r0.length e7, .slice D7 rz0.length f7]) (w.heap.size + 1 + 1) 53 #[.int .i8 x2_0, .int .i64 x2_1, .int .i64 x2_2, .int .i64 x2_3, .int .i64 x2_4] := (setRow_other _ _ _ _ (by have e1 := B2_2.lt; have e2 := ge8; omega)).trans B2_8
            have tb9 := tb8.trans hb9
            refine hK.out _ _ ⟨(B0_9.cell (i := 0) rfl), (B0_9.cell (i := 1) rfl), (B1_9.cell (i := 0) rfl), (B1_9.cell (i := 1) rfl), (B2_9.cell (i := 0) rfl), (B2_9.cell (i := 1) rfl), (B2_9.cell (i := 2) rfl), (B2_9.cell (i := 3) rfl), (B2_9.cell (i := 4) rfl)⟩ (fun hS9 => ?_)
            clear hK K
            refine wpAnyH_take (i := 12) (v := .int .i64 r1) rfl (by kernel_rfl) (by kernel_rfl) (by kernel_rfl) (fun _ _ _ h => h) (Or.inl ⟨by rfl, fun w' _ => by go_simp⟩) hS9 ?_
            change wpAnyH _ _ _ _ _ _ _ (Act.put _ (some 9) _) _
            simp only [Act.put, List.setIfInBounds_toArray, List.set_cons_zero, List.set_cons_succ]
            refine wpAnyH_done (by kernel_rfl) ?_ _
            go_wp2_with fail
            go_meet
            exact ⟨_, C7, e7, D7, f7, _, rfl, rfl, rfl, DD, ge8, oo_9, oz_9, tb9⟩
          · obtain ⟨w7, hX7⟩ : ∃ X, X = w6.alloc (.cells #[.slice none 0 0, .slice none 0 0] 34) := ⟨_, rfl⟩
            have hb7 : Below w6.heap.size w6 w7 := by rw [hX7]; exact (Below.refl _ _).alloc (Nat.le_refl _) _
            have za7 : Bk w7 w6.heap.size 34 #[.slice none 0 0, .slice none 0 0] := by rw [hX7]; exact heap_new' _ _ _ rfl
            have ge7 : w2.heap.size ≤ w6.heap.size := tb6.size
            intro K hK
            rw [if_pos (by rfl)]
            go_simp
            rw [← hX7]
            clear hX7
            have b7 := step_below hb7 b6
            have B0_7 := B0_6.keep hb7
            have B1_7 := B1_6.keep hb7
            have B2_7 := B2_6.keep hb7
            have q4_7 := own_keep q4_6 hb7
            have q5_7 := own_keep q5_6 hb7
            have d5_7 := own_keep d5_6 hb7
            have tb7 := tb6.trans (hb7.mono tb6.size)
            refine hK.out _ _ ⟨(B0_7.cell (i := 0) rfl), (B0_7.cell (i := 1) rfl), (B1_7.cell (i := 0) rfl), (B1_7.cell (i := 1) rfl), (B2_7.cell (i := 0) rfl), (B2_7.cell (i := 1) rfl), (B2_7.cell (i := 2) rfl), (B2_7.cell (i := 3) rfl), (B2_7.cell (i := 4) rfl)⟩ (fun hS7 => ?_)
            clear hK K
            try (change wpAnyH _ _ _ _ _ _ _ (Act.put _ (some 8) _) _)
            try simp only [Act.put, List.setIfInBounds_toArray, List.set_cons_zero, List.set_cons_succ]
            refine wpAnyH_ready (rs := [6]) (by kernel_rfl) (by simp) (AllReadyH.cons rfl ?_ AllReadyH.nil)
            intro K hK
            rw [if_pos (by rfl)]
            go_simp
            refine (KS _ _ _ _ (HA.of_own q4_7) (WnA.of_own q5_7) (SZ.of_own d5_7) ).mono ?_
            rintro e w8 ⟨C8, e8, D8, f8, rfl, own8, owm8, hb8⟩
            have b8 := step_below hb8 b7
            have B0_8 := B0_7.keep hb8
            have B1_8 := B1_7.keep hb8
            have B2_8 := B2_7.keep hb8
            have v8_8 := own8
            have vz8_8 := owm8
            have t8 : Below w8.heap.size w8 w8 := Below.refl _ _
            have tb8 := tb7.trans (hb8.mono tb7.size)
            have za8 := za7.keep hb8
            have oo_8 := own_base own8 tb7.size
            have oz_8 := own_base owm8 tb7.size
            refine hK.out _ _ ⟨(B0_8.cell (i := 0) rfl), (B0_8.cell (i := 1) rfl), (B1_8.cell (i := 0) rfl), (B1_8.cell (i := 1) rfl), (B2_8.cell (i := 0) rfl), (B2_8.cell (i := 1) rfl), (B2_8.cell (i := 2) rfl), (B2_8.cell (i := 3) rfl), (B2_8.cell (i := 4) rfl)⟩ (fun hS8 => ?_)
            clear hK K
            try (change wpAnyH _ _ _ _ _ _ _ (Act.put _ (some 36) _) _)
            try simp only [Act.put, List.setIfInBounds_toArray, List.set_cons_zero, List.set_cons_succ]
            refine wpAnyH_take (i := 7) (v := .tuple #[.agg #[.slice C8 r0.length e8, .slice D8 rz0.length f8], .int .i64 r1]) rfl (by kernel_rfl) (by kernel_rfl) (by kernel_rfl) (fun _ _ _ h => h) (Or.inl ⟨by rfl, fun w' _ => by go_simp⟩) hS8 ?_
            change wpAnyH _ _ _ _ _ _ _ (Act.put _ (some 29) _) _
            simp only [Act.put, List.setIfInBounds_toArray, List.set_cons_zero, List.set_cons_succ]
            refine wpAnyH_take (i := 8) (v := .agg #[.slice C8 r0.length e8, .slice D8 rz0.length f8]) rfl (by kernel_rfl) (by kernel_rfl) (by kernel_rfl) (fun _ _ _ h => h) (Or.inl ⟨by rfl, fun w' _ => by go_simp⟩) hS8 ?_
            change wpAnyH _ _ _ _ _ _ _ (Act.put _ (some 37) _) _
            simp only [Act.put, List.setIfInBounds_toArray, List.set_cons_zero, List.set_cons_succ]
            refine wpAnyH_take (i := 9) (v := .int .i64 r1) rfl (by kernel_rfl) (by kernel_rfl) (by kernel_rfl) (fun _ _ _ h => h) (Or.inl ⟨by rfl, fun w' _ => by go_simp⟩) hS8 ?_
            change wpAnyH _ _ _ _ _ _ _ (Act.put _ (some 38) _) _
            simp only [Act.put, List.setIfInBounds_toArray, List.set_cons_zero, List.set_cons_succ]
            refine wpAnyH_ready (rs := [11]) (by kernel_rfl) (by simp) (AllReadyH.cons rfl ?_ AllReadyH.nil)
            intro K hK
            rw [if_pos (by rfl)]
            refine wp_store_row 34 (.tmp 8) (.tmp 37) rfl (w6.heap.size) #[.slice C8 r0.length e8, .slice D8 rz0.length f8] rfl rfl 34 _ za8 (infoWear _ _) (szWear _ _ _ _) (oneWear _ _ _ _ _ _) ?_
            have hb9 : Below w2.heap.size w8 (w8.setRow (w6.heap.size) #[.slice C8 r0.length e8, .slice D8 rz0.length f8]) := below_setRow (Below.refl _ _) ge7
            have DD : Bk (w8.setRow (w6.heap.size) #[.slice C8 r0.length e8, .slice D8 rz0.length f8]) (w6.heap.size) 34 #[.slice C8 r0.length e8, .slice D8 rz0.length f8] := setRow_heap _ _ _ _ _ _ za8
            have oo_9 := own_rowK oo_8 za8 (by decide) #[.slice C8 r0.length e8, .slice D8 rz0.length f8]
            have oz_9 := own_rowK oz_8 za8 (by decide) #[.slice C8 r0.length e8, .slice D8 rz0.length f8]
            have B0_9 : Bk (w8.setRow (w6.heap.size) #[.slice C8 r0.length e8, .slice D8 rz0.length f8]) (w.heap.size) 25 #[.int .i16 s0, .slice A0 l0.length c0] := (setRow_other _ _ _ _ (by have e1 := B0_2.lt; have e2 := ge7; omega)).trans B0_8
            have B1_9 : Bk (w8.setRow (w6.heap.size) #[.slice C8 r0.length e8, .slice D8 rz0.length f8]) (w.heap.size + 1) 29 #[.slice A1 l1.length c1, .slice U1 z1.length v1] := (setRow_other _ _ _ _ (by have e1 := B1_2.lt; have e2 := ge7; omega)).trans B1_8
            have B2_9 : Bk (w8.setRow (w6.heap.size) #[.slice C8 r0.length e8, .slice D8 rz0.length f8]) (w.heap.size + 1 + 1) 53 #[.int .i8 x2_0, .int .i64 x2_1, .int .i64 x2_2, .int .i64 x2_3, .int .i64 x2_4] := (setRow_other _ _ _ _ (by have e1 := B2_2.lt; have e2 := ge7; omega)).trans B2_8
            have tb9 := tb8.trans hb9
            refine hK.out _ _ ⟨(B0_9.cell (i := 0) rfl), (B0_9.cell (i := 1) rfl), (B1_9.cell (i := 0) rfl), (B1_9.cell (i := 1) rfl), (B2_9.cell (i := 0) rfl), (B2_9.cell (i := 1) rfl), (B2_9.cell (i := 2) rfl), (B2_9.cell (i := 3) rfl), (B2_9.cell (i := 4) rfl)⟩ (fun hS9 => ?_)
            clear hK K
            refine wpAnyH_take (i := 12) (v := .int .i64 r1) rfl (by kernel_rfl) (by kernel_rfl) (by kernel_rfl) (fun _ _ _ h => h) (Or.inl ⟨by rfl, fun w' _ => by go_simp⟩) hS9 ?_
            change wpAnyH _ _ _ _ _ _ _ (Act.put _ (some 9) _) _
            simp only [Act.put, List.setIfInBounds_toArray, List.set_cons_zero, List.set_cons_succ]
            refine wpAnyH_done (by kernel_rfl) ?_ _
            go_wp2_with fail
            go_meet
            exact ⟨_, C8, e8, D8, f8, _, rfl, rfl, rfl, DD, ge7, oo_9, oz_9, tb9⟩
        · obtain ⟨w6, hX6⟩ : ∃ X, X = w5.alloc (.cells #[.slice none 0 0, .slice none 0 0] 34) := ⟨_, rfl⟩
          have hb6 : Below w5.heap.size w5 w6 := by rw [hX6]; exact (Below.refl _ _).alloc (Nat.le_refl _) _
          have za6 : Bk w6 w5.heap.size 34 #[.slice none 0 0, .slice none 0 0] := by rw [hX6]; exact heap_new' _ _ _ rfl
          have ge6 : w2.heap.size ≤ w5.heap.size := tb5.size
          intro K hK
          rw [if_pos (by rfl)]
          go_simp
          rw [← hX6]
          clear hX6
          have b6 := step_below hb6 b5
          have B0_6 := B0_5.keep hb6
          have B1_6 := B1_5.keep hb6
          have B2_6 := B2_5.keep hb6
          have q4_6 := own_keep q4_5 hb6
          have q5_6 := own_keep q5_5 hb6
          have d5_6 := own_keep d5_5 hb6
          have tb6 := tb5.trans (hb6.mono tb5.size)
          refine hK.out _ _ ⟨(B0_6.cell (i := 0) rfl), (B0_6.cell (i := 1) rfl), (B1_6.cell (i := 0) rfl), (B1_6.cell (i := 1) rfl), (B2_6.cell (i := 0) rfl), (B2_6.cell (i := 1) rfl), (B2_6.cell (i := 2) rfl), (B2_6.cell (i := 3) rfl), (B2_6.cell (i := 4) rfl)⟩ (fun hS6 => ?_)
          clear hK K
          try (change wpAnyH _ _ _ _ _ _ _ (Act.put _ (some 8) _) _)
          try simp only [Act.put, List.setIfInBounds_toArray, List.set_cons_zero, List.set_cons_succ]
          refine wpAnyH_ready (rs := [5]) (by kernel_rfl) (by simp) (AllReadyH.cons rfl ?_ AllReadyH.nil)
          intro K hK
          rw [if_pos (by rfl)]
          go_simp
          refine (toAct_any x2_0 x2_1 x2_2 x2_3 x2_4 _).mono ?_
          rintro e w7 ⟨rfl, hb7⟩
          have b7 := step_below hb7 b6
          have B0_7 := B0_6.keep hb7
          have B1_7 := B1_6.keep hb7
          have B2_7 := B2_6.keep hb7
          have q4_7 := own_keep q4_6 hb7
          have q5_7 := own_keep q5_6 hb7
          have d5_7 := own_keep d5_6 hb7
          have tb7 := tb6.trans (hb7.mono tb6.size)
          have za7 := za6.keep hb7
          refine hK.out _ _ ⟨(B0_7.cell (i := 0) rfl), (B0_7.cell (i := 1) rfl), (B1_7.cell (i := 0) rfl), (B1_7.cell (i := 1) rfl), (B2_7.cell (i := 0) rfl), (B2_7.cell (i := 1) rfl), (B2_7.cell (i := 2) rfl), (B2_7.cell (i := 3) rfl), (B2_7.cell (i := 4) rfl)⟩ (fun hS7 => ?_)
          clear hK K
          try (change wpAnyH _ _ _ _ _ _ _ (Act.put _ (some 35) _) _)
          try simp only [Act.put, List.setIfInBounds_toArray, List.set_cons_zero, List.set_cons_succ]
          refine wpAnyH_ready (rs := [6]) (by kernel_rfl) (by simp) (AllReadyH.cons rfl ?_ AllReadyH.nil)
          intro K hK
          rw [if_pos (by rfl)]
          go_simp
          refine (KS _ _ _ _ (HA.of_own q4_7) (WnA.of_own q5_7) (SZ.of_own d5_7) ).mono ?_
          rintro e w8 ⟨C8, e8, D8, f8, rfl, own8, owm8, hb8⟩
          have b8 := step_below hb8 b7
          have B0_8 := B0_7.keep hb8
          have B1_8 := B1_7.keep hb8
          have B2_8 := B2_7.keep hb8
          have v8_8 := own8
          have vz8_8 := owm8
          have t8 : Below w8.heap.size w8 w8 := Below.refl _ _
          have tb8 := tb7.trans (hb8.mono tb7.size)
          have za8 := za7.keep hb8
          have oo_8 := own_base own8 tb7.size
          have oz_8 := own_base owm8 tb7.size
          refine hK.out _ _ ⟨(B0_8.cell (i := 0) rfl), (B0_8.cell (i := 1) rfl), (B1_8.cell (i := 0) rfl), (B1_8.cell (i := 1) rfl), (B2_8.cell (i := 0) rfl), (B2_8.cell (i := 1) rfl), (B2_8.cell (i := 2) rfl), (B2_8.cell (i := 3) rfl), (B2_8.cell (i := 4) rfl)⟩ (fun hS8 => ?_)
          clear hK K
          try (change wpAnyH _ _ _ _ _ _ _ (Act.put _ (some 36) _) _)
          try simp only [Act.put, List.setIfInBounds_toArray, List.set_cons_zero, List.set_cons_succ]
          refine wpAnyH_take (i := 7) (v := .tuple #[.agg #[.slice C8 r0.length e8, .slice D8 rz0.length f8], .int .i64 r1]) rfl (by kernel_rfl) (by kernel_rfl) (by kernel_rfl) (fun _ _ _ h => h) (Or.inl ⟨by rfl, fun w' _ => by go_simp⟩) hS8 ?_
          change wpAnyH _ _ _ _ _ _ _ (Act.put _ (some 29) _) _
          simp only [Act.put, List.setIfInBounds_toArray, List.set_cons_zero, List.set_cons_succ]
          refine wpAnyH_take (i := 8) (v := .agg #[.slice C8 r0.length e8, .slice D8 rz0.length f8]) rfl (by kernel_rfl) (by kernel_rfl) (by kernel_rfl) (fun _ _ _ h => h) (Or.inl ⟨by rfl, fun w' _ => by go_simp⟩) hS8 ?_
          change wpAnyH _ _ _ _ _ _ _ (Act.put _ (some 37) _) _
          simp only [Act.put, List.setIfInBounds_toArray, List.set_cons_zero, List.set_cons_succ]
          refine wpAnyH_take (i := 9) (v := .int .i64 r1) rfl (by kernel_rfl) (by kernel_rfl) (by kernel_rfl) (fun _ _ _ h => h) (Or.inl ⟨by rfl, fun w' _ => by go_simp⟩) hS8 ?_
          change wpAnyH _ _ _ _ _ _ _ (Act.put _ (some 38) _) _
          simp only [Act.put, List.setIfInBounds_toArray, List.set_cons_zero, List.set_cons_succ]
          refine wpAnyH_ready (rs := [11]) (by kernel_rfl) (by simp) (AllReadyH.cons rfl ?_ AllReadyH.nil)
          intro K hK
          rw [if_pos (by rfl)]
          refine wp_store_row 34 (.tmp 8) (.tmp 37) rfl (w5.heap.size) #[.slice C8 r0.length e8, .slice D8 rz0.length f8] rfl rfl 34 _ za8 (infoWear _ _) (szWear _ _ _ _) (oneWear _ _ _ _ _ _) ?_
          have hb9 : Below w2.heap.size w8 (w8.setRow (w5.heap.size) #[.slice C8 r0.length e8, .slice D8 rz0.length f8]) := below_setRow (Below.refl _ _) ge6
          have DD : Bk (w8.setRow (w5.heap.size) #[.slice C8 r0.length e8, .slice D8 rz0.length f8]) (w5.heap.size) 34 #[.slice C8 r0.length e8, .slice D8 rz0.length f8] := setRow_heap _ _ _ _ _ _ za8
          have oo_9 := own_rowK oo_8 za8 (by decide) #[.slice C8 r0.length e8, .slice D8 rz0.length f8]
          have oz_9 := own_rowK oz_8 za8 (by decide) #[.slice C8 r0.length e8, .slice D8 rz0.length f8]
          have B0_9 : Bk (w8.setRow (w5.heap.size) #[.slice C8 r0.length e8, .slice D8 rz0.length f8]) (w.heap.size) 25 #[.int .i16 s0, .slice A0 l0.length c0] := (setRow_other _ _ _ _ (by have e1 := B0_2.lt; have e2 := ge6; omega)).trans B0_8
          have B1_9 : Bk (w8.setRow (w5.heap.size) #[.slice C8 r0.length e8, .slice D8 rz0.length f8]) (w.heap.size + 1) 29 #[.slice A1 l1.length c1, .slice U1 z1.length v1] := (setRow_other _ _ _ _ (by have e1 := B1_2.lt; have e2 := ge6; omega)).trans B1_8
          have B2_9 : Bk (w8.setRow (w5.heap.size) #[.slice C8 r0.length e8, .slice D8 rz0.length f8]) (w.heap.size + 1 + 1) 53 #[.int .i8 x2_0, .int .i64 x2_1, .int .i64 x2_2, .int .i64 x2_3, .int .i64 x2_4] := (setRow_other _ _ _ _ (by have e1 := B2_2.lt; have e2 := ge6; omega)).trans B2_8
          have tb9 := tb8.trans hb9
          refine hK.out _ _ ⟨(B0_9.cell (i := 0) rfl), (B0_9.cell (i := 1) rfl), (B1_9.cell (i := 0) rfl), (B1_9.cell (i := 1) rfl), (B2_9.cell (i := 0) rfl), (B2_9.cell (i := 1) rfl), (B2_9.cell (i := 2) rfl), (B2_9.cell (i := 3) rfl), (B2_9.cell (i := 4) rfl)⟩ (fun hS9 => ?_)
          clear hK K
          refine wpAnyH_take (i := 12) (v := .int .i64 r1) rfl (by kernel_rfl) (by kernel_rfl) (by kernel_rfl) (fun _ _ _ h => h) (Or.inl ⟨by rfl, fun w' _ => by go_simp⟩) hS9 ?_
          change wpAnyH _ _ _ _ _ _ _ (Act.put _ (some 9) _) _
          simp only [Act.put, List.setIfInBounds_toArray, List.set_cons_zero, List.set_cons_succ]
          refine wpAnyH_done (by kernel_rfl) ?_ _
          go_wp2_with fail
          go_meet
          exact ⟨_, C8, e8, D8, f8, _, rfl, rfl, rfl, DD, ge6, oo_9, oz_9, tb9⟩
      · obtain ⟨w5, hX5⟩ : ∃ X, X = w4.alloc (.cells #[.slice none 0 0, .slice none 0 0] 34) := ⟨_, rfl⟩
        have hb5 : Below w4.heap.size w4 w5 := by rw [hX5]; exact (Below.refl _ _).alloc (Nat.le_refl _) _
        have za5 : Bk w5 w4.heap.size 34 #[.slice none 0 0, .slice none 0 0] := by rw [hX5]; exact heap_new' _ _ _ rfl
        have ge5 : w2.heap.size ≤ w4.heap.size := tb4.size
        intro K hK
        rw [if_pos (by rfl)]
        go_simp
        rw [← hX5]
        clear hX5
        have b5 := step_below hb5 b4
        have B0_5 := B0_4.keep hb5
        have B1_5 := B1_4.keep hb5
        have B2_5 := B2_4.keep hb5
        have q4_5 := own_keep q4_4 hb5
        have tb5 := tb4.trans (hb5.mono tb4.size)
        refine hK.out _ _ ⟨(B0_5.cell (i := 0) rfl), (B0_5.cell (i := 1) rfl), (B1_5.cell (i := 0) rfl), (B1_5.cell (i := 1) rfl), (B2_5.cell (i := 0) rfl), (B2_5.cell (i := 1) rfl), (B2_5.cell (i := 2) rfl), (B2_5.cell (i := 3) rfl), (B2_5.cell (i := 4) rfl)⟩ (fun hS5 => ?_)
        clear hK K
        try (change wpAnyH _ _ _ _ _ _ _ (Act.put _ (some 8) _) _)
        try simp only [Act.put, List.setIfInBounds_toArray, List.set_cons_zero, List.set_cons_succ]
        refine wpAnyH_ready (rs := [3]) (by kernel_rfl) (by simp) (AllReadyH.cons rfl ?_ AllReadyH.nil)
        intro K hK
        rw [if_pos (by rfl)]
        go_simp
        refine (toWear_any A1 c1 l1 U1 v1 z1 _ (hA1.below b5) (hU1.below b5) hn1.1 hn1.2).mono ?_
        rintro e w6 ⟨g6, m6, rfl, hg6, hgm6, own6, owm6, hb6⟩
        have b6 := step_below hb6 b5
        have B0_6 := B0_5.keep hb6
        have B1_6 := B1_5.keep hb6
        have B2_6 := B2_5.keep hb6
        have q4_6 := own_keep q4_5 hb6
        have gl6 : g6 < w6.heap.size := (own6.lt g6 rfl).2
        have gm6 : m6 < w6.heap.size := (owm6.lt m6 rfl).2
        have q6_6 := own6
        have d6_6 := owm6
        have tb6 := tb5.trans (hb6.mono tb5.size)
        have za6 := za5.keep hb6
        refine hK.out _ _ ⟨(B0_6.cell (i := 0) rfl), (B0_6.cell (i := 1) rfl), (B1_6.cell (i := 0) rfl), (B1_6.cell (i := 1) rfl), (B2_6.cell (i := 0) rfl), (B2_6.cell (i := 1) rfl), (B2_6.cell (i := 2) rfl), (B2_6.cell (i := 3) rfl), (B2_6.cell (i := 4) rfl)⟩ (fun hS6 => ?_)
        clear hK K
        try (change wpAnyH _ _ _ _ _ _ _ (Act.put _ (some 33) _) _)
        try simp only [Act.put, List.setIfInBounds_toArray, List.set_cons_zero, List.set_cons_succ]
        refine wpAnyH_ready (rs := [5]) (by kernel_rfl) (by simp) (AllReadyH.cons rfl ?_ AllReadyH.nil)
        intro K hK
        rw [if_pos (by rfl)]
        go_simp
        refine (toAct_any x2_0 x2_1 x2_2 x2_3 x2_4 _).mono ?_
        rintro e w7 ⟨rfl, hb7⟩
        have b7 := step_below hb7 b6
        have B0_7 := B0_6.keep hb7
        have B1_7 := B1_6.keep hb7
        have B2_7 := B2_6.keep hb7
        have q4_7 := own_keep q4_6 hb7
        have q6_7 := own_keep q6_6 hb7
        have d6_7 := own_keep d6_6 hb7
        have tb7 := tb6.trans (hb7.mono tb6.size)
        have za7 := za6.keep hb7
        refine hK.out _ _ ⟨(B0_7.cell (i := 0) rfl), (B0_7.cell (i := 1) rfl), (B1_7.cell (i := 0) rfl), (B1_7.cell (i := 1) rfl), (B2_7.cell (i := 0) rfl), (B2_7.cell (i := 1) rfl), (B2_7.cell (i := 2) rfl), (B2_7.cell (i := 3) rfl), (B2_7.cell (i := 4) rfl)⟩ (fun hS7 => ?_)
        clear hK K
        try (change wpAnyH _ _ _ _ _ _ _ (Act.put _ (some 35) _) _)
        try simp only [Act.put, List.setIfInBounds_toArray, List.set_cons_zero, List.set_cons_succ]
        refine wpAnyH_ready (rs := [6]) (by kernel_rfl) (by simp) (AllReadyH.cons rfl ?_ AllReadyH.nil)
        intro K hK
        rw [if_pos (by rfl)]
        go_simp
        refine (KS _ _ _ _ (HA.of_own q4_7) (WnA.of_own q6_7) (SZ.of_own d6_7) ).mono ?_
        rintro e w8 ⟨C8, e8, D8, f8, rfl, own8, owm8, hb8⟩
        have b8 := step_below hb8 b7
        have B0_8 := B0_7.keep hb8
        have B1_8 := B1_7.keep hb8
        have B2_8 := B2_7.keep hb8
        have v8_8 := own8
        have vz8_8 := owm8
        have t8 : Below w8.heap.size w8 w8 := Below.refl _ _
        have tb8 := tb7.trans (hb8.mono tb7.size)
        have za8 := za7.keep hb8
        have oo_8 := own_base own8 tb7.size
        have oz_8 := own_base owm8 tb7.size
        refine hK.out _ _ ⟨(B0_8.cell (i := 0) rfl), (B0_8.cell (i := 1) rfl), (B1_8.cell (i := 0) rfl), (B1_8.cell (i := 1) rfl), (B2_8.cell (i := 0) rfl), (B2_8.cell (i := 1) rfl), (B2_8.cell (i := 2) rfl), (B2_8.cell (i := 3) rfl), (B2_8.cell (i := 4) rfl)⟩ (fun hS8 => ?_)
        clear hK K
        try (change wpAnyH _ _ _ _ _ _ _ (Act.put _ (some 36) _) _)
        try simp only [Act.put, List.setIfInBounds_toArray, List.set_cons_zero, List.set_cons_succ]
        refine wpAnyH_take (i := 7) (v := .tuple #[.agg #[.slice C8 r0.length e8, .slice D8 rz0.length f8], .int .i64 r1]) rfl (by kernel_rfl) (by kernel_rfl) (by kernel_rfl) (fun _ _ _ h => h) (Or.inl ⟨by rfl, fun w' _ => by go_simp⟩) hS8 ?_
        change wpAnyH _ _ _ _ _ _ _ (Act.put _ (some 29) _) _
        simp only [Act.put, List.setIfInBounds_toArray, List.set_cons_zero, List.set_cons_succ]
        refine wpAnyH_take (i := 8) (v := .agg #[.slice C8 r0.length e8, .slice D8 rz0.length f8]) rfl (by kernel_rfl) (by kernel_rfl) (by kernel_rfl) (fun _ _ _ h => h) (Or.inl ⟨by rfl, fun w' _ => by go_simp⟩) hS8 ?_
        change wpAnyH _ _ _ _ _ _ _ (Act.put _ (some 37) _) _
        simp only [Act.put, List.setIfInBounds_toArray, List.set_cons_zero, List.set_cons_succ]
        refine wpAnyH_take (i := 9) (v := .int .i64 r1) rfl (by kernel_rfl) (by kernel_rfl) (by kernel_rfl) (fun _ _ _ h => h) (Or.inl ⟨by rfl, fun w' _ => by go_simp⟩) hS8 ?_
        change wpAnyH _ _ _ _ _ _ _ (Act.put _ (some 38) _) _
        simp only [Act.put, List.setIfInBounds_toArray, List.set_cons_zero, List.set_cons_succ]
        refine wpAnyH_ready (rs := [11]) (by kernel_rfl) (by simp) (AllReadyH.cons rfl ?_ AllReadyH.nil)
        intro K hK
        rw [if_pos (by rfl)]
        refine wp_store_row 34 (.tmp 8) (.tmp 37) rfl (w4.heap.size) #[.slice C8 r0.length e8, .slice D8 rz0.length f8] rfl rfl 34 _ za8 (infoWear _ _) (szWear _ _ _ _) (oneWear _ _ _ _ _ _) ?_
        have hb9 : Below w2.heap.size w8 (w8.setRow (w4.heap.size) #[.slice C8 r0.length e8, .slice D8 rz0.length f8]) := below_setRow (Below.refl _ _) ge5
        have DD : Bk (w8.setRow (w4.heap.size) #[.slice C8 r0.length e8, .slice D8 rz0.length f8]) (w4.heap.size) 34 #[.slice C8 r0.length e8, .slice D8 rz0.length f8] := setRow_heap _ _ _ _ _ _ za8
        have oo_9 := own_rowK oo_8 za8 (by decide) #[.slice C8 r0.length e8, .slice D8 rz0.length f8]
        have oz_9 := own_rowK oz_8 za8 (by decide) #[.slice C8 r0.length e8, .slice D8 rz0.length f8]
        have B0_9 : Bk (w8.setRow (w4.heap.size) #[.slice C8 r0.length e8, .slice D8 rz0.length f8]) (w.heap.size) 25 #[.int .i16 s0, .slice A0 l0.length c0] := (setRow_other _ _ _ _ (by have e1 := B0_2.lt; have e2 := ge5; omega)).trans B0_8
        have B1_9 : Bk (w8.setRow (w4.heap.size) #[.slice C8 r0.length e8, .slice D8 rz0.length f8]) (w.heap.size + 1) 29 #[.slice A1 l1.length c1, .slice U1 z1.length v1] := (setRow_other _ _ _ _ (by have e1 := B1_2.lt; have e2 := ge5; omega)).trans B1_8
        have B2_9 : Bk (w8.setRow (w4.heap.size) #[.slice C8 r0.length e8, .slice D8 rz0.length f8]) (w.heap.size + 1 + 1) 53 #[.int .i8 x2_0, .int .i64 x2_1, .int .i64 x2_2, .int .i64 x2_3, .int .i64 x2_4] := (setRow_other _ _ _ _ (by have e1 := B2_2.lt; have e2 := ge5; omega)).trans B2_8
        have tb9 := tb8.trans hb9
        refine hK.out _ _ ⟨(B0_9.cell (i := 0) rfl), (B0_9.cell (i := 1) rfl), (B1_9.cell (i := 0) rfl), (B1_9.cell (i := 1) rfl), (B2_9.cell (i := 0) rfl), (B2_9.cell (i := 1) rfl), (B2_9.cell (i := 2) rfl), (B2_9.cell (i := 3) rfl), (B2_9.cell (i := 4) rfl)⟩ (fun hS9 => ?_)
        clear hK K
        refine wpAnyH_take (i := 12) (v := .int .i64 r1) rfl (by kernel_rfl) (by kernel_rfl) (by kernel_rfl) (fun _ _ _ h => h) (Or.inl ⟨by rfl, fun w' _ => by go_simp⟩) hS9 ?_
        change wpAnyH _ _ _ _ _ _ _ (Act.put _ (some 9) _) _
        simp only [Act.put, List.setIfInBounds_toArray, List.set_cons_zero, List.set_cons_succ]
        refine wpAnyH_done (by kernel_rfl) ?_ _
        go_wp2_with fail
        go_meet
        exact ⟨_, C8, e8, D8, f8, _, rfl, rfl, rfl, DD, ge5, oo_9, oz_9, tb9⟩
    · obtain ⟨w4, hX4⟩ : ∃ X, X = wd3.alloc (.cells #[.slice none 0 0, .slice none 0 0] 34) := ⟨_, rfl⟩
      have hb4 : Below wd3.heap.size wd3 w4 := by rw [hX4]; exact (Below.refl _ _).alloc (Nat.le_refl _) _
      have za4 : Bk w4 wd3.heap.size 34 #[.slice none 0 0, .slice none 0 0] := by rw [hX4]; exact heap_new' _ _ _ rfl
      have ge4 : w2.heap.size ≤ wd3.heap.size := tb3.size
      intro K hK
      rw [if_pos (by rfl)]
      go_simp
      rw [← hX4]
      clear hX4
      have b4 := step_below hb4 b3
      have B0_4 := B0_3.keep hb4
      have B1_4 := B1_3.keep hb4
      have B2_4 := B2_3.keep hb4
      have tb4 := tb3.trans (hb4.mono tb3.size)
      refine hK.out _ _ ⟨(B0_4.cell (i := 0) rfl), (B0_4.cell (i := 1) rfl), (B1_4.cell (i := 0) rfl), (B1_4.cell (i := 1) rfl), (B2_4.cell (i := 0) rfl), (B2_4.cell (i := 1) rfl), (B2_4.cell (i := 2) rfl), (B2_4.cell (i := 3) rfl), (B2_4.cell (i := 4) rfl)⟩ (fun hS4 => ?_)
      clear hK K
      try (change wpAnyH _ _ _ _ _ _ _ (Act.put _ (some 8) _) _)
      try simp only [Act.put, List.setIfInBounds_toArray, List.set_cons_zero, List.set_cons_succ]
      refine wpAnyH_ready (rs := [1]) (by kernel_rfl) (by simp) (AllReadyH.cons rfl ?_ AllReadyH.nil)
      intro K hK
      rw [if_pos (by rfl)]
      go_simp
      refine (toFrame_any s0 A0 c0 l0 _ (hA0.below b4) hn0).mono ?_
      rintro e w5 ⟨g5, rfl, hg5, own5, hb5⟩
      have b5 := step_below hb5 b4
      have B0_5 := B0_4.keep hb5
      have B1_5 := B1_4.keep hb5
      have B2_5 := B2_4.keep hb5
      have gl5 : g5 < w5.heap.size := (own5.lt g5 rfl).2
      have q5_5 := own5
      have tb5 := tb4.trans (hb5.mono tb4.size)
      have za5 := za4.keep hb5
      refine hK.out _ _ ⟨(B0_5.cell (i := 0) rfl), (B0_5.cell (i := 1) rfl), (B1_5.cell (i := 0) rfl), (B1_5.cell (i := 1) rfl), (B2_5.cell (i := 0) rfl), (B2_5.cell (i := 1) rfl), (B2_5.cell (i := 2) rfl), (B2_5.cell (i := 3) rfl), (B2_5.cell (i := 4) rfl)⟩ (fun hS5 => ?_)
      clear hK K
      try (change wpAnyH _ _ _ _ _ _ _ (Act.put _ (some 31) _) _)
      try simp only [Act.put, List.setIfInBounds_toArray, List.set_cons_zero, List.set_cons_succ]
      refine wpAnyH_ready (rs := [3]) (by kernel_rfl) (by simp) (AllReadyH.cons rfl ?_ AllReadyH.nil)
      intro K hK
      rw [if_pos (by rfl)]
      go_simp
      refine (toWear_any A1 c1 l1 U1 v1 z1 _ (hA1.below b5) (hU1.below b5) hn1.1 hn1.2).mono ?_
      rintro e w6 ⟨g6, m6, rfl, hg6, hgm6, own6, owm6, hb6⟩
      have b6 := step_below hb6 b5
      have B0_6 := B0_5.keep hb6
      have B1_6 := B1_5.keep hb6
      have B2_6 := B2_5.keep hb6
      have q5_6 := own_keep q5_5 hb6
      have gl6 : g6 < w6.heap.size := (own6.lt g6 rfl).2
      have gm6 : m6 < w6.heap.size := (owm6.lt m6 rfl).2
      have q6_6 := own6
      have d6_6 := owm6
      have tb6 := tb5.trans (hb6.mono tb5.size)
      have za6 := za5.keep hb6
      refine hK.out _ _ ⟨(B0_6.cell (i := 0) rfl), (B0_6.cell (i := 1) rfl), (B1_6.cell (i := 0) rfl), (B1_6.cell (i := 1) rfl), (B2_6.cell (i := 0) rfl), (B2_6.cell (i := 1) rfl), (B2_6.cell (i := 2) rfl), (B2_6.cell (i := 3) rfl), (B2_6.cell (i := 4) rfl)⟩ (fun hS6 => ?_)
      clear hK K
      try (change wpAnyH _ _ _ _ _ _ _ (Act.put _ (some 33) _) _)
      try simp only [Act.put, List.setIfInBounds_toArray, List.set_cons_zero, List.set_cons_succ]
      refine wpAnyH_ready (rs := [5]) (by kernel_rfl) (by simp) (AllReadyH.cons rfl ?_ AllReadyH.nil)
      intro K hK
      rw [if_pos (by rfl)]
      go_simp
      refine (toAct_any x2_0 x2_1 x2_2 x2_3 x2_4 _).mono ?_
      rintro e w7 ⟨rfl, hb7⟩
      have b7 := step_below hb7 b6
      have B0_7 := B0_6.keep hb7
      have B1_7 := B1_6.keep hb7
      have B2_7 := B2_6.keep hb7
      have q5_7 := own_keep q5_6 hb7
      have q6_7 := own_keep q6_6 hb7
      have d6_7 := own_keep d6_6 hb7
      have tb7 := tb6.trans (hb7.mono tb6.size)
      have za7 := za6.keep hb7
      refine hK.out _ _ ⟨(B0_7.cell (i := 0) rfl), (B0_7.cell (i := 1) rfl), (B1_7.cell (i := 0) rfl), (B1_7.cell (i := 1) rfl), (B2_7.cell (i := 0) rfl), (B2_7.cell (i := 1) rfl), (B2_7.cell (i := 2) rfl), (B2_7.cell (i := 3) rfl), (B2_7.cell (i := 4) rfl)⟩ (fun hS7 => ?_)
      clear hK K
      try (change wpAnyH _ _ _ _ _ _ _ (Act.put _ (some 35) _) _)
      try simp only [Act.put, List.setIfInBounds_toArray, List.set_cons_zero, List.set_cons_succ]
      refine wpAnyH_ready (rs := [6]) (by kernel_rfl) (by simp) (AllReadyH.cons rfl ?_ AllReadyH.nil)
      intro K hK
      rw [if_pos (by rfl)]
      go_simp
      refine (KS _ _ _ _ (HA.of_own q5_7) (WnA.of_own q6_7) (SZ.of_own d6_7) ).mono ?_
      rintro e w8 ⟨C8, e8, D8, f8, rfl, own8, owm8, hb8⟩
      have b8 := step_below hb8 b7
      have B0_8 := B0_7.keep hb8
      have B1_8 := B1_7.keep hb8
      have B2_8 := B2_7.keep hb8
      have v8_8 := own8
      have vz8_8 := owm8
      have t8 : Below w8.heap.size w8 w8 := Below.refl _ _
      have tb8 := tb7.trans (hb8.mono tb7.size)
      have za8 := za7.keep hb8
      have oo_8 := own_base own8 tb7.size
      have oz_8 := own_base owm8 tb7.size
      refine hK.out _ _ ⟨(B0_8.cell (i := 0) rfl), (B0_8.cell (i := 1) rfl), (B1_8.cell (i := 0) rfl), (B1_8.cell (i := 1) rfl), (B2_8.cell (i := 0) rfl), (B2_8.cell (i := 1) rfl), (B2_8.cell (i := 2) rfl), (B2_8.cell (i := 3) rfl), (B2_8.cell (i := 4) rfl)⟩ (fun hS8 => ?_)
      clear hK K
      try (change wpAnyH _ _ _ _ _ _ _ (Act.put _ (some 36) _) _)
      try simp only [Act.put, List.setIfInBounds_toArray, List.set_cons_zero, List.set_cons_succ]
      refine wpAnyH_take (i := 7) (v := .tuple #[.agg #[.slice C8 r0.length e8, .slice D8 rz0.length f8], .int .i64 r1]) rfl (by kernel_rfl) (by kernel_rfl) (by kernel_rfl) (fun _ _ _ h => h) (Or.inl ⟨by rfl, fun w' _ => by go_simp⟩) hS8 ?_
      change wpAnyH _ _ _ _ _ _ _ (Act.put _ (some 29) _) _
      simp only [Act.put, List.setIfInBounds_toArray, List.set_cons_zero, List.set_cons_succ]
      refine wpAnyH_take (i := 8) (v := .agg #[.slice C8 r0.length e8, .slice D8 rz0.length f8]) rfl (by kernel_rfl) (by kernel_rfl) (by kernel_rfl) (fun _ _ _ h => h) (Or.inl ⟨by rfl, fun w' _ => by go_simp⟩) hS8 ?_
      change wpAnyH _ _ _ _ _ _ _ (Act.put _ (some 37) _) _
      simp only [Act.put, List.setIfInBounds_toArray, List.set_cons_zero, List.set_cons_succ]
      refine wpAnyH_take (i := 9) (v := .int .i64 r1) rfl (by kernel_rfl) (by kernel_rfl) (by kernel_rfl) (fun _ _ _ h => h) (Or.inl ⟨by rfl, fun w' _ => by go_simp⟩) hS8 ?_
      change wpAnyH _ _ _ _ _ _ _ (Act.put _ (some 38) _) _
      simp only [Act.put, List.setIfInBounds_toArray, List.set_cons_zero, List.set_cons_succ]
      refine wpAnyH_ready (rs := [11]) (by kernel_rfl) (by simp) (AllReadyH.cons rfl ?_ AllReadyH.nil)
      intro K hK
      rw [if_pos (by rfl)]
      refine wp_store_row 34 (.tmp 8) (.tmp 37) rfl (wd3.heap.size) #[.slice C8 r0.length e8, .slice D8 rz0.length f8] rfl rfl 34 _ za8 (infoWear _ _) (szWear _ _ _ _) (oneWear _ _ _ _ _ _) ?_
      have hb9 : Below w2.heap.size w8 (w8.setRow (wd3.heap.size) #[.slice C8 r0.length e8, .slice D8 rz0.length f8]) := below_setRow (Below.refl _ _) ge4
      have DD : Bk (w8.setRow (wd3.heap.size) #[.slice C8 r0.length e8, .slice D8 rz0.length f8]) (wd3.heap.size) 34 #[.slice C8 r0.length e8, .slice D8 rz0.length f8] := setRow_heap _ _ _ _ _ _ za8
      have oo_9 := own_rowK oo_8 za8 (by decide) #[.slice C8 r0.length e8, .slice D8 rz0.length f8]
      have oz_9 := own_rowK oz_8 za8 (by decide) #[.slice C8 r0.length e8, .slice D8 rz0.length f8]
      have B0_9 : Bk (w8.setRow (wd3.heap.size) #[.slice C8 r0.length e8, .slice D8 rz0.length f8]) (w.heap.size) 25 #[.int .i16 s0, .slice A0 l0.length c0] := (setRow_other _ _ _ _ (by have e1 := B0_2.lt; have e2 := ge4; omega)).trans B0_8
      have B1_9 : Bk (w8.setRow (wd3.heap.size) #[.slice C8 r0.length e8, .slice D8 rz0.length f8]) (w.heap.size + 1) 29 #[.slice A1 l1.length c1, .slice U1 z1.length v1] := (setRow_other _ _ _ _ (by have e1 := B1_2.lt; have e2 := ge4; omega)).trans B1_8
      have B2_9 : Bk (w8.setRow (wd3.heap.size) #[.slice C8 r0.length e8, .slice D8 rz0.length f8]) (w.heap.size + 1 + 1) 53 #[.int .i8 x2_0, .int .i64 x2_1, .int .i64 x2_2, .int .i64 x2_3, .int .i64 x2_4] := (setRow_other _ _ _ _ (by have e1 := B2_2.lt; have e2 := ge4; omega)).trans B2_8
      have tb9 := tb8.trans hb9
      refine hK.out _ _ ⟨(B0_9.cell (i := 0) rfl), (B0_9.cell (i := 1) rfl), (B1_9.cell (i := 0) rfl), (B1_9.cell (i := 1) rfl), (B2_9.cell (i := 0) rfl), (B2_9.cell (i := 1) rfl), (B2_9.cell (i := 2) rfl), (B2_9.cell (i := 3) rfl), (B2_9.cell (i := 4) rfl)⟩ (fun hS9 => ?_)
      clear hK K
      refine wpAnyH_take (i := 12) (v := .int .i64 r1) rfl (by kernel_rfl) (by kernel_rfl) (by kernel_rfl) (fun _ _ _ h => h) (Or.inl ⟨by rfl, fun w' _ => by go_simp⟩) hS9 ?_
      change wpAnyH _ _ _ _ _ _ _ (Act.put _ (some 9) _) _
      simp only [Act.put, List.setIfInBounds_toArray, List.set_cons_zero, List.set_cons_succ]
      refine wpAnyH_done (by kernel_rfl) ?_ _
      go_wp2_with fail
      go_meet
      exact ⟨_, C8, e8, D8, f8, _, rfl, rfl, rfl, DD, ge4, oo_9, oz_9, tb9⟩
  obtain ⟨rg3, C3, e3, D3, f3, w3, rfl, rfl, rfl, K3, rge3, own3, owm3, hb3⟩ := hcut
  have b3 := step_below hb3 b2
  have B0_3 := B0_2.keep hb3
  have B1_3 := B1_2.keep hb3
  have B2_3 := B2_2.keep hb3
  have t3 : Below w3.heap.size w3 w3 := Below.refl _ _
  have v3_3 := own3
  have vz3_3 := owm3
  have Rw3_3 := K3
  have pf39_0 := B0_3.cell (i := 0) rfl
  have pf39_1 := B0_3.cell (i := 1) rfl
  go_wp2_with fail
  clear pf39_0 pf39_1
  refine (toFrame_any s0 A0 c0 l0 _ (hA0.below b3) hn0).mono ?_
  rintro e w4 ⟨g4, rfl, hg4, own4, hb4⟩
  have b4 := step_below hb4 b3
  have B0_4 := B0_3.keep hb4
  have B1_4 := B1_3.keep hb4
  have B2_4 := B2_3.keep hb4
  have Rw3_4 := Rw3_3.keep hb4
  have v3_4 := own_keep v3_3 hb4
  have vz3_4 := own_keep vz3_3 hb4
  have t4 := step_below hb4 t3
  have gl4 : g4 < w4.heap.size := (own4.lt g4 rfl).2
  have q4_4 := own4
  go_upto_region 10 with fail
  obtain ⟨w5, hX5⟩ : ∃ X, X = w4.alloc (.cells #[.int .i16 s0, .slice (some ⟨g4, 0, none⟩) l0.length l0.length] 39) := ⟨_, rfl⟩
  have hb5 : Below w4.heap.size w4 w5 := by rw [hX5]; exact (Below.refl _ _).alloc (Nat.le_refl _) _
  have K5 : Bk w5 w4.heap.size 39 #[.int .i16 s0, .slice (some ⟨g4, 0, none⟩) l0.length l0.length] := by rw [hX5]; exact Bk.new _ _ _ rfl
  rw [← hX5]
  clear hX5
  have b5 := step_below hb5 b4
  have B0_5 := B0_4.keep hb5
  have B1_5 := B1_4.keep hb5
  have B2_5 := B2_4.keep hb5
  have Rw3_5 := Rw3_4.keep hb5
  have v3_5 := own_keep v3_4 hb5
  have vz3_5 := own_keep vz3_4 hb5
  have q4_5 := own_keep q4_4 hb5
  have t5 := step_below hb5 t4
  have Y0_5 := K5
  have yw0 : w4.heap.size < w5.heap.size := K5.lt
  have pf41_0 := B1_5.cell (i := 0) rfl
  have pf41_1 := B1_5.cell (i := 1) rfl
  go_wp2_with fail
  clear pf41_0 pf41_1
  refine (toWear_any A1 c1 l1 U1 v1 z1 _ (hA1.below b5) (hU1.below b5) hn1.1 hn1.2).mono ?_
  rintro e w6 ⟨g6, m6, rfl, hg6, hgm6, own6, owm6, hb6⟩
  have b6 := step_below hb6 b5
  have B0_6 := B0_5.keep hb6
  have B1_6 := B1_5.keep hb6
  have B2_6 := B2_5.keep hb6
  have Rw3_6 := Rw3_5.keep hb6
  have Y0_6 := Y0_5.keep hb6
  have v3_6 := own_keep v3_5 hb6
  have vz3_6 := own_keep vz3_5 hb6
  have q4_6 := own_keep q4_5 hb6
  have t6 := step_below hb6 t5
  have gl6 : g6 < w6.heap.size := (own6.lt g6 rfl).2
  have gm6 : m6 < w6.heap.size := (owm6.lt m6 rfl).2
  have q6_6 := own6
  have d6_6 := owm6
  go_upto_region 11 with fail
  obtain ⟨w7, hX7⟩ : ∃ X, X = w6.alloc (.cells #[.slice (some ⟨g6, 0, none⟩) l1.length l1.length, .slice (some ⟨m6, 0, none⟩) z1.length z1.length] 34) := ⟨_, rfl⟩
  have hb7 : Below w6.heap.size w6 w7 := by rw [hX7]; exact (Below.refl _ _).alloc (Nat.le_refl _) _
  have K7 : Bk w7 w6.heap.size 34 #[.slice (some ⟨g6, 0, none⟩) l1.length l1.length, .slice (some ⟨m6, 0, none⟩) z1.length z1.length] := by rw [hX7]; exact Bk.new _ _ _ rfl
  rw [← hX7]
  clear hX7
  have b7 := step_below hb7 b6
  have B0_7 := B0_6.keep hb7
  have B1_7 := B1_6.keep hb7
  have B2_7 := B2_6.keep hb7
  have Rw3_7 := Rw3_6.keep hb7
  have Y0_7 := Y0_6.keep hb7
  have v3_7 := own_keep v3_6 hb7
  have vz3_7 := own_keep vz3_6 hb7
  have q4_7 := own_keep q4_6 hb7
  have q6_7 := own_keep q6_6 hb7
  have d6_7 := own_keep d6_6 hb7
  have t7 := step_below hb7 t6
  have Y1_7 := K7
  have yw1 : w6.heap.size < w7.heap.size := K7.lt
  go_upto_region 11 with fail
  go_cut [12, 13] from 43 to 50 (fun a_ b_ wx => ∃ (g : Nat) (C : Option Addr) (e : Nat) (D : Option Addr) (f : Nat) (W : World), a_ = .pointer (some ⟨g, 0, none⟩) ∧ b_ = .int .i64 r1 ∧ W = wx ∧ Bk W g 34 #[.slice C r0.length e, .slice D rz0.length f] ∧ w7.heap.size ≤ g ∧ W.ownsRow w7.heap.size 97 3 (.slice C r0.length e) r0.length (wnC r0) ∧ W.ownsRow w7.heap.size 2 1 (.slice D rz0.length f) rz0.length (icells rz0) ∧ Below w7.heap.size w7 W)
  case first =>
    have hb8 : Below w7.heap.size w7 w7.drew := (Below.refl _ _).drew
    have tb7 : Below w7.heap.size w7 w7 := Below.refl _ _
    have b8 := step_below hb8 b7
    have B0_8 := B0_7.keep hb8
    have B1_8 := B1_7.keep hb8
    have B2_8 := B2_7.keep hb8
    have Rw3_8 := Rw3_7.keep hb8
    have Y0_8 := Y0_7.keep hb8
    have Y1_8 := Y1_7.keep hb8
    have v3_8 := own_keep v3_7 hb8
    have vz3_8 := own_keep vz3_7 hb8
    have q4_8 := own_keep q4_7 hb8
    have q6_8 := own_keep q6_7 hb8
    have d6_8 := own_keep d6_7 hb8
    have t8 := step_below hb8 t7
    have tb8 := step_below hb8 tb7
    refine wp_region_held_drew (S := fun w' => w'.cell? ⟨w.heap.size + 1 + 1, 0, none⟩ = some (.int .i8 x2_0) ∧ w'.cell? ⟨w.heap.size + 1 + 1, 1, none⟩ = some (.int .i64 x2_1) ∧ w'.cell? ⟨w.heap.size + 1 + 1, 2, none⟩ = some (.int .i64 x2_2) ∧ w'.cell? ⟨w.heap.size + 1 + 1, 3, none⟩ = some (.int .i64 x2_3) ∧ w'.cell? ⟨w.heap.size + 1 + 1, 4, none⟩ = some (.int .i64 x2_4) ∧ w'.cell? ⟨w4.heap.size, 0, none⟩ = some (.int .i16 s0) ∧ w'.cell? ⟨w4.heap.size, 1, none⟩ = some (.slice (some ⟨g4, 0, none⟩) l0.length l0.length) ∧ w'.cell? ⟨w6.heap.size, 0, none⟩ = some (.slice (some ⟨g6, 0, none⟩) l1.length l1.length) ∧ w'.cell? ⟨w6.heap.size, 1, none⟩ = some (.slice (some ⟨m6, 0, none⟩) z1.length z1.length)) (by kernel_rfl) ⟨(B2_8.cell (i := 0) rfl), (B2_8.cell (i := 1) rfl), (B2_8.cell (i := 2) rfl), (B2_8.cell (i := 3) rfl), (B2_8.cell (i := 4) rfl), (Y0_8.cell (i := 0) rfl), (Y0_8.cell (i := 1) rfl), (Y1_8.cell (i := 0) rfl), (Y1_8.cell (i := 1) rfl)⟩ fun hS8 => ?_
    generalize w7.drew = wd8 at *
    change wpAnyH _ _ _ _ _ _ #[false, false, false, false, false, false, false, false, false, false, false] _ _
    refine wpAnyH_take (i := 0) (v := .agg #[.int .i16 s0, .slice (some ⟨g4, 0, none⟩) l0.length l0.length]) rfl (by kernel_rfl) (by kernel_rfl) (by kernel_rfl) (fun _ _ _ h => h) (Or.inl ⟨by rfl, fun w' h => ?_⟩) hS8 ?_
    · have c0 := h.2.2.2.2.2.1
      have c1 := h.2.2.2.2.2.2.1
      clear h
      go_simp
    change wpAnyH _ _ _ _ _ _ _ (Act.put _ (some 44) _) _
    simp only [Act.put, List.setIfInBounds_toArray, List.set_cons_zero, List.set_cons_succ]
    refine wpAnyH_take (i := 1) (v := .agg #[.slice (some ⟨g6, 0, none⟩) l1.length l1.length, .slice (some ⟨m6, 0, none⟩) z1.length z1.length]) rfl (by kernel_rfl) (by kernel_rfl) (by kernel_rfl) (fun _ _ _ h => h) (Or.inl ⟨by rfl, fun w' h => ?_⟩) hS8 ?_
    · have c0 := h.2.2.2.2.2.2.2.1
      have c1 := h.2.2.2.2.2.2.2.2
      clear h
      go_simp
    change wpAnyH _ _ _ _ _ _ _ (Act.put _ (some 45) _) _
    simp only [Act.put, List.setIfInBounds_toArray, List.set_cons_zero, List.set_cons_succ]
    refine wpAnyH_take (i := 2) (v := .agg #[.int .i8 x2_0, .int .i64 x2_1, .int .i64 x2_2, .int .i64 x2_3, .int .i64 x2_4]) rfl (by kernel_rfl) (by kernel_rfl) (by kernel_rfl) (fun _ _ _ h => h) (Or.inl ⟨by rfl, fun w' h => ?_⟩) hS8 ?_
    · have c0 := h.1
      have c1 := h.2.1
      have c2 := h.2.2.1
      have c3 := h.2.2.2.1
      have c4 := h.2.2.2.2.1
      clear h
      go_simp
    change wpAnyH _ _ _ _ _ _ _ (Act.put _ (some 46) _) _
    simp only [Act.put, List.setIfInBounds_toArray, List.set_cons_zero, List.set_cons_succ]
    refine wpAnyH_ready (rs := [3, 8]) (by kernel_rfl) (by simp) (AllReadyH.cons rfl ?_ (AllReadyH.cons rfl ?_ AllReadyH.nil))
    · intro K hK
      rw [if_pos (by rfl)]
      go_simp
      refine (toAct_any x2_0 x2_1 x2_2 x2_3 x2_4 _).mono ?_
      rintro e w9 ⟨rfl, hb9⟩
      have b9 := step_below hb9 b8
      have B2_9 := B2_8.keep hb9
      have Y0_9 := Y0_8.keep hb9
      have Y1_9 := Y1_8.keep hb9
      have q4_9 := own_keep q4_8 hb9
      have q6_9 := own_keep q6_8 hb9
      have d6_9 := own_keep d6_8 hb9
      have t9 := step_below hb9 t8
      have tb9 := tb8.trans (hb9.mono tb8.size)
      refine hK.out _ _ ⟨(B2_9.cell (i := 0) rfl), (B2_9.cell (i := 1) rfl), (B2_9.cell (i := 2) rfl), (B2_9.cell (i := 3) rfl), (B2_9.cell (i := 4) rfl), (Y0_9.cell (i := 0) rfl), (Y0_9.cell (i := 1) rfl), (Y1_9.cell (i := 0) rfl), (Y1_9.cell (i := 1) rfl)⟩ (fun hS9 => ?_)
      clear hK K
      try (change wpAnyH _ _ _ _ _ _ _ (Act.put _ (some 47) _) _)
      try simp only [Act.put, List.setIfInBounds_toArray, List.set_cons_zero, List.set_cons_succ]
      refine wpAnyH_ready (rs := [4, 8]) (by kernel_rfl) (by simp) (AllReadyH.cons rfl ?_ (AllReadyH.cons rfl ?_ AllReadyH.nil))
      · intro K hK
        rw [if_pos (by rfl)]
        go_simp
        refine (KI _ _ _ _ (HA.of_own q4_9) (WnA.of_own q6_9) (SZ.of_own d6_9) ).mono ?_
        rintro e w10 ⟨C10, e10, D10, f10, rfl, own10, owm10, hb10⟩
        have b10 := step_below hb10 b9
        have B2_10 := B2_9.keep hb10
        have Y0_10 := Y0_9.keep hb10
        have Y1_10 := Y1_9.keep hb10
        have q4_10 := own_keep q4_9 hb10
        have q6_10 := own_keep q6_9 hb10
        have d6_10 := own_keep d6_9 hb10
        have t10 := step_below hb10 t9
        have r10_10 := own10
        have rz10_10 := owm10
        have tb10 := tb9.trans (hb10.mono tb9.size)
        have oo_10 := own_base own10 tb9.size
        have oz_10 := own_base owm10 tb9.size
        refine hK.out _ _ ⟨(B2_10.cell (i := 0) rfl), (B2_10.cell (i := 1) rfl), (B2_10.cell (i := 2) rfl), (B2_10.cell (i := 3) rfl), (B2_10.cell (i := 4) rfl), (Y0_10.cell (i := 0) rfl), (Y0_10.cell (i := 1) rfl), (Y1_10.cell (i := 0) rfl), (Y1_10.cell (i := 1) rfl)⟩ (fun hS10 => ?_)
        clear hK K
        try (change wpAnyH _ _ _ _ _ _ _ (Act.put _ (some 48) _) _)
        try simp only [Act.put, List.setIfInBounds_toArray, List.set_cons_zero, List.set_cons_succ]
        refine wpAnyH_take (i := 5) (v := .tuple #[.agg #[.slice C10 r0.length e10, .slice D10 rz0.length f10], .int .i64 r1]) rfl (by kernel_rfl) (by kernel_rfl) (by kernel_rfl) (fun _ _ _ h => h) (Or.inl ⟨by rfl, fun w' _ => by go_simp⟩) hS10 ?_
        change wpAnyH _ _ _ _ _ _ _ (Act.put _ (some 43) _) _
        simp only [Act.put, List.setIfInBounds_toArray, List.set_cons_zero, List.set_cons_succ]
        refine wpAnyH_take (i := 6) (v := .agg #[.slice C10 r0.length e10, .slice D10 rz0.length f10]) rfl (by kernel_rfl) (by kernel_rfl) (by kernel_rfl) (fun _ _ _ h => h) (Or.inl ⟨by rfl, fun w' _ => by go_simp⟩) hS10 ?_
        change wpAnyH _ _ _ _ _ _ _ (Act.put _ (some 49) _) _
        simp only [Act.put, List.setIfInBounds_toArray, List.set_cons_zero, List.set_cons_succ]
        refine wpAnyH_take (i := 7) (v := .int .i64 r1) rfl (by kernel_rfl) (by kernel_rfl) (by kernel_rfl) (fun _ _ _ h => h) (Or.inl ⟨by rfl, fun w' _ => by go_simp⟩) hS10 ?_
        change wpAnyH _ _ _ _ _ _ _ (Act.put _ (some 50) _) _
        simp only [Act.put, List.setIfInBounds_toArray, List.set_cons_zero, List.set_cons_succ]
        refine wpAnyH_ready (rs := [8]) (by kernel_rfl) (by simp) (AllReadyH.cons rfl ?_ AllReadyH.nil)
        obtain ⟨w11, hX11⟩ : ∃ X, X = w10.alloc (.cells #[.slice none 0 0, .slice none 0 0] 34) := ⟨_, rfl⟩
        have hb11 : Below w10.heap.size w10 w11 := by rw [hX11]; exact (Below.refl _ _).alloc (Nat.le_refl _) _
        have za11 : Bk w11 w10.heap.size 34 #[.slice none 0 0, .slice none 0 0] := by rw [hX11]; exact heap_new' _ _ _ rfl
        have ge11 : w7.heap.size ≤ w10.heap.size := tb10.size
        intro K hK
        rw [if_pos (by rfl)]
        go_simp
        rw [← hX11]
        clear hX11
        have b11 := step_below hb11 b10
        have B2_11 := B2_10.keep hb11
        have Y0_11 := Y0_10.keep hb11
        have Y1_11 := Y1_10.keep hb11
        have q4_11 := own_keep q4_10 hb11
        have q6_11 := own_keep q6_10 hb11
        have d6_11 := own_keep d6_10 hb11
        have r10_11 := own_keep r10_10 hb11
        have rz10_11 := own_keep rz10_10 hb11
        have t11 := step_below hb11 t10
        have tb11 := tb10.trans (hb11.mono tb10.size)
        have oo_11 := own_keep oo_10 hb11
        have oz_11 := own_keep oz_10 hb11
        refine hK.out _ _ ⟨(B2_11.cell (i := 0) rfl), (B2_11.cell (i := 1) rfl), (B2_11.cell (i := 2) rfl), (B2_11.cell (i := 3) rfl), (B2_11.cell (i := 4) rfl), (Y0_11.cell (i := 0) rfl), (Y0_11.cell (i := 1) rfl), (Y1_11.cell (i := 0) rfl), (Y1_11.cell (i := 1) rfl)⟩ (fun hS11 => ?_)
        clear hK K
        try (change wpAnyH _ _ _ _ _ _ _ (Act.put _ (some 12) _) _)
        try simp only [Act.put, List.setIfInBounds_toArray, List.set_cons_zero, List.set_cons_succ]
        refine wpAnyH_ready (rs := [9]) (by kernel_rfl) (by simp) (AllReadyH.cons rfl ?_ AllReadyH.nil)
        intro K hK
        rw [if_pos (by rfl)]
        refine wp_store_row 34 (.tmp 12) (.tmp 49) rfl (w10.heap.size) #[.slice C10 r0.length e10, .slice D10 rz0.length f10] rfl rfl 34 _ za11 (infoWear _ _) (szWear _ _ _ _) (oneWear _ _ _ _ _ _) ?_
        have hb12 : Below w7.heap.size w11 (w11.setRow (w10.heap.size) #[.slice C10 r0.length e10, .slice D10 rz0.length f10]) := below_setRow (Below.refl _ _) ge11
        have DD : Bk (w11.setRow (w10.heap.size) #[.slice C10 r0.length e10, .slice D10 rz0.length f10]) (w10.heap.size) 34 #[.slice C10 r0.length e10, .slice D10 rz0.length f10] := setRow_heap _ _ _ _ _ _ za11
        have oo_12 := own_rowK oo_11 za11 (by decide) #[.slice C10 r0.length e10, .slice D10 rz0.length f10]
        have oz_12 := own_rowK oz_11 za11 (by decide) #[.slice C10 r0.length e10, .slice D10 rz0.length f10]
        have B2_12 : Bk (w11.setRow (w10.heap.size) #[.slice C10 r0.length e10, .slice D10 rz0.length f10]) (w.heap.size + 1 + 1) 53 #[.int .i8 x2_0, .int .i64 x2_1, .int .i64 x2_2, .int .i64 x2_3, .int .i64 x2_4] := (setRow_other _ _ _ _ (by have e1 := B2_7.lt; have e2 := ge11; omega)).trans B2_11
        have Y0_12 : Bk (w11.setRow (w10.heap.size) #[.slice C10 r0.length e10, .slice D10 rz0.length f10]) (w4.heap.size) 39 #[.int .i16 s0, .slice (some ⟨g4, 0, none⟩) l0.length l0.length] := (setRow_other _ _ _ _ (by have e1 := Y0_7.lt; have e2 := ge11; omega)).trans Y0_11
        have Y1_12 : Bk (w11.setRow (w10.heap.size) #[.slice C10 r0.length e10, .slice D10 rz0.length f10]) (w6.heap.size) 34 #[.slice (some ⟨g6, 0, none⟩) l1.length l1.length, .slice (some ⟨m6, 0, none⟩) z1.length z1.length] := (setRow_other _ _ _ _ (by have e1 := Y1_7.lt; have e2 := ge11; omega)).trans Y1_11
        have tb12 := tb11.trans hb12
        refine hK.out _ _ ⟨(B2_12.cell (i := 0) rfl), (B2_12.cell (i := 1) rfl), (B2_12.cell (i := 2) rfl), (B2_12.cell (i := 3) rfl), (B2_12.cell (i := 4) rfl), (Y0_12.cell (i := 0) rfl), (Y0_12.cell (i := 1) rfl), (Y1_12.cell (i := 0) rfl), (Y1_12.cell (i := 1) rfl)⟩ (fun hS12 => ?_)
        clear hK K
        refine wpAnyH_take (i := 10) (v := .int .i64 r1) rfl (by kernel_rfl) (by kernel_rfl) (by kernel_rfl) (fun _ _ _ h => h) (Or.inl ⟨by rfl, fun w' _ => by go_simp⟩) hS12 ?_
        change wpAnyH _ _ _ _ _ _ _ (Act.put _ (some 13) _) _
        simp only [Act.put, List.setIfInBounds_toArray, List.set_cons_zero, List.set_cons_succ]
        refine wpAnyH_done (by kernel_rfl) ?_ _
        go_wp2_with fail
        go_meet
        exact ⟨_, C10, e10, D10, f10, _, rfl, rfl, rfl, DD, ge11, oo_12, oz_12, tb12⟩
      · obtain ⟨w10, hX10⟩ : ∃ X, X = w9.alloc (.cells #[.slice none 0 0, .slice none 0 0] 34) := ⟨_, rfl⟩
        have hb10 : Below w9.heap.size w9 w10 := by rw [hX10]; exact (Below.refl _ _).alloc (Nat.le_refl _) _
        have za10 : Bk w10 w9.heap.size 34 #[.slice none 0 0, .slice none 0 0] := by rw [hX10]; exact heap_new' _ _ _ rfl
        have ge10 : w7.heap.size ≤ w9.heap.size := tb9.size
        intro K hK
        rw [if_pos (by rfl)]
        go_simp
        rw [← hX10]
        clear hX10
        have b10 := step_below hb10 b9
        have B2_10 := B2_9.keep hb10
        have Y0_10 := Y0_9.keep hb10
        have Y1_10 := Y1_9.keep hb10
        have q4_10 := own_keep q4_9 hb10
        have q6_10 := own_keep q6_9 hb10
        have d6_10 := own_keep d6_9 hb10
        have t10 := step_below hb10 t9
        have tb10 := tb9.trans (hb10.mono tb9.size)
        refine hK.out _ _ ⟨(B2_10.cell (i := 0) rfl), (B2_10.cell (i := 1) rfl), (B2_10.cell (i := 2) rfl), (B2_10.cell (i := 3) rfl), (B2_10.cell (i := 4) rfl), (Y0_10.cell (i := 0) rfl), (Y0_10.cell (i := 1) rfl), (Y1_10.cell (i := 0) rfl), (Y1_10.cell (i := 1) rfl)⟩ (fun hS10 => ?_)
        clear hK K
        try (change wpAnyH _ _ _ _ _ _ _ (Act.put _ (some 12) _) _)
        try simp only [Act.put, List.setIfInBounds_toArray, List.set_cons_zero, List.set_cons_succ]
        refine wpAnyH_ready (rs := [4]) (by kernel_rfl) (by simp) (AllReadyH.cons rfl ?_ AllReadyH.nil)
        intro K hK
        rw [if_pos (by rfl)]
        go_simp
        refine (KI _ _ _ _ (HA.of_own q4_10) (WnA.of_own q6_10) (SZ.of_own d6_10) ).mono ?_
        rintro e w11 ⟨C11, e11, D11, f11, rfl, own11, owm11, hb11⟩
        have b11 := step_below hb11 b10
        have B2_11 := B2_10.keep hb11
        have Y0_11 := Y0_10.keep hb11
        have Y1_11 := Y1_10.keep hb11
        have q4_11 := own_keep q4_10 hb11
        have q6_11 := own_keep q6_10 hb11
        have d6_11 := own_keep d6_10 hb11
        have t11 := step_below hb11 t10
        have r11_11 := own11
        have rz11_11 := owm11
        have tb11 := tb10.trans (hb11.mono tb10.size)
        have za11 := za10.keep hb11
        have oo_11 := own_base own11 tb10.size
        have oz_11 := own_base owm11 tb10.size
        refine hK.out _ _ ⟨(B2_11.cell (i := 0) rfl), (B2_11.cell (i := 1) rfl), (B2_11.cell (i := 2) rfl), (B2_11.cell (i := 3) rfl), (B2_11.cell (i := 4) rfl), (Y0_11.cell (i := 0) rfl), (Y0_11.cell (i := 1) rfl), (Y1_11.cell (i := 0) rfl), (Y1_11.cell (i := 1) rfl)⟩ (fun hS11 => ?_)
        clear hK K
        try (change wpAnyH _ _ _ _ _ _ _ (Act.put _ (some 48) _) _)
        try simp only [Act.put, List.setIfInBounds_toArray, List.set_cons_zero, List.set_cons_succ]
        refine wpAnyH_take (i := 5) (v := .tuple #[.agg #[.slice C11 r0.length e11, .slice D11 rz0.length f11], .int .i64 r1]) rfl (by kernel_rfl) (by kernel_rfl) (by kernel_rfl) (fun _ _ _ h => h) (Or.inl ⟨by rfl, fun w' _ => by go_simp⟩) hS11 ?_
        change wpAnyH _ _ _ _ _ _ _ (Act.put _ (some 43) _) _
        simp only [Act.put, List.setIfInBounds_toArray, List.set_cons_zero, List.set_cons_succ]
        refine wpAnyH_take (i := 6) (v := .agg #[.slice C11 r0.length e11, .slice D11 rz0.length f11]) rfl (by kernel_rfl) (by kernel_rfl) (by kernel_rfl) (fun _ _ _ h => h) (Or.inl ⟨by rfl, fun w' _ => by go_simp⟩) hS11 ?_
        change wpAnyH _ _ _ _ _ _ _ (Act.put _ (some 49) _) _
        simp only [Act.put, List.setIfInBounds_toArray, List.set_cons_zero, List.set_cons_succ]
        refine wpAnyH_take (i := 7) (v := .int .i64 r1) rfl (by kernel_rfl) (by kernel_rfl) (by kernel_rfl) (fun _ _ _ h => h) (Or.inl ⟨by rfl, fun w' _ => by go_simp⟩) hS11 ?_
        change wpAnyH _ _ _ _ _ _ _ (Act.put _ (some 50) _) _
        simp only [Act.put, List.setIfInBounds_toArray, List.set_cons_zero, List.set_cons_succ]
        refine wpAnyH_ready (rs := [9]) (by kernel_rfl) (by simp) (AllReadyH.cons rfl ?_ AllReadyH.nil)
        intro K hK
        rw [if_pos (by rfl)]
        refine wp_store_row 34 (.tmp 12) (.tmp 49) rfl (w9.heap.size) #[.slice C11 r0.length e11, .slice D11 rz0.length f11] rfl rfl 34 _ za11 (infoWear _ _) (szWear _ _ _ _) (oneWear _ _ _ _ _ _) ?_
        have hb12 : Below w7.heap.size w11 (w11.setRow (w9.heap.size) #[.slice C11 r0.length e11, .slice D11 rz0.length f11]) := below_setRow (Below.refl _ _) ge10
        have DD : Bk (w11.setRow (w9.heap.size) #[.slice C11 r0.length e11, .slice D11 rz0.length f11]) (w9.heap.size) 34 #[.slice C11 r0.length e11, .slice D11 rz0.length f11] := setRow_heap _ _ _ _ _ _ za11
        have oo_12 := own_rowK oo_11 za11 (by decide) #[.slice C11 r0.length e11, .slice D11 rz0.length f11]
        have oz_12 := own_rowK oz_11 za11 (by decide) #[.slice C11 r0.length e11, .slice D11 rz0.length f11]
        have B2_12 : Bk (w11.setRow (w9.heap.size) #[.slice C11 r0.length e11, .slice D11 rz0.length f11]) (w.heap.size + 1 + 1) 53 #[.int .i8 x2_0, .int .i64 x2_1, .int .i64 x2_2, .int .i64 x2_3, .int .i64 x2_4] := (setRow_other _ _ _ _ (by have e1 := B2_7.lt; have e2 := ge10; omega)).trans B2_11
        have Y0_12 : Bk (w11.setRow (w9.heap.size) #[.slice C11 r0.length e11, .slice D11 rz0.length f11]) (w4.heap.size) 39 #[.int .i16 s0, .slice (some ⟨g4, 0, none⟩) l0.length l0.length] := (setRow_other _ _ _ _ (by have e1 := Y0_7.lt; have e2 := ge10; omega)).trans Y0_11
        have Y1_12 : Bk (w11.setRow (w9.heap.size) #[.slice C11 r0.length e11, .slice D11 rz0.length f11]) (w6.heap.size) 34 #[.slice (some ⟨g6, 0, none⟩) l1.length l1.length, .slice (some ⟨m6, 0, none⟩) z1.length z1.length] := (setRow_other _ _ _ _ (by have e1 := Y1_7.lt; have e2 := ge10; omega)).trans Y1_11
        have tb12 := tb11.trans hb12
        refine hK.out _ _ ⟨(B2_12.cell (i := 0) rfl), (B2_12.cell (i := 1) rfl), (B2_12.cell (i := 2) rfl), (B2_12.cell (i := 3) rfl), (B2_12.cell (i := 4) rfl), (Y0_12.cell (i := 0) rfl), (Y0_12.cell (i := 1) rfl), (Y1_12.cell (i := 0) rfl), (Y1_12.cell (i := 1) rfl)⟩ (fun hS12 => ?_)
        clear hK K
        refine wpAnyH_take (i := 10) (v := .int .i64 r1) rfl (by kernel_rfl) (by kernel_rfl) (by kernel_rfl) (fun _ _ _ h => h) (Or.inl ⟨by rfl, fun w' _ => by go_simp⟩) hS12 ?_
        change wpAnyH _ _ _ _ _ _ _ (Act.put _ (some 13) _) _
        simp only [Act.put, List.setIfInBounds_toArray, List.set_cons_zero, List.set_cons_succ]
        refine wpAnyH_done (by kernel_rfl) ?_ _
        go_wp2_with fail
        go_meet
        exact ⟨_, C11, e11, D11, f11, _, rfl, rfl, rfl, DD, ge10, oo_12, oz_12, tb12⟩
    · obtain ⟨w9, hX9⟩ : ∃ X, X = wd8.alloc (.cells #[.slice none 0 0, .slice none 0 0] 34) := ⟨_, rfl⟩
      have hb9 : Below wd8.heap.size wd8 w9 := by rw [hX9]; exact (Below.refl _ _).alloc (Nat.le_refl _) _
      have za9 : Bk w9 wd8.heap.size 34 #[.slice none 0 0, .slice none 0 0] := by rw [hX9]; exact heap_new' _ _ _ rfl
      have ge9 : w7.heap.size ≤ wd8.heap.size := tb8.size
      intro K hK
      rw [if_pos (by rfl)]
      go_simp
      rw [← hX9]
      clear hX9
      have b9 := step_below hb9 b8
      have B2_9 := B2_8.keep hb9
      have Y0_9 := Y0_8.keep hb9
      have Y1_9 := Y1_8.keep hb9
      have q4_9 := own_keep q4_8 hb9
      have q6_9 := own_keep q6_8 hb9
      have d6_9 := own_keep d6_8 hb9
      have t9 := step_below hb9 t8
      have tb9 := tb8.trans (hb9.mono tb8.size)
      refine hK.out _ _ ⟨(B2_9.cell (i := 0) rfl), (B2_9.cell (i := 1) rfl), (B2_9.cell (i := 2) rfl), (B2_9.cell (i := 3) rfl), (B2_9.cell (i := 4) rfl), (Y0_9.cell (i := 0) rfl), (Y0_9.cell (i := 1) rfl), (Y1_9.cell (i := 0) rfl), (Y1_9.cell (i := 1) rfl)⟩ (fun hS9 => ?_)
      clear hK K
      try (change wpAnyH _ _ _ _ _ _ _ (Act.put _ (some 12) _) _)
      try simp only [Act.put, List.setIfInBounds_toArray, List.set_cons_zero, List.set_cons_succ]
      refine wpAnyH_ready (rs := [3]) (by kernel_rfl) (by simp) (AllReadyH.cons rfl ?_ AllReadyH.nil)
      intro K hK
      rw [if_pos (by rfl)]
      go_simp
      refine (toAct_any x2_0 x2_1 x2_2 x2_3 x2_4 _).mono ?_
      rintro e w10 ⟨rfl, hb10⟩
      have b10 := step_below hb10 b9
      have B2_10 := B2_9.keep hb10
      have Y0_10 := Y0_9.keep hb10
      have Y1_10 := Y1_9.keep hb10
      have q4_10 := own_keep q4_9 hb10
      have q6_10 := own_keep q6_9 hb10
      have d6_10 := own_keep d6_9 hb10
      have t10 := step_below hb10 t9
      have tb10 := tb9.trans (hb10.mono tb9.size)
      have za10 := za9.keep hb10
      refine hK.out _ _ ⟨(B2_10.cell (i := 0) rfl), (B2_10.cell (i := 1) rfl), (B2_10.cell (i := 2) rfl), (B2_10.cell (i := 3) rfl), (B2_10.cell (i := 4) rfl), (Y0_10.cell (i := 0) rfl), (Y0_10.cell (i := 1) rfl), (Y1_10.cell (i := 0) rfl), (Y1_10.cell (i := 1) rfl)⟩ (fun hS10 => ?_)
      clear hK K
      try (change wpAnyH _ _ _ _ _ _ _ (Act.put _ (some 47) _) _)
      try simp only [Act.put, List.setIfInBounds_toArray, List.set_cons_zero, List.set_cons_succ]
      refine wpAnyH_ready (rs := [4]) (by kernel_rfl) (by simp) (AllReadyH.cons rfl ?_ AllReadyH.nil)
      intro K hK
      rw [if_pos (by rfl)]
      go_simp
      refine (KI _ _ _ _ (HA.of_own q4_10) (WnA.of_own q6_10) (SZ.of_own d6_10) ).mono ?_
      rintro e w11 ⟨C11, e11, D11, f11, rfl, own11, owm11, hb11⟩
      have b11 := step_below hb11 b10
      have B2_11 := B2_10.keep hb11
      have Y0_11 := Y0_10.keep hb11
      have Y1_11 := Y1_10.keep hb11
      have q4_11 := own_keep q4_10 hb11
      have q6_11 := own_keep q6_10 hb11
      have d6_11 := own_keep d6_10 hb11
      have t11 := step_below hb11 t10
      have r11_11 := own11
      have rz11_11 := owm11
      have tb11 := tb10.trans (hb11.mono tb10.size)
      have za11 := za10.keep hb11
      have oo_11 := own_base own11 tb10.size
      have oz_11 := own_base owm11 tb10.size
      refine hK.out _ _ ⟨(B2_11.cell (i := 0) rfl), (B2_11.cell (i := 1) rfl), (B2_11.cell (i := 2) rfl), (B2_11.cell (i := 3) rfl), (B2_11.cell (i := 4) rfl), (Y0_11.cell (i := 0) rfl), (Y0_11.cell (i := 1) rfl), (Y1_11.cell (i := 0) rfl), (Y1_11.cell (i := 1) rfl)⟩ (fun hS11 => ?_)
      clear hK K
      try (change wpAnyH _ _ _ _ _ _ _ (Act.put _ (some 48) _) _)
      try simp only [Act.put, List.setIfInBounds_toArray, List.set_cons_zero, List.set_cons_succ]
      refine wpAnyH_take (i := 5) (v := .tuple #[.agg #[.slice C11 r0.length e11, .slice D11 rz0.length f11], .int .i64 r1]) rfl (by kernel_rfl) (by kernel_rfl) (by kernel_rfl) (fun _ _ _ h => h) (Or.inl ⟨by rfl, fun w' _ => by go_simp⟩) hS11 ?_
      change wpAnyH _ _ _ _ _ _ _ (Act.put _ (some 43) _) _
      simp only [Act.put, List.setIfInBounds_toArray, List.set_cons_zero, List.set_cons_succ]
      refine wpAnyH_take (i := 6) (v := .agg #[.slice C11 r0.length e11, .slice D11 rz0.length f11]) rfl (by kernel_rfl) (by kernel_rfl) (by kernel_rfl) (fun _ _ _ h => h) (Or.inl ⟨by rfl, fun w' _ => by go_simp⟩) hS11 ?_
      change wpAnyH _ _ _ _ _ _ _ (Act.put _ (some 49) _) _
      simp only [Act.put, List.setIfInBounds_toArray, List.set_cons_zero, List.set_cons_succ]
      refine wpAnyH_take (i := 7) (v := .int .i64 r1) rfl (by kernel_rfl) (by kernel_rfl) (by kernel_rfl) (fun _ _ _ h => h) (Or.inl ⟨by rfl, fun w' _ => by go_simp⟩) hS11 ?_
      change wpAnyH _ _ _ _ _ _ _ (Act.put _ (some 50) _) _
      simp only [Act.put, List.setIfInBounds_toArray, List.set_cons_zero, List.set_cons_succ]
      refine wpAnyH_ready (rs := [9]) (by kernel_rfl) (by simp) (AllReadyH.cons rfl ?_ AllReadyH.nil)
      intro K hK
      rw [if_pos (by rfl)]
      refine wp_store_row 34 (.tmp 12) (.tmp 49) rfl (wd8.heap.size) #[.slice C11 r0.length e11, .slice D11 rz0.length f11] rfl rfl 34 _ za11 (infoWear _ _) (szWear _ _ _ _) (oneWear _ _ _ _ _ _) ?_
      have hb12 : Below w7.heap.size w11 (w11.setRow (wd8.heap.size) #[.slice C11 r0.length e11, .slice D11 rz0.length f11]) := below_setRow (Below.refl _ _) ge9
      have DD : Bk (w11.setRow (wd8.heap.size) #[.slice C11 r0.length e11, .slice D11 rz0.length f11]) (wd8.heap.size) 34 #[.slice C11 r0.length e11, .slice D11 rz0.length f11] := setRow_heap _ _ _ _ _ _ za11
      have oo_12 := own_rowK oo_11 za11 (by decide) #[.slice C11 r0.length e11, .slice D11 rz0.length f11]
      have oz_12 := own_rowK oz_11 za11 (by decide) #[.slice C11 r0.length e11, .slice D11 rz0.length f11]
      have B2_12 : Bk (w11.setRow (wd8.heap.size) #[.slice C11 r0.length e11, .slice D11 rz0.length f11]) (w.heap.size + 1 + 1) 53 #[.int .i8 x2_0, .int .i64 x2_1, .int .i64 x2_2, .int .i64 x2_3, .int .i64 x2_4] := (setRow_other _ _ _ _ (by have e1 := B2_7.lt; have e2 := ge9; omega)).trans B2_11
      have Y0_12 : Bk (w11.setRow (wd8.heap.size) #[.slice C11 r0.length e11, .slice D11 rz0.length f11]) (w4.heap.size) 39 #[.int .i16 s0, .slice (some ⟨g4, 0, none⟩) l0.length l0.length] := (setRow_other _ _ _ _ (by have e1 := Y0_7.lt; have e2 := ge9; omega)).trans Y0_11
      have Y1_12 : Bk (w11.setRow (wd8.heap.size) #[.slice C11 r0.length e11, .slice D11 rz0.length f11]) (w6.heap.size) 34 #[.slice (some ⟨g6, 0, none⟩) l1.length l1.length, .slice (some ⟨m6, 0, none⟩) z1.length z1.length] := (setRow_other _ _ _ _ (by have e1 := Y1_7.lt; have e2 := ge9; omega)).trans Y1_11
      have tb12 := tb11.trans hb12
      refine hK.out _ _ ⟨(B2_12.cell (i := 0) rfl), (B2_12.cell (i := 1) rfl), (B2_12.cell (i := 2) rfl), (B2_12.cell (i := 3) rfl), (B2_12.cell (i := 4) rfl), (Y0_12.cell (i := 0) rfl), (Y0_12.cell (i := 1) rfl), (Y1_12.cell (i := 0) rfl), (Y1_12.cell (i := 1) rfl)⟩ (fun hS12 => ?_)
      clear hK K
      refine wpAnyH_take (i := 10) (v := .int .i64 r1) rfl (by kernel_rfl) (by kernel_rfl) (by kernel_rfl) (fun _ _ _ h => h) (Or.inl ⟨by rfl, fun w' _ => by go_simp⟩) hS12 ?_
      change wpAnyH _ _ _ _ _ _ _ (Act.put _ (some 13) _) _
      simp only [Act.put, List.setIfInBounds_toArray, List.set_cons_zero, List.set_cons_succ]
      refine wpAnyH_done (by kernel_rfl) ?_ _
      go_wp2_with fail
      go_meet
      exact ⟨_, C11, e11, D11, f11, _, rfl, rfl, rfl, DD, ge9, oo_12, oz_12, tb12⟩
  obtain ⟨rg8, C8, e8, D8, f8, w8, rfl, rfl, rfl, K8, rge8, own8, owm8, hb8⟩ := hcut
  have b8 := step_below hb8 b7
  have B0_8 := B0_7.keep hb8
  have B1_8 := B1_7.keep hb8
  have B2_8 := B2_7.keep hb8
  have Rw3_8 := Rw3_7.keep hb8
  have Y0_8 := Y0_7.keep hb8
  have Y1_8 := Y1_7.keep hb8
  have v3_8 := own_keep v3_7 hb8
  have vz3_8 := own_keep vz3_7 hb8
  have q4_8 := own_keep q4_7 hb8
  have q6_8 := own_keep q6_7 hb8
  have d6_8 := own_keep d6_7 hb8
  have t8 := step_below hb8 t7
  have r8_8 := own8
  have rz8_8 := owm8
  have Rw8_8 := K8
  have pf51_0 := Rw8_8.cell (i := 0) rfl
  have pf51_1 := Rw8_8.cell (i := 1) rfl
  have pf52_0 := Rw3_8.cell (i := 0) rfl
  have pf52_1 := Rw3_8.cell (i := 1) rfl
  go_wp2_with fail
  clear pf51_0 pf51_1 pf52_0 pf52_1
  refine (eqWear_self _ _ _ _ r0 _ _ _ _ rz0 _ (WnA.of_own r8_8) (WnA.of_own v3_8) (SI.of_own rz8_8) (SI.of_own vz3_8) hrl0 hrlz0).mono ?_
  rintro e w9 ⟨rfl, hb9⟩
  have b9 := step_below hb9 b8
  have B0_9 := B0_8.keep hb9
  have B1_9 := B1_8.keep hb9
  have B2_9 := B2_8.keep hb9
  have Rw3_9 := Rw3_8.keep hb9
  have Y0_9 := Y0_8.keep hb9
  have Y1_9 := Y1_8.keep hb9
  have Rw8_9 := Rw8_8.keep hb9
  have v3_9 := own_keep v3_8 hb9
  have vz3_9 := own_keep vz3_8 hb9
  have q4_9 := own_keep q4_8 hb9
  have q6_9 := own_keep q6_8 hb9
  have d6_9 := own_keep d6_8 hb9
  have r8_9 := own_keep r8_8 hb9
  have rz8_9 := own_keep rz8_8 hb9
  have t9 := step_below hb9 t8
  go_wp2_with fail
  have hb10 : Below w9.heap.size w9 w9.drew := (Below.refl _ _).drew
  have b10 := step_below hb10 b9
  have B0_10 := B0_9.keep hb10
  have B1_10 := B1_9.keep hb10
  have B2_10 := B2_9.keep hb10
  have Rw3_10 := Rw3_9.keep hb10
  have Y0_10 := Y0_9.keep hb10
  have Y1_10 := Y1_9.keep hb10
  have Rw8_10 := Rw8_9.keep hb10
  have v3_10 := own_keep v3_9 hb10
  have vz3_10 := own_keep vz3_9 hb10
  have q4_10 := own_keep q4_9 hb10
  have q6_10 := own_keep q6_9 hb10
  have d6_10 := own_keep d6_9 hb10
  have r8_10 := own_keep r8_9 hb10
  have rz8_10 := own_keep rz8_9 hb10
  have t10 := step_below hb10 t9
  refine wp_region_held_drew (S := fun w' => w'.cell? ⟨w4.heap.size, 0, none⟩ = some (.int .i16 s0) ∧ w'.cell? ⟨w4.heap.size, 1, none⟩ = some (.slice (some ⟨g4, 0, none⟩) l0.length l0.length) ∧ w'.cell? ⟨w.heap.size, 0, none⟩ = some (.int .i16 s0) ∧ w'.cell? ⟨w.heap.size, 1, none⟩ = some (.slice A0 l0.length c0)) (by kernel_rfl) ⟨(Y0_10.cell (i := 0) rfl), (Y0_10.cell (i := 1) rfl), (B0_10.cell (i := 0) rfl), (B0_10.cell (i := 1) rfl)⟩ fun hS10 => ?_
  refine wpAnyH_take (i := 0) (v := .agg #[.int .i16 s0, .slice (some ⟨g4, 0, none⟩) l0.length l0.length]) rfl (by kernel_rfl) (by kernel_rfl) (by kernel_rfl) (fun _ _ _ h => h) (Or.inl ⟨by rfl, fun w' h => ?_⟩) hS10 ?_
  · have c0 := h.1
    have c1 := h.2.1
    clear h
    go_simp
  simp only [Act.put, List.setIfInBounds_toArray, List.set_cons_zero, List.set_cons_succ]
  refine wpAnyH_take (i := 1) (v := .agg #[.int .i16 s0, .slice A0 l0.length c0]) rfl (by kernel_rfl) (by kernel_rfl) (by kernel_rfl) (fun _ _ _ h => h) (Or.inl ⟨by rfl, fun w' h => ?_⟩) hS10 ?_
  · have c0 := h.2.2.1
    have c1 := h.2.2.2
    clear h
    go_simp
  simp only [Act.put, List.setIfInBounds_toArray, List.set_cons_zero, List.set_cons_succ]
  refine wpAnyH_ready (rs := [2]) (by kernel_rfl) (by simp) (AllReadyH.cons rfl ?_ AllReadyH.nil)
  intro K hK
  rw [if_pos (by rfl)]
  go_simp
  refine (toFrame_any s0 A0 c0 l0 _ (hA0.below b10) hn0).mono ?_
  rintro e w11 ⟨g11, rfl, hg11, own11, hb11⟩
  have b11 := step_below hb11 b10
  have B0_11 := B0_10.keep hb11
  have B1_11 := B1_10.keep hb11
  have B2_11 := B2_10.keep hb11
  have Rw3_11 := Rw3_10.keep hb11
  have Y0_11 := Y0_10.keep hb11
  have Y1_11 := Y1_10.keep hb11
  have Rw8_11 := Rw8_10.keep hb11
  have v3_11 := own_keep v3_10 hb11
  have vz3_11 := own_keep vz3_10 hb11
  have q4_11 := own_keep q4_10 hb11
  have q6_11 := own_keep q6_10 hb11
  have d6_11 := own_keep d6_10 hb11
  have r8_11 := own_keep r8_10 hb11
  have rz8_11 := own_keep rz8_10 hb11
  have t11 := step_below hb11 t10
  have gl11 : g11 < w11.heap.size := (own11.lt g11 rfl).2
  have q11_11 := own11
  refine hK.out _ _ ⟨(Y0_11.cell (i := 0) rfl), (Y0_11.cell (i := 1) rfl), (B0_11.cell (i := 0) rfl), (B0_11.cell (i := 1) rfl)⟩ (fun hS11 => ?_)
  clear hK K
  refine wpAnyH_ready (rs := [3]) (by kernel_rfl) (by simp) (AllReadyH.cons rfl ?_ AllReadyH.nil)
  intro K hK
  rw [if_pos (by rfl)]
  go_simp
  refine (eqFrame_any s0 _ _ _ _ l0 _ (HA.of_own q4_11) (HA.of_own q11_11) hn0).mono ?_
  rintro e w12 ⟨rfl, hb12⟩
  have b12 := step_below hb12 b11
  have B0_12 := B0_11.keep hb12
  have B1_12 := B1_11.keep hb12
  have B2_12 := B2_11.keep hb12
  have Rw3_12 := Rw3_11.keep hb12
  have Y0_12 := Y0_11.keep hb12
  have Y1_12 := Y1_11.keep hb12
  have Rw8_12 := Rw8_11.keep hb12
  have v3_12 := own_keep v3_11 hb12
  have vz3_12 := own_keep vz3_11 hb12
  have q4_12 := own_keep q4_11 hb12
  have q6_12 := own_keep q6_11 hb12
  have d6_12 := own_keep d6_11 hb12
  have r8_12 := own_keep r8_11 hb12
  have rz8_12 := own_keep rz8_11 hb12
  have t12 := step_below hb12 t11
  refine hK.out _ _ ⟨(Y0_12.cell (i := 0) rfl), (Y0_12.cell (i := 1) rfl), (B0_12.cell (i := 0) rfl), (B0_12.cell (i := 1) rfl)⟩ (fun hS12 => ?_)
  clear hK K
  refine wpAnyH_take (i := 4) (v := .bool false) rfl (by kernel_rfl) (by kernel_rfl) (by kernel_rfl) (fun _ _ _ h => h) (Or.inl ⟨by rfl, fun w' _ => by go_simp⟩) hS12 ?_
  change wpAnyH _ _ _ _ _ _ _ (Act.put _ (some 64) _) _
  simp only [Act.put, List.setIfInBounds_toArray, List.set_cons_zero, List.set_cons_succ]
  refine wpAnyH_done (by kernel_rfl) ?_ _
  go_wp2_with fail
  have hb13 : Below w12.heap.size w12 w12.drew := (Below.refl _ _).drew
  have b13 := step_below hb13 b12
  have B0_13 := B0_12.keep hb13
  have B1_13 := B1_12.keep hb13
  have B2_13 := B2_12.keep hb13
  have Rw3_13 := Rw3_12.keep hb13
  have Y0_13 := Y0_12.keep hb13
  have Y1_13 := Y1_12.keep hb13
  have Rw8_13 := Rw8_12.keep hb13
  have v3_13 := own_keep v3_12 hb13
  have vz3_13 := own_keep vz3_12 hb13
  have q4_13 := own_keep q4_12 hb13
  have q6_13 := own_keep q6_12 hb13
  have d6_13 := own_keep d6_12 hb13
  have r8_13 := own_keep r8_12 hb13
  have rz8_13 := own_keep rz8_12 hb13
  have t13 := step_below hb13 t12
  refine wp_region_held_drew (S := fun w' => w'.cell? ⟨w6.heap.size, 0, none⟩ = some (.slice (some ⟨g6, 0, none⟩) l1.length l1.length) ∧ w'.cell? ⟨w6.heap.size, 1, none⟩ = some (.slice (some ⟨m6, 0, none⟩) z1.length z1.length) ∧ w'.cell? ⟨w.heap.size + 1, 0, none⟩ = some (.slice A1 l1.length c1) ∧ w'.cell? ⟨w.heap.size + 1, 1, none⟩ = some (.slice U1 z1.length v1)) (by kernel_rfl) ⟨(Y1_13.cell (i := 0) rfl), (Y1_13.cell (i := 1) rfl), (B1_13.cell (i := 0) rfl), (B1_13.cell (i := 1) rfl)⟩ fun hS13 => ?_
  refine wpAnyH_take (i := 0) (v := .agg #[.slice (some ⟨g6, 0, none⟩) l1.length l1.length, .slice (some ⟨m6, 0, none⟩) z1.length z1.length]) rfl (by kernel_rfl) (by kernel_rfl) (by kernel_rfl) (fun _ _ _ h => h) (Or.inl ⟨by rfl, fun w' h => ?_⟩) hS13 ?_
  · have c0 := h.1
    have c1 := h.2.1
    clear h
    go_simp
  simp only [Act.put, List.setIfInBounds_toArray, List.set_cons_zero, List.set_cons_succ]
  refine wpAnyH_take (i := 1) (v := .agg #[.slice A1 l1.length c1, .slice U1 z1.length v1]) rfl (by kernel_rfl) (by kernel_rfl) (by kernel_rfl) (fun _ _ _ h => h) (Or.inl ⟨by rfl, fun w' h => ?_⟩) hS13 ?_
  · have c0 := h.2.2.1
    have c1 := h.2.2.2
    clear h
    go_simp
  simp only [Act.put, List.setIfInBounds_toArray, List.set_cons_zero, List.set_cons_succ]
  refine wpAnyH_ready (rs := [2]) (by kernel_rfl) (by simp) (AllReadyH.cons rfl ?_ AllReadyH.nil)
  intro K hK
  rw [if_pos (by rfl)]
  go_simp
  refine (toWear_any A1 c1 l1 U1 v1 z1 _ (hA1.below b13) (hU1.below b13) hn1.1 hn1.2).mono ?_
  rintro e w14 ⟨g14, m14, rfl, hg14, hgm14, own14, owm14, hb14⟩
  have b14 := step_below hb14 b13
  have B0_14 := B0_13.keep hb14
  have B1_14 := B1_13.keep hb14
  have B2_14 := B2_13.keep hb14
  have Rw3_14 := Rw3_13.keep hb14
  have Y0_14 := Y0_13.keep hb14
  have Y1_14 := Y1_13.keep hb14
  have Rw8_14 := Rw8_13.keep hb14
  have v3_14 := own_keep v3_13 hb14
  have vz3_14 := own_keep vz3_13 hb14
  have q4_14 := own_keep q4_13 hb14
  have q6_14 := own_keep q6_13 hb14
  have d6_14 := own_keep d6_13 hb14
  have r8_14 := own_keep r8_13 hb14
  have rz8_14 := own_keep rz8_13 hb14
  have t14 := step_below hb14 t13
  have gl14 : g14 < w14.heap.size := (own14.lt g14 rfl).2
  have gm14 : m14 < w14.heap.size := (owm14.lt m14 rfl).2
  have q14_14 := own14
  have d14_14 := owm14
  refine hK.out _ _ ⟨(Y1_14.cell (i := 0) rfl), (Y1_14.cell (i := 1) rfl), (B1_14.cell (i := 0) rfl), (B1_14.cell (i := 1) rfl)⟩ (fun hS14 => ?_)
  clear hK K
  refine wpAnyH_ready (rs := [3]) (by kernel_rfl) (by simp) (AllReadyH.cons rfl ?_ AllReadyH.nil)
  intro K hK
  rw [if_pos (by rfl)]
  go_simp
  refine (eqWear_self _ _ _ _ l1 _ _ _ _ z1 _ (WnA.of_own q6_14) (WnA.of_own q14_14) (SI.of_own d6_14) (SI.of_own d14_14) hn1.1 hn1.2).mono ?_
  rintro e w15 ⟨rfl, hb15⟩
  have b15 := step_below hb15 b14
  have B0_15 := B0_14.keep hb15
  have B1_15 := B1_14.keep hb15
  have B2_15 := B2_14.keep hb15
  have Rw3_15 := Rw3_14.keep hb15
  have Y0_15 := Y0_14.keep hb15
  have Y1_15 := Y1_14.keep hb15
  have Rw8_15 := Rw8_14.keep hb15
  have v3_15 := own_keep v3_14 hb15
  have vz3_15 := own_keep vz3_14 hb15
  have q4_15 := own_keep q4_14 hb15
  have q6_15 := own_keep q6_14 hb15
  have d6_15 := own_keep d6_14 hb15
  have r8_15 := own_keep r8_14 hb15
  have rz8_15 := own_keep rz8_14 hb15
  have t15 := step_below hb15 t14
  refine hK.out _ _ ⟨(Y1_15.cell (i := 0) rfl), (Y1_15.cell (i := 1) rfl), (B1_15.cell (i := 0) rfl), (B1_15.cell (i := 1) rfl)⟩ (fun hS15 => ?_)
  clear hK K
  refine wpAnyH_take (i := 4) (v := .bool false) rfl (by kernel_rfl) (by kernel_rfl) (by kernel_rfl) (fun _ _ _ h => h) (Or.inl ⟨by rfl, fun w' _ => by go_simp⟩) hS15 ?_
  change wpAnyH _ _ _ _ _ _ _ (Act.put _ (some 69) _) _
  simp only [Act.put, List.setIfInBounds_toArray, List.set_cons_zero, List.set_cons_succ]
  refine wpAnyH_done (by kernel_rfl) ?_ _
  have pf70_0 := Y0_15.cell (i := 0) rfl
  have pf70_1 := Y0_15.cell (i := 1) rfl
  go_wp2_with fail
  clear pf70_0 pf70_1
  refine (markFrame_from s0 _ _ l0 _ (1) _ q4_15 hn0 ⟨by omega, by omega⟩).mono ?_
  rintro e w16 ⟨rfl, mo16, hgr16⟩
  have hbs16 := hgr16.size
  have t16 : Below w3.heap.size w3 w16 := t15.grown hgr16 t15.size (fun j hj => by cases hj; exact Nat.le_trans t3.size hg4)
  have b16 : Below w.heap.size w w16 := b3.trans (t16.mono b3.size)
  have B0_16 := B0_3.keep t16
  have B1_16 := B1_3.keep t16
  have B2_16 := B2_3.keep t16
  have Rw3_16 := Rw3_3.keep t16
  have Rw8_16 := Rw8_15.grown hgr16 (own_neK q4_15 Rw8_15 (by decide))
  have Y0_16 := Y0_15.grown hgr16 (fun e => by have e' : g4 = w4.heap.size := Option.some.inj e; have gg := gl4; have gh := hg4; have h4_ := hb4.size; have h5_ := hb5.size; omega)
  have Y1_16 := Y1_15.grown hgr16 (fun e => by have e' : g4 = w6.heap.size := Option.some.inj e; have gg := gl4; have gh := hg4; have h4_ := hb4.size; have h5_ := hb5.size; have h6_ := hb6.size; have h7_ := hb7.size; omega)
  have v3_16 := own_keep v3_3 t16
  have vz3_16 := own_keep vz3_3 t16
  have q6_16 := q6_15.kept hgr16 (own_ne2 q6_15 q4_15 (by decide))
  have d6_16 := d6_15.kept hgr16 (own_ne2 d6_15 q4_15 (by decide))
  have r8_16 := r8_15.kept hgr16 (own_ne2 r8_15 q4_15 (by decide))
  have rz8_16 := rz8_15.kept hgr16 (own_ne2 rz8_15 q4_15 (by decide))
  have hneg16 : decide (1 + 2 * (l0.length : Int) < 0) = false := by simp; omega
  have pf73_0 := Y1_16.cell (i := 0) rfl
  have pf73_1 := Y1_16.cell (i := 1) rfl
  go_wp2_with fail
  clear pf73_0 pf73_1
  refine (markWear_from _ _ l1 _ _ z1 _ _ (1 + 2 * (l0.length : Int)) _ q6_16 d6_16 hn1.1 hn1.2 ⟨by omega, by omega⟩).mono ?_
  rintro e w18 ⟨w17, rfl, mo17, hgr17, mo18, hgr18⟩
  have hbs17 := hgr17.size
  have t17 : Below w3.heap.size w3 w17 := t16.grown hgr17 t16.size (fun j hj => by cases hj; exact Nat.le_trans t5.size hg6)
  have b17 : Below w.heap.size w w17 := b3.trans (t17.mono b3.size)
  have B0_17 := B0_3.keep t17
  have B1_17 := B1_3.keep t17
  have B2_17 := B2_3.keep t17
  have Rw3_17 := Rw3_3.keep t17
  have Rw8_17 := Rw8_16.grown hgr17 (own_neK q6_16 Rw8_16 (by decide))
  have Y0_17 := Y0_16.grown hgr17 (own_neK q6_16 Y0_16 (by decide))
  have Y1_17 := Y1_16.grown hgr17 (own_neK q6_16 Y1_16 (by decide))
  have v3_17 := own_keep v3_3 t17
  have vz3_17 := own_keep vz3_3 t17
  have d6_17 := d6_16.kept hgr17 (own_ne2 d6_16 q6_16 (by decide))
  have r8_17 := r8_16.kept hgr17 (Or.inr (fun e => by have h1 := r8_16.lt g6 (by rw [e]; rfl); have gg := gl6; have h7_ := hb7.size; omega))
  have rz8_17 := rz8_16.kept hgr17 (own_ne2 rz8_16 q6_16 (by decide))
  have hbs18 := hgr18.size
  have t18 : Below w3.heap.size w3 w18 := t17.grown hgr18 t17.size (fun j hj => by cases hj; exact Nat.le_trans t5.size hgm6)
  have b18 : Below w.heap.size w w18 := b3.trans (t18.mono b3.size)
  have B0_18 := B0_3.keep t18
  have B1_18 := B1_3.keep t18
  have B2_18 := B2_3.keep t18
  have Rw3_18 := Rw3_3.keep t18
  have Rw8_18 := Rw8_17.grown hgr18 (own_neK d6_17 Rw8_17 (by decide))
  have Y0_18 := Y0_17.grown hgr18 (own_neK d6_17 Y0_17 (by decide))
  have Y1_18 := Y1_17.grown hgr18 (own_neK d6_17 Y1_17 (by decide))
  have v3_18 := own_keep v3_3 t18
  have vz3_18 := own_keep vz3_3 t18
  have r8_18 := r8_17.kept hgr18 (own_ne2 r8_17 d6_17 (by decide))
  have rz8_18 := rz8_17.kept hgr18 (Or.inr (fun e => by have h1 := rz8_17.lt m6 (by rw [e]; rfl); have gg := gm6; have h7_ := hb7.size; omega))
  have hneg17 : decide (1 + 2 * (l0.length : Int) + 3 * (l1.length : Int) + (z1.length : Int) < 0) = false := by simp; omega
  have pf79_0 := Rw8_18.cell (i := 0) rfl
  have pf79_1 := Rw8_18.cell (i := 1) rfl
  have pf80_0 := Rw3_18.cell (i := 0) rfl
  have pf80_1 := Rw3_18.cell (i := 1) rfl
  go_wp2_with fail
  clear pf79_0 pf79_1 pf80_0 pf80_1
  refine (eqWear_self _ _ _ _ r0 _ _ _ _ rz0 _ (WnA.of_own r8_18) (WnA.of_own v3_18) (SI.of_own rz8_18) (SI.of_own vz3_18) hrl0 hrlz0).mono ?_
  rintro e w19 ⟨rfl, hb19⟩
  have b19 := step_below hb19 b18
  have B0_19 := B0_18.keep hb19
  have B1_19 := B1_18.keep hb19
  have B2_19 := B2_18.keep hb19
  have Rw3_19 := Rw3_18.keep hb19
  have Y0_19 := Y0_18.keep hb19
  have Y1_19 := Y1_18.keep hb19
  have Rw8_19 := Rw8_18.keep hb19
  have v3_19 := own_keep v3_18 hb19
  have vz3_19 := own_keep vz3_18 hb19
  have r8_19 := own_keep r8_18 hb19
  have rz8_19 := own_keep rz8_18 hb19
  have t19 := step_below hb19 t18
  have pf89_0 := Rw8_19.cell (i := 0) rfl
  have pf89_1 := Rw8_19.cell (i := 1) rfl
  go_wp2_with fail
  clear pf89_0 pf89_1
  refine (markWear_from _ _ r0 _ _ rz0 _ _ (1) _ r8_19 rz8_19 hrl0 hrlz0 ⟨by omega, by omega⟩).mono ?_
  rintro e w21 ⟨w20, rfl, mo20, hgr20, mo21, hgr21⟩
  have hbs20 := hgr20.size
  have t20 : Below w3.heap.size w3 w20 := t19.grown hgr20 t19.size (fun j hj => Nat.le_trans t7.size ((r8_19).lt j hj).1)
  have b20 : Below w.heap.size w w20 := b3.trans (t20.mono b3.size)
  have B0_20 := B0_3.keep t20
  have B1_20 := B1_3.keep t20
  have B2_20 := B2_3.keep t20
  have Rw3_20 := Rw3_3.keep t20
  have Rw8_20 := Rw8_19.grown hgr20 (own_neK r8_19 Rw8_19 (by decide))
  have v3_20 := own_keep v3_3 t20
  have vz3_20 := own_keep vz3_3 t20
  have rz8_20 := rz8_19.kept hgr20 (own_ne2 rz8_19 r8_19 (by decide))
  have k20_20 := mo20
  have hbs21 := hgr21.size
  have t21 : Below w3.heap.size w3 w21 := t20.grown hgr21 t20.size (fun j hj => Nat.le_trans t7.size ((rz8_20).lt j hj).1)
  have b21 : Below w.heap.size w w21 := b3.trans (t21.mono b3.size)
  have B0_21 := B0_3.keep t21
  have B1_21 := B1_3.keep t21
  have B2_21 := B2_3.keep t21
  have Rw3_21 := Rw3_3.keep t21
  have Rw8_21 := Rw8_20.grown hgr21 (own_neK rz8_20 Rw8_20 (by decide))
  have v3_21 := own_keep v3_3 t21
  have vz3_21 := own_keep vz3_3 t21
  have k20_21 := k20_20.kept hgr21 (own_ne2 k20_20 rz8_20 (by decide))
  have k21_21 := mo21
  have hneg20 : decide (1 + 3 * (r0.length : Int) + (rz0.length : Int) < 0) = false := by simp; omega
  have hneq20 : ((1 + 3 * (r0.length : Int) + (rz0.length : Int)) != (1 + 3 * (r0.length : Int) + (rz0.length : Int))) = false := by simp
  have pf92_0 := Rw8_21.cell (i := 0) rfl
  have pf92_1 := Rw8_21.cell (i := 1) rfl
  go_wp2_with fail
  clear pf92_0 pf92_1
  refine (heldWear_from _ _ r0.length _ _ rz0.length (1) _ (mkWn_of_own k20_21) (mkI_of_own k21_21) hrl0 hrlz0 ⟨by omega, by omega⟩).mono ?_
  rintro e w22 ⟨rfl, hb22⟩
  have b22 := step_below hb22 b21
  have B0_22 := B0_21.keep hb22
  have B1_22 := B1_21.keep hb22
  have B2_22 := B2_21.keep hb22
  have Rw3_22 := Rw3_21.keep hb22
  have Rw8_22 := Rw8_21.keep hb22
  have v3_22 := own_keep v3_21 hb22
  have vz3_22 := own_keep vz3_21 hb22
  have k20_22 := own_keep k20_21 hb22
  have k21_22 := own_keep k21_21 hb22
  have t22 := step_below hb22 t21
  go_upto_region 31 with fail
  go_cut [17, 18] from 100 to 109 (fun a_ b_ wx => ∃ (g : Nat) (C : Option Addr) (e : Nat) (D : Option Addr) (f : Nat) (W : World), a_ = .pointer (some ⟨g, 0, none⟩) ∧ b_ = .int .i64 r1 ∧ W = wx ∧ Bk W g 34 #[.slice C r0.length e, .slice D rz0.length f] ∧ w22.heap.size ≤ g ∧ W.ownsRow w22.heap.size 97 3 (.slice C r0.length e) r0.length (wnC r0) ∧ W.ownsRow w22.heap.size 2 1 (.slice D rz0.length f) rz0.length (icells rz0) ∧ Below w22.heap.size w22 W)
  case first =>
    have hb23 : Below w22.heap.size w22 w22.drew := (Below.refl _ _).drew
    have tb22 : Below w22.heap.size w22 w22 := Below.refl _ _
    have b23 := step_below hb23 b22
    have B0_23 := B0_22.keep hb23
    have B1_23 := B1_22.keep hb23
    have B2_23 := B2_22.keep hb23
    have Rw3_23 := Rw3_22.keep hb23
    have Rw8_23 := Rw8_22.keep hb23
    have v3_23 := own_keep v3_22 hb23
    have vz3_23 := own_keep vz3_22 hb23
    have k20_23 := own_keep k20_22 hb23
    have k21_23 := own_keep k21_22 hb23
    have t23 := step_below hb23 t22
    have tb23 := step_below hb23 tb22
    refine wp_region_held_drew (S := fun w' => w'.cell? ⟨w.heap.size, 0, none⟩ = some (.int .i16 s0) ∧ w'.cell? ⟨w.heap.size, 1, none⟩ = some (.slice A0 l0.length c0) ∧ w'.cell? ⟨w.heap.size + 1, 0, none⟩ = some (.slice A1 l1.length c1) ∧ w'.cell? ⟨w.heap.size + 1, 1, none⟩ = some (.slice U1 z1.length v1) ∧ w'.cell? ⟨w.heap.size + 1 + 1, 0, none⟩ = some (.int .i8 x2_0) ∧ w'.cell? ⟨w.heap.size + 1 + 1, 1, none⟩ = some (.int .i64 x2_1) ∧ w'.cell? ⟨w.heap.size + 1 + 1, 2, none⟩ = some (.int .i64 x2_2) ∧ w'.cell? ⟨w.heap.size + 1 + 1, 3, none⟩ = some (.int .i64 x2_3) ∧ w'.cell? ⟨w.heap.size + 1 + 1, 4, none⟩ = some (.int .i64 x2_4)) (by kernel_rfl) ⟨(B0_23.cell (i := 0) rfl), (B0_23.cell (i := 1) rfl), (B1_23.cell (i := 0) rfl), (B1_23.cell (i := 1) rfl), (B2_23.cell (i := 0) rfl), (B2_23.cell (i := 1) rfl), (B2_23.cell (i := 2) rfl), (B2_23.cell (i := 3) rfl), (B2_23.cell (i := 4) rfl)⟩ fun hS23 => ?_
    generalize w22.drew = wd23 at *
    change wpAnyH _ _ _ _ _ _ #[false, false, false, false, false, false, false, false, false, false, false, false, false] _ _
    refine wpAnyH_take (i := 0) (v := .agg #[.int .i16 s0, .slice A0 l0.length c0]) rfl (by kernel_rfl) (by kernel_rfl) (by kernel_rfl) (fun _ _ _ h => h) (Or.inl ⟨by rfl, fun w' h => ?_⟩) hS23 ?_
    · have c0 := h.1
      have c1 := h.2.1
      clear h
      go_simp
    change wpAnyH _ _ _ _ _ _ _ (Act.put _ (some 101) _) _
    simp only [Act.put, List.setIfInBounds_toArray, List.set_cons_zero, List.set_cons_succ]
    refine wpAnyH_take (i := 2) (v := .agg #[.slice A1 l1.length c1, .slice U1 z1.length v1]) rfl (by kernel_rfl) (by kernel_rfl) (by kernel_rfl) (fun _ _ _ h => h) (Or.inl ⟨by rfl, fun w' h => ?_⟩) hS23 ?_
    · have c0 := h.2.2.1
      have c1 := h.2.2.2.1
      clear h
      go_simp
    change wpAnyH _ _ _ _ _ _ _ (Act.put _ (some 103) _) _
    simp only [Act.put, List.setIfInBounds_toArray, List.set_cons_zero, List.set_cons_succ]
    refine wpAnyH_take (i := 4) (v := .agg #[.int .i8 x2_0, .int .i64 x2_1, .int .i64 x2_2, .int .i64 x2_3, .int .i64 x2_4]) rfl (by kernel_rfl) (by kernel_rfl) (by kernel_rfl) (fun _ _ _ h => h) (Or.inl ⟨by rfl, fun w' h => ?_⟩) hS23 ?_
    · have c0 := h.2.2.2.2.1
      have c1 := h.2.2.2.2.2.1
      have c2 := h.2.2.2.2.2.2.1
      have c3 := h.2.2.2.2.2.2.2.1
      have c4 := h.2.2.2.2.2.2.2.2
      clear h
      go_simp
    change wpAnyH _ _ _ _ _ _ _ (Act.put _ (some 105) _) _
    simp only [Act.put, List.setIfInBounds_toArray, List.set_cons_zero, List.set_cons_succ]
    refine wpAnyH_ready (rs := [1, 10]) (by kernel_rfl) (by simp) (AllReadyH.cons rfl ?_ (AllReadyH.cons rfl ?_ AllReadyH.nil))
    · intro K hK
      rw [if_pos (by rfl)]
      go_simp
      refine (toFrame_any s0 A0 c0 l0 _ (hA0.below b23) hn0).mono ?_
      rintro e w24 ⟨g24, rfl, hg24, own24, hb24⟩
      have b24 := step_below hb24 b23
      have B0_24 := B0_23.keep hb24
      have B1_24 := B1_23.keep hb24
      have B2_24 := B2_23.keep hb24
      have t24 := step_below hb24 t23
      have gl24 : g24 < w24.heap.size := (own24.lt g24 rfl).2
      have q24_24 := own24
      have tb24 := tb23.trans (hb24.mono tb23.size)
      refine hK.out _ _ ⟨(B0_24.cell (i := 0) rfl), (B0_24.cell (i := 1) rfl), (B1_24.cell (i := 0) rfl), (B1_24.cell (i := 1) rfl), (B2_24.cell (i := 0) rfl), (B2_24.cell (i := 1) rfl), (B2_24.cell (i := 2) rfl), (B2_24.cell (i := 3) rfl), (B2_24.cell (i := 4) rfl)⟩ (fun hS24 => ?_)
      clear hK K
      try (change wpAnyH _ _ _ _ _ _ _ (Act.put _ (some 102) _) _)
      try simp only [Act.put, List.setIfInBounds_toArray, List.set_cons_zero, List.set_cons_succ]
      refine wpAnyH_ready (rs := [3, 10]) (by kernel_rfl) (by simp) (AllReadyH.cons rfl ?_ (AllReadyH.cons rfl ?_ AllReadyH.nil))
      · intro K hK
        rw [if_pos (by rfl)]
        go_simp
        refine (toWear_any A1 c1 l1 U1 v1 z1 _ (hA1.below b24) (hU1.below b24) hn1.1 hn1.2).mono ?_
        rintro e w25 ⟨g25, m25, rfl, hg25, hgm25, own25, owm25, hb25⟩
        have b25 := step_below hb25 b24
        have B0_25 := B0_24.keep hb25
        have B1_25 := B1_24.keep hb25
        have B2_25 := B2_24.keep hb25
        have q24_25 := own_keep q24_24 hb25
        have t25 := step_below hb25 t24
        have gl25 : g25 < w25.heap.size := (own25.lt g25 rfl).2
        have gm25 : m25 < w25.heap.size := (owm25.lt m25 rfl).2
        have q25_25 := own25
        have d25_25 := owm25
        have tb25 := tb24.trans (hb25.mono tb24.size)
        refine hK.out _ _ ⟨(B0_25.cell (i := 0) rfl), (B0_25.cell (i := 1) rfl), (B1_25.cell (i := 0) rfl), (B1_25.cell (i := 1) rfl), (B2_25.cell (i := 0) rfl), (B2_25.cell (i := 1) rfl), (B2_25.cell (i := 2) rfl), (B2_25.cell (i := 3) rfl), (B2_25.cell (i := 4) rfl)⟩ (fun hS25 => ?_)
        clear hK K
        try (change wpAnyH _ _ _ _ _ _ _ (Act.put _ (some 104) _) _)
        try simp only [Act.put, List.setIfInBounds_toArray, List.set_cons_zero, List.set_cons_succ]
        refine wpAnyH_ready (rs := [5, 10]) (by kernel_rfl) (by simp) (AllReadyH.cons rfl ?_ (AllReadyH.cons rfl ?_ AllReadyH.nil))
        · intro K hK
          rw [if_pos (by rfl)]
          go_simp
          refine (toAct_any x2_0 x2_1 x2_2 x2_3 x2_4 _).mono ?_
          rintro e w26 ⟨rfl, hb26⟩
          have b26 := step_below hb26 b25
          have B0_26 := B0_25.keep hb26
          have B1_26 := B1_25.keep hb26
          have B2_26 := B2_25.keep hb26
          have q24_26 := own_keep q24_25 hb26
          have q25_26 := own_keep q25_25 hb26
          have d25_26 := own_keep d25_25 hb26
          have t26 := step_below hb26 t25
          have tb26 := tb25.trans (hb26.mono tb25.size)
          refine hK.out _ _ ⟨(B0_26.cell (i := 0) rfl), (B0_26.cell (i := 1) rfl), (B1_26.cell (i := 0) rfl), (B1_26.cell (i := 1) rfl), (B2_26.cell (i := 0) rfl), (B2_26.cell (i := 1) rfl), (B2_26.cell (i := 2) rfl), (B2_26.cell (i := 3) rfl), (B2_26.cell (i := 4) rfl)⟩ (fun hS26 => ?_)
          clear hK K
          try (change wpAnyH _ _ _ _ _ _ _ (Act.put _ (some 106) _) _)
          try simp only [Act.put, List.setIfInBounds_toArray, List.set_cons_zero, List.set_cons_succ]
          refine wpAnyH_ready (rs := [6, 10]) (by kernel_rfl) (by simp) (AllReadyH.cons rfl ?_ (AllReadyH.cons rfl ?_ AllReadyH.nil))
          · intro K hK
            rw [if_pos (by rfl)]
            go_simp
            refine (KI _ _ _ _ (HA.of_own q24_26) (WnA.of_own q25_26) (SZ.of_own d25_26) ).mono ?_
            rintro e w27 ⟨C27, e27, D27, f27, rfl, own27, owm27, hb27⟩
            have b27 := step_below hb27 b26
            have B0_27 := B0_26.keep hb27
            have B1_27 := B1_26.keep hb27
            have B2_27 := B2_26.keep hb27
            have q24_27 := own_keep q24_26 hb27
            have q25_27 := own_keep q25_26 hb27
            have d25_27 := own_keep d25_26 hb27
            have t27 := step_below hb27 t26
            have r27_27 := own27
            have rz27_27 := owm27
            have tb27 := tb26.trans (hb27.mono tb26.size)
            have oo_27 := own_base own27 tb26.size
            have oz_27 := own_base owm27 tb26.size
            refine hK.out _ _ ⟨(B0_27.cell (i := 0) rfl), (B0_27.cell (i := 1) rfl), (B1_27.cell (i := 0) rfl), (B1_27.cell (i := 1) rfl), (B2_27.cell (i := 0) rfl), (B2_27.cell (i := 1) rfl), (B2_27.cell (i := 2) rfl), (B2_27.cell (i := 3) rfl), (B2_27.cell (i := 4) rfl)⟩ (fun hS27 => ?_)
            clear hK K
            try (change wpAnyH _ _ _ _ _ _ _ (Act.put _ (some 107) _) _)
            try simp only [Act.put, List.setIfInBounds_toArray, List.set_cons_zero, List.set_cons_succ]
            refine wpAnyH_take (i := 7) (v := .tuple #[.agg #[.slice C27 r0.length e27, .slice D27 rz0.length f27], .int .i64 r1]) rfl (by kernel_rfl) (by kernel_rfl) (by kernel_rfl) (fun _ _ _ h => h) (Or.inl ⟨by rfl, fun w' _ => by go_simp⟩) hS27 ?_
            change wpAnyH _ _ _ _ _ _ _ (Act.put _ (some 100) _) _
            simp only [Act.put, List.setIfInBounds_toArray, List.set_cons_zero, List.set_cons_succ]
            refine wpAnyH_take (i := 8) (v := .agg #[.slice C27 r0.length e27, .slice D27 rz0.length f27]) rfl (by kernel_rfl) (by kernel_rfl) (by kernel_rfl) (fun _ _ _ h => h) (Or.inl ⟨by rfl, fun w' _ => by go_simp⟩) hS27 ?_
            change wpAnyH _ _ _ _ _ _ _ (Act.put _ (some 108) _) _
            simp only [Act.put, List.setIfInBounds_toArray, List.set_cons_zero, List.set_cons_succ]
            refine wpAnyH_take (i := 9) (v := .int .i64 r1) rfl (by kernel_rfl) (by kernel_rfl) (by kernel_rfl) (fun _ _ _ h => h) (Or.inl ⟨by rfl, fun w' _ => by go_simp⟩) hS27 ?_
            change wpAnyH _ _ _ _ _ _ _ (Act.put _ (some 109) _) _
            simp only [Act.put, List.setIfInBounds_toArray, List.set_cons_zero, List.set_cons_succ]
            refine wpAnyH_ready (rs := [10]) (by kernel_rfl) (by simp) (AllReadyH.cons rfl ?_ AllReadyH.nil)
            obtain ⟨w28, hX28⟩ : ∃ X, X = w27.alloc (.cells #[.slice none 0 0, .slice none 0 0] 34) := ⟨_, rfl⟩
            have hb28 : Below w27.heap.size w27 w28 := by rw [hX28]; exact (Below.refl _ _).alloc (Nat.le_refl _) _
            have za28 : Bk w28 w27.heap.size 34 #[.slice none 0 0, .slice none 0 0] := by rw [hX28]; exact heap_new' _ _ _ rfl
            have ge28 : w22.heap.size ≤ w27.heap.size := tb27.size
            intro K hK
            rw [if_pos (by rfl)]
            go_simp
            rw [← hX28]
            clear hX28
            have b28 := step_below hb28 b27
            have B0_28 := B0_27.keep hb28
            have B1_28 := B1_27.keep hb28
            have B2_28 := B2_27.keep hb28
            have q24_28 := own_keep q24_27 hb28
            have q25_28 := own_keep q25_27 hb28
            have d25_28 := own_keep d25_27 hb28
            have r27_28 := own_keep r27_27 hb28
            have rz27_28 := own_keep rz27_27 hb28
            have t28 := step_below hb28 t27
            have tb28 := tb27.trans (hb28.mono tb27.size)
            have oo_28 := own_keep oo_27 hb28
            have oz_28 := own_keep oz_27 hb28
            refine hK.out _ _ ⟨(B0_28.cell (i := 0) rfl), (B0_28.cell (i := 1) rfl), (B1_28.cell (i := 0) rfl), (B1_28.cell (i := 1) rfl), (B2_28.cell (i := 0) rfl), (B2_28.cell (i := 1) rfl), (B2_28.cell (i := 2) rfl), (B2_28.cell (i := 3) rfl), (B2_28.cell (i := 4) rfl)⟩ (fun hS28 => ?_)
            clear hK K
            try (change wpAnyH _ _ _ _ _ _ _ (Act.put _ (some 17) _) _)
            try simp only [Act.put, List.setIfInBounds_toArray, List.set_cons_zero, List.set_cons_succ]
            refine wpAnyH_ready (rs := [11]) (by kernel_rfl) (by simp) (AllReadyH.cons rfl ?_ AllReadyH.nil)
            intro K hK
            rw [if_pos (by rfl)]
            refine wp_store_row 34 (.tmp 17) (.tmp 108) rfl (w27.heap.size) #[.slice C27 r0.length e27, .slice D27 rz0.length f27] rfl rfl 34 _ za28 (infoWear _ _) (szWear _ _ _ _) (oneWear _ _ _ _ _ _) ?_
            have hb29 : Below w22.heap.size w28 (w28.setRow (w27.heap.size) #[.slice C27 r0.length e27, .slice D27 rz0.length f27]) := below_setRow (Below.refl _ _) ge28
            have DD : Bk (w28.setRow (w27.heap.size) #[.slice C27 r0.length e27, .slice D27 rz0.length f27]) (w27.heap.size) 34 #[.slice C27 r0.length e27, .slice D27 rz0.length f27] := setRow_heap _ _ _ _ _ _ za28
            have oo_29 := own_rowK oo_28 za28 (by decide) #[.slice C27 r0.length e27, .slice D27 rz0.length f27]
            have oz_29 := own_rowK oz_28 za28 (by decide) #[.slice C27 r0.length e27, .slice D27 rz0.length f27]
            have B0_29 : Bk (w28.setRow (w27.heap.size) #[.slice C27 r0.length e27, .slice D27 rz0.length f27]) (w.heap.size) 25 #[.int .i16 s0, .slice A0 l0.length c0] := (setRow_other _ _ _ _ (by have e1 := B0_22.lt; have e2 := ge28; omega)).trans B0_28
            have B1_29 : Bk (w28.setRow (w27.heap.size) #[.slice C27 r0.length e27, .slice D27 rz0.length f27]) (w.heap.size + 1) 29 #[.slice A1 l1.length c1, .slice U1 z1.length v1] := (setRow_other _ _ _ _ (by have e1 := B1_22.lt; have e2 := ge28; omega)).trans B1_28
            have B2_29 : Bk (w28.setRow (w27.heap.size) #[.slice C27 r0.length e27, .slice D27 rz0.length f27]) (w.heap.size + 1 + 1) 53 #[.int .i8 x2_0, .int .i64 x2_1, .int .i64 x2_2, .int .i64 x2_3, .int .i64 x2_4] := (setRow_other _ _ _ _ (by have e1 := B2_22.lt; have e2 := ge28; omega)).trans B2_28
            have tb29 := tb28.trans hb29
            refine hK.out _ _ ⟨(B0_29.cell (i := 0) rfl), (B0_29.cell (i := 1) rfl), (B1_29.cell (i := 0) rfl), (B1_29.cell (i := 1) rfl), (B2_29.cell (i := 0) rfl), (B2_29.cell (i := 1) rfl), (B2_29.cell (i := 2) rfl), (B2_29.cell (i := 3) rfl), (B2_29.cell (i := 4) rfl)⟩ (fun hS29 => ?_)
            clear hK K
            refine wpAnyH_take (i := 12) (v := .int .i64 r1) rfl (by kernel_rfl) (by kernel_rfl) (by kernel_rfl) (fun _ _ _ h => h) (Or.inl ⟨by rfl, fun w' _ => by go_simp⟩) hS29 ?_
            change wpAnyH _ _ _ _ _ _ _ (Act.put _ (some 18) _) _
            simp only [Act.put, List.setIfInBounds_toArray, List.set_cons_zero, List.set_cons_succ]
            refine wpAnyH_done (by kernel_rfl) ?_ _
            go_wp2_with fail
            go_meet
            exact ⟨_, C27, e27, D27, f27, _, rfl, rfl, rfl, DD, ge28, oo_29, oz_29, tb29⟩
          · obtain ⟨w27, hX27⟩ : ∃ X, X = w26.alloc (.cells #[.slice none 0 0, .slice none 0 0] 34) := ⟨_, rfl⟩
            have hb27 : Below w26.heap.size w26 w27 := by rw [hX27]; exact (Below.refl _ _).alloc (Nat.le_refl _) _
            have za27 : Bk w27 w26.heap.size 34 #[.slice none 0 0, .slice none 0 0] := by rw [hX27]; exact heap_new' _ _ _ rfl
            have ge27 : w22.heap.size ≤ w26.heap.size := tb26.size
            intro K hK
            rw [if_pos (by rfl)]
            go_simp
            rw [← hX27]
            clear hX27
            have b27 := step_below hb27 b26
            have B0_27 := B0_26.keep hb27
            have B1_27 := B1_26.keep hb27
            have B2_27 := B2_26.keep hb27
            have q24_27 := own_keep q24_26 hb27
            have q25_27 := own_keep q25_26 hb27
            have d25_27 := own_keep d25_26 hb27
            have t27 := step_below hb27 t26
            have tb27 := tb26.trans (hb27.mono tb26.size)
            refine hK.out _ _ ⟨(B0_27.cell (i := 0) rfl), (B0_27.cell (i := 1) rfl), (B1_27.cell (i := 0) rfl), (B1_27.cell (i := 1) rfl), (B2_27.cell (i := 0) rfl), (B2_27.cell (i := 1) rfl), (B2_27.cell (i := 2) rfl), (B2_27.cell (i := 3) rfl), (B2_27.cell (i := 4) rfl)⟩ (fun hS27 => ?_)
            clear hK K
            try (change wpAnyH _ _ _ _ _ _ _ (Act.put _ (some 17) _) _)
            try simp only [Act.put, List.setIfInBounds_toArray, List.set_cons_zero, List.set_cons_succ]
            refine wpAnyH_ready (rs := [6]) (by kernel_rfl) (by simp) (AllReadyH.cons rfl ?_ AllReadyH.nil)
            intro K hK
            rw [if_pos (by rfl)]
            go_simp
            refine (KI _ _ _ _ (HA.of_own q24_27) (WnA.of_own q25_27) (SZ.of_own d25_27) ).mono ?_
            rintro e w28 ⟨C28, e28, D28, f28, rfl, own28, owm28, hb28⟩
            have b28 := step_below hb28 b27
            have B0_28 := B0_27.keep hb28
            have B1_28 := B1_27.keep hb28
            have B2_28 := B2_27.keep hb28
            have q24_28 := own_keep q24_27 hb28
            have q25_28 := own_keep q25_27 hb28
            have d25_28 := own_keep d25_27 hb28
            have t28 := step_below hb28 t27
            have r28_28 := own28
            have rz28_28 := owm28
            have tb28 := tb27.trans (hb28.mono tb27.size)
            have za28 := za27.keep hb28
            have oo_28 := own_base own28 tb27.size
            have oz_28 := own_base owm28 tb27.size
            refine hK.out _ _ ⟨(B0_28.cell (i := 0) rfl), (B0_28.cell (i := 1) rfl), (B1_28.cell (i := 0) rfl), (B1_28.cell (i := 1) rfl), (B2_28.cell (i := 0) rfl), (B2_28.cell (i := 1) rfl), (B2_28.cell (i := 2) rfl), (B2_28.cell (i := 3) rfl), (B2_28.cell (i := 4) rfl)⟩ (fun hS28 => ?_)
            clear hK K
            try (change wpAnyH _ _ _ _ _ _ _ (Act.put _ (some 107) _) _)
            try simp only [Act.put, List.setIfInBounds_toArray, List.set_cons_zero, List.set_cons_succ]
            refine wpAnyH_take (i := 7) (v := .tuple #[.agg #[.slice C28 r0.length e28, .slice D28 rz0.length f28], .int .i64 r1]) rfl (by kernel_rfl) (by kernel_rfl) (by kernel_rfl) (fun _ _ _ h => h) (Or.inl ⟨by rfl, fun w' _ => by go_simp⟩) hS28 ?_
            change wpAnyH _ _ _ _ _ _ _ (Act.put _ (some 100) _) _
            simp only [Act.put, List.setIfInBounds_toArray, List.set_cons_zero, List.set_cons_succ]
            refine wpAnyH_take (i := 8) (v := .agg #[.slice C28 r0.length e28, .slice D28 rz0.length f28]) rfl (by kernel_rfl) (by kernel_rfl) (by kernel_rfl) (fun _ _ _ h => h) (Or.inl ⟨by rfl, fun w' _ => by go_simp⟩) hS28 ?_
            change wpAnyH _ _ _ _ _ _ _ (Act.put _ (some 108) _) _
            simp only [Act.put, List.setIfInBounds_toArray, List.set_cons_zero, List.set_cons_succ]
            refine wpAnyH_take (i := 9) (v := .int .i64 r1) rfl (by kernel_rfl) (by kernel_rfl) (by kernel_rfl) (fun _ _ _ h => h) (Or.inl ⟨by rfl, fun w' _ => by go_simp⟩) hS28 ?_
            change wpAnyH _ _ _ _ _ _ _ (Act.put _ (some 109) _) _
            simp only [Act.put, List.setIfInBounds_toArray, List.set_cons_zero, List.set_cons_succ]
            refine wpAnyH_ready (rs := [11]) (by kernel_rfl) (by simp) (AllReadyH.cons rfl ?_ AllReadyH.nil)
            intro K hK
            rw [if_pos (by rfl)]
            refine wp_store_row 34 (.tmp 17) (.tmp 108) rfl (w26.heap.size) #[.slice C28 r0.length e28, .slice D28 rz0.length f28] rfl rfl 34 _ za28 (infoWear _ _) (szWear _ _ _ _) (oneWear _ _ _ _ _ _) ?_
            have hb29 : Below w22.heap.size w28 (w28.setRow (w26.heap.size) #[.slice C28 r0.length e28, .slice D28 rz0.length f28]) := below_setRow (Below.refl _ _) ge27
            have DD : Bk (w28.setRow (w26.heap.size) #[.slice C28 r0.length e28, .slice D28 rz0.length f28]) (w26.heap.size) 34 #[.slice C28 r0.length e28, .slice D28 rz0.length f28] := setRow_heap _ _ _ _ _ _ za28
            have oo_29 := own_rowK oo_28 za28 (by decide) #[.slice C28 r0.length e28, .slice D28 rz0.length f28]
            have oz_29 := own_rowK oz_28 za28 (by decide) #[.slice C28 r0.length e28, .slice D28 rz0.length f28]
            have B0_29 : Bk (w28.setRow (w26.heap.size) #[.slice C28 r0.length e28, .slice D28 rz0.length f28]) (w.heap.size) 25 #[.int .i16 s0, .slice A0 l0.length c0] := (setRow_other _ _ _ _ (by have e1 := B0_22.lt; have e2 := ge27; omega)).trans B0_28
            have B1_29 : Bk (w28.setRow (w26.heap.size) #[.slice C28 r0.length e28, .slice D28 rz0.length f28]) (w.heap.size + 1) 29 #[.slice A1 l1.length c1, .slice U1 z1.length v1] := (setRow_other _ _ _ _ (by have e1 := B1_22.lt; have e2 := ge27; omega)).trans B1_28
            have B2_29 : Bk (w28.setRow (w26.heap.size) #[.slice C28 r0.length e28, .slice D28 rz0.length f28]) (w.heap.size + 1 + 1) 53 #[.int .i8 x2_0, .int .i64 x2_1, .int .i64 x2_2, .int .i64 x2_3, .int .i64 x2_4] := (setRow_other _ _ _ _ (by have e1 := B2_22.lt; have e2 := ge27; omega)).trans B2_28
            have tb29 := tb28.trans hb29
            refine hK.out _ _ ⟨(B0_29.cell (i := 0) rfl), (B0_29.cell (i := 1) rfl), (B1_29.cell (i := 0) rfl), (B1_29.cell (i := 1) rfl), (B2_29.cell (i := 0) rfl), (B2_29.cell (i := 1) rfl), (B2_29.cell (i := 2) rfl), (B2_29.cell (i := 3) rfl), (B2_29.cell (i := 4) rfl)⟩ (fun hS29 => ?_)
            clear hK K
            refine wpAnyH_take (i := 12) (v := .int .i64 r1) rfl (by kernel_rfl) (by kernel_rfl) (by kernel_rfl) (fun _ _ _ h => h) (Or.inl ⟨by rfl, fun w' _ => by go_simp⟩) hS29 ?_
            change wpAnyH _ _ _ _ _ _ _ (Act.put _ (some 18) _) _
            simp only [Act.put, List.setIfInBounds_toArray, List.set_cons_zero, List.set_cons_succ]
            refine wpAnyH_done (by kernel_rfl) ?_ _
            go_wp2_with fail
            go_meet
            exact ⟨_, C28, e28, D28, f28, _, rfl, rfl, rfl, DD, ge27, oo_29, oz_29, tb29⟩
        · obtain ⟨w26, hX26⟩ : ∃ X, X = w25.alloc (.cells #[.slice none 0 0, .slice none 0 0] 34) := ⟨_, rfl⟩
          have hb26 : Below w25.heap.size w25 w26 := by rw [hX26]; exact (Below.refl _ _).alloc (Nat.le_refl _) _
          have za26 : Bk w26 w25.heap.size 34 #[.slice none 0 0, .slice none 0 0] := by rw [hX26]; exact heap_new' _ _ _ rfl
          have ge26 : w22.heap.size ≤ w25.heap.size := tb25.size
          intro K hK
          rw [if_pos (by rfl)]
          go_simp
          rw [← hX26]
          clear hX26
          have b26 := step_below hb26 b25
          have B0_26 := B0_25.keep hb26
          have B1_26 := B1_25.keep hb26
          have B2_26 := B2_25.keep hb26
          have q24_26 := own_keep q24_25 hb26
          have q25_26 := own_keep q25_25 hb26
          have d25_26 := own_keep d25_25 hb26
          have t26 := step_below hb26 t25
          have tb26 := tb25.trans (hb26.mono tb25.size)
          refine hK.out _ _ ⟨(B0_26.cell (i := 0) rfl), (B0_26.cell (i := 1) rfl), (B1_26.cell (i := 0) rfl), (B1_26.cell (i := 1) rfl), (B2_26.cell (i := 0) rfl), (B2_26.cell (i := 1) rfl), (B2_26.cell (i := 2) rfl), (B2_26.cell (i := 3) rfl), (B2_26.cell (i := 4) rfl)⟩ (fun hS26 => ?_)
          clear hK K
          try (change wpAnyH _ _ _ _ _ _ _ (Act.put _ (some 17) _) _)
          try simp only [Act.put, List.setIfInBounds_toArray, List.set_cons_zero, List.set_cons_succ]
          refine wpAnyH_ready (rs := [5]) (by kernel_rfl) (by simp) (AllReadyH.cons rfl ?_ AllReadyH.nil)
          intro K hK
          rw [if_pos (by rfl)]
          go_simp
          refine (toAct_any x2_0 x2_1 x2_2 x2_3 x2_4 _).mono ?_
          rintro e w27 ⟨rfl, hb27⟩
          have b27 := step_below hb27 b26
          have B0_27 := B0_26.keep hb27
          have B1_27 := B1_26.keep hb27
          have B2_27 := B2_26.keep hb27
          have q24_27 := own_keep q24_26 hb27
          have q25_27 := own_keep q25_26 hb27
          have d25_27 := own_keep d25_26 hb27
          have t27 := step_below hb27 t26
          have tb27 := tb26.trans (hb27.mono tb26.size)
          have za27 := za26.keep hb27
          refine hK.out _ _ ⟨(B0_27.cell (i := 0) rfl), (B0_27.cell (i := 1) rfl), (B1_27.cell (i := 0) rfl), (B1_27.cell (i := 1) rfl), (B2_27.cell (i := 0) rfl), (B2_27.cell (i := 1) rfl), (B2_27.cell (i := 2) rfl), (B2_27.cell (i := 3) rfl), (B2_27.cell (i := 4) rfl)⟩ (fun hS27 => ?_)
          clear hK K
          try (change wpAnyH _ _ _ _ _ _ _ (Act.put _ (some 106) _) _)
          try simp only [Act.put, List.setIfInBounds_toArray, List.set_cons_zero, List.set_cons_succ]
          refine wpAnyH_ready (rs := [6]) (by kernel_rfl) (by simp) (AllReadyH.cons rfl ?_ AllReadyH.nil)
          intro K hK
          rw [if_pos (by rfl)]
          go_simp
          refine (KI _ _ _ _ (HA.of_own q24_27) (WnA.of_own q25_27) (SZ.of_own d25_27) ).mono ?_
          rintro e w28 ⟨C28, e28, D28, f28, rfl, own28, owm28, hb28⟩
          have b28 := step_below hb28 b27
          have B0_28 := B0_27.keep hb28
          have B1_28 := B1_27.keep hb28
          have B2_28 := B2_27.keep hb28
          have q24_28 := own_keep q24_27 hb28
          have q25_28 := own_keep q25_27 hb28
          have d25_28 := own_keep d25_27 hb28
          have t28 := step_below hb28 t27
          have r28_28 := own28
          have rz28_28 := owm28
          have tb28 := tb27.trans (hb28.mono tb27.size)
          have za28 := za27.keep hb28
          have oo_28 := own_base own28 tb27.size
          have oz_28 := own_base owm28 tb27.size
          refine hK.out _ _ ⟨(B0_28.cell (i := 0) rfl), (B0_28.cell (i := 1) rfl), (B1_28.cell (i := 0) rfl), (B1_28.cell (i := 1) rfl), (B2_28.cell (i := 0) rfl), (B2_28.cell (i := 1) rfl), (B2_28.cell (i := 2) rfl), (B2_28.cell (i := 3) rfl), (B2_28.cell (i := 4) rfl)⟩ (fun hS28 => ?_)
          clear hK K
          try (change wpAnyH _ _ _ _ _ _ _ (Act.put _ (some 107) _) _)
          try simp only [Act.put, List.setIfInBounds_toArray, List.set_cons_zero, List.set_cons_succ]
          refine wpAnyH_take (i := 7) (v := .tuple #[.agg #[.slice C28 r0.length e28, .slice D28 rz0.length f28], .int .i64 r1]) rfl (by kernel_rfl) (by kernel_rfl) (by kernel_rfl) (fun _ _ _ h => h) (Or.inl ⟨by rfl, fun w' _ => by go_simp⟩) hS28 ?_
          change wpAnyH _ _ _ _ _ _ _ (Act.put _ (some 100) _) _
          simp only [Act.put, List.setIfInBounds_toArray, List.set_cons_zero, List.set_cons_succ]
          refine wpAnyH_take (i := 8) (v := .agg #[.slice C28 r0.length e28, .slice D28 rz0.length f28]) rfl (by kernel_rfl) (by kernel_rfl) (by kernel_rfl) (fun _ _ _ h => h) (Or.inl ⟨by rfl, fun w' _ => by go_simp⟩) hS28 ?_
          change wpAnyH _ _ _ _ _ _ _ (Act.put _ (some 108) _) _
          simp only [Act.put, List.setIfInBounds_toArray, List.set_cons_zero, List.set_cons_succ]
          refine wpAnyH_take (i := 9) (v := .int .i64 r1) rfl (by kernel_rfl) (by kernel_rfl) (by kernel_rfl) (fun _ _ _ h => h) (Or.inl ⟨by rfl, fun w' _ => by go_simp⟩) hS28 ?_
          change wpAnyH _ _ _ _ _ _ _ (Act.put _ (some 109) _) _
          simp only [Act.put, List.setIfInBounds_toArray, List.set_cons_zero, List.set_cons_succ]
          refine wpAnyH_ready (rs := [11]) (by kernel_rfl) (by simp) (AllReadyH.cons rfl ?_ AllReadyH.nil)
          intro K hK
          rw [if_pos (by rfl)]
          refine wp_store_row 34 (.tmp 17) (.tmp 108) rfl (w25.heap.size) #[.slice C28 r0.length e28, .slice D28 rz0.length f28] rfl rfl 34 _ za28 (infoWear _ _) (szWear _ _ _ _) (oneWear _ _ _ _ _ _) ?_
          have hb29 : Below w22.heap.size w28 (w28.setRow (w25.heap.size) #[.slice C28 r0.length e28, .slice D28 rz0.length f28]) := below_setRow (Below.refl _ _) ge26
          have DD : Bk (w28.setRow (w25.heap.size) #[.slice C28 r0.length e28, .slice D28 rz0.length f28]) (w25.heap.size) 34 #[.slice C28 r0.length e28, .slice D28 rz0.length f28] := setRow_heap _ _ _ _ _ _ za28
          have oo_29 := own_rowK oo_28 za28 (by decide) #[.slice C28 r0.length e28, .slice D28 rz0.length f28]
          have oz_29 := own_rowK oz_28 za28 (by decide) #[.slice C28 r0.length e28, .slice D28 rz0.length f28]
          have B0_29 : Bk (w28.setRow (w25.heap.size) #[.slice C28 r0.length e28, .slice D28 rz0.length f28]) (w.heap.size) 25 #[.int .i16 s0, .slice A0 l0.length c0] := (setRow_other _ _ _ _ (by have e1 := B0_22.lt; have e2 := ge26; omega)).trans B0_28
          have B1_29 : Bk (w28.setRow (w25.heap.size) #[.slice C28 r0.length e28, .slice D28 rz0.length f28]) (w.heap.size + 1) 29 #[.slice A1 l1.length c1, .slice U1 z1.length v1] := (setRow_other _ _ _ _ (by have e1 := B1_22.lt; have e2 := ge26; omega)).trans B1_28
          have B2_29 : Bk (w28.setRow (w25.heap.size) #[.slice C28 r0.length e28, .slice D28 rz0.length f28]) (w.heap.size + 1 + 1) 53 #[.int .i8 x2_0, .int .i64 x2_1, .int .i64 x2_2, .int .i64 x2_3, .int .i64 x2_4] := (setRow_other _ _ _ _ (by have e1 := B2_22.lt; have e2 := ge26; omega)).trans B2_28
          have tb29 := tb28.trans hb29
          refine hK.out _ _ ⟨(B0_29.cell (i := 0) rfl), (B0_29.cell (i := 1) rfl), (B1_29.cell (i := 0) rfl), (B1_29.cell (i := 1) rfl), (B2_29.cell (i := 0) rfl), (B2_29.cell (i := 1) rfl), (B2_29.cell (i := 2) rfl), (B2_29.cell (i := 3) rfl), (B2_29.cell (i := 4) rfl)⟩ (fun hS29 => ?_)
          clear hK K
          refine wpAnyH_take (i := 12) (v := .int .i64 r1) rfl (by kernel_rfl) (by kernel_rfl) (by kernel_rfl) (fun _ _ _ h => h) (Or.inl ⟨by rfl, fun w' _ => by go_simp⟩) hS29 ?_
          change wpAnyH _ _ _ _ _ _ _ (Act.put _ (some 18) _) _
          simp only [Act.put, List.setIfInBounds_toArray, List.set_cons_zero, List.set_cons_succ]
          refine wpAnyH_done (by kernel_rfl) ?_ _
          go_wp2_with fail
          go_meet
          exact ⟨_, C28, e28, D28, f28, _, rfl, rfl, rfl, DD, ge26, oo_29, oz_29, tb29⟩
      · obtain ⟨w25, hX25⟩ : ∃ X, X = w24.alloc (.cells #[.slice none 0 0, .slice none 0 0] 34) := ⟨_, rfl⟩
        have hb25 : Below w24.heap.size w24 w25 := by rw [hX25]; exact (Below.refl _ _).alloc (Nat.le_refl _) _
        have za25 : Bk w25 w24.heap.size 34 #[.slice none 0 0, .slice none 0 0] := by rw [hX25]; exact heap_new' _ _ _ rfl
        have ge25 : w22.heap.size ≤ w24.heap.size := tb24.size
        intro K hK
        rw [if_pos (by rfl)]
        go_simp
        rw [← hX25]
        clear hX25
        have b25 := step_below hb25 b24
        have B0_25 := B0_24.keep hb25
        have B1_25 := B1_24.keep hb25
        have B2_25 := B2_24.keep hb25
        have q24_25 := own_keep q24_24 hb25
        have t25 := step_below hb25 t24
        have tb25 := tb24.trans (hb25.mono tb24.size)
        refine hK.out _ _ ⟨(B0_25.cell (i := 0) rfl), (B0_25.cell (i := 1) rfl), (B1_25.cell (i := 0) rfl), (B1_25.cell (i := 1) rfl), (B2_25.cell (i := 0) rfl), (B2_25.cell (i := 1) rfl), (B2_25.cell (i := 2) rfl), (B2_25.cell (i := 3) rfl), (B2_25.cell (i := 4) rfl)⟩ (fun hS25 => ?_)
        clear hK K
        try (change wpAnyH _ _ _ _ _ _ _ (Act.put _ (some 17) _) _)
        try simp only [Act.put, List.setIfInBounds_toArray, List.set_cons_zero, List.set_cons_succ]
        refine wpAnyH_ready (rs := [3]) (by kernel_rfl) (by simp) (AllReadyH.cons rfl ?_ AllReadyH.nil)
        intro K hK
        rw [if_pos (by rfl)]
        go_simp
        refine (toWear_any A1 c1 l1 U1 v1 z1 _ (hA1.below b25) (hU1.below b25) hn1.1 hn1.2).mono ?_
        rintro e w26 ⟨g26, m26, rfl, hg26, hgm26, own26, owm26, hb26⟩
        have b26 := step_below hb26 b25
        have B0_26 := B0_25.keep hb26
        have B1_26 := B1_25.keep hb26
        have B2_26 := B2_25.keep hb26
        have q24_26 := own_keep q24_25 hb26
        have t26 := step_below hb26 t25
        have gl26 : g26 < w26.heap.size := (own26.lt g26 rfl).2
        have gm26 : m26 < w26.heap.size := (owm26.lt m26 rfl).2
        have q26_26 := own26
        have d26_26 := owm26
        have tb26 := tb25.trans (hb26.mono tb25.size)
        have za26 := za25.keep hb26
        refine hK.out _ _ ⟨(B0_26.cell (i := 0) rfl), (B0_26.cell (i := 1) rfl), (B1_26.cell (i := 0) rfl), (B1_26.cell (i := 1) rfl), (B2_26.cell (i := 0) rfl), (B2_26.cell (i := 1) rfl), (B2_26.cell (i := 2) rfl), (B2_26.cell (i := 3) rfl), (B2_26.cell (i := 4) rfl)⟩ (fun hS26 => ?_)
        clear hK K
        try (change wpAnyH _ _ _ _ _ _ _ (Act.put _ (some 104) _) _)
        try simp only [Act.put, List.setIfInBounds_toArray, List.set_cons_zero, List.set_cons_succ]
        refine wpAnyH_ready (rs := [5]) (by kernel_rfl) (by simp) (AllReadyH.cons rfl ?_ AllReadyH.nil)
        intro K hK
        rw [if_pos (by rfl)]
        go_simp
        refine (toAct_any x2_0 x2_1 x2_2 x2_3 x2_4 _).mono ?_
        rintro e w27 ⟨rfl, hb27⟩
        have b27 := step_below hb27 b26
        have B0_27 := B0_26.keep hb27
        have B1_27 := B1_26.keep hb27
        have B2_27 := B2_26.keep hb27
        have q24_27 := own_keep q24_26 hb27
        have q26_27 := own_keep q26_26 hb27
        have d26_27 := own_keep d26_26 hb27
        have t27 := step_below hb27 t26
        have tb27 := tb26.trans (hb27.mono tb26.size)
        have za27 := za26.keep hb27
        refine hK.out _ _ ⟨(B0_27.cell (i := 0) rfl), (B0_27.cell (i := 1) rfl), (B1_27.cell (i := 0) rfl), (B1_27.cell (i := 1) rfl), (B2_27.cell (i := 0) rfl), (B2_27.cell (i := 1) rfl), (B2_27.cell (i := 2) rfl), (B2_27.cell (i := 3) rfl), (B2_27.cell (i := 4) rfl)⟩ (fun hS27 => ?_)
        clear hK K
        try (change wpAnyH _ _ _ _ _ _ _ (Act.put _ (some 106) _) _)
        try simp only [Act.put, List.setIfInBounds_toArray, List.set_cons_zero, List.set_cons_succ]
        refine wpAnyH_ready (rs := [6]) (by kernel_rfl) (by simp) (AllReadyH.cons rfl ?_ AllReadyH.nil)
        intro K hK
        rw [if_pos (by rfl)]
        go_simp
        refine (KI _ _ _ _ (HA.of_own q24_27) (WnA.of_own q26_27) (SZ.of_own d26_27) ).mono ?_
        rintro e w28 ⟨C28, e28, D28, f28, rfl, own28, owm28, hb28⟩
        have b28 := step_below hb28 b27
        have B0_28 := B0_27.keep hb28
        have B1_28 := B1_27.keep hb28
        have B2_28 := B2_27.keep hb28
        have q24_28 := own_keep q24_27 hb28
        have q26_28 := own_keep q26_27 hb28
        have d26_28 := own_keep d26_27 hb28
        have t28 := step_below hb28 t27
        have r28_28 := own28
        have rz28_28 := owm28
        have tb28 := tb27.trans (hb28.mono tb27.size)
        have za28 := za27.keep hb28
        have oo_28 := own_base own28 tb27.size
        have oz_28 := own_base owm28 tb27.size
        refine hK.out _ _ ⟨(B0_28.cell (i := 0) rfl), (B0_28.cell (i := 1) rfl), (B1_28.cell (i := 0) rfl), (B1_28.cell (i := 1) rfl), (B2_28.cell (i := 0) rfl), (B2_28.cell (i := 1) rfl), (B2_28.cell (i := 2) rfl), (B2_28.cell (i := 3) rfl), (B2_28.cell (i := 4) rfl)⟩ (fun hS28 => ?_)
        clear hK K
        try (change wpAnyH _ _ _ _ _ _ _ (Act.put _ (some 107) _) _)
        try simp only [Act.put, List.setIfInBounds_toArray, List.set_cons_zero, List.set_cons_succ]
        refine wpAnyH_take (i := 7) (v := .tuple #[.agg #[.slice C28 r0.length e28, .slice D28 rz0.length f28], .int .i64 r1]) rfl (by kernel_rfl) (by kernel_rfl) (by kernel_rfl) (fun _ _ _ h => h) (Or.inl ⟨by rfl, fun w' _ => by go_simp⟩) hS28 ?_
        change wpAnyH _ _ _ _ _ _ _ (Act.put _ (some 100) _) _
        simp only [Act.put, List.setIfInBounds_toArray, List.set_cons_zero, List.set_cons_succ]
        refine wpAnyH_take (i := 8) (v := .agg #[.slice C28 r0.length e28, .slice D28 rz0.length f28]) rfl (by kernel_rfl) (by kernel_rfl) (by kernel_rfl) (fun _ _ _ h => h) (Or.inl ⟨by rfl, fun w' _ => by go_simp⟩) hS28 ?_
        change wpAnyH _ _ _ _ _ _ _ (Act.put _ (some 108) _) _
        simp only [Act.put, List.setIfInBounds_toArray, List.set_cons_zero, List.set_cons_succ]
        refine wpAnyH_take (i := 9) (v := .int .i64 r1) rfl (by kernel_rfl) (by kernel_rfl) (by kernel_rfl) (fun _ _ _ h => h) (Or.inl ⟨by rfl, fun w' _ => by go_simp⟩) hS28 ?_
        change wpAnyH _ _ _ _ _ _ _ (Act.put _ (some 109) _) _
        simp only [Act.put, List.setIfInBounds_toArray, List.set_cons_zero, List.set_cons_succ]
        refine wpAnyH_ready (rs := [11]) (by kernel_rfl) (by simp) (AllReadyH.cons rfl ?_ AllReadyH.nil)
        intro K hK
        rw [if_pos (by rfl)]
        refine wp_store_row 34 (.tmp 17) (.tmp 108) rfl (w24.heap.size) #[.slice C28 r0.length e28, .slice D28 rz0.length f28] rfl rfl 34 _ za28 (infoWear _ _) (szWear _ _ _ _) (oneWear _ _ _ _ _ _) ?_
        have hb29 : Below w22.heap.size w28 (w28.setRow (w24.heap.size) #[.slice C28 r0.length e28, .slice D28 rz0.length f28]) := below_setRow (Below.refl _ _) ge25
        have DD : Bk (w28.setRow (w24.heap.size) #[.slice C28 r0.length e28, .slice D28 rz0.length f28]) (w24.heap.size) 34 #[.slice C28 r0.length e28, .slice D28 rz0.length f28] := setRow_heap _ _ _ _ _ _ za28
        have oo_29 := own_rowK oo_28 za28 (by decide) #[.slice C28 r0.length e28, .slice D28 rz0.length f28]
        have oz_29 := own_rowK oz_28 za28 (by decide) #[.slice C28 r0.length e28, .slice D28 rz0.length f28]
        have B0_29 : Bk (w28.setRow (w24.heap.size) #[.slice C28 r0.length e28, .slice D28 rz0.length f28]) (w.heap.size) 25 #[.int .i16 s0, .slice A0 l0.length c0] := (setRow_other _ _ _ _ (by have e1 := B0_22.lt; have e2 := ge25; omega)).trans B0_28
        have B1_29 : Bk (w28.setRow (w24.heap.size) #[.slice C28 r0.length e28, .slice D28 rz0.length f28]) (w.heap.size + 1) 29 #[.slice A1 l1.length c1, .slice U1 z1.length v1] := (setRow_other _ _ _ _ (by have e1 := B1_22.lt; have e2 := ge25; omega)).trans B1_28
        have B2_29 : Bk (w28.setRow (w24.heap.size) #[.slice C28 r0.length e28, .slice D28 rz0.length f28]) (w.heap.size + 1 + 1) 53 #[.int .i8 x2_0, .int .i64 x2_1, .int .i64 x2_2, .int .i64 x2_3, .int .i64 x2_4] := (setRow_other _ _ _ _ (by have e1 := B2_22.lt; have e2 := ge25; omega)).trans B2_28
        have tb29 := tb28.trans hb29
        refine hK.out _ _ ⟨(B0_29.cell (i := 0) rfl), (B0_29.cell (i := 1) rfl), (B1_29.cell (i := 0) rfl), (B1_29.cell (i := 1) rfl), (B2_29.cell (i := 0) rfl), (B2_29.cell (i := 1) rfl), (B2_29.cell (i := 2) rfl), (B2_29.cell (i := 3) rfl), (B2_29.cell (i := 4) rfl)⟩ (fun hS29 => ?_)
        clear hK K
        refine wpAnyH_take (i := 12) (v := .int .i64 r1) rfl (by kernel_rfl) (by kernel_rfl) (by kernel_rfl) (fun _ _ _ h => h) (Or.inl ⟨by rfl, fun w' _ => by go_simp⟩) hS29 ?_
        change wpAnyH _ _ _ _ _ _ _ (Act.put _ (some 18) _) _
        simp only [Act.put, List.setIfInBounds_toArray, List.set_cons_zero, List.set_cons_succ]
        refine wpAnyH_done (by kernel_rfl) ?_ _
        go_wp2_with fail
        go_meet
        exact ⟨_, C28, e28, D28, f28, _, rfl, rfl, rfl, DD, ge25, oo_29, oz_29, tb29⟩
    · obtain ⟨w24, hX24⟩ : ∃ X, X = wd23.alloc (.cells #[.slice none 0 0, .slice none 0 0] 34) := ⟨_, rfl⟩
      have hb24 : Below wd23.heap.size wd23 w24 := by rw [hX24]; exact (Below.refl _ _).alloc (Nat.le_refl _) _
      have za24 : Bk w24 wd23.heap.size 34 #[.slice none 0 0, .slice none 0 0] := by rw [hX24]; exact heap_new' _ _ _ rfl
      have ge24 : w22.heap.size ≤ wd23.heap.size := tb23.size
      intro K hK
      rw [if_pos (by rfl)]
      go_simp
      rw [← hX24]
      clear hX24
      have b24 := step_below hb24 b23
      have B0_24 := B0_23.keep hb24
      have B1_24 := B1_23.keep hb24
      have B2_24 := B2_23.keep hb24
      have t24 := step_below hb24 t23
      have tb24 := tb23.trans (hb24.mono tb23.size)
      refine hK.out _ _ ⟨(B0_24.cell (i := 0) rfl), (B0_24.cell (i := 1) rfl), (B1_24.cell (i := 0) rfl), (B1_24.cell (i := 1) rfl), (B2_24.cell (i := 0) rfl), (B2_24.cell (i := 1) rfl), (B2_24.cell (i := 2) rfl), (B2_24.cell (i := 3) rfl), (B2_24.cell (i := 4) rfl)⟩ (fun hS24 => ?_)
      clear hK K
      try (change wpAnyH _ _ _ _ _ _ _ (Act.put _ (some 17) _) _)
      try simp only [Act.put, List.setIfInBounds_toArray, List.set_cons_zero, List.set_cons_succ]
      refine wpAnyH_ready (rs := [1]) (by kernel_rfl) (by simp) (AllReadyH.cons rfl ?_ AllReadyH.nil)
      intro K hK
      rw [if_pos (by rfl)]
      go_simp
      refine (toFrame_any s0 A0 c0 l0 _ (hA0.below b24) hn0).mono ?_
      rintro e w25 ⟨g25, rfl, hg25, own25, hb25⟩
      have b25 := step_below hb25 b24
      have B0_25 := B0_24.keep hb25
      have B1_25 := B1_24.keep hb25
      have B2_25 := B2_24.keep hb25
      have t25 := step_below hb25 t24
      have gl25 : g25 < w25.heap.size := (own25.lt g25 rfl).2
      have q25_25 := own25
      have tb25 := tb24.trans (hb25.mono tb24.size)
      have za25 := za24.keep hb25
      refine hK.out _ _ ⟨(B0_25.cell (i := 0) rfl), (B0_25.cell (i := 1) rfl), (B1_25.cell (i := 0) rfl), (B1_25.cell (i := 1) rfl), (B2_25.cell (i := 0) rfl), (B2_25.cell (i := 1) rfl), (B2_25.cell (i := 2) rfl), (B2_25.cell (i := 3) rfl), (B2_25.cell (i := 4) rfl)⟩ (fun hS25 => ?_)
      clear hK K
      try (change wpAnyH _ _ _ _ _ _ _ (Act.put _ (some 102) _) _)
      try simp only [Act.put, List.setIfInBounds_toArray, List.set_cons_zero, List.set_cons_succ]
      refine wpAnyH_ready (rs := [3]) (by kernel_rfl) (by simp) (AllReadyH.cons rfl ?_ AllReadyH.nil)
      intro K hK
      rw [if_pos (by rfl)]
      go_simp
      refine (toWear_any A1 c1 l1 U1 v1 z1 _ (hA1.below b25) (hU1.below b25) hn1.1 hn1.2).mono ?_
      rintro e w26 ⟨g26, m26, rfl, hg26, hgm26, own26, owm26, hb26⟩
      have b26 := step_below hb26 b25
      have B0_26 := B0_25.keep hb26
      have B1_26 := B1_25.keep hb26
      have B2_26 := B2_25.keep hb26
      have q25_26 := own_keep q25_25 hb26
      have t26 := step_below hb26 t25
      have gl26 : g26 < w26.heap.size := (own26.lt g26 rfl).2
      have gm26 : m26 < w26.heap.size := (owm26.lt m26 rfl).2
      have q26_26 := own26
      have d26_26 := owm26
      have tb26 := tb25.trans (hb26.mono tb25.size)
      have za26 := za25.keep hb26
      refine hK.out _ _ ⟨(B0_26.cell (i := 0) rfl), (B0_26.cell (i := 1) rfl), (B1_26.cell (i := 0) rfl), (B1_26.cell (i := 1) rfl), (B2_26.cell (i := 0) rfl), (B2_26.cell (i := 1) rfl), (B2_26.cell (i := 2) rfl), (B2_26.cell (i := 3) rfl), (B2_26.cell (i := 4) rfl)⟩ (fun hS26 => ?_)
      clear hK K
      try (change wpAnyH _ _ _ _ _ _ _ (Act.put _ (some 104) _) _)
      try simp only [Act.put, List.setIfInBounds_toArray, List.set_cons_zero, List.set_cons_succ]
      refine wpAnyH_ready (rs := [5]) (by kernel_rfl) (by simp) (AllReadyH.cons rfl ?_ AllReadyH.nil)
      intro K hK
      rw [if_pos (by rfl)]
      go_simp
      refine (toAct_any x2_0 x2_1 x2_2 x2_3 x2_4 _).mono ?_
      rintro e w27 ⟨rfl, hb27⟩
      have b27 := step_below hb27 b26
      have B0_27 := B0_26.keep hb27
      have B1_27 := B1_26.keep hb27
      have B2_27 := B2_26.keep hb27
      have q25_27 := own_keep q25_26 hb27
      have q26_27 := own_keep q26_26 hb27
      have d26_27 := own_keep d26_26 hb27
      have t27 := step_below hb27 t26
      have tb27 := tb26.trans (hb27.mono tb26.size)
      have za27 := za26.keep hb27
      refine hK.out _ _ ⟨(B0_27.cell (i := 0) rfl), (B0_27.cell (i := 1) rfl), (B1_27.cell (i := 0) rfl), (B1_27.cell (i := 1) rfl), (B2_27.cell (i := 0) rfl), (B2_27.cell (i := 1) rfl), (B2_27.cell (i := 2) rfl), (B2_27.cell (i := 3) rfl), (B2_27.cell (i := 4) rfl)⟩ (fun hS27 => ?_)
      clear hK K
      try (change wpAnyH _ _ _ _ _ _ _ (Act.put _ (some 106) _) _)
      try simp only [Act.put, List.setIfInBounds_toArray, List.set_cons_zero, List.set_cons_succ]
      refine wpAnyH_ready (rs := [6]) (by kernel_rfl) (by simp) (AllReadyH.cons rfl ?_ AllReadyH.nil)
      intro K hK
      rw [if_pos (by rfl)]
      go_simp
      refine (KI _ _ _ _ (HA.of_own q25_27) (WnA.of_own q26_27) (SZ.of_own d26_27) ).mono ?_
      rintro e w28 ⟨C28, e28, D28, f28, rfl, own28, owm28, hb28⟩
      have b28 := step_below hb28 b27
      have B0_28 := B0_27.keep hb28
      have B1_28 := B1_27.keep hb28
      have B2_28 := B2_27.keep hb28
      have q25_28 := own_keep q25_27 hb28
      have q26_28 := own_keep q26_27 hb28
      have d26_28 := own_keep d26_27 hb28
      have t28 := step_below hb28 t27
      have r28_28 := own28
      have rz28_28 := owm28
      have tb28 := tb27.trans (hb28.mono tb27.size)
      have za28 := za27.keep hb28
      have oo_28 := own_base own28 tb27.size
      have oz_28 := own_base owm28 tb27.size
      refine hK.out _ _ ⟨(B0_28.cell (i := 0) rfl), (B0_28.cell (i := 1) rfl), (B1_28.cell (i := 0) rfl), (B1_28.cell (i := 1) rfl), (B2_28.cell (i := 0) rfl), (B2_28.cell (i := 1) rfl), (B2_28.cell (i := 2) rfl), (B2_28.cell (i := 3) rfl), (B2_28.cell (i := 4) rfl)⟩ (fun hS28 => ?_)
      clear hK K
      try (change wpAnyH _ _ _ _ _ _ _ (Act.put _ (some 107) _) _)
      try simp only [Act.put, List.setIfInBounds_toArray, List.set_cons_zero, List.set_cons_succ]
      refine wpAnyH_take (i := 7) (v := .tuple #[.agg #[.slice C28 r0.length e28, .slice D28 rz0.length f28], .int .i64 r1]) rfl (by kernel_rfl) (by kernel_rfl) (by kernel_rfl) (fun _ _ _ h => h) (Or.inl ⟨by rfl, fun w' _ => by go_simp⟩) hS28 ?_
      change wpAnyH _ _ _ _ _ _ _ (Act.put _ (some 100) _) _
      simp only [Act.put, List.setIfInBounds_toArray, List.set_cons_zero, List.set_cons_succ]
      refine wpAnyH_take (i := 8) (v := .agg #[.slice C28 r0.length e28, .slice D28 rz0.length f28]) rfl (by kernel_rfl) (by kernel_rfl) (by kernel_rfl) (fun _ _ _ h => h) (Or.inl ⟨by rfl, fun w' _ => by go_simp⟩) hS28 ?_
      change wpAnyH _ _ _ _ _ _ _ (Act.put _ (some 108) _) _
      simp only [Act.put, List.setIfInBounds_toArray, List.set_cons_zero, List.set_cons_succ]
      refine wpAnyH_take (i := 9) (v := .int .i64 r1) rfl (by kernel_rfl) (by kernel_rfl) (by kernel_rfl) (fun _ _ _ h => h) (Or.inl ⟨by rfl, fun w' _ => by go_simp⟩) hS28 ?_
      change wpAnyH _ _ _ _ _ _ _ (Act.put _ (some 109) _) _
      simp only [Act.put, List.setIfInBounds_toArray, List.set_cons_zero, List.set_cons_succ]
      refine wpAnyH_ready (rs := [11]) (by kernel_rfl) (by simp) (AllReadyH.cons rfl ?_ AllReadyH.nil)
      intro K hK
      rw [if_pos (by rfl)]
      refine wp_store_row 34 (.tmp 17) (.tmp 108) rfl (wd23.heap.size) #[.slice C28 r0.length e28, .slice D28 rz0.length f28] rfl rfl 34 _ za28 (infoWear _ _) (szWear _ _ _ _) (oneWear _ _ _ _ _ _) ?_
      have hb29 : Below w22.heap.size w28 (w28.setRow (wd23.heap.size) #[.slice C28 r0.length e28, .slice D28 rz0.length f28]) := below_setRow (Below.refl _ _) ge24
      have DD : Bk (w28.setRow (wd23.heap.size) #[.slice C28 r0.length e28, .slice D28 rz0.length f28]) (wd23.heap.size) 34 #[.slice C28 r0.length e28, .slice D28 rz0.length f28] := setRow_heap _ _ _ _ _ _ za28
      have oo_29 := own_rowK oo_28 za28 (by decide) #[.slice C28 r0.length e28, .slice D28 rz0.length f28]
      have oz_29 := own_rowK oz_28 za28 (by decide) #[.slice C28 r0.length e28, .slice D28 rz0.length f28]
      have B0_29 : Bk (w28.setRow (wd23.heap.size) #[.slice C28 r0.length e28, .slice D28 rz0.length f28]) (w.heap.size) 25 #[.int .i16 s0, .slice A0 l0.length c0] := (setRow_other _ _ _ _ (by have e1 := B0_22.lt; have e2 := ge24; omega)).trans B0_28
      have B1_29 : Bk (w28.setRow (wd23.heap.size) #[.slice C28 r0.length e28, .slice D28 rz0.length f28]) (w.heap.size + 1) 29 #[.slice A1 l1.length c1, .slice U1 z1.length v1] := (setRow_other _ _ _ _ (by have e1 := B1_22.lt; have e2 := ge24; omega)).trans B1_28
      have B2_29 : Bk (w28.setRow (wd23.heap.size) #[.slice C28 r0.length e28, .slice D28 rz0.length f28]) (w.heap.size + 1 + 1) 53 #[.int .i8 x2_0, .int .i64 x2_1, .int .i64 x2_2, .int .i64 x2_3, .int .i64 x2_4] := (setRow_other _ _ _ _ (by have e1 := B2_22.lt; have e2 := ge24; omega)).trans B2_28
      have tb29 := tb28.trans hb29
      refine hK.out _ _ ⟨(B0_29.cell (i := 0) rfl), (B0_29.cell (i := 1) rfl), (B1_29.cell (i := 0) rfl), (B1_29.cell (i := 1) rfl), (B2_29.cell (i := 0) rfl), (B2_29.cell (i := 1) rfl), (B2_29.cell (i := 2) rfl), (B2_29.cell (i := 3) rfl), (B2_29.cell (i := 4) rfl)⟩ (fun hS29 => ?_)
      clear hK K
      refine wpAnyH_take (i := 12) (v := .int .i64 r1) rfl (by kernel_rfl) (by kernel_rfl) (by kernel_rfl) (fun _ _ _ h => h) (Or.inl ⟨by rfl, fun w' _ => by go_simp⟩) hS29 ?_
      change wpAnyH _ _ _ _ _ _ _ (Act.put _ (some 18) _) _
      simp only [Act.put, List.setIfInBounds_toArray, List.set_cons_zero, List.set_cons_succ]
      refine wpAnyH_done (by kernel_rfl) ?_ _
      go_wp2_with fail
      go_meet
      exact ⟨_, C28, e28, D28, f28, _, rfl, rfl, rfl, DD, ge24, oo_29, oz_29, tb29⟩
  obtain ⟨rg23, C23, e23, D23, f23, w23, rfl, rfl, rfl, K23, rge23, own23, owm23, hb23⟩ := hcut
  have b23 := step_below hb23 b22
  have B0_23 := B0_22.keep hb23
  have B1_23 := B1_22.keep hb23
  have B2_23 := B2_22.keep hb23
  have Rw3_23 := Rw3_22.keep hb23
  have Rw8_23 := Rw8_22.keep hb23
  have v3_23 := own_keep v3_22 hb23
  have vz3_23 := own_keep vz3_22 hb23
  have k20_23 := own_keep k20_22 hb23
  have k21_23 := own_keep k21_22 hb23
  have t23 := step_below hb23 t22
  have r23_23 := own23
  have rz23_23 := owm23
  have Rw23_23 := K23
  have pf110_0 := Rw23_23.cell (i := 0) rfl
  have pf110_1 := Rw23_23.cell (i := 1) rfl
  have pf111_0 := Rw3_23.cell (i := 0) rfl
  have pf111_1 := Rw3_23.cell (i := 1) rfl
  go_wp2_with fail
  clear pf110_0 pf110_1 pf111_0 pf111_1
  refine (eqWear_self _ _ _ _ r0 _ _ _ _ rz0 _ (WnA.of_own r23_23) (WnA.of_own v3_23) (SI.of_own rz23_23) (SI.of_own vz3_23) hrl0 hrlz0).mono ?_
  rintro e w24 ⟨rfl, hb24⟩
  have b24 := step_below hb24 b23
  have B0_24 := B0_23.keep hb24
  have B1_24 := B1_23.keep hb24
  have B2_24 := B2_23.keep hb24
  have Rw3_24 := Rw3_23.keep hb24
  have Rw8_24 := Rw8_23.keep hb24
  have v3_24 := own_keep v3_23 hb24
  have vz3_24 := own_keep vz3_23 hb24
  have k20_24 := own_keep k20_23 hb24
  have k21_24 := own_keep k21_23 hb24
  have t24 := step_below hb24 t23
  have pf119_0 := Rw8_24.cell (i := 0) rfl
  have pf119_1 := Rw8_24.cell (i := 1) rfl
  go_wp2_with fail
  clear pf119_0 pf119_1
  refine (heldWear_from _ _ r0.length _ _ rz0.length (1) _ (mkWn_of_own k20_24) (mkI_of_own k21_24) hrl0 hrlz0 ⟨by omega, by omega⟩).mono ?_
  rintro e w25 ⟨rfl, hb25⟩
  have b25 := step_below hb25 b24
  have B0_25 := B0_24.keep hb25
  have B1_25 := B1_24.keep hb25
  have B2_25 := B2_24.keep hb25
  have Rw3_25 := Rw3_24.keep hb25
  have Rw8_25 := Rw8_24.keep hb25
  have v3_25 := own_keep v3_24 hb25
  have vz3_25 := own_keep vz3_24 hb25
  have k20_25 := own_keep k20_24 hb25
  have k21_25 := own_keep k21_24 hb25
  have t25 := step_below hb25 t24
  go_wp2
  go_ret
  exact ⟨rfl, b25⟩
theorem lawDoWearAct_any (s0 : Int) (A0 : Option Addr) (c0 : Nat) (l0 : List (Int × Int)) (A1 : Option Addr) (c1 : Nat) (l1 : List (Int × Int × Int)) (U1 : Option Addr) (v1 : Nat) (z1 : List Int) (x2_0 : Int) (x2_1 : Int) (x2_2 : Int) (x2_3 : Int) (x2_4 : Int) (w : World) (hA0 : HA w A0 l0) (hwf0 : HWF l0) (hs0 : -32768 ≤ s0 ∧ s0 ≤ 32767) (hA1 : WnA w A1 l1) (hU1 : SZ w U1 z1) (hwf1 : WnWF l1) (hzwf1 : ZWF z1) (hv2 : AvWF x2_0 x2_1 x2_2 x2_3 x2_4) (hm0 : l0.length ≤ maxLen) (hm1 : l1.length ≤ maxLen ∧ z1.length ≤ maxLen)  :
    Calls Tryz.prog 6 #[.agg #[.int .i16 s0, .slice A0 l0.length c0], .agg #[.slice A1 l1.length c1, .slice U1 z1.length v1], .agg #[.int .i8 x2_0, .int .i64 x2_1, .int .i64 x2_2, .int .i64 x2_3, .int .i64 x2_4]] w (Says true w) := by
  rcases Nat.lt_or_ge 1048576 (l0.length) with h0 | h0
  · exact lawDoWearAct_big0 s0 A0 c0 l0 A1 c1 l1 U1 v1 z1 x2_0 x2_1 x2_2 x2_3 x2_4 w  h0 hm0 hm1
  rcases Nat.lt_or_ge 1048576 (l0.length + (l1.length + z1.length)) with h1 | h1
  · exact lawDoWearAct_big1 s0 A0 c0 l0 A1 c1 l1 U1 v1 z1 x2_0 x2_1 x2_2 x2_3 x2_4 w h0 h1 hm0 hm1
  exact lawDoWearAct_small s0 A0 c0 l0 A1 c1 l1 U1 v1 z1 x2_0 x2_1 x2_2 x2_3 x2_4 w hA0 hwf0 hs0 hA1 hU1 hwf1 hzwf1 hv2 h0 h1 hm0 hm1 
end Go.Proofs.YtcocfnjbgceidaaGreat
