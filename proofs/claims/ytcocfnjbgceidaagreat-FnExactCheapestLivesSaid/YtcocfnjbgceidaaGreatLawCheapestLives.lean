import Derived.Test.YtcocfnjbgceidaaGreatGad
import Derived.Test.YtcocfnjbgceidaaGreatGae
import Derived.Test.YtcocfnjbgceidaaGreatGaj
import Derived.Test.YtcocfnjbgceidaaGreatChx
import Derived.Test.YtcocfnjbgceidaaGreatGbl
import Derived.Deep.RegionHeld3
import Derived.Deep.CutRange
namespace Go.Proofs.YtcocfnjbgceidaaGreat
open Go.RowKit

set_option maxRecDepth 20000 in
set_option maxHeartbeats 1000000 in
theorem lawCheapestLives_big0 (s0 : Int) (A0 : Option Addr) (c0 : Nat) (l0 : List (Int × Int)) (A1 : Option Addr) (c1 : Nat) (l1 : List (Int × Int × Int)) (U1 : Option Addr) (v1 : Nat) (z1 : List Int) (x2 : Int) (x3 : Int) (x4 : Int) (A5 : Option Addr) (c5 : Nat) (l5 : List (Int × Int)) (w : World)  (hbg : 1048576 < l0.length) (hm0 : l0.length ≤ maxLen) (hm1 : l1.length ≤ maxLen ∧ z1.length ≤ maxLen) (hm5 : l5.length ≤ maxLen) :
    Calls Tryz.prog 9 #[.agg #[.int .i16 s0, .slice A0 l0.length c0], .agg #[.slice A1 l1.length c1, .slice U1 z1.length v1], .int .i64 x2, .int .i64 x3, .int .i64 x4, .slice A5 l5.length c5] w (Says true w) := by
  obtain ⟨X0, hX0⟩ : ∃ X, X = ((w.alloc (.cells #[.int .i16 s0, .slice A0 l0.length c0] 25)).alloc (.cells #[.slice A1 l1.length c1, .slice U1 z1.length v1] 29)) := ⟨_, rfl⟩
  have b0 : Below w.heap.size w X0 := by rw [hX0]; exact (((Below.refl _ _).alloc (Nat.le_refl _) _).alloc (by simp) _)
  have B0_0 : Bk X0 (w.heap.size) 25 #[.int .i16 s0, .slice A0 l0.length c0] := by rw [hX0]; exact Bk.new _ _ _ rfl |>.old _
  have bw0 : w.heap.size < X0.heap.size := B0_0.lt
  have B1_0 : Bk X0 (w.heap.size + 1) 29 #[.slice A1 l1.length c1, .slice U1 z1.length v1] := by rw [hX0]; exact Bk.new _ _ _ (by simp)
  have bw1 : w.heap.size + 1 < X0.heap.size := B1_0.lt
  go_enter Tryz.func9, Tryz.ntmps9
  go_upto_region 1 with fail
  rw [← hX0]
  clear hX0
  have pf23_0 := B0_0.cell (i := 0) rfl
  have pf23_1 := B0_0.cell (i := 1) rfl
  go_wp2_with fail
  clear pf23_0 pf23_1
  refine (szFrame_at_big s0 A0 l0.length c0 (1048576) (by omega) (by omega) hm0 (by omega) _).mono ?_
  rintro e w1 ⟨rfl, hb1⟩
  have b1 := step_below hb1 b0
  go_wp2
  go_ret
  exact ⟨rfl, b1⟩
set_option maxRecDepth 20000 in
set_option maxHeartbeats 1000000 in
theorem lawCheapestLives_big1 (s0 : Int) (A0 : Option Addr) (c0 : Nat) (l0 : List (Int × Int)) (A1 : Option Addr) (c1 : Nat) (l1 : List (Int × Int × Int)) (U1 : Option Addr) (v1 : Nat) (z1 : List Int) (x2 : Int) (x3 : Int) (x4 : Int) (A5 : Option Addr) (c5 : Nat) (l5 : List (Int × Int)) (w : World) (hc0 : l0.length ≤ 1048576) (hbg : 1048576 < l0.length + (l1.length + z1.length)) (hm0 : l0.length ≤ maxLen) (hm1 : l1.length ≤ maxLen ∧ z1.length ≤ maxLen) (hm5 : l5.length ≤ maxLen) :
    Calls Tryz.prog 9 #[.agg #[.int .i16 s0, .slice A0 l0.length c0], .agg #[.slice A1 l1.length c1, .slice U1 z1.length v1], .int .i64 x2, .int .i64 x3, .int .i64 x4, .slice A5 l5.length c5] w (Says true w) := by
  obtain ⟨X0, hX0⟩ : ∃ X, X = ((w.alloc (.cells #[.int .i16 s0, .slice A0 l0.length c0] 25)).alloc (.cells #[.slice A1 l1.length c1, .slice U1 z1.length v1] 29)) := ⟨_, rfl⟩
  have b0 : Below w.heap.size w X0 := by rw [hX0]; exact (((Below.refl _ _).alloc (Nat.le_refl _) _).alloc (by simp) _)
  have B0_0 : Bk X0 (w.heap.size) 25 #[.int .i16 s0, .slice A0 l0.length c0] := by rw [hX0]; exact Bk.new _ _ _ rfl |>.old _
  have bw0 : w.heap.size < X0.heap.size := B0_0.lt
  have B1_0 : Bk X0 (w.heap.size + 1) 29 #[.slice A1 l1.length c1, .slice U1 z1.length v1] := by rw [hX0]; exact Bk.new _ _ _ (by simp)
  have bw1 : w.heap.size + 1 < X0.heap.size := B1_0.lt
  go_enter Tryz.func9, Tryz.ntmps9
  go_upto_region 1 with fail
  rw [← hX0]
  clear hX0
  have pf23_0 := B0_0.cell (i := 0) rfl
  have pf23_1 := B0_0.cell (i := 1) rfl
  go_wp2_with fail
  clear pf23_0 pf23_1
  refine (szFrame_at_small s0 A0 l0.length c0 (1048576) (by omega) (by omega) hm0 (by omega) _).mono ?_
  rintro e w1 ⟨rfl, hb1⟩
  have b1 := step_below hb1 b0
  have B0_1 := B0_0.keep hb1
  have B1_1 := B1_0.keep hb1
  have pf28_0 := B1_1.cell (i := 0) rfl
  have pf28_1 := B1_1.cell (i := 1) rfl
  go_wp2_with fail
  clear pf28_0 pf28_1
  refine (szWear_big A1 l1.length c1 U1 z1.length v1 (1048576 - (l0.length : Int)) (by omega) (by omega) hm1.1 hm1.2 (by omega) _).mono ?_
  rintro e w2 ⟨rfl, hb2⟩
  have b2 := step_below hb2 b1
  go_wp2
  go_ret
  exact ⟨rfl, b2⟩
set_option maxRecDepth 20000 in
set_option maxHeartbeats 1000000 in
theorem lawCheapestLives_big2 (s0 : Int) (A0 : Option Addr) (c0 : Nat) (l0 : List (Int × Int)) (A1 : Option Addr) (c1 : Nat) (l1 : List (Int × Int × Int)) (U1 : Option Addr) (v1 : Nat) (z1 : List Int) (x2 : Int) (x3 : Int) (x4 : Int) (A5 : Option Addr) (c5 : Nat) (l5 : List (Int × Int)) (w : World) (hc0 : l0.length ≤ 1048576) (hc1 : l0.length + (l1.length + z1.length) ≤ 1048576) (hbg : 1048576 < l0.length + (l1.length + z1.length) + l5.length) (hm0 : l0.length ≤ maxLen) (hm1 : l1.length ≤ maxLen ∧ z1.length ≤ maxLen) (hm5 : l5.length ≤ maxLen) :
    Calls Tryz.prog 9 #[.agg #[.int .i16 s0, .slice A0 l0.length c0], .agg #[.slice A1 l1.length c1, .slice U1 z1.length v1], .int .i64 x2, .int .i64 x3, .int .i64 x4, .slice A5 l5.length c5] w (Says true w) := by
  obtain ⟨X0, hX0⟩ : ∃ X, X = ((w.alloc (.cells #[.int .i16 s0, .slice A0 l0.length c0] 25)).alloc (.cells #[.slice A1 l1.length c1, .slice U1 z1.length v1] 29)) := ⟨_, rfl⟩
  have b0 : Below w.heap.size w X0 := by rw [hX0]; exact (((Below.refl _ _).alloc (Nat.le_refl _) _).alloc (by simp) _)
  have B0_0 : Bk X0 (w.heap.size) 25 #[.int .i16 s0, .slice A0 l0.length c0] := by rw [hX0]; exact Bk.new _ _ _ rfl |>.old _
  have bw0 : w.heap.size < X0.heap.size := B0_0.lt
  have B1_0 : Bk X0 (w.heap.size + 1) 29 #[.slice A1 l1.length c1, .slice U1 z1.length v1] := by rw [hX0]; exact Bk.new _ _ _ (by simp)
  have bw1 : w.heap.size + 1 < X0.heap.size := B1_0.lt
  go_enter Tryz.func9, Tryz.ntmps9
  go_upto_region 1 with fail
  rw [← hX0]
  clear hX0
  have pf23_0 := B0_0.cell (i := 0) rfl
  have pf23_1 := B0_0.cell (i := 1) rfl
  go_wp2_with fail
  clear pf23_0 pf23_1
  refine (szFrame_at_small s0 A0 l0.length c0 (1048576) (by omega) (by omega) hm0 (by omega) _).mono ?_
  rintro e w1 ⟨rfl, hb1⟩
  have b1 := step_below hb1 b0
  have B0_1 := B0_0.keep hb1
  have B1_1 := B1_0.keep hb1
  have pf28_0 := B1_1.cell (i := 0) rfl
  have pf28_1 := B1_1.cell (i := 1) rfl
  go_wp2_with fail
  clear pf28_0 pf28_1
  refine (szWear_small A1 l1.length c1 U1 z1.length v1 (1048576 - (l0.length : Int)) (by omega) (by omega) hm1.1 hm1.2 (by omega) _).mono ?_
  rintro e w2 ⟨rfl, hb2⟩
  have b2 := step_below hb2 b1
  have B0_2 := B0_1.keep hb2
  have B1_2 := B1_1.keep hb2
  go_wp2_with fail
  refine (szLivesS_big A5 l5.length c5 (1048576 - (l0.length : Int) - ((l1.length + z1.length) : Int)) (by omega) (by omega) hm5 (by omega) _).mono ?_
  rintro e w3 ⟨rfl, rfl⟩
  go_wp2
  go_ret
  exact ⟨rfl, b2⟩
set_option maxRecDepth 20000 in
set_option maxHeartbeats 16000000 in
theorem lawCheapestLives_small (s0 : Int) (A0 : Option Addr) (c0 : Nat) (l0 : List (Int × Int)) (A1 : Option Addr) (c1 : Nat) (l1 : List (Int × Int × Int)) (U1 : Option Addr) (v1 : Nat) (z1 : List Int) (x2 : Int) (x3 : Int) (x4 : Int) (A5 : Option Addr) (c5 : Nat) (l5 : List (Int × Int)) (w : World) (hA0 : HA w A0 l0) (hwf0 : HWF l0) (hs0 : -32768 ≤ s0 ∧ s0 ≤ 32767) (hA1 : WnA w A1 l1) (hU1 : SZ w U1 z1) (hwf1 : WnWF l1) (hzwf1 : ZWF z1) (hA5 : LwA w A5 l5) (hwf5 : LwWF l5) (hc0 : l0.length ≤ 1048576) (hc1 : l0.length + (l1.length + z1.length) ≤ 1048576) (hc2 : l0.length + (l1.length + z1.length) + l5.length ≤ 1048576) (hm0 : l0.length ≤ maxLen) (hm1 : l1.length ≤ maxLen ∧ z1.length ≤ maxLen) (hm5 : l5.length ≤ maxLen) :
    Calls Tryz.prog 9 #[.agg #[.int .i16 s0, .slice A0 l0.length c0], .agg #[.slice A1 l1.length c1, .slice U1 z1.length v1], .int .i64 x2, .int .i64 x3, .int .i64 x4, .slice A5 l5.length c5] w (Says true w) := by
  have hn0 : l0.length ≤ 1048576 := by omega
  have hn1 : l1.length ≤ 1048576 ∧ z1.length ≤ 1048576 := ⟨by omega, by omega⟩
  have hn5 : l5.length ≤ 1048576 := by omega
  obtain ⟨r0, hr0⟩ : ∃ r : Int, r = chI s0 l0 l1 z1 x2 x3 x4 l5 := ⟨_, rfl⟩
  obtain ⟨r1, hr1⟩ : ∃ r : Int, r = chL s0 l0 l1 z1 x2 x3 x4 l5 := ⟨_, rfl⟩
  obtain ⟨r2, hr2⟩ : ∃ r : Int, r = chC s0 l0 l1 z1 x2 x3 x4 l5 := ⟨_, rfl⟩
  have KS : ∀ (E0 : Option Addr) (E1 O1 : Option Addr) (E5 : Option Addr) (W : World), HA W E0 l0 → WnA W E1 l1 → SZ W O1 z1 → LwA W E5 l5 → Calls Tryz.prog 38 #[.agg #[.int .i16 s0, .slice E0 l0.length l0.length], .agg #[.slice E1 l1.length l1.length, .slice O1 z1.length z1.length], .int .i64 x2, .int .i64 x3, .int .i64 x4, .slice E5 l5.length l5.length] W (fun e w' => e = .returned (.tuple #[.int .i64 r0, .int .i64 r1, .int .i64 r2]) ∧ Below W.heap.size W w') := fun E0 E1 O1 E5 W h0 h1 h1z h5 => by rw [hr0, hr1, hr2]; exact specCheapestLives_any s0 E0 l0.length l0 E1 l1.length l1 O1 z1.length z1 x2 x3 x4 E5 l5.length l5 W h0 hn0 hwf0 hs0 h1 h1z hn1.1 hn1.2 hwf1 hzwf1    h5 hn5 hwf5
  have KI : ∀ (E0 : Option Addr) (E1 O1 : Option Addr) (E5 : Option Addr) (W : World), HA W E0 l0 → WnA W E1 l1 → SZ W O1 z1 → LwA W E5 l5 → Calls Tryz.prog 40 #[.agg #[.int .i16 s0, .slice E0 l0.length l0.length], .agg #[.slice E1 l1.length l1.length, .slice O1 z1.length z1.length], .int .i64 x2, .int .i64 x3, .int .i64 x4, .slice E5 l5.length l5.length] W (fun e w' => e = .returned (.tuple #[.int .i64 r0, .int .i64 r1, .int .i64 r2]) ∧ Below W.heap.size W w') := fun E0 E1 O1 E5 W h0 h1 h1z h5 => by rw [hr0, hr1, hr2]; exact implCheapestLives_any s0 E0 l0.length l0 E1 l1.length l1 O1 z1.length z1 x2 x3 x4 E5 l5.length l5 W h0 hn0 hwf0 hs0 h1 h1z hn1.1 hn1.2 hwf1 hzwf1    h5 hn5 hwf5
  clear hr0 hr1 hr2
  obtain ⟨X0, hX0⟩ : ∃ X, X = ((w.alloc (.cells #[.int .i16 s0, .slice A0 l0.length c0] 25)).alloc (.cells #[.slice A1 l1.length c1, .slice U1 z1.length v1] 29)) := ⟨_, rfl⟩
  have b0 : Below w.heap.size w X0 := by rw [hX0]; exact (((Below.refl _ _).alloc (Nat.le_refl _) _).alloc (by simp) _)
  have B0_0 : Bk X0 (w.heap.size) 25 #[.int .i16 s0, .slice A0 l0.length c0] := by rw [hX0]; exact Bk.new _ _ _ rfl |>.old _
  have bw0 : w.heap.size < X0.heap.size := B0_0.lt
  have B1_0 : Bk X0 (w.heap.size + 1) 29 #[.slice A1 l1.length c1, .slice U1 z1.length v1] := by rw [hX0]; exact Bk.new _ _ _ (by simp)
  have bw1 : w.heap.size + 1 < X0.heap.size := B1_0.lt
  go_enter Tryz.func9, Tryz.ntmps9
  go_upto_region 1 with fail
  rw [← hX0]
  clear hX0
  have pf23_0 := B0_0.cell (i := 0) rfl
  have pf23_1 := B0_0.cell (i := 1) rfl
  go_wp2_with fail
  clear pf23_0 pf23_1
  refine (szFrame_at_small s0 A0 l0.length c0 (1048576) (by omega) (by omega) hm0 (by omega) _).mono ?_
  rintro e w1 ⟨rfl, hb1⟩
  have b1 := step_below hb1 b0
  have B0_1 := B0_0.keep hb1
  have B1_1 := B1_0.keep hb1
  have pf28_0 := B1_1.cell (i := 0) rfl
  have pf28_1 := B1_1.cell (i := 1) rfl
  go_wp2_with fail
  clear pf28_0 pf28_1
  refine (szWear_small A1 l1.length c1 U1 z1.length v1 (1048576 - (l0.length : Int)) (by omega) (by omega) hm1.1 hm1.2 (by omega) _).mono ?_
  rintro e w2 ⟨rfl, hb2⟩
  have b2 := step_below hb2 b1
  have B0_2 := B0_1.keep hb2
  have B1_2 := B1_1.keep hb2
  go_wp2_with fail
  refine (szLivesS_small A5 l5.length c5 (1048576 - (l0.length : Int) - ((l1.length + z1.length) : Int)) (by omega) (by omega) hm5 (by omega) _).mono ?_
  rintro e w3' ⟨rfl, rfl⟩
  go_wp2_with fail
  have hb3 : Below w2.heap.size w2 w2.drew := (Below.refl _ _).drew
  have b3 := step_below hb3 b2
  have B0_3 := B0_2.keep hb3
  have B1_3 := B1_2.keep hb3
  refine wp_region_held_drew (S := fun w' => w'.cell? ⟨w.heap.size, 0, none⟩ = some (.int .i16 s0) ∧ w'.cell? ⟨w.heap.size, 1, none⟩ = some (.slice A0 l0.length c0) ∧ w'.cell? ⟨w.heap.size + 1, 0, none⟩ = some (.slice A1 l1.length c1) ∧ w'.cell? ⟨w.heap.size + 1, 1, none⟩ = some (.slice U1 z1.length v1)) (by kernel_rfl) ⟨(B0_3.cell (i := 0) rfl), (B0_3.cell (i := 1) rfl), (B1_3.cell (i := 0) rfl), (B1_3.cell (i := 1) rfl)⟩ fun hS3 => ?_
  refine wpAnyH_take (i := 0) (v := .agg #[.int .i16 s0, .slice A0 l0.length c0]) rfl (by kernel_rfl) (by kernel_rfl) (by kernel_rfl) (fun _ _ _ h => h) (Or.inl ⟨by rfl, fun w' h => ?_⟩) hS3 ?_
  · have c0 := h.1
    have c1 := h.2.1
    clear h
    go_simp
  simp only [Act.put, List.setIfInBounds_toArray, List.set_cons_zero, List.set_cons_succ]
  refine wpAnyH_take (i := 2) (v := .agg #[.slice A1 l1.length c1, .slice U1 z1.length v1]) rfl (by kernel_rfl) (by kernel_rfl) (by kernel_rfl) (fun _ _ _ h => h) (Or.inl ⟨by rfl, fun w' h => ?_⟩) hS3 ?_
  · have c0 := h.2.2.1
    have c1 := h.2.2.2
    clear h
    go_simp
  simp only [Act.put, List.setIfInBounds_toArray, List.set_cons_zero, List.set_cons_succ]
  refine wpAnyH_take (i := 4) (v := .int .i64 x2) rfl (by kernel_rfl) (by kernel_rfl) (by kernel_rfl) (fun _ _ _ h => h) (Or.inl ⟨by rfl, fun w' _ => by go_simp⟩) hS3 ?_
  change wpAnyH _ _ _ _ _ _ _ (Act.put _ (some 43) _) _
  simp only [Act.put, List.setIfInBounds_toArray, List.set_cons_zero, List.set_cons_succ]
  refine wpAnyH_take (i := 5) (v := .int .i64 x3) rfl (by kernel_rfl) (by kernel_rfl) (by kernel_rfl) (fun _ _ _ h => h) (Or.inl ⟨by rfl, fun w' _ => by go_simp⟩) hS3 ?_
  change wpAnyH _ _ _ _ _ _ _ (Act.put _ (some 44) _) _
  simp only [Act.put, List.setIfInBounds_toArray, List.set_cons_zero, List.set_cons_succ]
  refine wpAnyH_take (i := 6) (v := .int .i64 x4) rfl (by kernel_rfl) (by kernel_rfl) (by kernel_rfl) (fun _ _ _ h => h) (Or.inl ⟨by rfl, fun w' _ => by go_simp⟩) hS3 ?_
  change wpAnyH _ _ _ _ _ _ _ (Act.put _ (some 45) _) _
  simp only [Act.put, List.setIfInBounds_toArray, List.set_cons_zero, List.set_cons_succ]
  refine wpAnyH_take (i := 7) (v := .slice A5 l5.length c5) rfl (by kernel_rfl) (by kernel_rfl) (by kernel_rfl) (fun _ _ _ h => h) (Or.inl ⟨by rfl, fun w' _ => by go_simp⟩) hS3 ?_
  change wpAnyH _ _ _ _ _ _ _ (Act.put _ (some 46) _) _
  simp only [Act.put, List.setIfInBounds_toArray, List.set_cons_zero, List.set_cons_succ]
  refine wpAnyH_ready (rs := [1]) (by kernel_rfl) (by simp) (AllReadyH.cons rfl ?_ AllReadyH.nil)
  intro K hK
  rw [if_pos (by rfl)]
  go_simp
  refine (toFrame_any s0 A0 c0 l0 _ (hA0.below b3) hn0).mono ?_
  rintro e w4 ⟨g4, rfl, hg4, own4, hb4⟩
  have b4 := step_below hb4 b3
  have B0_4 := B0_3.keep hb4
  have B1_4 := B1_3.keep hb4
  have gl4 : g4 < w4.heap.size := (own4.lt g4 rfl).2
  have q4_4 := own4
  refine hK.out _ _ ⟨(B0_4.cell (i := 0) rfl), (B0_4.cell (i := 1) rfl), (B1_4.cell (i := 0) rfl), (B1_4.cell (i := 1) rfl)⟩ (fun hS4 => ?_)
  clear hK K
  refine wpAnyH_ready (rs := [3]) (by kernel_rfl) (by simp) (AllReadyH.cons rfl ?_ AllReadyH.nil)
  intro K hK
  rw [if_pos (by rfl)]
  go_simp
  refine (toWear_any A1 c1 l1 U1 v1 z1 _ (hA1.below b4) (hU1.below b4) hn1.1 hn1.2).mono ?_
  rintro e w5 ⟨g5, m5, rfl, hg5, hgm5, own5, owm5, hb5⟩
  have b5 := step_below hb5 b4
  have B0_5 := B0_4.keep hb5
  have B1_5 := B1_4.keep hb5
  have q4_5 := own_keep q4_4 hb5
  have gl5 : g5 < w5.heap.size := (own5.lt g5 rfl).2
  have gm5 : m5 < w5.heap.size := (owm5.lt m5 rfl).2
  have q5_5 := own5
  have d5_5 := owm5
  refine hK.out _ _ ⟨(B0_5.cell (i := 0) rfl), (B0_5.cell (i := 1) rfl), (B1_5.cell (i := 0) rfl), (B1_5.cell (i := 1) rfl)⟩ (fun hS5 => ?_)
  clear hK K
  refine wpAnyH_ready (rs := [8]) (by kernel_rfl) (by simp) (AllReadyH.cons rfl ?_ AllReadyH.nil)
  intro K hK
  rw [if_pos (by rfl)]
  go_simp
  refine (toLivesS_ex A5 c5 l5 _ (hA5.below b5) hn5).mono ?_
  rintro e w6 ⟨g6, rfl, hg6, own6, hb6⟩
  have b6 := step_below hb6 b5
  have B0_6 := B0_5.keep hb6
  have B1_6 := B1_5.keep hb6
  have q4_6 := own_keep q4_5 hb6
  have q5_6 := own_keep q5_5 hb6
  have d5_6 := own_keep d5_5 hb6
  have gl6 : g6 < w6.heap.size := (own6.lt g6 rfl).2
  have q6_6 := own6
  refine hK.out _ _ ⟨(B0_6.cell (i := 0) rfl), (B0_6.cell (i := 1) rfl), (B1_6.cell (i := 0) rfl), (B1_6.cell (i := 1) rfl)⟩ (fun hS6 => ?_)
  clear hK K
  refine wpAnyH_ready (rs := [9]) (by kernel_rfl) (by simp) (AllReadyH.cons rfl ?_ AllReadyH.nil)
  intro K hK
  rw [if_pos (by rfl)]
  go_simp
  refine (KS _ _ _ _ _ (HA.of_own q4_6) (WnA.of_own q5_6) (SZ.of_own d5_6) (LwA.of_own q6_6) ).mono ?_
  rintro e w7 ⟨rfl, hb7⟩
  have b7 := step_below hb7 b6
  have B0_7 := B0_6.keep hb7
  have B1_7 := B1_6.keep hb7
  have t7 : Below w7.heap.size w7 w7 := Below.refl _ _
  refine hK.out _ _ ⟨(B0_7.cell (i := 0) rfl), (B0_7.cell (i := 1) rfl), (B1_7.cell (i := 0) rfl), (B1_7.cell (i := 1) rfl)⟩ (fun hS7 => ?_)
  clear hK K
  refine wpAnyH_take (i := 10) (v := .tuple #[.int .i64 r0, .int .i64 r1, .int .i64 r2]) rfl (by kernel_rfl) (by kernel_rfl) (by kernel_rfl) (fun _ _ _ h => h) (Or.inl ⟨by rfl, fun w' _ => by go_simp⟩) hS7 ?_
  change wpAnyH _ _ _ _ _ _ _ (Act.put _ (some 38) _) _
  simp only [Act.put, List.setIfInBounds_toArray, List.set_cons_zero, List.set_cons_succ]
  refine wpAnyH_take (i := 11) (v := .int .i64 r0) rfl (by kernel_rfl) (by kernel_rfl) (by kernel_rfl) (fun _ _ _ h => h) (Or.inl ⟨by rfl, fun w' _ => by go_simp⟩) hS7 ?_
  change wpAnyH _ _ _ _ _ _ _ (Act.put _ (some 49) _) _
  simp only [Act.put, List.setIfInBounds_toArray, List.set_cons_zero, List.set_cons_succ]
  refine wpAnyH_take (i := 12) (v := .int .i64 r1) rfl (by kernel_rfl) (by kernel_rfl) (by kernel_rfl) (fun _ _ _ h => h) (Or.inl ⟨by rfl, fun w' _ => by go_simp⟩) hS7 ?_
  change wpAnyH _ _ _ _ _ _ _ (Act.put _ (some 50) _) _
  simp only [Act.put, List.setIfInBounds_toArray, List.set_cons_zero, List.set_cons_succ]
  refine wpAnyH_take (i := 13) (v := .int .i64 r2) rfl (by kernel_rfl) (by kernel_rfl) (by kernel_rfl) (fun _ _ _ h => h) (Or.inl ⟨by rfl, fun w' _ => by go_simp⟩) hS7 ?_
  change wpAnyH _ _ _ _ _ _ _ (Act.put _ (some 51) _) _
  simp only [Act.put, List.setIfInBounds_toArray, List.set_cons_zero, List.set_cons_succ]
  refine wpAnyH_take (i := 14) (v := .int .i64 r0) rfl (by kernel_rfl) (by kernel_rfl) (by kernel_rfl) (fun _ _ _ h => h) (Or.inl ⟨by rfl, fun w' _ => by go_simp⟩) hS7 ?_
  change wpAnyH _ _ _ _ _ _ _ (Act.put _ (some 14) _) _
  simp only [Act.put, List.setIfInBounds_toArray, List.set_cons_zero, List.set_cons_succ]
  refine wpAnyH_take (i := 15) (v := .int .i64 r1) rfl (by kernel_rfl) (by kernel_rfl) (by kernel_rfl) (fun _ _ _ h => h) (Or.inl ⟨by rfl, fun w' _ => by go_simp⟩) hS7 ?_
  change wpAnyH _ _ _ _ _ _ _ (Act.put _ (some 15) _) _
  simp only [Act.put, List.setIfInBounds_toArray, List.set_cons_zero, List.set_cons_succ]
  refine wpAnyH_take (i := 16) (v := .int .i64 r2) rfl (by kernel_rfl) (by kernel_rfl) (by kernel_rfl) (fun _ _ _ h => h) (Or.inl ⟨by rfl, fun w' _ => by go_simp⟩) hS7 ?_
  change wpAnyH _ _ _ _ _ _ _ (Act.put _ (some 16) _) _
  simp only [Act.put, List.setIfInBounds_toArray, List.set_cons_zero, List.set_cons_succ]
  refine wpAnyH_done (by kernel_rfl) ?_ _
  have pf52_0 := B0_7.cell (i := 0) rfl
  have pf52_1 := B0_7.cell (i := 1) rfl
  go_wp2_with fail
  clear pf52_0 pf52_1
  refine (toFrame_any s0 A0 c0 l0 _ (hA0.below b7) hn0).mono ?_
  rintro e w8 ⟨g8, rfl, hg8, own8, hb8⟩
  have b8 := step_below hb8 b7
  have B0_8 := B0_7.keep hb8
  have B1_8 := B1_7.keep hb8
  have t8 := step_below hb8 t7
  have gl8 : g8 < w8.heap.size := (own8.lt g8 rfl).2
  have q8_8 := own8
  go_upto_region 13 with fail
  obtain ⟨w9, hX9⟩ : ∃ X, X = w8.alloc (.cells #[.int .i16 s0, .slice (some ⟨g8, 0, none⟩) l0.length l0.length] 39) := ⟨_, rfl⟩
  have hb9 : Below w8.heap.size w8 w9 := by rw [hX9]; exact (Below.refl _ _).alloc (Nat.le_refl _) _
  have K9 : Bk w9 w8.heap.size 39 #[.int .i16 s0, .slice (some ⟨g8, 0, none⟩) l0.length l0.length] := by rw [hX9]; exact Bk.new _ _ _ rfl
  rw [← hX9]
  clear hX9
  have b9 := step_below hb9 b8
  have B0_9 := B0_8.keep hb9
  have B1_9 := B1_8.keep hb9
  have q8_9 := own_keep q8_8 hb9
  have t9 := step_below hb9 t8
  have Y0_9 := K9
  have yw0 : w8.heap.size < w9.heap.size := K9.lt
  have pf54_0 := B1_9.cell (i := 0) rfl
  have pf54_1 := B1_9.cell (i := 1) rfl
  go_wp2_with fail
  clear pf54_0 pf54_1
  refine (toWear_any A1 c1 l1 U1 v1 z1 _ (hA1.below b9) (hU1.below b9) hn1.1 hn1.2).mono ?_
  rintro e w10 ⟨g10, m10, rfl, hg10, hgm10, own10, owm10, hb10⟩
  have b10 := step_below hb10 b9
  have B0_10 := B0_9.keep hb10
  have B1_10 := B1_9.keep hb10
  have Y0_10 := Y0_9.keep hb10
  have q8_10 := own_keep q8_9 hb10
  have t10 := step_below hb10 t9
  have gl10 : g10 < w10.heap.size := (own10.lt g10 rfl).2
  have gm10 : m10 < w10.heap.size := (owm10.lt m10 rfl).2
  have q10_10 := own10
  have d10_10 := owm10
  go_upto_region 14 with fail
  obtain ⟨w11, hX11⟩ : ∃ X, X = w10.alloc (.cells #[.slice (some ⟨g10, 0, none⟩) l1.length l1.length, .slice (some ⟨m10, 0, none⟩) z1.length z1.length] 34) := ⟨_, rfl⟩
  have hb11 : Below w10.heap.size w10 w11 := by rw [hX11]; exact (Below.refl _ _).alloc (Nat.le_refl _) _
  have K11 : Bk w11 w10.heap.size 34 #[.slice (some ⟨g10, 0, none⟩) l1.length l1.length, .slice (some ⟨m10, 0, none⟩) z1.length z1.length] := by rw [hX11]; exact Bk.new _ _ _ rfl
  rw [← hX11]
  clear hX11
  have b11 := step_below hb11 b10
  have B0_11 := B0_10.keep hb11
  have B1_11 := B1_10.keep hb11
  have Y0_11 := Y0_10.keep hb11
  have q8_11 := own_keep q8_10 hb11
  have q10_11 := own_keep q10_10 hb11
  have d10_11 := own_keep d10_10 hb11
  have t11 := step_below hb11 t10
  have Y1_11 := K11
  have yw1 : w10.heap.size < w11.heap.size := K11.lt
  go_wp2_with fail
  refine (toLivesS_ex A5 c5 l5 _ (hA5.below b11) hn5).mono ?_
  rintro e w12 ⟨g12, rfl, hg12, own12, hb12⟩
  have b12 := step_below hb12 b11
  have B0_12 := B0_11.keep hb12
  have B1_12 := B1_11.keep hb12
  have Y0_12 := Y0_11.keep hb12
  have Y1_12 := Y1_11.keep hb12
  have q8_12 := own_keep q8_11 hb12
  have q10_12 := own_keep q10_11 hb12
  have d10_12 := own_keep d10_11 hb12
  have t12 := step_below hb12 t11
  have gl12 : g12 < w12.heap.size := (own12.lt g12 rfl).2
  have q12_12 := own12
  have pf59_0 := Y0_12.cell (i := 0) rfl
  have pf59_1 := Y0_12.cell (i := 1) rfl
  have pf60_0 := Y1_12.cell (i := 0) rfl
  have pf60_1 := Y1_12.cell (i := 1) rfl
  go_wp2_with fail
  clear pf59_0 pf59_1 pf60_0 pf60_1
  refine (KI _ _ _ _ _ (HA.of_own q8_12) (WnA.of_own q10_12) (SZ.of_own d10_12) (LwA.of_own q12_12) ).mono ?_
  rintro e w13 ⟨rfl, hb13⟩
  have b13 := step_below hb13 b12
  have B0_13 := B0_12.keep hb13
  have B1_13 := B1_12.keep hb13
  have Y0_13 := Y0_12.keep hb13
  have Y1_13 := Y1_12.keep hb13
  have q8_13 := own_keep q8_12 hb13
  have q10_13 := own_keep q10_12 hb13
  have d10_13 := own_keep d10_12 hb13
  have q12_13 := own_keep q12_12 hb13
  have t13 := step_below hb13 t12
  go_wp2_with fail
  have hb14 : Below w13.heap.size w13 w13.drew := (Below.refl _ _).drew
  have b14 := step_below hb14 b13
  have B0_14 := B0_13.keep hb14
  have B1_14 := B1_13.keep hb14
  have Y0_14 := Y0_13.keep hb14
  have Y1_14 := Y1_13.keep hb14
  have q8_14 := own_keep q8_13 hb14
  have q10_14 := own_keep q10_13 hb14
  have d10_14 := own_keep d10_13 hb14
  have q12_14 := own_keep q12_13 hb14
  have t14 := step_below hb14 t13
  refine wp_region_held_drew (S := fun w' => w'.cell? ⟨w8.heap.size, 0, none⟩ = some (.int .i16 s0) ∧ w'.cell? ⟨w8.heap.size, 1, none⟩ = some (.slice (some ⟨g8, 0, none⟩) l0.length l0.length) ∧ w'.cell? ⟨w.heap.size, 0, none⟩ = some (.int .i16 s0) ∧ w'.cell? ⟨w.heap.size, 1, none⟩ = some (.slice A0 l0.length c0)) (by kernel_rfl) ⟨(Y0_14.cell (i := 0) rfl), (Y0_14.cell (i := 1) rfl), (B0_14.cell (i := 0) rfl), (B0_14.cell (i := 1) rfl)⟩ fun hS14 => ?_
  refine wpAnyH_take (i := 0) (v := .agg #[.int .i16 s0, .slice (some ⟨g8, 0, none⟩) l0.length l0.length]) rfl (by kernel_rfl) (by kernel_rfl) (by kernel_rfl) (fun _ _ _ h => h) (Or.inl ⟨by rfl, fun w' h => ?_⟩) hS14 ?_
  · have c0 := h.1
    have c1 := h.2.1
    clear h
    go_simp
  simp only [Act.put, List.setIfInBounds_toArray, List.set_cons_zero, List.set_cons_succ]
  refine wpAnyH_take (i := 1) (v := .agg #[.int .i16 s0, .slice A0 l0.length c0]) rfl (by kernel_rfl) (by kernel_rfl) (by kernel_rfl) (fun _ _ _ h => h) (Or.inl ⟨by rfl, fun w' h => ?_⟩) hS14 ?_
  · have c0 := h.2.2.1
    have c1 := h.2.2.2
    clear h
    go_simp
  simp only [Act.put, List.setIfInBounds_toArray, List.set_cons_zero, List.set_cons_succ]
  refine wpAnyH_ready (rs := [2]) (by kernel_rfl) (by simp) (AllReadyH.cons rfl ?_ AllReadyH.nil)
  intro K hK
  rw [if_pos (by rfl)]
  go_simp
  refine (toFrame_any s0 A0 c0 l0 _ (hA0.below b14) hn0).mono ?_
  rintro e w15 ⟨g15, rfl, hg15, own15, hb15⟩
  have b15 := step_below hb15 b14
  have B0_15 := B0_14.keep hb15
  have B1_15 := B1_14.keep hb15
  have Y0_15 := Y0_14.keep hb15
  have Y1_15 := Y1_14.keep hb15
  have q8_15 := own_keep q8_14 hb15
  have q10_15 := own_keep q10_14 hb15
  have d10_15 := own_keep d10_14 hb15
  have q12_15 := own_keep q12_14 hb15
  have t15 := step_below hb15 t14
  have gl15 : g15 < w15.heap.size := (own15.lt g15 rfl).2
  have q15_15 := own15
  refine hK.out _ _ ⟨(Y0_15.cell (i := 0) rfl), (Y0_15.cell (i := 1) rfl), (B0_15.cell (i := 0) rfl), (B0_15.cell (i := 1) rfl)⟩ (fun hS15 => ?_)
  clear hK K
  refine wpAnyH_ready (rs := [3]) (by kernel_rfl) (by simp) (AllReadyH.cons rfl ?_ AllReadyH.nil)
  intro K hK
  rw [if_pos (by rfl)]
  go_simp
  refine (eqFrame_any s0 _ _ _ _ l0 _ (HA.of_own q8_15) (HA.of_own q15_15) hn0).mono ?_
  rintro e w16 ⟨rfl, hb16⟩
  have b16 := step_below hb16 b15
  have B0_16 := B0_15.keep hb16
  have B1_16 := B1_15.keep hb16
  have Y0_16 := Y0_15.keep hb16
  have Y1_16 := Y1_15.keep hb16
  have q8_16 := own_keep q8_15 hb16
  have q10_16 := own_keep q10_15 hb16
  have d10_16 := own_keep d10_15 hb16
  have q12_16 := own_keep q12_15 hb16
  have t16 := step_below hb16 t15
  refine hK.out _ _ ⟨(Y0_16.cell (i := 0) rfl), (Y0_16.cell (i := 1) rfl), (B0_16.cell (i := 0) rfl), (B0_16.cell (i := 1) rfl)⟩ (fun hS16 => ?_)
  clear hK K
  refine wpAnyH_take (i := 4) (v := .bool false) rfl (by kernel_rfl) (by kernel_rfl) (by kernel_rfl) (fun _ _ _ h => h) (Or.inl ⟨by rfl, fun w' _ => by go_simp⟩) hS16 ?_
  change wpAnyH _ _ _ _ _ _ _ (Act.put _ (some 86) _) _
  simp only [Act.put, List.setIfInBounds_toArray, List.set_cons_zero, List.set_cons_succ]
  refine wpAnyH_done (by kernel_rfl) ?_ _
  go_wp2_with fail
  have hb17 : Below w16.heap.size w16 w16.drew := (Below.refl _ _).drew
  have b17 := step_below hb17 b16
  have B0_17 := B0_16.keep hb17
  have B1_17 := B1_16.keep hb17
  have Y0_17 := Y0_16.keep hb17
  have Y1_17 := Y1_16.keep hb17
  have q8_17 := own_keep q8_16 hb17
  have q10_17 := own_keep q10_16 hb17
  have d10_17 := own_keep d10_16 hb17
  have q12_17 := own_keep q12_16 hb17
  have t17 := step_below hb17 t16
  refine wp_region_held_drew (S := fun w' => w'.cell? ⟨w10.heap.size, 0, none⟩ = some (.slice (some ⟨g10, 0, none⟩) l1.length l1.length) ∧ w'.cell? ⟨w10.heap.size, 1, none⟩ = some (.slice (some ⟨m10, 0, none⟩) z1.length z1.length) ∧ w'.cell? ⟨w.heap.size + 1, 0, none⟩ = some (.slice A1 l1.length c1) ∧ w'.cell? ⟨w.heap.size + 1, 1, none⟩ = some (.slice U1 z1.length v1)) (by kernel_rfl) ⟨(Y1_17.cell (i := 0) rfl), (Y1_17.cell (i := 1) rfl), (B1_17.cell (i := 0) rfl), (B1_17.cell (i := 1) rfl)⟩ fun hS17 => ?_
  refine wpAnyH_take (i := 0) (v := .agg #[.slice (some ⟨g10, 0, none⟩) l1.length l1.length, .slice (some ⟨m10, 0, none⟩) z1.length z1.length]) rfl (by kernel_rfl) (by kernel_rfl) (by kernel_rfl) (fun _ _ _ h => h) (Or.inl ⟨by rfl, fun w' h => ?_⟩) hS17 ?_
  · have c0 := h.1
    have c1 := h.2.1
    clear h
    go_simp
  simp only [Act.put, List.setIfInBounds_toArray, List.set_cons_zero, List.set_cons_succ]
  refine wpAnyH_take (i := 1) (v := .agg #[.slice A1 l1.length c1, .slice U1 z1.length v1]) rfl (by kernel_rfl) (by kernel_rfl) (by kernel_rfl) (fun _ _ _ h => h) (Or.inl ⟨by rfl, fun w' h => ?_⟩) hS17 ?_
  · have c0 := h.2.2.1
    have c1 := h.2.2.2
    clear h
    go_simp
  simp only [Act.put, List.setIfInBounds_toArray, List.set_cons_zero, List.set_cons_succ]
  refine wpAnyH_ready (rs := [2]) (by kernel_rfl) (by simp) (AllReadyH.cons rfl ?_ AllReadyH.nil)
  intro K hK
  rw [if_pos (by rfl)]
  go_simp
  refine (toWear_any A1 c1 l1 U1 v1 z1 _ (hA1.below b17) (hU1.below b17) hn1.1 hn1.2).mono ?_
  rintro e w18 ⟨g18, m18, rfl, hg18, hgm18, own18, owm18, hb18⟩
  have b18 := step_below hb18 b17
  have B0_18 := B0_17.keep hb18
  have B1_18 := B1_17.keep hb18
  have Y0_18 := Y0_17.keep hb18
  have Y1_18 := Y1_17.keep hb18
  have q8_18 := own_keep q8_17 hb18
  have q10_18 := own_keep q10_17 hb18
  have d10_18 := own_keep d10_17 hb18
  have q12_18 := own_keep q12_17 hb18
  have t18 := step_below hb18 t17
  have gl18 : g18 < w18.heap.size := (own18.lt g18 rfl).2
  have gm18 : m18 < w18.heap.size := (owm18.lt m18 rfl).2
  have q18_18 := own18
  have d18_18 := owm18
  refine hK.out _ _ ⟨(Y1_18.cell (i := 0) rfl), (Y1_18.cell (i := 1) rfl), (B1_18.cell (i := 0) rfl), (B1_18.cell (i := 1) rfl)⟩ (fun hS18 => ?_)
  clear hK K
  refine wpAnyH_ready (rs := [3]) (by kernel_rfl) (by simp) (AllReadyH.cons rfl ?_ AllReadyH.nil)
  intro K hK
  rw [if_pos (by rfl)]
  go_simp
  refine (eqWear_self _ _ _ _ l1 _ _ _ _ z1 _ (WnA.of_own q10_18) (WnA.of_own q18_18) (SI.of_own d10_18) (SI.of_own d18_18) hn1.1 hn1.2).mono ?_
  rintro e w19 ⟨rfl, hb19⟩
  have b19 := step_below hb19 b18
  have B0_19 := B0_18.keep hb19
  have B1_19 := B1_18.keep hb19
  have Y0_19 := Y0_18.keep hb19
  have Y1_19 := Y1_18.keep hb19
  have q8_19 := own_keep q8_18 hb19
  have q10_19 := own_keep q10_18 hb19
  have d10_19 := own_keep d10_18 hb19
  have q12_19 := own_keep q12_18 hb19
  have t19 := step_below hb19 t18
  refine hK.out _ _ ⟨(Y1_19.cell (i := 0) rfl), (Y1_19.cell (i := 1) rfl), (B1_19.cell (i := 0) rfl), (B1_19.cell (i := 1) rfl)⟩ (fun hS19 => ?_)
  clear hK K
  refine wpAnyH_take (i := 4) (v := .bool false) rfl (by kernel_rfl) (by kernel_rfl) (by kernel_rfl) (fun _ _ _ h => h) (Or.inl ⟨by rfl, fun w' _ => by go_simp⟩) hS19 ?_
  change wpAnyH _ _ _ _ _ _ _ (Act.put _ (some 91) _) _
  simp only [Act.put, List.setIfInBounds_toArray, List.set_cons_zero, List.set_cons_succ]
  refine wpAnyH_done (by kernel_rfl) ?_ _
  go_wp2_with fail
  refine (toLivesS_ex A5 c5 l5 _ (hA5.below b19) hn5).mono ?_
  rintro e w20 ⟨g20, rfl, hg20, own20, hb20⟩
  have b20 := step_below hb20 b19
  have B0_20 := B0_19.keep hb20
  have B1_20 := B1_19.keep hb20
  have Y0_20 := Y0_19.keep hb20
  have Y1_20 := Y1_19.keep hb20
  have q8_20 := own_keep q8_19 hb20
  have q10_20 := own_keep q10_19 hb20
  have d10_20 := own_keep d10_19 hb20
  have q12_20 := own_keep q12_19 hb20
  have t20 := step_below hb20 t19
  have gl20 : g20 < w20.heap.size := (own20.lt g20 rfl).2
  have q20_20 := own20
  go_wp2_with fail
  refine (eqLivesS_self _ _ _ _ l5 _ (LwA.of_own q12_20) (LwA.of_own q20_20) hn5).mono ?_
  rintro e w21 ⟨rfl, hb21⟩
  have b21 := step_below hb21 b20
  have B0_21 := B0_20.keep hb21
  have B1_21 := B1_20.keep hb21
  have Y0_21 := Y0_20.keep hb21
  have Y1_21 := Y1_20.keep hb21
  have q8_21 := own_keep q8_20 hb21
  have q10_21 := own_keep q10_20 hb21
  have d10_21 := own_keep d10_20 hb21
  have q12_21 := own_keep q12_20 hb21
  have t21 := step_below hb21 t20
  go_wp2
  go_ret
  exact ⟨rfl, b21⟩
theorem lawCheapestLives_any (s0 : Int) (A0 : Option Addr) (c0 : Nat) (l0 : List (Int × Int)) (A1 : Option Addr) (c1 : Nat) (l1 : List (Int × Int × Int)) (U1 : Option Addr) (v1 : Nat) (z1 : List Int) (x2 : Int) (x3 : Int) (x4 : Int) (A5 : Option Addr) (c5 : Nat) (l5 : List (Int × Int)) (w : World) (hA0 : HA w A0 l0) (hwf0 : HWF l0) (hs0 : -32768 ≤ s0 ∧ s0 ≤ 32767) (hA1 : WnA w A1 l1) (hU1 : SZ w U1 z1) (hwf1 : WnWF l1) (hzwf1 : ZWF z1) (hA5 : LwA w A5 l5) (hwf5 : LwWF l5) (hm0 : l0.length ≤ maxLen) (hm1 : l1.length ≤ maxLen ∧ z1.length ≤ maxLen) (hm5 : l5.length ≤ maxLen) (_hx2 : -9223372036854775808 ≤ x2 ∧ x2 ≤ 9223372036854775807) (_hx3 : -9223372036854775808 ≤ x3 ∧ x3 ≤ 9223372036854775807) (_hx4 : -9223372036854775808 ≤ x4 ∧ x4 ≤ 9223372036854775807) :
    Calls Tryz.prog 9 #[.agg #[.int .i16 s0, .slice A0 l0.length c0], .agg #[.slice A1 l1.length c1, .slice U1 z1.length v1], .int .i64 x2, .int .i64 x3, .int .i64 x4, .slice A5 l5.length c5] w (Says true w) := by
  rcases Nat.lt_or_ge 1048576 (l0.length) with h0 | h0
  · exact lawCheapestLives_big0 s0 A0 c0 l0 A1 c1 l1 U1 v1 z1 x2 x3 x4 A5 c5 l5 w  h0 hm0 hm1 hm5
  rcases Nat.lt_or_ge 1048576 (l0.length + (l1.length + z1.length)) with h1 | h1
  · exact lawCheapestLives_big1 s0 A0 c0 l0 A1 c1 l1 U1 v1 z1 x2 x3 x4 A5 c5 l5 w h0 h1 hm0 hm1 hm5
  rcases Nat.lt_or_ge 1048576 (l0.length + (l1.length + z1.length) + l5.length) with h2 | h2
  · exact lawCheapestLives_big2 s0 A0 c0 l0 A1 c1 l1 U1 v1 z1 x2 x3 x4 A5 c5 l5 w h0 h1 h2 hm0 hm1 hm5
  exact lawCheapestLives_small s0 A0 c0 l0 A1 c1 l1 U1 v1 z1 x2 x3 x4 A5 c5 l5 w hA0 hwf0 hs0 hA1 hU1 hwf1 hzwf1 hA5 hwf5 h0 h1 h2 hm0 hm1 hm5 
end Go.Proofs.YtcocfnjbgceidaaGreat
