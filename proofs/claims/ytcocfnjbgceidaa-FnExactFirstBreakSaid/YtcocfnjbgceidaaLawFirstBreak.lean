import Derived.Test.YtcocfnjbgceidaaGad
import Derived.Test.YtcocfnjbgceidaaGaf
import Derived.Test.YtcocfnjbgceidaaGak
import Derived.Test.YtcocfnjbgceidaaFbi
import Derived.Test.YtcocfnjbgceidaaFbs
import Derived.Test.YtcocfnjbgceidaaAct
import Derived.Test.YtcocfnjbgceidaaGbl
import Derived.Deep.RegionHeld3
import Derived.Deep.CutRange
namespace Go.Proofs.Ytcocfnjbgceidaa
open Go.RowKit

set_option maxRecDepth 20000 in
set_option maxHeartbeats 1000000 in
theorem lawFirstBreak_big0 (s0 : Int) (A0 : Option Addr) (c0 : Nat) (l0 : List (Int × Int)) (A1 : Option Addr) (c1 : Nat) (l1 : List (Int × Int × Int)) (U1 : Option Addr) (v1 : Nat) (z1 : List Int) (x2_0 : Int) (x2_1 : Int) (A3 : Option Addr) (c3 : Nat) (l3 : List (Int × Int × Int × Int × Int)) (w : World)  (hbg : 1048576 < l0.length) (hm0 : l0.length ≤ maxLen) (hm1 : l1.length ≤ maxLen ∧ z1.length ≤ maxLen) (hm3 : l3.length ≤ maxLen) :
    Calls Try.prog 6 #[.agg #[.int .i16 s0, .slice A0 l0.length c0], .agg #[.slice A1 l1.length c1, .slice U1 z1.length v1], .agg #[.int .i64 x2_0, .int .i64 x2_1], .slice A3 l3.length c3] w (Says true w) := by
  obtain ⟨X0, hX0⟩ : ∃ X, X = (((w.alloc (.cells #[.int .i16 s0, .slice A0 l0.length c0] 46)).alloc (.cells #[.slice A1 l1.length c1, .slice U1 z1.length v1] 50)).alloc (.cells #[.int .i64 x2_0, .int .i64 x2_1] 52)) := ⟨_, rfl⟩
  have b0 : Below w.heap.size w X0 := by rw [hX0]; exact ((((Below.refl _ _).alloc (Nat.le_refl _) _).alloc (by simp) _).alloc (by simp; omega) _)
  have B0_0 : Bk X0 (w.heap.size) 46 #[.int .i16 s0, .slice A0 l0.length c0] := by rw [hX0]; exact Bk.new _ _ _ rfl |>.old _ |>.old _
  have bw0 : w.heap.size < X0.heap.size := B0_0.lt
  have B1_0 : Bk X0 (w.heap.size + 1) 50 #[.slice A1 l1.length c1, .slice U1 z1.length v1] := by rw [hX0]; exact Bk.new _ _ _ (by simp) |>.old _
  have bw1 : w.heap.size + 1 < X0.heap.size := B1_0.lt
  have B2_0 : Bk X0 (w.heap.size + 1 + 1) 52 #[.int .i64 x2_0, .int .i64 x2_1] := by rw [hX0]; exact Bk.new _ _ _ (by simp)
  have bw2 : w.heap.size + 1 + 1 < X0.heap.size := B2_0.lt
  go_enter Try.func6, Try.ntmps6
  go_upto_region 1 with fail
  rw [← hX0]
  clear hX0
  have pf17_0 := B0_0.cell (i := 0) rfl
  have pf17_1 := B0_0.cell (i := 1) rfl
  go_wp2_with fail
  clear pf17_0 pf17_1
  refine (szFrame_at_big s0 A0 l0.length c0 (1048576) (by omega) (by omega) hm0 (by omega) _).mono ?_
  rintro e w1 ⟨rfl, hb1⟩
  have b1 := step_below hb1 b0
  go_wp2
  go_ret
  exact ⟨rfl, b1⟩
set_option maxRecDepth 20000 in
set_option maxHeartbeats 1000000 in
theorem lawFirstBreak_big1 (s0 : Int) (A0 : Option Addr) (c0 : Nat) (l0 : List (Int × Int)) (A1 : Option Addr) (c1 : Nat) (l1 : List (Int × Int × Int)) (U1 : Option Addr) (v1 : Nat) (z1 : List Int) (x2_0 : Int) (x2_1 : Int) (A3 : Option Addr) (c3 : Nat) (l3 : List (Int × Int × Int × Int × Int)) (w : World) (hc0 : l0.length ≤ 1048576) (hbg : 1048576 < l0.length + (l1.length + z1.length)) (hm0 : l0.length ≤ maxLen) (hm1 : l1.length ≤ maxLen ∧ z1.length ≤ maxLen) (hm3 : l3.length ≤ maxLen) :
    Calls Try.prog 6 #[.agg #[.int .i16 s0, .slice A0 l0.length c0], .agg #[.slice A1 l1.length c1, .slice U1 z1.length v1], .agg #[.int .i64 x2_0, .int .i64 x2_1], .slice A3 l3.length c3] w (Says true w) := by
  obtain ⟨X0, hX0⟩ : ∃ X, X = (((w.alloc (.cells #[.int .i16 s0, .slice A0 l0.length c0] 46)).alloc (.cells #[.slice A1 l1.length c1, .slice U1 z1.length v1] 50)).alloc (.cells #[.int .i64 x2_0, .int .i64 x2_1] 52)) := ⟨_, rfl⟩
  have b0 : Below w.heap.size w X0 := by rw [hX0]; exact ((((Below.refl _ _).alloc (Nat.le_refl _) _).alloc (by simp) _).alloc (by simp; omega) _)
  have B0_0 : Bk X0 (w.heap.size) 46 #[.int .i16 s0, .slice A0 l0.length c0] := by rw [hX0]; exact Bk.new _ _ _ rfl |>.old _ |>.old _
  have bw0 : w.heap.size < X0.heap.size := B0_0.lt
  have B1_0 : Bk X0 (w.heap.size + 1) 50 #[.slice A1 l1.length c1, .slice U1 z1.length v1] := by rw [hX0]; exact Bk.new _ _ _ (by simp) |>.old _
  have bw1 : w.heap.size + 1 < X0.heap.size := B1_0.lt
  have B2_0 : Bk X0 (w.heap.size + 1 + 1) 52 #[.int .i64 x2_0, .int .i64 x2_1] := by rw [hX0]; exact Bk.new _ _ _ (by simp)
  have bw2 : w.heap.size + 1 + 1 < X0.heap.size := B2_0.lt
  go_enter Try.func6, Try.ntmps6
  go_upto_region 1 with fail
  rw [← hX0]
  clear hX0
  have pf17_0 := B0_0.cell (i := 0) rfl
  have pf17_1 := B0_0.cell (i := 1) rfl
  go_wp2_with fail
  clear pf17_0 pf17_1
  refine (szFrame_at_small s0 A0 l0.length c0 (1048576) (by omega) (by omega) hm0 (by omega) _).mono ?_
  rintro e w1 ⟨rfl, hb1⟩
  have b1 := step_below hb1 b0
  have B0_1 := B0_0.keep hb1
  have B1_1 := B1_0.keep hb1
  have B2_1 := B2_0.keep hb1
  have pf22_0 := B1_1.cell (i := 0) rfl
  have pf22_1 := B1_1.cell (i := 1) rfl
  go_wp2_with fail
  clear pf22_0 pf22_1
  refine (szWear_big A1 l1.length c1 U1 z1.length v1 (1048576 - (l0.length : Int)) (by omega) (by omega) hm1.1 hm1.2 (by omega) _).mono ?_
  rintro e w2 ⟨rfl, hb2⟩
  have b2 := step_below hb2 b1
  go_wp2
  go_ret
  exact ⟨rfl, b2⟩
set_option maxRecDepth 20000 in
set_option maxHeartbeats 1000000 in
theorem lawFirstBreak_big2 (s0 : Int) (A0 : Option Addr) (c0 : Nat) (l0 : List (Int × Int)) (A1 : Option Addr) (c1 : Nat) (l1 : List (Int × Int × Int)) (U1 : Option Addr) (v1 : Nat) (z1 : List Int) (x2_0 : Int) (x2_1 : Int) (A3 : Option Addr) (c3 : Nat) (l3 : List (Int × Int × Int × Int × Int)) (w : World) (hc0 : l0.length ≤ 1048576) (hc1 : l0.length + (l1.length + z1.length) ≤ 1048576) (hbg : 1048576 < l0.length + (l1.length + z1.length) + l3.length) (hm0 : l0.length ≤ maxLen) (hm1 : l1.length ≤ maxLen ∧ z1.length ≤ maxLen) (hm3 : l3.length ≤ maxLen) :
    Calls Try.prog 6 #[.agg #[.int .i16 s0, .slice A0 l0.length c0], .agg #[.slice A1 l1.length c1, .slice U1 z1.length v1], .agg #[.int .i64 x2_0, .int .i64 x2_1], .slice A3 l3.length c3] w (Says true w) := by
  obtain ⟨X0, hX0⟩ : ∃ X, X = (((w.alloc (.cells #[.int .i16 s0, .slice A0 l0.length c0] 46)).alloc (.cells #[.slice A1 l1.length c1, .slice U1 z1.length v1] 50)).alloc (.cells #[.int .i64 x2_0, .int .i64 x2_1] 52)) := ⟨_, rfl⟩
  have b0 : Below w.heap.size w X0 := by rw [hX0]; exact ((((Below.refl _ _).alloc (Nat.le_refl _) _).alloc (by simp) _).alloc (by simp; omega) _)
  have B0_0 : Bk X0 (w.heap.size) 46 #[.int .i16 s0, .slice A0 l0.length c0] := by rw [hX0]; exact Bk.new _ _ _ rfl |>.old _ |>.old _
  have bw0 : w.heap.size < X0.heap.size := B0_0.lt
  have B1_0 : Bk X0 (w.heap.size + 1) 50 #[.slice A1 l1.length c1, .slice U1 z1.length v1] := by rw [hX0]; exact Bk.new _ _ _ (by simp) |>.old _
  have bw1 : w.heap.size + 1 < X0.heap.size := B1_0.lt
  have B2_0 : Bk X0 (w.heap.size + 1 + 1) 52 #[.int .i64 x2_0, .int .i64 x2_1] := by rw [hX0]; exact Bk.new _ _ _ (by simp)
  have bw2 : w.heap.size + 1 + 1 < X0.heap.size := B2_0.lt
  go_enter Try.func6, Try.ntmps6
  go_upto_region 1 with fail
  rw [← hX0]
  clear hX0
  have pf17_0 := B0_0.cell (i := 0) rfl
  have pf17_1 := B0_0.cell (i := 1) rfl
  go_wp2_with fail
  clear pf17_0 pf17_1
  refine (szFrame_at_small s0 A0 l0.length c0 (1048576) (by omega) (by omega) hm0 (by omega) _).mono ?_
  rintro e w1 ⟨rfl, hb1⟩
  have b1 := step_below hb1 b0
  have B0_1 := B0_0.keep hb1
  have B1_1 := B1_0.keep hb1
  have B2_1 := B2_0.keep hb1
  have pf22_0 := B1_1.cell (i := 0) rfl
  have pf22_1 := B1_1.cell (i := 1) rfl
  go_wp2_with fail
  clear pf22_0 pf22_1
  refine (szWear_small A1 l1.length c1 U1 z1.length v1 (1048576 - (l0.length : Int)) (by omega) (by omega) hm1.1 hm1.2 (by omega) _).mono ?_
  rintro e w2 ⟨rfl, hb2⟩
  have b2 := step_below hb2 b1
  have B0_2 := B0_1.keep hb2
  have B1_2 := B1_1.keep hb2
  have B2_2 := B2_1.keep hb2
  go_wp2_with fail
  refine (szActS_big A3 l3.length c3 (1048576 - (l0.length : Int) - ((l1.length + z1.length) : Int)) (by omega) (by omega) hm3 (by omega) _).mono ?_
  rintro e w3 ⟨rfl, rfl⟩
  go_wp2
  go_ret
  exact ⟨rfl, b2⟩
set_option maxRecDepth 20000 in
set_option maxHeartbeats 16000000 in
theorem lawFirstBreak_small (s0 : Int) (A0 : Option Addr) (c0 : Nat) (l0 : List (Int × Int)) (A1 : Option Addr) (c1 : Nat) (l1 : List (Int × Int × Int)) (U1 : Option Addr) (v1 : Nat) (z1 : List Int) (x2_0 : Int) (x2_1 : Int) (A3 : Option Addr) (c3 : Nat) (l3 : List (Int × Int × Int × Int × Int)) (w : World) (hA0 : HA w A0 l0) (hwf0 : HWF l0) (hs0 : -32768 ≤ s0 ∧ s0 ≤ 32767) (hA1 : WnA w A1 l1) (hU1 : SZ w U1 z1) (hwf1 : WnWF l1) (hzwf1 : ZWF z1) (hv2 : LvWF x2_0 x2_1) (hA3 : AcA w A3 l3) (hwf3 : AcWF l3) (hc0 : l0.length ≤ 1048576) (hc1 : l0.length + (l1.length + z1.length) ≤ 1048576) (hc2 : l0.length + (l1.length + z1.length) + l3.length ≤ 1048576) (hm0 : l0.length ≤ maxLen) (hm1 : l1.length ≤ maxLen ∧ z1.length ≤ maxLen) (hm3 : l3.length ≤ maxLen) :
    Calls Try.prog 6 #[.agg #[.int .i16 s0, .slice A0 l0.length c0], .agg #[.slice A1 l1.length c1, .slice U1 z1.length v1], .agg #[.int .i64 x2_0, .int .i64 x2_1], .slice A3 l3.length c3] w (Says true w) := by
  have hn0 : l0.length ≤ 1048576 := by omega
  have hn1 : l1.length ≤ 1048576 ∧ z1.length ≤ 1048576 := ⟨by omega, by omega⟩
  have hn3 : l3.length ≤ 1048576 := by omega
  obtain ⟨r0, hr0⟩ : ∃ r : Int, r = fbI s0 l0 l1 z1 x2_0 x2_1 l3 := ⟨_, rfl⟩
  obtain ⟨r1, hr1⟩ : ∃ r : Int, r = fbC s0 l0 l1 z1 x2_0 x2_1 l3 := ⟨_, rfl⟩
  have KS : ∀ (E0 : Option Addr) (E1 O1 : Option Addr) (E3 : Option Addr) (W : World), HA W E0 l0 → WnA W E1 l1 → SZ W O1 z1 → AcA W E3 l3 → Calls Try.prog 25 #[.agg #[.int .i16 s0, .slice E0 l0.length l0.length], .agg #[.slice E1 l1.length l1.length, .slice O1 z1.length z1.length], .agg #[.int .i64 x2_0, .int .i64 x2_1], .slice E3 l3.length l3.length] W (fun e w' => e = .returned (.tuple #[.int .i64 r0, .int .i64 r1]) ∧ Below W.heap.size W w') := fun E0 E1 O1 E3 W h0 h1 h1z h3 => by rw [hr0, hr1]; exact specFirstBreak_any s0 E0 l0.length l0 E1 l1.length l1 O1 z1.length z1 x2_0 x2_1 E3 l3.length l3 W h0 hn0 hwf0 hs0 h1 h1z hn1.1 hn1.2 hwf1 hzwf1 hv2 h3 hn3 hwf3
  have KI : ∀ (E0 : Option Addr) (E1 O1 : Option Addr) (E3 : Option Addr) (W : World), HA W E0 l0 → WnA W E1 l1 → SZ W O1 z1 → AcA W E3 l3 → Calls Try.prog 30 #[.agg #[.int .i16 s0, .slice E0 l0.length l0.length], .agg #[.slice E1 l1.length l1.length, .slice O1 z1.length z1.length], .agg #[.int .i64 x2_0, .int .i64 x2_1], .slice E3 l3.length l3.length] W (fun e w' => e = .returned (.tuple #[.int .i64 r0, .int .i64 r1]) ∧ Below W.heap.size W w') := fun E0 E1 O1 E3 W h0 h1 h1z h3 => by rw [hr0, hr1]; exact implFirstBreak_any s0 E0 l0.length l0 E1 l1.length l1 O1 z1.length z1 x2_0 x2_1 E3 l3.length l3 W h0 hn0 hwf0 hs0 h1 h1z hn1.1 hn1.2 hwf1 hzwf1 hv2 h3 hn3 hwf3
  clear hr0 hr1
  obtain ⟨X0, hX0⟩ : ∃ X, X = (((w.alloc (.cells #[.int .i16 s0, .slice A0 l0.length c0] 46)).alloc (.cells #[.slice A1 l1.length c1, .slice U1 z1.length v1] 50)).alloc (.cells #[.int .i64 x2_0, .int .i64 x2_1] 52)) := ⟨_, rfl⟩
  have b0 : Below w.heap.size w X0 := by rw [hX0]; exact ((((Below.refl _ _).alloc (Nat.le_refl _) _).alloc (by simp) _).alloc (by simp; omega) _)
  have B0_0 : Bk X0 (w.heap.size) 46 #[.int .i16 s0, .slice A0 l0.length c0] := by rw [hX0]; exact Bk.new _ _ _ rfl |>.old _ |>.old _
  have bw0 : w.heap.size < X0.heap.size := B0_0.lt
  have B1_0 : Bk X0 (w.heap.size + 1) 50 #[.slice A1 l1.length c1, .slice U1 z1.length v1] := by rw [hX0]; exact Bk.new _ _ _ (by simp) |>.old _
  have bw1 : w.heap.size + 1 < X0.heap.size := B1_0.lt
  have B2_0 : Bk X0 (w.heap.size + 1 + 1) 52 #[.int .i64 x2_0, .int .i64 x2_1] := by rw [hX0]; exact Bk.new _ _ _ (by simp)
  have bw2 : w.heap.size + 1 + 1 < X0.heap.size := B2_0.lt
  go_enter Try.func6, Try.ntmps6
  go_upto_region 1 with fail
  rw [← hX0]
  clear hX0
  have pf17_0 := B0_0.cell (i := 0) rfl
  have pf17_1 := B0_0.cell (i := 1) rfl
  go_wp2_with fail
  clear pf17_0 pf17_1
  refine (szFrame_at_small s0 A0 l0.length c0 (1048576) (by omega) (by omega) hm0 (by omega) _).mono ?_
  rintro e w1 ⟨rfl, hb1⟩
  have b1 := step_below hb1 b0
  have B0_1 := B0_0.keep hb1
  have B1_1 := B1_0.keep hb1
  have B2_1 := B2_0.keep hb1
  have pf22_0 := B1_1.cell (i := 0) rfl
  have pf22_1 := B1_1.cell (i := 1) rfl
  go_wp2_with fail
  clear pf22_0 pf22_1
  refine (szWear_small A1 l1.length c1 U1 z1.length v1 (1048576 - (l0.length : Int)) (by omega) (by omega) hm1.1 hm1.2 (by omega) _).mono ?_
  rintro e w2 ⟨rfl, hb2⟩
  have b2 := step_below hb2 b1
  have B0_2 := B0_1.keep hb2
  have B1_2 := B1_1.keep hb2
  have B2_2 := B2_1.keep hb2
  go_wp2_with fail
  refine (szActS_small A3 l3.length c3 (1048576 - (l0.length : Int) - ((l1.length + z1.length) : Int)) (by omega) (by omega) hm3 (by omega) _).mono ?_
  rintro e w3' ⟨rfl, rfl⟩
  go_wp2_with fail
  have hb3 : Below w2.heap.size w2 w2.drew := (Below.refl _ _).drew
  have b3 := step_below hb3 b2
  have B0_3 := B0_2.keep hb3
  have B1_3 := B1_2.keep hb3
  have B2_3 := B2_2.keep hb3
  refine wp_region_held_drew (S := fun w' => w'.cell? ⟨w.heap.size, 0, none⟩ = some (.int .i16 s0) ∧ w'.cell? ⟨w.heap.size, 1, none⟩ = some (.slice A0 l0.length c0) ∧ w'.cell? ⟨w.heap.size + 1, 0, none⟩ = some (.slice A1 l1.length c1) ∧ w'.cell? ⟨w.heap.size + 1, 1, none⟩ = some (.slice U1 z1.length v1) ∧ w'.cell? ⟨w.heap.size + 1 + 1, 0, none⟩ = some (.int .i64 x2_0) ∧ w'.cell? ⟨w.heap.size + 1 + 1, 1, none⟩ = some (.int .i64 x2_1)) (by kernel_rfl) ⟨(B0_3.cell (i := 0) rfl), (B0_3.cell (i := 1) rfl), (B1_3.cell (i := 0) rfl), (B1_3.cell (i := 1) rfl), (B2_3.cell (i := 0) rfl), (B2_3.cell (i := 1) rfl)⟩ fun hS3 => ?_
  refine wpAnyH_take (i := 0) (v := .agg #[.int .i16 s0, .slice A0 l0.length c0]) rfl (by kernel_rfl) (by kernel_rfl) (by kernel_rfl) (fun _ _ _ h => h) (Or.inl ⟨by rfl, fun w' h => ?_⟩) hS3 ?_
  · have c0 := h.1
    have c1 := h.2.1
    clear h
    go_simp
  simp only [Act.put, List.setIfInBounds_toArray, List.set_cons_zero, List.set_cons_succ]
  refine wpAnyH_take (i := 2) (v := .agg #[.slice A1 l1.length c1, .slice U1 z1.length v1]) rfl (by kernel_rfl) (by kernel_rfl) (by kernel_rfl) (fun _ _ _ h => h) (Or.inl ⟨by rfl, fun w' h => ?_⟩) hS3 ?_
  · have c0 := h.2.2.1
    have c1 := h.2.2.2.1
    clear h
    go_simp
  simp only [Act.put, List.setIfInBounds_toArray, List.set_cons_zero, List.set_cons_succ]
  refine wpAnyH_take (i := 4) (v := .agg #[.int .i64 x2_0, .int .i64 x2_1]) rfl (by kernel_rfl) (by kernel_rfl) (by kernel_rfl) (fun _ _ _ h => h) (Or.inl ⟨by rfl, fun w' h => ?_⟩) hS3 ?_
  · have c0 := h.2.2.2.2.1
    have c1 := h.2.2.2.2.2
    clear h
    go_simp
  simp only [Act.put, List.setIfInBounds_toArray, List.set_cons_zero, List.set_cons_succ]
  refine wpAnyH_take (i := 6) (v := .slice A3 l3.length c3) rfl (by kernel_rfl) (by kernel_rfl) (by kernel_rfl) (fun _ _ _ h => h) (Or.inl ⟨by rfl, fun w' _ => by go_simp⟩) hS3 ?_
  change wpAnyH _ _ _ _ _ _ _ (Act.put _ (some 39) _) _
  simp only [Act.put, List.setIfInBounds_toArray, List.set_cons_zero, List.set_cons_succ]
  refine wpAnyH_ready (rs := [1]) (by kernel_rfl) (by simp) (AllReadyH.cons rfl ?_ AllReadyH.nil)
  intro K hK
  rw [if_pos (by rfl)]
  go_simp
  refine (toFrame_any s0 A0 c0 l0 _ (hA0.below b3) hn0).mono ?_
  rintro e w4 ⟨g4, rfl, hg4, own4, hb4⟩
  have b4 := step_below hb4 b3
  have B0_4 := B0_3.keep hb4
  have B1_4 := B1_3.keep hb4
  have B2_4 := B2_3.keep hb4
  have gl4 : g4 < w4.heap.size := (own4.lt g4 rfl).2
  have q4_4 := own4
  refine hK.out _ _ ⟨(B0_4.cell (i := 0) rfl), (B0_4.cell (i := 1) rfl), (B1_4.cell (i := 0) rfl), (B1_4.cell (i := 1) rfl), (B2_4.cell (i := 0) rfl), (B2_4.cell (i := 1) rfl)⟩ (fun hS4 => ?_)
  clear hK K
  refine wpAnyH_ready (rs := [3]) (by kernel_rfl) (by simp) (AllReadyH.cons rfl ?_ AllReadyH.nil)
  intro K hK
  rw [if_pos (by rfl)]
  go_simp
  refine (toWear_any A1 c1 l1 U1 v1 z1 _ (hA1.below b4) (hU1.below b4) hn1.1 hn1.2).mono ?_
  rintro e w5 ⟨g5, m5, rfl, hg5, hgm5, own5, owm5, hb5⟩
  have b5 := step_below hb5 b4
  have B0_5 := B0_4.keep hb5
  have B1_5 := B1_4.keep hb5
  have B2_5 := B2_4.keep hb5
  have q4_5 := own_keep q4_4 hb5
  have gl5 : g5 < w5.heap.size := (own5.lt g5 rfl).2
  have gm5 : m5 < w5.heap.size := (owm5.lt m5 rfl).2
  have q5_5 := own5
  have d5_5 := owm5
  refine hK.out _ _ ⟨(B0_5.cell (i := 0) rfl), (B0_5.cell (i := 1) rfl), (B1_5.cell (i := 0) rfl), (B1_5.cell (i := 1) rfl), (B2_5.cell (i := 0) rfl), (B2_5.cell (i := 1) rfl)⟩ (fun hS5 => ?_)
  clear hK K
  refine wpAnyH_ready (rs := [5]) (by kernel_rfl) (by simp) (AllReadyH.cons rfl ?_ AllReadyH.nil)
  intro K hK
  rw [if_pos (by rfl)]
  go_simp
  refine (toLives_any x2_0 x2_1 _).mono ?_
  rintro e w6 ⟨rfl, hb6⟩
  have b6 := step_below hb6 b5
  have B0_6 := B0_5.keep hb6
  have B1_6 := B1_5.keep hb6
  have B2_6 := B2_5.keep hb6
  have q4_6 := own_keep q4_5 hb6
  have q5_6 := own_keep q5_5 hb6
  have d5_6 := own_keep d5_5 hb6
  refine hK.out _ _ ⟨(B0_6.cell (i := 0) rfl), (B0_6.cell (i := 1) rfl), (B1_6.cell (i := 0) rfl), (B1_6.cell (i := 1) rfl), (B2_6.cell (i := 0) rfl), (B2_6.cell (i := 1) rfl)⟩ (fun hS6 => ?_)
  clear hK K
  refine wpAnyH_ready (rs := [7]) (by kernel_rfl) (by simp) (AllReadyH.cons rfl ?_ AllReadyH.nil)
  intro K hK
  rw [if_pos (by rfl)]
  go_simp
  refine (toActS_ex A3 c3 l3 _ (hA3.below b6) hn3).mono ?_
  rintro e w7 ⟨g7, rfl, hg7, own7, hb7⟩
  have b7 := step_below hb7 b6
  have B0_7 := B0_6.keep hb7
  have B1_7 := B1_6.keep hb7
  have B2_7 := B2_6.keep hb7
  have q4_7 := own_keep q4_6 hb7
  have q5_7 := own_keep q5_6 hb7
  have d5_7 := own_keep d5_6 hb7
  have gl7 : g7 < w7.heap.size := (own7.lt g7 rfl).2
  have q7_7 := own7
  refine hK.out _ _ ⟨(B0_7.cell (i := 0) rfl), (B0_7.cell (i := 1) rfl), (B1_7.cell (i := 0) rfl), (B1_7.cell (i := 1) rfl), (B2_7.cell (i := 0) rfl), (B2_7.cell (i := 1) rfl)⟩ (fun hS7 => ?_)
  clear hK K
  refine wpAnyH_ready (rs := [8]) (by kernel_rfl) (by simp) (AllReadyH.cons rfl ?_ AllReadyH.nil)
  intro K hK
  rw [if_pos (by rfl)]
  go_simp
  refine (KS _ _ _ _ _ (HA.of_own q4_7) (WnA.of_own q5_7) (SZ.of_own d5_7) (AcA.of_own q7_7) ).mono ?_
  rintro e w8 ⟨rfl, hb8⟩
  have b8 := step_below hb8 b7
  have B0_8 := B0_7.keep hb8
  have B1_8 := B1_7.keep hb8
  have B2_8 := B2_7.keep hb8
  have t8 : Below w8.heap.size w8 w8 := Below.refl _ _
  refine hK.out _ _ ⟨(B0_8.cell (i := 0) rfl), (B0_8.cell (i := 1) rfl), (B1_8.cell (i := 0) rfl), (B1_8.cell (i := 1) rfl), (B2_8.cell (i := 0) rfl), (B2_8.cell (i := 1) rfl)⟩ (fun hS8 => ?_)
  clear hK K
  refine wpAnyH_take (i := 9) (v := .tuple #[.int .i64 r0, .int .i64 r1]) rfl (by kernel_rfl) (by kernel_rfl) (by kernel_rfl) (fun _ _ _ h => h) (Or.inl ⟨by rfl, fun w' _ => by go_simp⟩) hS8 ?_
  change wpAnyH _ _ _ _ _ _ _ (Act.put _ (some 32) _) _
  simp only [Act.put, List.setIfInBounds_toArray, List.set_cons_zero, List.set_cons_succ]
  refine wpAnyH_take (i := 10) (v := .int .i64 r0) rfl (by kernel_rfl) (by kernel_rfl) (by kernel_rfl) (fun _ _ _ h => h) (Or.inl ⟨by rfl, fun w' _ => by go_simp⟩) hS8 ?_
  change wpAnyH _ _ _ _ _ _ _ (Act.put _ (some 42) _) _
  simp only [Act.put, List.setIfInBounds_toArray, List.set_cons_zero, List.set_cons_succ]
  refine wpAnyH_take (i := 11) (v := .int .i64 r1) rfl (by kernel_rfl) (by kernel_rfl) (by kernel_rfl) (fun _ _ _ h => h) (Or.inl ⟨by rfl, fun w' _ => by go_simp⟩) hS8 ?_
  change wpAnyH _ _ _ _ _ _ _ (Act.put _ (some 43) _) _
  simp only [Act.put, List.setIfInBounds_toArray, List.set_cons_zero, List.set_cons_succ]
  refine wpAnyH_take (i := 12) (v := .int .i64 r0) rfl (by kernel_rfl) (by kernel_rfl) (by kernel_rfl) (fun _ _ _ h => h) (Or.inl ⟨by rfl, fun w' _ => by go_simp⟩) hS8 ?_
  change wpAnyH _ _ _ _ _ _ _ (Act.put _ (some 10) _) _
  simp only [Act.put, List.setIfInBounds_toArray, List.set_cons_zero, List.set_cons_succ]
  refine wpAnyH_take (i := 13) (v := .int .i64 r1) rfl (by kernel_rfl) (by kernel_rfl) (by kernel_rfl) (fun _ _ _ h => h) (Or.inl ⟨by rfl, fun w' _ => by go_simp⟩) hS8 ?_
  change wpAnyH _ _ _ _ _ _ _ (Act.put _ (some 11) _) _
  simp only [Act.put, List.setIfInBounds_toArray, List.set_cons_zero, List.set_cons_succ]
  refine wpAnyH_done (by kernel_rfl) ?_ _
  have pf44_0 := B0_8.cell (i := 0) rfl
  have pf44_1 := B0_8.cell (i := 1) rfl
  go_wp2_with fail
  clear pf44_0 pf44_1
  refine (toFrame_any s0 A0 c0 l0 _ (hA0.below b8) hn0).mono ?_
  rintro e w9 ⟨g9, rfl, hg9, own9, hb9⟩
  have b9 := step_below hb9 b8
  have B0_9 := B0_8.keep hb9
  have B1_9 := B1_8.keep hb9
  have B2_9 := B2_8.keep hb9
  have t9 := step_below hb9 t8
  have gl9 : g9 < w9.heap.size := (own9.lt g9 rfl).2
  have q9_9 := own9
  go_upto_region 13 with fail
  obtain ⟨w10, hX10⟩ : ∃ X, X = w9.alloc (.cells #[.int .i16 s0, .slice (some ⟨g9, 0, none⟩) l0.length l0.length] 60) := ⟨_, rfl⟩
  have hb10 : Below w9.heap.size w9 w10 := by rw [hX10]; exact (Below.refl _ _).alloc (Nat.le_refl _) _
  have K10 : Bk w10 w9.heap.size 60 #[.int .i16 s0, .slice (some ⟨g9, 0, none⟩) l0.length l0.length] := by rw [hX10]; exact Bk.new _ _ _ rfl
  rw [← hX10]
  clear hX10
  have b10 := step_below hb10 b9
  have B0_10 := B0_9.keep hb10
  have B1_10 := B1_9.keep hb10
  have B2_10 := B2_9.keep hb10
  have q9_10 := own_keep q9_9 hb10
  have t10 := step_below hb10 t9
  have Y0_10 := K10
  have yw0 : w9.heap.size < w10.heap.size := K10.lt
  have pf46_0 := B1_10.cell (i := 0) rfl
  have pf46_1 := B1_10.cell (i := 1) rfl
  go_wp2_with fail
  clear pf46_0 pf46_1
  refine (toWear_any A1 c1 l1 U1 v1 z1 _ (hA1.below b10) (hU1.below b10) hn1.1 hn1.2).mono ?_
  rintro e w11 ⟨g11, m11, rfl, hg11, hgm11, own11, owm11, hb11⟩
  have b11 := step_below hb11 b10
  have B0_11 := B0_10.keep hb11
  have B1_11 := B1_10.keep hb11
  have B2_11 := B2_10.keep hb11
  have Y0_11 := Y0_10.keep hb11
  have q9_11 := own_keep q9_10 hb11
  have t11 := step_below hb11 t10
  have gl11 : g11 < w11.heap.size := (own11.lt g11 rfl).2
  have gm11 : m11 < w11.heap.size := (owm11.lt m11 rfl).2
  have q11_11 := own11
  have d11_11 := owm11
  go_upto_region 14 with fail
  obtain ⟨w12, hX12⟩ : ∃ X, X = w11.alloc (.cells #[.slice (some ⟨g11, 0, none⟩) l1.length l1.length, .slice (some ⟨m11, 0, none⟩) z1.length z1.length] 64) := ⟨_, rfl⟩
  have hb12 : Below w11.heap.size w11 w12 := by rw [hX12]; exact (Below.refl _ _).alloc (Nat.le_refl _) _
  have K12 : Bk w12 w11.heap.size 64 #[.slice (some ⟨g11, 0, none⟩) l1.length l1.length, .slice (some ⟨m11, 0, none⟩) z1.length z1.length] := by rw [hX12]; exact Bk.new _ _ _ rfl
  rw [← hX12]
  clear hX12
  have b12 := step_below hb12 b11
  have B0_12 := B0_11.keep hb12
  have B1_12 := B1_11.keep hb12
  have B2_12 := B2_11.keep hb12
  have Y0_12 := Y0_11.keep hb12
  have q9_12 := own_keep q9_11 hb12
  have q11_12 := own_keep q11_11 hb12
  have d11_12 := own_keep d11_11 hb12
  have t12 := step_below hb12 t11
  have Y1_12 := K12
  have yw1 : w11.heap.size < w12.heap.size := K12.lt
  go_wp2_with fail
  refine (toActS_ex A3 c3 l3 _ (hA3.below b12) hn3).mono ?_
  rintro e w13 ⟨g13, rfl, hg13, own13, hb13⟩
  have b13 := step_below hb13 b12
  have B0_13 := B0_12.keep hb13
  have B1_13 := B1_12.keep hb13
  have B2_13 := B2_12.keep hb13
  have Y0_13 := Y0_12.keep hb13
  have Y1_13 := Y1_12.keep hb13
  have q9_13 := own_keep q9_12 hb13
  have q11_13 := own_keep q11_12 hb13
  have d11_13 := own_keep d11_12 hb13
  have t13 := step_below hb13 t12
  have gl13 : g13 < w13.heap.size := (own13.lt g13 rfl).2
  have q13_13 := own13
  go_wp2_with fail
  have hb14 : Below w13.heap.size w13 w13.drew := (Below.refl _ _).drew
  have b14 := step_below hb14 b13
  have B0_14 := B0_13.keep hb14
  have B1_14 := B1_13.keep hb14
  have B2_14 := B2_13.keep hb14
  have Y0_14 := Y0_13.keep hb14
  have Y1_14 := Y1_13.keep hb14
  have q9_14 := own_keep q9_13 hb14
  have q11_14 := own_keep q11_13 hb14
  have d11_14 := own_keep d11_13 hb14
  have q13_14 := own_keep q13_13 hb14
  have t14 := step_below hb14 t13
  refine wp_region_held_drew (S := fun w' => w'.cell? ⟨w9.heap.size, 0, none⟩ = some (.int .i16 s0) ∧ w'.cell? ⟨w9.heap.size, 1, none⟩ = some (.slice (some ⟨g9, 0, none⟩) l0.length l0.length) ∧ w'.cell? ⟨w11.heap.size, 0, none⟩ = some (.slice (some ⟨g11, 0, none⟩) l1.length l1.length) ∧ w'.cell? ⟨w11.heap.size, 1, none⟩ = some (.slice (some ⟨m11, 0, none⟩) z1.length z1.length) ∧ w'.cell? ⟨w.heap.size + 1 + 1, 0, none⟩ = some (.int .i64 x2_0) ∧ w'.cell? ⟨w.heap.size + 1 + 1, 1, none⟩ = some (.int .i64 x2_1)) (by kernel_rfl) ⟨(Y0_14.cell (i := 0) rfl), (Y0_14.cell (i := 1) rfl), (Y1_14.cell (i := 0) rfl), (Y1_14.cell (i := 1) rfl), (B2_14.cell (i := 0) rfl), (B2_14.cell (i := 1) rfl)⟩ fun hS14 => ?_
  refine wpAnyH_take (i := 0) (v := .agg #[.int .i16 s0, .slice (some ⟨g9, 0, none⟩) l0.length l0.length]) rfl (by kernel_rfl) (by kernel_rfl) (by kernel_rfl) (fun _ _ _ h => h) (Or.inl ⟨by rfl, fun w' h => ?_⟩) hS14 ?_
  · have c0 := h.1
    have c1 := h.2.1
    clear h
    go_simp
  simp only [Act.put, List.setIfInBounds_toArray, List.set_cons_zero, List.set_cons_succ]
  refine wpAnyH_take (i := 1) (v := .agg #[.slice (some ⟨g11, 0, none⟩) l1.length l1.length, .slice (some ⟨m11, 0, none⟩) z1.length z1.length]) rfl (by kernel_rfl) (by kernel_rfl) (by kernel_rfl) (fun _ _ _ h => h) (Or.inl ⟨by rfl, fun w' h => ?_⟩) hS14 ?_
  · have c0 := h.2.2.1
    have c1 := h.2.2.2.1
    clear h
    go_simp
  simp only [Act.put, List.setIfInBounds_toArray, List.set_cons_zero, List.set_cons_succ]
  refine wpAnyH_take (i := 2) (v := .agg #[.int .i64 x2_0, .int .i64 x2_1]) rfl (by kernel_rfl) (by kernel_rfl) (by kernel_rfl) (fun _ _ _ h => h) (Or.inl ⟨by rfl, fun w' h => ?_⟩) hS14 ?_
  · have c0 := h.2.2.2.2.1
    have c1 := h.2.2.2.2.2
    clear h
    go_simp
  simp only [Act.put, List.setIfInBounds_toArray, List.set_cons_zero, List.set_cons_succ]
  refine wpAnyH_take (i := 4) (v := .slice (some ⟨g13, 0, none⟩) l3.length l3.length) rfl (by kernel_rfl) (by kernel_rfl) (by kernel_rfl) (fun _ _ _ h => h) (Or.inl ⟨by rfl, fun w' _ => by go_simp⟩) hS14 ?_
  change wpAnyH _ _ _ _ _ _ _ (Act.put _ (some 55) _) _
  simp only [Act.put, List.setIfInBounds_toArray, List.set_cons_zero, List.set_cons_succ]
  refine wpAnyH_ready (rs := [3]) (by kernel_rfl) (by simp) (AllReadyH.cons rfl ?_ AllReadyH.nil)
  intro K hK
  rw [if_pos (by rfl)]
  go_simp
  refine (toLives_any x2_0 x2_1 _).mono ?_
  rintro e w15 ⟨rfl, hb15⟩
  have b15 := step_below hb15 b14
  have B0_15 := B0_14.keep hb15
  have B1_15 := B1_14.keep hb15
  have B2_15 := B2_14.keep hb15
  have Y0_15 := Y0_14.keep hb15
  have Y1_15 := Y1_14.keep hb15
  have q9_15 := own_keep q9_14 hb15
  have q11_15 := own_keep q11_14 hb15
  have d11_15 := own_keep d11_14 hb15
  have q13_15 := own_keep q13_14 hb15
  have t15 := step_below hb15 t14
  refine hK.out _ _ ⟨(Y0_15.cell (i := 0) rfl), (Y0_15.cell (i := 1) rfl), (Y1_15.cell (i := 0) rfl), (Y1_15.cell (i := 1) rfl), (B2_15.cell (i := 0) rfl), (B2_15.cell (i := 1) rfl)⟩ (fun hS15 => ?_)
  clear hK K
  refine wpAnyH_ready (rs := [5]) (by kernel_rfl) (by simp) (AllReadyH.cons rfl ?_ AllReadyH.nil)
  intro K hK
  rw [if_pos (by rfl)]
  go_simp
  refine (KI _ _ _ _ _ (HA.of_own q9_15) (WnA.of_own q11_15) (SZ.of_own d11_15) (AcA.of_own q13_15) ).mono ?_
  rintro e w16 ⟨rfl, hb16⟩
  have b16 := step_below hb16 b15
  have B0_16 := B0_15.keep hb16
  have B1_16 := B1_15.keep hb16
  have B2_16 := B2_15.keep hb16
  have Y0_16 := Y0_15.keep hb16
  have Y1_16 := Y1_15.keep hb16
  have q9_16 := own_keep q9_15 hb16
  have q11_16 := own_keep q11_15 hb16
  have d11_16 := own_keep d11_15 hb16
  have q13_16 := own_keep q13_15 hb16
  have t16 := step_below hb16 t15
  refine hK.out _ _ ⟨(Y0_16.cell (i := 0) rfl), (Y0_16.cell (i := 1) rfl), (Y1_16.cell (i := 0) rfl), (Y1_16.cell (i := 1) rfl), (B2_16.cell (i := 0) rfl), (B2_16.cell (i := 1) rfl)⟩ (fun hS16 => ?_)
  clear hK K
  refine wpAnyH_take (i := 6) (v := .tuple #[.int .i64 r0, .int .i64 r1]) rfl (by kernel_rfl) (by kernel_rfl) (by kernel_rfl) (fun _ _ _ h => h) (Or.inl ⟨by rfl, fun w' _ => by go_simp⟩) hS16 ?_
  change wpAnyH _ _ _ _ _ _ _ (Act.put _ (some 50) _) _
  simp only [Act.put, List.setIfInBounds_toArray, List.set_cons_zero, List.set_cons_succ]
  refine wpAnyH_take (i := 7) (v := .int .i64 r0) rfl (by kernel_rfl) (by kernel_rfl) (by kernel_rfl) (fun _ _ _ h => h) (Or.inl ⟨by rfl, fun w' _ => by go_simp⟩) hS16 ?_
  change wpAnyH _ _ _ _ _ _ _ (Act.put _ (some 57) _) _
  simp only [Act.put, List.setIfInBounds_toArray, List.set_cons_zero, List.set_cons_succ]
  refine wpAnyH_take (i := 8) (v := .int .i64 r1) rfl (by kernel_rfl) (by kernel_rfl) (by kernel_rfl) (fun _ _ _ h => h) (Or.inl ⟨by rfl, fun w' _ => by go_simp⟩) hS16 ?_
  change wpAnyH _ _ _ _ _ _ _ (Act.put _ (some 58) _) _
  simp only [Act.put, List.setIfInBounds_toArray, List.set_cons_zero, List.set_cons_succ]
  refine wpAnyH_take (i := 9) (v := .int .i64 r0) rfl (by kernel_rfl) (by kernel_rfl) (by kernel_rfl) (fun _ _ _ h => h) (Or.inl ⟨by rfl, fun w' _ => by go_simp⟩) hS16 ?_
  change wpAnyH _ _ _ _ _ _ _ (Act.put _ (some 15) _) _
  simp only [Act.put, List.setIfInBounds_toArray, List.set_cons_zero, List.set_cons_succ]
  refine wpAnyH_take (i := 10) (v := .int .i64 r1) rfl (by kernel_rfl) (by kernel_rfl) (by kernel_rfl) (fun _ _ _ h => h) (Or.inl ⟨by rfl, fun w' _ => by go_simp⟩) hS16 ?_
  change wpAnyH _ _ _ _ _ _ _ (Act.put _ (some 16) _) _
  simp only [Act.put, List.setIfInBounds_toArray, List.set_cons_zero, List.set_cons_succ]
  refine wpAnyH_done (by kernel_rfl) ?_ _
  go_wp2_with fail
  have hb17 : Below w16.heap.size w16 w16.drew := (Below.refl _ _).drew
  have b17 := step_below hb17 b16
  have B0_17 := B0_16.keep hb17
  have B1_17 := B1_16.keep hb17
  have B2_17 := B2_16.keep hb17
  have Y0_17 := Y0_16.keep hb17
  have Y1_17 := Y1_16.keep hb17
  have q9_17 := own_keep q9_16 hb17
  have q11_17 := own_keep q11_16 hb17
  have d11_17 := own_keep d11_16 hb17
  have q13_17 := own_keep q13_16 hb17
  have t17 := step_below hb17 t16
  refine wp_region_held_drew (S := fun w' => w'.cell? ⟨w9.heap.size, 0, none⟩ = some (.int .i16 s0) ∧ w'.cell? ⟨w9.heap.size, 1, none⟩ = some (.slice (some ⟨g9, 0, none⟩) l0.length l0.length) ∧ w'.cell? ⟨w.heap.size, 0, none⟩ = some (.int .i16 s0) ∧ w'.cell? ⟨w.heap.size, 1, none⟩ = some (.slice A0 l0.length c0)) (by kernel_rfl) ⟨(Y0_17.cell (i := 0) rfl), (Y0_17.cell (i := 1) rfl), (B0_17.cell (i := 0) rfl), (B0_17.cell (i := 1) rfl)⟩ fun hS17 => ?_
  refine wpAnyH_take (i := 0) (v := .agg #[.int .i16 s0, .slice (some ⟨g9, 0, none⟩) l0.length l0.length]) rfl (by kernel_rfl) (by kernel_rfl) (by kernel_rfl) (fun _ _ _ h => h) (Or.inl ⟨by rfl, fun w' h => ?_⟩) hS17 ?_
  · have c0 := h.1
    have c1 := h.2.1
    clear h
    go_simp
  simp only [Act.put, List.setIfInBounds_toArray, List.set_cons_zero, List.set_cons_succ]
  refine wpAnyH_take (i := 1) (v := .agg #[.int .i16 s0, .slice A0 l0.length c0]) rfl (by kernel_rfl) (by kernel_rfl) (by kernel_rfl) (fun _ _ _ h => h) (Or.inl ⟨by rfl, fun w' h => ?_⟩) hS17 ?_
  · have c0 := h.2.2.1
    have c1 := h.2.2.2
    clear h
    go_simp
  simp only [Act.put, List.setIfInBounds_toArray, List.set_cons_zero, List.set_cons_succ]
  refine wpAnyH_ready (rs := [2]) (by kernel_rfl) (by simp) (AllReadyH.cons rfl ?_ AllReadyH.nil)
  intro K hK
  rw [if_pos (by rfl)]
  go_simp
  refine (toFrame_any s0 A0 c0 l0 _ (hA0.below b17) hn0).mono ?_
  rintro e w18 ⟨g18, rfl, hg18, own18, hb18⟩
  have b18 := step_below hb18 b17
  have B0_18 := B0_17.keep hb18
  have B1_18 := B1_17.keep hb18
  have B2_18 := B2_17.keep hb18
  have Y0_18 := Y0_17.keep hb18
  have Y1_18 := Y1_17.keep hb18
  have q9_18 := own_keep q9_17 hb18
  have q11_18 := own_keep q11_17 hb18
  have d11_18 := own_keep d11_17 hb18
  have q13_18 := own_keep q13_17 hb18
  have t18 := step_below hb18 t17
  have gl18 : g18 < w18.heap.size := (own18.lt g18 rfl).2
  have q18_18 := own18
  refine hK.out _ _ ⟨(Y0_18.cell (i := 0) rfl), (Y0_18.cell (i := 1) rfl), (B0_18.cell (i := 0) rfl), (B0_18.cell (i := 1) rfl)⟩ (fun hS18 => ?_)
  clear hK K
  refine wpAnyH_ready (rs := [3]) (by kernel_rfl) (by simp) (AllReadyH.cons rfl ?_ AllReadyH.nil)
  intro K hK
  rw [if_pos (by rfl)]
  go_simp
  refine (eqFrame_any s0 _ _ _ _ l0 _ (HA.of_own q9_18) (HA.of_own q18_18) hn0).mono ?_
  rintro e w19 ⟨rfl, hb19⟩
  have b19 := step_below hb19 b18
  have B0_19 := B0_18.keep hb19
  have B1_19 := B1_18.keep hb19
  have B2_19 := B2_18.keep hb19
  have Y0_19 := Y0_18.keep hb19
  have Y1_19 := Y1_18.keep hb19
  have q9_19 := own_keep q9_18 hb19
  have q11_19 := own_keep q11_18 hb19
  have d11_19 := own_keep d11_18 hb19
  have q13_19 := own_keep q13_18 hb19
  have t19 := step_below hb19 t18
  refine hK.out _ _ ⟨(Y0_19.cell (i := 0) rfl), (Y0_19.cell (i := 1) rfl), (B0_19.cell (i := 0) rfl), (B0_19.cell (i := 1) rfl)⟩ (fun hS19 => ?_)
  clear hK K
  refine wpAnyH_take (i := 4) (v := .bool false) rfl (by kernel_rfl) (by kernel_rfl) (by kernel_rfl) (fun _ _ _ h => h) (Or.inl ⟨by rfl, fun w' _ => by go_simp⟩) hS19 ?_
  change wpAnyH _ _ _ _ _ _ _ (Act.put _ (some 71) _) _
  simp only [Act.put, List.setIfInBounds_toArray, List.set_cons_zero, List.set_cons_succ]
  refine wpAnyH_done (by kernel_rfl) ?_ _
  go_wp2_with fail
  have hb20 : Below w19.heap.size w19 w19.drew := (Below.refl _ _).drew
  have b20 := step_below hb20 b19
  have B0_20 := B0_19.keep hb20
  have B1_20 := B1_19.keep hb20
  have B2_20 := B2_19.keep hb20
  have Y0_20 := Y0_19.keep hb20
  have Y1_20 := Y1_19.keep hb20
  have q9_20 := own_keep q9_19 hb20
  have q11_20 := own_keep q11_19 hb20
  have d11_20 := own_keep d11_19 hb20
  have q13_20 := own_keep q13_19 hb20
  have t20 := step_below hb20 t19
  refine wp_region_held_drew (S := fun w' => w'.cell? ⟨w11.heap.size, 0, none⟩ = some (.slice (some ⟨g11, 0, none⟩) l1.length l1.length) ∧ w'.cell? ⟨w11.heap.size, 1, none⟩ = some (.slice (some ⟨m11, 0, none⟩) z1.length z1.length) ∧ w'.cell? ⟨w.heap.size + 1, 0, none⟩ = some (.slice A1 l1.length c1) ∧ w'.cell? ⟨w.heap.size + 1, 1, none⟩ = some (.slice U1 z1.length v1)) (by kernel_rfl) ⟨(Y1_20.cell (i := 0) rfl), (Y1_20.cell (i := 1) rfl), (B1_20.cell (i := 0) rfl), (B1_20.cell (i := 1) rfl)⟩ fun hS20 => ?_
  refine wpAnyH_take (i := 0) (v := .agg #[.slice (some ⟨g11, 0, none⟩) l1.length l1.length, .slice (some ⟨m11, 0, none⟩) z1.length z1.length]) rfl (by kernel_rfl) (by kernel_rfl) (by kernel_rfl) (fun _ _ _ h => h) (Or.inl ⟨by rfl, fun w' h => ?_⟩) hS20 ?_
  · have c0 := h.1
    have c1 := h.2.1
    clear h
    go_simp
  simp only [Act.put, List.setIfInBounds_toArray, List.set_cons_zero, List.set_cons_succ]
  refine wpAnyH_take (i := 1) (v := .agg #[.slice A1 l1.length c1, .slice U1 z1.length v1]) rfl (by kernel_rfl) (by kernel_rfl) (by kernel_rfl) (fun _ _ _ h => h) (Or.inl ⟨by rfl, fun w' h => ?_⟩) hS20 ?_
  · have c0 := h.2.2.1
    have c1 := h.2.2.2
    clear h
    go_simp
  simp only [Act.put, List.setIfInBounds_toArray, List.set_cons_zero, List.set_cons_succ]
  refine wpAnyH_ready (rs := [2]) (by kernel_rfl) (by simp) (AllReadyH.cons rfl ?_ AllReadyH.nil)
  intro K hK
  rw [if_pos (by rfl)]
  go_simp
  refine (toWear_any A1 c1 l1 U1 v1 z1 _ (hA1.below b20) (hU1.below b20) hn1.1 hn1.2).mono ?_
  rintro e w21 ⟨g21, m21, rfl, hg21, hgm21, own21, owm21, hb21⟩
  have b21 := step_below hb21 b20
  have B0_21 := B0_20.keep hb21
  have B1_21 := B1_20.keep hb21
  have B2_21 := B2_20.keep hb21
  have Y0_21 := Y0_20.keep hb21
  have Y1_21 := Y1_20.keep hb21
  have q9_21 := own_keep q9_20 hb21
  have q11_21 := own_keep q11_20 hb21
  have d11_21 := own_keep d11_20 hb21
  have q13_21 := own_keep q13_20 hb21
  have t21 := step_below hb21 t20
  have gl21 : g21 < w21.heap.size := (own21.lt g21 rfl).2
  have gm21 : m21 < w21.heap.size := (owm21.lt m21 rfl).2
  have q21_21 := own21
  have d21_21 := owm21
  refine hK.out _ _ ⟨(Y1_21.cell (i := 0) rfl), (Y1_21.cell (i := 1) rfl), (B1_21.cell (i := 0) rfl), (B1_21.cell (i := 1) rfl)⟩ (fun hS21 => ?_)
  clear hK K
  refine wpAnyH_ready (rs := [3]) (by kernel_rfl) (by simp) (AllReadyH.cons rfl ?_ AllReadyH.nil)
  intro K hK
  rw [if_pos (by rfl)]
  go_simp
  refine (eqWear_self _ _ _ _ l1 _ _ _ _ z1 _ (WnA.of_own q11_21) (WnA.of_own q21_21) (SI.of_own d11_21) (SI.of_own d21_21) hn1.1 hn1.2).mono ?_
  rintro e w22 ⟨rfl, hb22⟩
  have b22 := step_below hb22 b21
  have B0_22 := B0_21.keep hb22
  have B1_22 := B1_21.keep hb22
  have B2_22 := B2_21.keep hb22
  have Y0_22 := Y0_21.keep hb22
  have Y1_22 := Y1_21.keep hb22
  have q9_22 := own_keep q9_21 hb22
  have q11_22 := own_keep q11_21 hb22
  have d11_22 := own_keep d11_21 hb22
  have q13_22 := own_keep q13_21 hb22
  have t22 := step_below hb22 t21
  refine hK.out _ _ ⟨(Y1_22.cell (i := 0) rfl), (Y1_22.cell (i := 1) rfl), (B1_22.cell (i := 0) rfl), (B1_22.cell (i := 1) rfl)⟩ (fun hS22 => ?_)
  clear hK K
  refine wpAnyH_take (i := 4) (v := .bool false) rfl (by kernel_rfl) (by kernel_rfl) (by kernel_rfl) (fun _ _ _ h => h) (Or.inl ⟨by rfl, fun w' _ => by go_simp⟩) hS22 ?_
  change wpAnyH _ _ _ _ _ _ _ (Act.put _ (some 76) _) _
  simp only [Act.put, List.setIfInBounds_toArray, List.set_cons_zero, List.set_cons_succ]
  refine wpAnyH_done (by kernel_rfl) ?_ _
  go_wp2_with fail
  refine (toActS_ex A3 c3 l3 _ (hA3.below b22) hn3).mono ?_
  rintro e w23 ⟨g23, rfl, hg23, own23, hb23⟩
  have b23 := step_below hb23 b22
  have B0_23 := B0_22.keep hb23
  have B1_23 := B1_22.keep hb23
  have B2_23 := B2_22.keep hb23
  have Y0_23 := Y0_22.keep hb23
  have Y1_23 := Y1_22.keep hb23
  have q9_23 := own_keep q9_22 hb23
  have q11_23 := own_keep q11_22 hb23
  have d11_23 := own_keep d11_22 hb23
  have q13_23 := own_keep q13_22 hb23
  have t23 := step_below hb23 t22
  have gl23 : g23 < w23.heap.size := (own23.lt g23 rfl).2
  have q23_23 := own23
  go_wp2_with fail
  refine (eqActS_self _ _ _ _ l3 _ (AcA.of_own q13_23) (AcA.of_own q23_23) hn3).mono ?_
  rintro e w24 ⟨rfl, hb24⟩
  have b24 := step_below hb24 b23
  have B0_24 := B0_23.keep hb24
  have B1_24 := B1_23.keep hb24
  have B2_24 := B2_23.keep hb24
  have Y0_24 := Y0_23.keep hb24
  have Y1_24 := Y1_23.keep hb24
  have q9_24 := own_keep q9_23 hb24
  have q11_24 := own_keep q11_23 hb24
  have d11_24 := own_keep d11_23 hb24
  have q13_24 := own_keep q13_23 hb24
  have t24 := step_below hb24 t23
  go_wp2
  go_ret
  exact ⟨rfl, b24⟩
theorem lawFirstBreak_any (s0 : Int) (A0 : Option Addr) (c0 : Nat) (l0 : List (Int × Int)) (A1 : Option Addr) (c1 : Nat) (l1 : List (Int × Int × Int)) (U1 : Option Addr) (v1 : Nat) (z1 : List Int) (x2_0 : Int) (x2_1 : Int) (A3 : Option Addr) (c3 : Nat) (l3 : List (Int × Int × Int × Int × Int)) (w : World) (hA0 : HA w A0 l0) (hwf0 : HWF l0) (hs0 : -32768 ≤ s0 ∧ s0 ≤ 32767) (hA1 : WnA w A1 l1) (hU1 : SZ w U1 z1) (hwf1 : WnWF l1) (hzwf1 : ZWF z1) (hv2 : LvWF x2_0 x2_1) (hA3 : AcA w A3 l3) (hwf3 : AcWF l3) (hm0 : l0.length ≤ maxLen) (hm1 : l1.length ≤ maxLen ∧ z1.length ≤ maxLen) (hm3 : l3.length ≤ maxLen)  :
    Calls Try.prog 6 #[.agg #[.int .i16 s0, .slice A0 l0.length c0], .agg #[.slice A1 l1.length c1, .slice U1 z1.length v1], .agg #[.int .i64 x2_0, .int .i64 x2_1], .slice A3 l3.length c3] w (Says true w) := by
  rcases Nat.lt_or_ge 1048576 (l0.length) with h0 | h0
  · exact lawFirstBreak_big0 s0 A0 c0 l0 A1 c1 l1 U1 v1 z1 x2_0 x2_1 A3 c3 l3 w  h0 hm0 hm1 hm3
  rcases Nat.lt_or_ge 1048576 (l0.length + (l1.length + z1.length)) with h1 | h1
  · exact lawFirstBreak_big1 s0 A0 c0 l0 A1 c1 l1 U1 v1 z1 x2_0 x2_1 A3 c3 l3 w h0 h1 hm0 hm1 hm3
  rcases Nat.lt_or_ge 1048576 (l0.length + (l1.length + z1.length) + l3.length) with h2 | h2
  · exact lawFirstBreak_big2 s0 A0 c0 l0 A1 c1 l1 U1 v1 z1 x2_0 x2_1 A3 c3 l3 w h0 h1 h2 hm0 hm1 hm3
  exact lawFirstBreak_small s0 A0 c0 l0 A1 c1 l1 U1 v1 z1 x2_0 x2_1 A3 c3 l3 w hA0 hwf0 hs0 hA1 hU1 hwf1 hzwf1 hv2 hA3 hwf3 h0 h1 h2 hm0 hm1 hm3 
end Go.Proofs.Ytcocfnjbgceidaa
