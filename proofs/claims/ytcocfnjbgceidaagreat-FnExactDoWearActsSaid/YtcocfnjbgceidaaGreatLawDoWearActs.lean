import Derived.Test.YtcocfnjbgceidaaGreatGad
import Derived.Test.YtcocfnjbgceidaaGreatGae
import Derived.Test.YtcocfnjbgceidaaGreatGas
import Derived.Test.YtcocfnjbgceidaaGreatGat
import Derived.Test.YtcocfnjbgceidaaGreatGbl
import Derived.Test.YtcocfnjbgceidaaGreatImd
import Derived.Test.YtcocfnjbgceidaaGreatGbu
import Derived.Test.YtcocfnjbgceidaaGreatAct
import Derived.Test.YtcocfnjbgceidaaGreatGbo
import Derived.Deep.RegionHeld3
import Derived.Deep.CutRange
namespace Go.Proofs.YtcocfnjbgceidaaGreat
open Go.RowKit

set_option maxRecDepth 20000 in
set_option maxHeartbeats 1000000 in
theorem lawDoWearActs_big0 (s0 : Int) (A0 : Option Addr) (c0 : Nat) (l0 : List (Int × Int)) (A1 : Option Addr) (c1 : Nat) (l1 : List (Int × Int × Int)) (U1 : Option Addr) (v1 : Nat) (z1 : List Int) (x2_0 : Int) (x2_1 : Int) (A3 : Option Addr) (c3 : Nat) (l3 : List (Int × Int × Int × Int × Int)) (w : World)  (hbg : 1048576 < l0.length) (hm0 : l0.length ≤ maxLen) (hm1 : l1.length ≤ maxLen ∧ z1.length ≤ maxLen) (hm3 : l3.length ≤ maxLen) :
    Calls Tryz.prog 7 #[.agg #[.int .i16 s0, .slice A0 l0.length c0], .agg #[.slice A1 l1.length c1, .slice U1 z1.length v1], .agg #[.int .i64 x2_0, .int .i64 x2_1], .slice A3 l3.length c3] w (Says true w) := by
  obtain ⟨X0, hX0⟩ : ∃ X, X = (((w.alloc (.cells #[.int .i16 s0, .slice A0 l0.length c0] 25)).alloc (.cells #[.slice A1 l1.length c1, .slice U1 z1.length v1] 29)).alloc (.cells #[.int .i64 x2_0, .int .i64 x2_1] 59)) := ⟨_, rfl⟩
  have b0 : Below w.heap.size w X0 := by rw [hX0]; exact ((((Below.refl _ _).alloc (Nat.le_refl _) _).alloc (by simp) _).alloc (by simp; omega) _)
  have B0_0 : Bk X0 (w.heap.size) 25 #[.int .i16 s0, .slice A0 l0.length c0] := by rw [hX0]; exact Bk.new _ _ _ rfl |>.old _ |>.old _
  have bw0 : w.heap.size < X0.heap.size := B0_0.lt
  have B1_0 : Bk X0 (w.heap.size + 1) 29 #[.slice A1 l1.length c1, .slice U1 z1.length v1] := by rw [hX0]; exact Bk.new _ _ _ (by simp) |>.old _
  have bw1 : w.heap.size + 1 < X0.heap.size := B1_0.lt
  have B2_0 : Bk X0 (w.heap.size + 1 + 1) 59 #[.int .i64 x2_0, .int .i64 x2_1] := by rw [hX0]; exact Bk.new _ _ _ (by simp)
  have bw2 : w.heap.size + 1 + 1 < X0.heap.size := B2_0.lt
  go_enter Tryz.func7, Tryz.ntmps7
  go_upto_region 1 with fail
  rw [← hX0]
  clear hX0
  have pf22_0 := B0_0.cell (i := 0) rfl
  have pf22_1 := B0_0.cell (i := 1) rfl
  go_wp2_with fail
  clear pf22_0 pf22_1
  refine (szFrame_at_big s0 A0 l0.length c0 (1048576) (by omega) (by omega) hm0 (by omega) _).mono ?_
  rintro e w1 ⟨rfl, hb1⟩
  have b1 := step_below hb1 b0
  go_wp2
  go_ret
  exact ⟨rfl, b1⟩
set_option maxRecDepth 20000 in
set_option maxHeartbeats 1000000 in
theorem lawDoWearActs_big1 (s0 : Int) (A0 : Option Addr) (c0 : Nat) (l0 : List (Int × Int)) (A1 : Option Addr) (c1 : Nat) (l1 : List (Int × Int × Int)) (U1 : Option Addr) (v1 : Nat) (z1 : List Int) (x2_0 : Int) (x2_1 : Int) (A3 : Option Addr) (c3 : Nat) (l3 : List (Int × Int × Int × Int × Int)) (w : World) (hc0 : l0.length ≤ 1048576) (hbg : 1048576 < l0.length + (l1.length + z1.length)) (hm0 : l0.length ≤ maxLen) (hm1 : l1.length ≤ maxLen ∧ z1.length ≤ maxLen) (hm3 : l3.length ≤ maxLen) :
    Calls Tryz.prog 7 #[.agg #[.int .i16 s0, .slice A0 l0.length c0], .agg #[.slice A1 l1.length c1, .slice U1 z1.length v1], .agg #[.int .i64 x2_0, .int .i64 x2_1], .slice A3 l3.length c3] w (Says true w) := by
  obtain ⟨X0, hX0⟩ : ∃ X, X = (((w.alloc (.cells #[.int .i16 s0, .slice A0 l0.length c0] 25)).alloc (.cells #[.slice A1 l1.length c1, .slice U1 z1.length v1] 29)).alloc (.cells #[.int .i64 x2_0, .int .i64 x2_1] 59)) := ⟨_, rfl⟩
  have b0 : Below w.heap.size w X0 := by rw [hX0]; exact ((((Below.refl _ _).alloc (Nat.le_refl _) _).alloc (by simp) _).alloc (by simp; omega) _)
  have B0_0 : Bk X0 (w.heap.size) 25 #[.int .i16 s0, .slice A0 l0.length c0] := by rw [hX0]; exact Bk.new _ _ _ rfl |>.old _ |>.old _
  have bw0 : w.heap.size < X0.heap.size := B0_0.lt
  have B1_0 : Bk X0 (w.heap.size + 1) 29 #[.slice A1 l1.length c1, .slice U1 z1.length v1] := by rw [hX0]; exact Bk.new _ _ _ (by simp) |>.old _
  have bw1 : w.heap.size + 1 < X0.heap.size := B1_0.lt
  have B2_0 : Bk X0 (w.heap.size + 1 + 1) 59 #[.int .i64 x2_0, .int .i64 x2_1] := by rw [hX0]; exact Bk.new _ _ _ (by simp)
  have bw2 : w.heap.size + 1 + 1 < X0.heap.size := B2_0.lt
  go_enter Tryz.func7, Tryz.ntmps7
  go_upto_region 1 with fail
  rw [← hX0]
  clear hX0
  have pf22_0 := B0_0.cell (i := 0) rfl
  have pf22_1 := B0_0.cell (i := 1) rfl
  go_wp2_with fail
  clear pf22_0 pf22_1
  refine (szFrame_at_small s0 A0 l0.length c0 (1048576) (by omega) (by omega) hm0 (by omega) _).mono ?_
  rintro e w1 ⟨rfl, hb1⟩
  have b1 := step_below hb1 b0
  have B0_1 := B0_0.keep hb1
  have B1_1 := B1_0.keep hb1
  have B2_1 := B2_0.keep hb1
  have pf27_0 := B1_1.cell (i := 0) rfl
  have pf27_1 := B1_1.cell (i := 1) rfl
  go_wp2_with fail
  clear pf27_0 pf27_1
  refine (szWear_big A1 l1.length c1 U1 z1.length v1 (1048576 - (l0.length : Int)) (by omega) (by omega) hm1.1 hm1.2 (by omega) _).mono ?_
  rintro e w2 ⟨rfl, hb2⟩
  have b2 := step_below hb2 b1
  go_wp2
  go_ret
  exact ⟨rfl, b2⟩
set_option maxRecDepth 20000 in
set_option maxHeartbeats 1000000 in
theorem lawDoWearActs_big2 (s0 : Int) (A0 : Option Addr) (c0 : Nat) (l0 : List (Int × Int)) (A1 : Option Addr) (c1 : Nat) (l1 : List (Int × Int × Int)) (U1 : Option Addr) (v1 : Nat) (z1 : List Int) (x2_0 : Int) (x2_1 : Int) (A3 : Option Addr) (c3 : Nat) (l3 : List (Int × Int × Int × Int × Int)) (w : World) (hc0 : l0.length ≤ 1048576) (hc1 : l0.length + (l1.length + z1.length) ≤ 1048576) (hbg : 1048576 < l0.length + (l1.length + z1.length) + l3.length) (hm0 : l0.length ≤ maxLen) (hm1 : l1.length ≤ maxLen ∧ z1.length ≤ maxLen) (hm3 : l3.length ≤ maxLen) :
    Calls Tryz.prog 7 #[.agg #[.int .i16 s0, .slice A0 l0.length c0], .agg #[.slice A1 l1.length c1, .slice U1 z1.length v1], .agg #[.int .i64 x2_0, .int .i64 x2_1], .slice A3 l3.length c3] w (Says true w) := by
  obtain ⟨X0, hX0⟩ : ∃ X, X = (((w.alloc (.cells #[.int .i16 s0, .slice A0 l0.length c0] 25)).alloc (.cells #[.slice A1 l1.length c1, .slice U1 z1.length v1] 29)).alloc (.cells #[.int .i64 x2_0, .int .i64 x2_1] 59)) := ⟨_, rfl⟩
  have b0 : Below w.heap.size w X0 := by rw [hX0]; exact ((((Below.refl _ _).alloc (Nat.le_refl _) _).alloc (by simp) _).alloc (by simp; omega) _)
  have B0_0 : Bk X0 (w.heap.size) 25 #[.int .i16 s0, .slice A0 l0.length c0] := by rw [hX0]; exact Bk.new _ _ _ rfl |>.old _ |>.old _
  have bw0 : w.heap.size < X0.heap.size := B0_0.lt
  have B1_0 : Bk X0 (w.heap.size + 1) 29 #[.slice A1 l1.length c1, .slice U1 z1.length v1] := by rw [hX0]; exact Bk.new _ _ _ (by simp) |>.old _
  have bw1 : w.heap.size + 1 < X0.heap.size := B1_0.lt
  have B2_0 : Bk X0 (w.heap.size + 1 + 1) 59 #[.int .i64 x2_0, .int .i64 x2_1] := by rw [hX0]; exact Bk.new _ _ _ (by simp)
  have bw2 : w.heap.size + 1 + 1 < X0.heap.size := B2_0.lt
  go_enter Tryz.func7, Tryz.ntmps7
  go_upto_region 1 with fail
  rw [← hX0]
  clear hX0
  have pf22_0 := B0_0.cell (i := 0) rfl
  have pf22_1 := B0_0.cell (i := 1) rfl
  go_wp2_with fail
  clear pf22_0 pf22_1
  refine (szFrame_at_small s0 A0 l0.length c0 (1048576) (by omega) (by omega) hm0 (by omega) _).mono ?_
  rintro e w1 ⟨rfl, hb1⟩
  have b1 := step_below hb1 b0
  have B0_1 := B0_0.keep hb1
  have B1_1 := B1_0.keep hb1
  have B2_1 := B2_0.keep hb1
  have pf27_0 := B1_1.cell (i := 0) rfl
  have pf27_1 := B1_1.cell (i := 1) rfl
  go_wp2_with fail
  clear pf27_0 pf27_1
  refine (szWear_small A1 l1.length c1 U1 z1.length v1 (1048576 - (l0.length : Int)) (by omega) (by omega) hm1.1 hm1.2 (by omega) _).mono ?_
  rintro e w2 ⟨rfl, hb2⟩
  have b2 := step_below hb2 b1
  have B0_2 := B0_1.keep hb2
  have B1_2 := B1_1.keep hb2
  have B2_2 := B2_1.keep hb2
  go_wp2_with fail
  refine (szActS_big A3 l3.length c3 (1048576 - (l0.length : Int) - ((l1.length + z1.length) : Int)) (by omega) (by omega) hm3 (by omega) _).mono ?_
  rintro e w3 ⟨rfl, rfl⟩
  go_wp2
  go_ret
  exact ⟨rfl, b2⟩
set_option maxRecDepth 20000 in
set_option maxHeartbeats 16000000 in
theorem lawDoWearActs_small (s0 : Int) (A0 : Option Addr) (c0 : Nat) (l0 : List (Int × Int)) (A1 : Option Addr) (c1 : Nat) (l1 : List (Int × Int × Int)) (U1 : Option Addr) (v1 : Nat) (z1 : List Int) (x2_0 : Int) (x2_1 : Int) (A3 : Option Addr) (c3 : Nat) (l3 : List (Int × Int × Int × Int × Int)) (w : World) (hA0 : HA w A0 l0) (hwf0 : HWF l0) (hs0 : -32768 ≤ s0 ∧ s0 ≤ 32767) (hA1 : WnA w A1 l1) (hU1 : SZ w U1 z1) (hwf1 : WnWF l1) (hzwf1 : ZWF z1) (hv2 : LvWF x2_0 x2_1) (hA3 : AcA w A3 l3) (hwf3 : AcWF l3) (hc0 : l0.length ≤ 1048576) (hc1 : l0.length + (l1.length + z1.length) ≤ 1048576) (hc2 : l0.length + (l1.length + z1.length) + l3.length ≤ 1048576) (hm0 : l0.length ≤ maxLen) (hm1 : l1.length ≤ maxLen ∧ z1.length ≤ maxLen) (hm3 : l3.length ≤ maxLen) :
    Calls Tryz.prog 7 #[.agg #[.int .i16 s0, .slice A0 l0.length c0], .agg #[.slice A1 l1.length c1, .slice U1 z1.length v1], .agg #[.int .i64 x2_0, .int .i64 x2_1], .slice A3 l3.length c3] w (Says true w) := by
  have hn0 : l0.length ≤ 1048576 := by omega
  have hn1 : l1.length ≤ 1048576 ∧ z1.length ≤ 1048576 := ⟨by omega, by omega⟩
  have hn3 : l3.length ≤ 1048576 := by omega
  obtain ⟨r0, hr0⟩ : ∃ r : List (Int × Int × Int), r = wdT s0 l0 l1 z1 x2_0 x2_1 l3 := ⟨_, rfl⟩
  obtain ⟨r1, hr1⟩ : ∃ r : Int, r = wdC s0 l0 l1 z1 x2_0 x2_1 l3 := ⟨_, rfl⟩
  obtain ⟨rz0, hrz0⟩ : ∃ r : List Int, r = wdZ s0 l0 l1 z1 x2_0 x2_1 l3 := ⟨_, rfl⟩
  have hrl0 : r0.length ≤ 1048576 := by rw [hr0]; exact wdT_len _ _ _ _ _ _ _
  have hrlz0 : rz0.length ≤ 1048576 := by rw [hrz0]; exact wdZ_len _ _ _ _ _ _ _
  have KS : ∀ (E0 : Option Addr) (E1 O1 : Option Addr) (E3 : Option Addr) (W : World), HA W E0 l0 → WnA W E1 l1 → SZ W O1 z1 → AcA W E3 l3 → Calls Tryz.prog 29 #[.agg #[.int .i16 s0, .slice E0 l0.length l0.length], .agg #[.slice E1 l1.length l1.length, .slice O1 z1.length z1.length], .agg #[.int .i64 x2_0, .int .i64 x2_1], .slice E3 l3.length l3.length] W (fun e w' => ∃ (C : Option Addr) (q : Nat) (C2 : Option Addr) (q2 : Nat), e = .returned (.tuple #[.agg #[.slice C r0.length q, .slice C2 rz0.length q2], .int .i64 r1]) ∧ w'.ownsRow W.heap.size 97 3 (.slice C r0.length q) r0.length (wnC r0) ∧ w'.ownsRow W.heap.size 2 1 (.slice C2 rz0.length q2) rz0.length (icells rz0) ∧ Below W.heap.size W w') := fun E0 E1 O1 E3 W h0 h1 h1z h3 => by rw [hr0, hrz0, hr1]; exact specDoWearActs_any s0 E0 l0.length l0 E1 l1.length l1 O1 z1.length z1 x2_0 x2_1 E3 l3.length l3 W h0 hn0 hwf0 hs0 h1 h1z hn1.1 hn1.2 hwf1 hzwf1 hv2 h3 hn3 hwf3
  have KI : ∀ (E0 : Option Addr) (E1 O1 : Option Addr) (E3 : Option Addr) (W : World), HA W E0 l0 → WnA W E1 l1 → SZ W O1 z1 → AcA W E3 l3 → Calls Tryz.prog 32 #[.agg #[.int .i16 s0, .slice E0 l0.length l0.length], .agg #[.slice E1 l1.length l1.length, .slice O1 z1.length z1.length], .agg #[.int .i64 x2_0, .int .i64 x2_1], .slice E3 l3.length l3.length] W (fun e w' => ∃ (C : Option Addr) (q : Nat) (C2 : Option Addr) (q2 : Nat), e = .returned (.tuple #[.agg #[.slice C r0.length q, .slice C2 rz0.length q2], .int .i64 r1]) ∧ w'.ownsRow W.heap.size 97 3 (.slice C r0.length q) r0.length (wnC r0) ∧ w'.ownsRow W.heap.size 2 1 (.slice C2 rz0.length q2) rz0.length (icells rz0) ∧ Below W.heap.size W w') := fun E0 E1 O1 E3 W h0 h1 h1z h3 => by rw [hr0, hrz0, hr1]; exact implDoWearActs_any s0 E0 l0.length l0 E1 l1.length l1 O1 z1.length z1 x2_0 x2_1 E3 l3.length l3 W h0 hn0 hwf0 hs0 h1 h1z hn1.1 hn1.2 hwf1 hzwf1 hv2 h3 hn3 hwf3
  clear hr0 hrz0 hr1
  obtain ⟨X0, hX0⟩ : ∃ X, X = (((w.alloc (.cells #[.int .i16 s0, .slice A0 l0.length c0] 25)).alloc (.cells #[.slice A1 l1.length c1, .slice U1 z1.length v1] 29)).alloc (.cells #[.int .i64 x2_0, .int .i64 x2_1] 59)) := ⟨_, rfl⟩
  have b0 : Below w.heap.size w X0 := by rw [hX0]; exact ((((Below.refl _ _).alloc (Nat.le_refl _) _).alloc (by simp) _).alloc (by simp; omega) _)
  have B0_0 : Bk X0 (w.heap.size) 25 #[.int .i16 s0, .slice A0 l0.length c0] := by rw [hX0]; exact Bk.new _ _ _ rfl |>.old _ |>.old _
  have bw0 : w.heap.size < X0.heap.size := B0_0.lt
  have B1_0 : Bk X0 (w.heap.size + 1) 29 #[.slice A1 l1.length c1, .slice U1 z1.length v1] := by rw [hX0]; exact Bk.new _ _ _ (by simp) |>.old _
  have bw1 : w.heap.size + 1 < X0.heap.size := B1_0.lt
  have B2_0 : Bk X0 (w.heap.size + 1 + 1) 59 #[.int .i64 x2_0, .int .i64 x2_1] := by rw [hX0]; exact Bk.new _ _ _ (by simp)
  have bw2 : w.heap.size + 1 + 1 < X0.heap.size := B2_0.lt
  go_enter Tryz.func7, Tryz.ntmps7
  go_upto_region 1 with fail
  rw [← hX0]
  clear hX0
  have pf22_0 := B0_0.cell (i := 0) rfl
  have pf22_1 := B0_0.cell (i := 1) rfl
  go_wp2_with fail
  clear pf22_0 pf22_1
  refine (szFrame_at_small s0 A0 l0.length c0 (1048576) (by omega) (by omega) hm0 (by omega) _).mono ?_
  rintro e w1 ⟨rfl, hb1⟩
  have b1 := step_below hb1 b0
  have B0_1 := B0_0.keep hb1
  have B1_1 := B1_0.keep hb1
  have B2_1 := B2_0.keep hb1
  have pf27_0 := B1_1.cell (i := 0) rfl
  have pf27_1 := B1_1.cell (i := 1) rfl
  go_wp2_with fail
  clear pf27_0 pf27_1
  refine (szWear_small A1 l1.length c1 U1 z1.length v1 (1048576 - (l0.length : Int)) (by omega) (by omega) hm1.1 hm1.2 (by omega) _).mono ?_
  rintro e w2 ⟨rfl, hb2⟩
  have b2 := step_below hb2 b1
  have B0_2 := B0_1.keep hb2
  have B1_2 := B1_1.keep hb2
  have B2_2 := B2_1.keep hb2
  go_wp2_with fail
  refine (szActS_small A3 l3.length c3 (1048576 - (l0.length : Int) - ((l1.length + z1.length) : Int)) (by omega) (by omega) hm3 (by omega) _).mono ?_
  rintro e w3' ⟨rfl, rfl⟩
  go_upto_region 11 with fail
  go_cut [10, 11] from 37 to 48 (fun a_ b_ wx => ∃ (g : Nat) (C : Option Addr) (e : Nat) (D : Option Addr) (f : Nat) (W : World), a_ = .pointer (some ⟨g, 0, none⟩) ∧ b_ = .int .i64 r1 ∧ W = wx ∧ Bk W g 34 #[.slice C r0.length e, .slice D rz0.length f] ∧ w2.heap.size ≤ g ∧ W.ownsRow w2.heap.size 97 3 (.slice C r0.length e) r0.length (wnC r0) ∧ W.ownsRow w2.heap.size 2 1 (.slice D rz0.length f) rz0.length (icells rz0) ∧ Below w2.heap.size w2 W)
  case first =>
    have hb3 : Below w2.heap.size w2 w2.drew := (Below.refl _ _).drew
    have tb2 : Below w2.heap.size w2 w2 := Below.refl _ _
    have b3 := step_below hb3 b2
    have B0_3 := B0_2.keep hb3
    have B1_3 := B1_2.keep hb3
    have B2_3 := B2_2.keep hb3
    have tb3 := step_below hb3 tb2
    refine wp_region_held_drew (S := fun w' => w'.cell? ⟨w.heap.size, 0, none⟩ = some (.int .i16 s0) ∧ w'.cell? ⟨w.heap.size, 1, none⟩ = some (.slice A0 l0.length c0) ∧ w'.cell? ⟨w.heap.size + 1, 0, none⟩ = some (.slice A1 l1.length c1) ∧ w'.cell? ⟨w.heap.size + 1, 1, none⟩ = some (.slice U1 z1.length v1) ∧ w'.cell? ⟨w.heap.size + 1 + 1, 0, none⟩ = some (.int .i64 x2_0) ∧ w'.cell? ⟨w.heap.size + 1 + 1, 1, none⟩ = some (.int .i64 x2_1)) (by kernel_rfl) ⟨(B0_3.cell (i := 0) rfl), (B0_3.cell (i := 1) rfl), (B1_3.cell (i := 0) rfl), (B1_3.cell (i := 1) rfl), (B2_3.cell (i := 0) rfl), (B2_3.cell (i := 1) rfl)⟩ fun hS3 => ?_
    generalize w2.drew = wd3 at *
    change wpAnyH _ _ _ _ _ _ #[false, false, false, false, false, false, false, false, false, false, false, false, false, false, false] _ _
    refine wpAnyH_take (i := 0) (v := .agg #[.int .i16 s0, .slice A0 l0.length c0]) rfl (by kernel_rfl) (by kernel_rfl) (by kernel_rfl) (fun _ _ _ h => h) (Or.inl ⟨by rfl, fun w' h => ?_⟩) hS3 ?_
    · have c0 := h.1
      have c1 := h.2.1
      clear h
      go_simp
    change wpAnyH _ _ _ _ _ _ _ (Act.put _ (some 38) _) _
    simp only [Act.put, List.setIfInBounds_toArray, List.set_cons_zero, List.set_cons_succ]
    refine wpAnyH_take (i := 2) (v := .agg #[.slice A1 l1.length c1, .slice U1 z1.length v1]) rfl (by kernel_rfl) (by kernel_rfl) (by kernel_rfl) (fun _ _ _ h => h) (Or.inl ⟨by rfl, fun w' h => ?_⟩) hS3 ?_
    · have c0 := h.2.2.1
      have c1 := h.2.2.2.1
      clear h
      go_simp
    change wpAnyH _ _ _ _ _ _ _ (Act.put _ (some 40) _) _
    simp only [Act.put, List.setIfInBounds_toArray, List.set_cons_zero, List.set_cons_succ]
    refine wpAnyH_take (i := 4) (v := .agg #[.int .i64 x2_0, .int .i64 x2_1]) rfl (by kernel_rfl) (by kernel_rfl) (by kernel_rfl) (fun _ _ _ h => h) (Or.inl ⟨by rfl, fun w' h => ?_⟩) hS3 ?_
    · have c0 := h.2.2.2.2.1
      have c1 := h.2.2.2.2.2
      clear h
      go_simp
    change wpAnyH _ _ _ _ _ _ _ (Act.put _ (some 42) _) _
    simp only [Act.put, List.setIfInBounds_toArray, List.set_cons_zero, List.set_cons_succ]
    refine wpAnyH_take (i := 6) (v := .slice A3 l3.length c3) rfl (by kernel_rfl) (by kernel_rfl) (by kernel_rfl) (fun _ _ _ h => h) (Or.inl ⟨by rfl, fun w' _ => by go_simp⟩) hS3 ?_
    change wpAnyH _ _ _ _ _ _ _ (Act.put _ (some 44) _) _
    simp only [Act.put, List.setIfInBounds_toArray, List.set_cons_zero, List.set_cons_succ]
    refine wpAnyH_ready (rs := [1, 12]) (by kernel_rfl) (by simp) (AllReadyH.cons rfl ?_ (AllReadyH.cons rfl ?_ AllReadyH.nil))
    · intro K hK
      rw [if_pos (by rfl)]
      go_simp
      refine (toFrame_any s0 A0 c0 l0 _ (hA0.below b3) hn0).mono ?_
      rintro e w4 ⟨g4, rfl, hg4, own4, hb4⟩
      have b4 := step_below hb4 b3
      have B0_4 := B0_3.keep hb4
      have B1_4 := B1_3.keep hb4
      have B2_4 := B2_3.keep hb4
      have gl4 : g4 < w4.heap.size := (own4.lt g4 rfl).2
      have q4_4 := own4
      have tb4 := tb3.trans (hb4.mono tb3.size)
      refine hK.out _ _ ⟨(B0_4.cell (i := 0) rfl), (B0_4.cell (i := 1) rfl), (B1_4.cell (i := 0) rfl), (B1_4.cell (i := 1) rfl), (B2_4.cell (i := 0) rfl), (B2_4.cell (i := 1) rfl)⟩ (fun hS4 => ?_)
      clear hK K
      try (change wpAnyH _ _ _ _ _ _ _ (Act.put _ (some 39) _) _)
      try simp only [Act.put, List.setIfInBounds_toArray, List.set_cons_zero, List.set_cons_succ]
      refine wpAnyH_ready (rs := [3, 12]) (by kernel_rfl) (by simp) (AllReadyH.cons rfl ?_ (AllReadyH.cons rfl ?_ AllReadyH.nil))
      · intro K hK
        rw [if_pos (by rfl)]
        go_simp
        refine (toWear_any A1 c1 l1 U1 v1 z1 _ (hA1.below b4) (hU1.below b4) hn1.1 hn1.2).mono ?_
        rintro e w5 ⟨g5, m5, rfl, hg5, hgm5, own5, owm5, hb5⟩
        have b5 := step_below hb5 b4
        have B0_5 := B0_4.keep hb5
        have B1_5 := B1_4.keep hb5
        have B2_5 := B2_4.keep hb5
        have q4_5 := own_keep q4_4 hb5
        have gl5 : g5 < w5.heap.size := (own5.lt g5 rfl).2
        have gm5 : m5 < w5.heap.size := (owm5.lt m5 rfl).2
        have q5_5 := own5
        have d5_5 := owm5
        have tb5 := tb4.trans (hb5.mono tb4.size)
        refine hK.out _ _ ⟨(B0_5.cell (i := 0) rfl), (B0_5.cell (i := 1) rfl), (B1_5.cell (i := 0) rfl), (B1_5.cell (i := 1) rfl), (B2_5.cell (i := 0) rfl), (B2_5.cell (i := 1) rfl)⟩ (fun hS5 => ?_)
        clear hK K
        try (change wpAnyH _ _ _ _ _ _ _ (Act.put _ (some 41) _) _)
        try simp only [Act.put, List.setIfInBounds_toArray, List.set_cons_zero, List.set_cons_succ]
        refine wpAnyH_ready (rs := [5, 12]) (by kernel_rfl) (by simp) (AllReadyH.cons rfl ?_ (AllReadyH.cons rfl ?_ AllReadyH.nil))
        · intro K hK
          rw [if_pos (by rfl)]
          go_simp
          refine (toLives_any x2_0 x2_1 _).mono ?_
          rintro e w6 ⟨rfl, hb6⟩
          have b6 := step_below hb6 b5
          have B0_6 := B0_5.keep hb6
          have B1_6 := B1_5.keep hb6
          have B2_6 := B2_5.keep hb6
          have q4_6 := own_keep q4_5 hb6
          have q5_6 := own_keep q5_5 hb6
          have d5_6 := own_keep d5_5 hb6
          have tb6 := tb5.trans (hb6.mono tb5.size)
          refine hK.out _ _ ⟨(B0_6.cell (i := 0) rfl), (B0_6.cell (i := 1) rfl), (B1_6.cell (i := 0) rfl), (B1_6.cell (i := 1) rfl), (B2_6.cell (i := 0) rfl), (B2_6.cell (i := 1) rfl)⟩ (fun hS6 => ?_)
          clear hK K
          try (change wpAnyH _ _ _ _ _ _ _ (Act.put _ (some 43) _) _)
          try simp only [Act.put, List.setIfInBounds_toArray, List.set_cons_zero, List.set_cons_succ]
          refine wpAnyH_ready (rs := [7, 12]) (by kernel_rfl) (by simp) (AllReadyH.cons rfl ?_ (AllReadyH.cons rfl ?_ AllReadyH.nil))
          · intro K hK
            rw [if_pos (by rfl)]
            go_simp
            refine (toActS_ex A3 c3 l3 _ (hA3.below b6) hn3).mono ?_
            rintro e w7 ⟨g7, rfl, hg7, own7, hb7⟩
            have b7 := step_below hb7 b6
            have B0_7 := B0_6.keep hb7
            have B1_7 := B1_6.keep hb7
            have B2_7 := B2_6.keep hb7
            have q4_7 := own_keep q4_6 hb7
            have q5_7 := own_keep q5_6 hb7
            have d5_7 := own_keep d5_6 hb7
            have gl7 : g7 < w7.heap.size := (own7.lt g7 rfl).2
            have q7_7 := own7
            have tb7 := tb6.trans (hb7.mono tb6.size)
            refine hK.out _ _ ⟨(B0_7.cell (i := 0) rfl), (B0_7.cell (i := 1) rfl), (B1_7.cell (i := 0) rfl), (B1_7.cell (i := 1) rfl), (B2_7.cell (i := 0) rfl), (B2_7.cell (i := 1) rfl)⟩ (fun hS7 => ?_)
            clear hK K
            try (change wpAnyH _ _ _ _ _ _ _ (Act.put _ (some 45) _) _)
            try simp only [Act.put, List.setIfInBounds_toArray, List.set_cons_zero, List.set_cons_succ]
            refine wpAnyH_ready (rs := [8, 12]) (by kernel_rfl) (by simp) (AllReadyH.cons rfl ?_ (AllReadyH.cons rfl ?_ AllReadyH.nil))
            · intro K hK
              rw [if_pos (by rfl)]
              go_simp
              refine (KS _ _ _ _ _ (HA.of_own q4_7) (WnA.of_own q5_7) (SZ.of_own d5_7) (AcA.of_own q7_7) ).mono ?_
              rintro e w8 ⟨C8, e8, D8, f8, rfl, own8, owm8, hb8⟩
              have b8 := step_below hb8 b7
              have B0_8 := B0_7.keep hb8
              have B1_8 := B1_7.keep hb8
              have B2_8 := B2_7.keep hb8
              have v8_8 := own8
              have vz8_8 := owm8
              have t8 : Below w8.heap.size w8 w8 := Below.refl _ _
              have tb8 := tb7.trans (hb8.mono tb7.size)
              have oo_8 := own_base own8 tb7.size
              have oz_8 := own_base owm8 tb7.size
              refine hK.out _ _ ⟨(B0_8.cell (i := 0) rfl), (B0_8.cell (i := 1) rfl), (B1_8.cell (i := 0) rfl), (B1_8.cell (i := 1) rfl), (B2_8.cell (i := 0) rfl), (B2_8.cell (i := 1) rfl)⟩ (fun hS8 => ?_)
              clear hK K
              try (change wpAnyH _ _ _ _ _ _ _ (Act.put _ (some 46) _) _)
              try simp only [Act.put, List.setIfInBounds_toArray, List.set_cons_zero, List.set_cons_succ]
              refine wpAnyH_take (i := 9) (v := .tuple #[.agg #[.slice C8 r0.length e8, .slice D8 rz0.length f8], .int .i64 r1]) rfl (by kernel_rfl) (by kernel_rfl) (by kernel_rfl) (fun _ _ _ h => h) (Or.inl ⟨by rfl, fun w' _ => by go_simp⟩) hS8 ?_
              change wpAnyH _ _ _ _ _ _ _ (Act.put _ (some 37) _) _
              simp only [Act.put, List.setIfInBounds_toArray, List.set_cons_zero, List.set_cons_succ]
              refine wpAnyH_take (i := 10) (v := .agg #[.slice C8 r0.length e8, .slice D8 rz0.length f8]) rfl (by kernel_rfl) (by kernel_rfl) (by kernel_rfl) (fun _ _ _ h => h) (Or.inl ⟨by rfl, fun w' _ => by go_simp⟩) hS8 ?_
              change wpAnyH _ _ _ _ _ _ _ (Act.put _ (some 47) _) _
              simp only [Act.put, List.setIfInBounds_toArray, List.set_cons_zero, List.set_cons_succ]
              refine wpAnyH_take (i := 11) (v := .int .i64 r1) rfl (by kernel_rfl) (by kernel_rfl) (by kernel_rfl) (fun _ _ _ h => h) (Or.inl ⟨by rfl, fun w' _ => by go_simp⟩) hS8 ?_
              change wpAnyH _ _ _ _ _ _ _ (Act.put _ (some 48) _) _
              simp only [Act.put, List.setIfInBounds_toArray, List.set_cons_zero, List.set_cons_succ]
              refine wpAnyH_ready (rs := [12]) (by kernel_rfl) (by simp) (AllReadyH.cons rfl ?_ AllReadyH.nil)
              obtain ⟨w9, hX9⟩ : ∃ X, X = w8.alloc (.cells #[.slice none 0 0, .slice none 0 0] 34) := ⟨_, rfl⟩
              have hb9 : Below w8.heap.size w8 w9 := by rw [hX9]; exact (Below.refl _ _).alloc (Nat.le_refl _) _
              have za9 : Bk w9 w8.heap.size 34 #[.slice none 0 0, .slice none 0 0] := by rw [hX9]; exact heap_new' _ _ _ rfl
              have ge9 : w2.heap.size ≤ w8.heap.size := tb8.size
              intro K hK
              rw [if_pos (by rfl)]
              go_simp
              rw [← hX9]
              clear hX9
              have b9 := step_below hb9 b8
              have B0_9 := B0_8.keep hb9
              have B1_9 := B1_8.keep hb9
              have B2_9 := B2_8.keep hb9
              have v8_9 := own_keep v8_8 hb9
              have vz8_9 := own_keep vz8_8 hb9
              have t9 := step_below hb9 t8
              have tb9 := tb8.trans (hb9.mono tb8.size)
              have oo_9 := own_keep oo_8 hb9
              have oz_9 := own_keep oz_8 hb9
              refine hK.out _ _ ⟨(B0_9.cell (i := 0) rfl), (B0_9.cell (i := 1) rfl), (B1_9.cell (i := 0) rfl), (B1_9.cell (i := 1) rfl), (B2_9.cell (i := 0) rfl), (B2_9.cell (i := 1) rfl)⟩ (fun hS9 => ?_)
              clear hK K
              try (change wpAnyH _ _ _ _ _ _ _ (Act.put _ (some 10) _) _)
              try simp only [Act.put, List.setIfInBounds_toArray, List.set_cons_zero, List.set_cons_succ]
              refine wpAnyH_ready (rs := [13]) (by kernel_rfl) (by simp) (AllReadyH.cons rfl ?_ AllReadyH.nil)
              intro K hK
              rw [if_pos (by rfl)]
              refine wp_store_row 34 (.tmp 10) (.tmp 47) rfl (w8.heap.size) #[.slice C8 r0.length e8, .slice D8 rz0.length f8] rfl rfl 34 _ za9 (infoWear _ _) (szWear _ _ _ _) (oneWear _ _ _ _ _ _) ?_
              have hb10 : Below w2.heap.size w9 (w9.setRow (w8.heap.size) #[.slice C8 r0.length e8, .slice D8 rz0.length f8]) := below_setRow (Below.refl _ _) ge9
              have DD : Bk (w9.setRow (w8.heap.size) #[.slice C8 r0.length e8, .slice D8 rz0.length f8]) (w8.heap.size) 34 #[.slice C8 r0.length e8, .slice D8 rz0.length f8] := setRow_heap _ _ _ _ _ _ za9
              have oo_10 := own_rowK oo_9 za9 (by decide) #[.slice C8 r0.length e8, .slice D8 rz0.length f8]
              have oz_10 := own_rowK oz_9 za9 (by decide) #[.slice C8 r0.length e8, .slice D8 rz0.length f8]
              have B0_10 : Bk (w9.setRow (w8.heap.size) #[.slice C8 r0.length e8, .slice D8 rz0.length f8]) (w.heap.size) 25 #[.int .i16 s0, .slice A0 l0.length c0] := (setRow_other _ _ _ _ (by have e1 := B0_2.lt; have e2 := ge9; omega)).trans B0_9
              have B1_10 : Bk (w9.setRow (w8.heap.size) #[.slice C8 r0.length e8, .slice D8 rz0.length f8]) (w.heap.size + 1) 29 #[.slice A1 l1.length c1, .slice U1 z1.length v1] := (setRow_other _ _ _ _ (by have e1 := B1_2.lt; have e2 := ge9; omega)).trans B1_9
              have B2_10 : Bk (w9.setRow (w8.heap.size) #[.slice C8 r0.length e8, .slice D8 rz0.length f8]) (w.heap.size + 1 + 1) 59 #[.int .i64 x2_0, .int .i64 x2_1] := (setRow_other _ _ _ _ (by have e1 := B2_2.lt; have e2 := ge9; omega)).trans B2_9
              have tb10 := tb9.trans hb10
              refine hK.out _ _ ⟨(B0_10.cell (i := 0) rfl), (B0_10.cell (i := 1) rfl), (B1_10.cell (i := 0) rfl), (B1_10.cell (i := 1) rfl), (B2_10.cell (i := 0) rfl), (B2_10.cell (i := 1) rfl)⟩ (fun hS10 => ?_)
              clear hK K
              refine wpAnyH_take (i := 14) (v := .int .i64 r1) rfl (by kernel_rfl) (by kernel_rfl) (by kernel_rfl) (fun _ _ _ h => h) (Or.inl ⟨by rfl, fun w' _ => by go_simp⟩) hS10 ?_
              change wpAnyH _ _ _ _ _ _ _ (Act.put _ (some 11) _) _
              simp only [Act.put, List.setIfInBounds_toArray, List.set_cons_zero, List.set_cons_succ]
              refine wpAnyH_done (by kernel_rfl) ?_ _
              go_wp2_with fail
              go_meet
              exact ⟨_, C8, e8, D8, f8, _, rfl, rfl, rfl, DD, ge9, oo_10, oz_10, tb10⟩
            · obtain ⟨w8, hX8⟩ : ∃ X, X = w7.alloc (.cells #[.slice none 0 0, .slice none 0 0] 34) := ⟨_, rfl⟩
              have hb8 : Below w7.heap.size w7 w8 := by rw [hX8]; exact (Below.refl _ _).alloc (Nat.le_refl _) _
              have za8 : Bk w8 w7.heap.size 34 #[.slice none 0 0, .slice none 0 0] := by rw [hX8]; exact heap_new' _ _ _ rfl
              have ge8 : w2.heap.size ≤ w7.heap.size := tb7.size
              intro K hK
              rw [if_pos (by rfl)]
              go_simp
              rw [← hX8]
              clear hX8
              have b8 := step_below hb8 b7
              have B0_8 := B0_7.keep hb8
              have B1_8 := B1_7.keep hb8
              have B2_8 := B2_7.keep hb8
              have q4_8 := own_keep q4_7 hb8
              have q5_8 := own_keep q5_7 hb8
              have d5_8 := own_keep d5_7 hb8
              have q7_8 := own_keep q7_7 hb8
              have tb8 := tb7.trans (hb8.mono tb7.size)
              refine hK.out _ _ ⟨(B0_8.cell (i := 0) rfl), (B0_8.cell (i := 1) rfl), (B1_8.cell (i := 0) rfl), (B1_8.cell (i := 1) rfl), (B2_8.cell (i := 0) rfl), (B2_8.cell (i := 1) rfl)⟩ (fun hS8 => ?_)
              clear hK K
              try (change wpAnyH _ _ _ _ _ _ _ (Act.put _ (some 10) _) _)
              try simp only [Act.put, List.setIfInBounds_toArray, List.set_cons_zero, List.set_cons_succ]
              refine wpAnyH_ready (rs := [8]) (by kernel_rfl) (by simp) (AllReadyH.cons rfl ?_ AllReadyH.nil)
              intro K hK
              rw [if_pos (by rfl)]
              go_simp
              refine (KS _ _ _ _ _ (HA.of_own q4_8) (WnA.of_own q5_8) (SZ.of_own d5_8) (AcA.of_own q7_8) ).mono ?_
              rintro e w9 ⟨C9, e9, D9, f9, rfl, own9, owm9, hb9⟩
              have b9 := step_below hb9 b8
              have B0_9 := B0_8.keep hb9
              have B1_9 := B1_8.keep hb9
              have B2_9 := B2_8.keep hb9
              have v9_9 := own9
              have vz9_9 := owm9
              have t9 : Below w9.heap.size w9 w9 := Below.refl _ _
              have tb9 := tb8.trans (hb9.mono tb8.size)
              have za9 := za8.keep hb9
              have oo_9 := own_base own9 tb8.size
              have oz_9 := own_base owm9 tb8.size
              refine hK.out _ _ ⟨(B0_9.cell (i := 0) rfl), (B0_9.cell (i := 1) rfl), (B1_9.cell (i := 0) rfl), (B1_9.cell (i := 1) rfl), (B2_9.cell (i := 0) rfl), (B2_9.cell (i := 1) rfl)⟩ (fun hS9 => ?_)
              clear hK K
              try (change wpAnyH _ _ _ _ _ _ _ (Act.put _ (some 46) _) _)
              try simp only [Act.put, List.setIfInBounds_toArray, List.set_cons_zero, List.set_cons_succ]
              refine wpAnyH_take (i := 9) (v := .tuple #[.agg #[.slice C9 r0.length e9, .slice D9 rz0.length f9], .int .i64 r1]) rfl (by kernel_rfl) (by kernel_rfl) (by kernel_rfl) (fun _ _ _ h => h) (Or.inl ⟨by rfl, fun w' _ => by go_simp⟩) hS9 ?_
              change wpAnyH _ _ _ _ _ _ _ (Act.put _ (some 37) _) _
              simp only [Act.put, List.setIfInBounds_toArray, List.set_cons_zero, List.set_cons_succ]
              refine wpAnyH_take (i := 10) (v := .agg #[.slice C9 r0.length e9, .slice D9 rz0.length f9]) rfl (by kernel_rfl) (by kernel_rfl) (by kernel_rfl) (fun _ _ _ h => h) (Or.inl ⟨by rfl, fun w' _ => by go_simp⟩) hS9 ?_
              change wpAnyH _ _ _ _ _ _ _ (Act.put _ (some 47) _) _
              simp only [Act.put, List.setIfInBounds_toArray, List.set_cons_zero, List.set_cons_succ]
              refine wpAnyH_take (i := 11) (v := .int .i64 r1) rfl (by kernel_rfl) (by kernel_rfl) (by kernel_rfl) (fun _ _ _ h => h) (Or.inl ⟨by rfl, fun w' _ => by go_simp⟩) hS9 ?_
              change wpAnyH _ _ _ _ _ _ _ (Act.put _ (some 48) _) _
              simp only [Act.put, List.setIfInBounds_toArray, List.set_cons_zero, List.set_cons_succ]
              refine wpAnyH_ready (rs := [13]) (by kernel_rfl) (by simp) (AllReadyH.cons rfl ?_ AllReadyH.nil)
              intro K hK
              rw [if_pos (by rfl)]
              refine wp_store_row 34 (.tmp 10) (.tmp 47) rfl (w7.heap.size) #[.slice C9 r0.length e9, .slice D9 rz0.length f9] rfl rfl 34 _ za9 (infoWear _ _) (szWear _ _ _ _) (oneWear _ _ _ _ _ _) ?_
              have hb10 : Below w2.heap.size w9 (w9.setRow (w7.heap.size) #[.slice C9 r0.length e9, .slice D9 rz0.length f9]) := below_setRow (Below.refl _ _) ge8
              have DD : Bk (w9.setRow (w7.heap.size) #[.slice C9 r0.length e9, .slice D9 rz0.length f9]) (w7.heap.size) 34 #[.slice C9 r0.length e9, .slice D9 rz0.length f9] := setRow_heap _ _ _ _ _ _ za9
              have oo_10 := own_rowK oo_9 za9 (by decide) #[.slice C9 r0.length e9, .slice D9 rz0.length f9]
              have oz_10 := own_rowK oz_9 za9 (by decide) #[.slice C9 r0.length e9, .slice D9 rz0.length f9]
              have B0_10 : Bk (w9.setRow (w7.heap.size) #[.slice C9 r0.length e9, .slice D9 rz0.length f9]) (w.heap.size) 25 #[.int .i16 s0, .slice A0 l0.length c0] := (setRow_other _ _ _ _ (by have e1 := B0_2.lt; have e2 := ge8; omega)).trans B0_9
              have B1_10 : Bk (w9.setRow (w7.heap.size) #[.slice C9 r0.length e9, .slice D9 rz0.length f9]) (w.heap.size + 1) 29 #[.slice A1 l1.length c1, .slice U1 z1.length v1] := (setRow_other _ _ _ _ (by have e1 := B1_2.lt; have e2 := ge8; omega)).trans B1_9
              have B2_10 : Bk (w9.setRow (w7.heap.size) #[.slice C9 r0.length e9, .slice D9 rz0.length f9]) (w.heap.size + 1 + 1) 59 #[.int .i64 x2_0, .int .i64 x2_1] := (setRow_other _ _ _ _ (by have e1 := B2_2.lt; have e2 := ge8; omega)).trans B2_9
              have tb10 := tb9.trans hb10
              refine hK.out _ _ ⟨(B0_10.cell (i := 0) rfl), (B0_10.cell (i := 1) rfl), (B1_10.cell (i := 0) rfl), (B1_10.cell (i := 1) rfl), (B2_10.cell (i := 0) rfl), (B2_10.cell (i := 1) rfl)⟩ (fun hS10 => ?_)
              clear hK K
              refine wpAnyH_take (i := 14) (v := .int .i64 r1) rfl (by kernel_rfl) (by kernel_rfl) (by kernel_rfl) (fun _ _ _ h => h) (Or.inl ⟨by rfl, fun w' _ => by go_simp⟩) hS10 ?_
              change wpAnyH _ _ _ _ _ _ _ (Act.put _ (some 11) _) _
              simp only [Act.put, List.setIfInBounds_toArray, List.set_cons_zero, List.set_cons_succ]
              refine wpAnyH_done (by kernel_rfl) ?_ _
              go_wp2_with fail
              go_meet
              exact ⟨_, C9, e9, D9, f9, _, rfl, rfl, rfl, DD, ge8, oo_10, oz_10, tb10⟩
          · obtain ⟨w7, hX7⟩ : ∃ X, X = w6.alloc (.cells #[.slice none 0 0, .slice none 0 0] 34) := ⟨_, rfl⟩
            have hb7 : Below w6.heap.size w6 w7 := by rw [hX7]; exact (Below.refl _ _).alloc (Nat.le_refl _) _
            have za7 : Bk w7 w6.heap.size 34 #[.slice none 0 0, .slice none 0 0] := by rw [hX7]; exact heap_new' _ _ _ rfl
            have ge7 : w2.heap.size ≤ w6.heap.size := tb6.size
            intro K hK
            rw [if_pos (by rfl)]
            go_simp
            rw [← hX7]
            clear hX7
            have b7 := step_below hb7 b6
            have B0_7 := B0_6.keep hb7
            have B1_7 := B1_6.keep hb7
            have B2_7 := B2_6.keep hb7
            have q4_7 := own_keep q4_6 hb7
            have q5_7 := own_keep q5_6 hb7
            have d5_7 := own_keep d5_6 hb7
            have tb7 := tb6.trans (hb7.mono tb6.size)
            refine hK.out _ _ ⟨(B0_7.cell (i := 0) rfl), (B0_7.cell (i := 1) rfl), (B1_7.cell (i := 0) rfl), (B1_7.cell (i := 1) rfl), (B2_7.cell (i := 0) rfl), (B2_7.cell (i := 1) rfl)⟩ (fun hS7 => ?_)
            clear hK K
            try (change wpAnyH _ _ _ _ _ _ _ (Act.put _ (some 10) _) _)
            try simp only [Act.put, List.setIfInBounds_toArray, List.set_cons_zero, List.set_cons_succ]
            refine wpAnyH_ready (rs := [7]) (by kernel_rfl) (by simp) (AllReadyH.cons rfl ?_ AllReadyH.nil)
            intro K hK
            rw [if_pos (by rfl)]
            go_simp
            refine (toActS_ex A3 c3 l3 _ (hA3.below b7) hn3).mono ?_
            rintro e w8 ⟨g8, rfl, hg8, own8, hb8⟩
            have b8 := step_below hb8 b7
            have B0_8 := B0_7.keep hb8
            have B1_8 := B1_7.keep hb8
            have B2_8 := B2_7.keep hb8
            have q4_8 := own_keep q4_7 hb8
            have q5_8 := own_keep q5_7 hb8
            have d5_8 := own_keep d5_7 hb8
            have gl8 : g8 < w8.heap.size := (own8.lt g8 rfl).2
            have q8_8 := own8
            have tb8 := tb7.trans (hb8.mono tb7.size)
            have za8 := za7.keep hb8
            refine hK.out _ _ ⟨(B0_8.cell (i := 0) rfl), (B0_8.cell (i := 1) rfl), (B1_8.cell (i := 0) rfl), (B1_8.cell (i := 1) rfl), (B2_8.cell (i := 0) rfl), (B2_8.cell (i := 1) rfl)⟩ (fun hS8 => ?_)
            clear hK K
            try (change wpAnyH _ _ _ _ _ _ _ (Act.put _ (some 45) _) _)
            try simp only [Act.put, List.setIfInBounds_toArray, List.set_cons_zero, List.set_cons_succ]
            refine wpAnyH_ready (rs := [8]) (by kernel_rfl) (by simp) (AllReadyH.cons rfl ?_ AllReadyH.nil)
            intro K hK
            rw [if_pos (by rfl)]
            go_simp
            refine (KS _ _ _ _ _ (HA.of_own q4_8) (WnA.of_own q5_8) (SZ.of_own d5_8) (AcA.of_own q8_8) ).mono ?_
            rintro e w9 ⟨C9, e9, D9, f9, rfl, own9, owm9, hb9⟩
            have b9 := step_below hb9 b8
            have B0_9 := B0_8.keep hb9
            have B1_9 := B1_8.keep hb9
            have B2_9 := B2_8.keep hb9
            have v9_9 := own9
            have vz9_9 := owm9
            have t9 : Below w9.heap.size w9 w9 := Below.refl _ _
            have tb9 := tb8.trans (hb9.mono tb8.size)
            have za9 := za8.keep hb9
            have oo_9 := own_base own9 tb8.size
            have oz_9 := own_base owm9 tb8.size
            refine hK.out _ _ ⟨(B0_9.cell (i := 0) rfl), (B0_9.cell (i := 1) rfl), (B1_9.cell (i := 0) rfl), (B1_9.cell (i := 1) rfl), (B2_9.cell (i := 0) rfl), (B2_9.cell (i := 1) rfl)⟩ (fun hS9 => ?_)
            clear hK K
            try (change wpAnyH _ _ _ _ _ _ _ (Act.put _ (some 46) _) _)
            try simp only [Act.put, List.setIfInBounds_toArray, List.set_cons_zero, List.set_cons_succ]
            refine wpAnyH_take (i := 9) (v := .tuple #[.agg #[.slice C9 r0.length e9, .slice D9 rz0.length f9], .int .i64 r1]) rfl (by kernel_rfl) (by kernel_rfl) (by kernel_rfl) (fun _ _ _ h => h) (Or.inl ⟨by rfl, fun w' _ => by go_simp⟩) hS9 ?_
            change wpAnyH _ _ _ _ _ _ _ (Act.put _ (some 37) _) _
            simp only [Act.put, List.setIfInBounds_toArray, List.set_cons_zero, List.set_cons_succ]
            refine wpAnyH_take (i := 10) (v := .agg #[.slice C9 r0.length e9, .slice D9 rz0.length f9]) rfl (by kernel_rfl) (by kernel_rfl) (by kernel_rfl) (fun _ _ _ h => h) (Or.inl ⟨by rfl, fun w' _ => by go_simp⟩) hS9 ?_
            change wpAnyH _ _ _ _ _ _ _ (Act.put _ (some 47) _) _
            simp only [Act.put, List.setIfInBounds_toArray, List.set_cons_zero, List.set_cons_succ]
            refine wpAnyH_take (i := 11) (v := .int .i64 r1) rfl (by kernel_rfl) (by kernel_rfl) (by kernel_rfl) (fun _ _ _ h => h) (Or.inl ⟨by rfl, fun w' _ => by go_simp⟩) hS9 ?_
            change wpAnyH _ _ _ _ _ _ _ (Act.put _ (some 48) _) _
            simp only [Act.put, List.setIfInBounds_toArray, List.set_cons_zero, List.set_cons_succ]
            refine wpAnyH_ready (rs := [13]) (by kernel_rfl) (by simp) (AllReadyH.cons rfl ?_ AllReadyH.nil)
            intro K hK
            rw [if_pos (by rfl)]
            refine wp_store_row 34 (.tmp 10) (.tmp 47) rfl (w6.heap.size) #[.slice C9 r0.length e9, .slice D9 rz0.length f9] rfl rfl 34 _ za9 (infoWear _ _) (szWear _ _ _ _) (oneWear _ _ _ _ _ _) ?_
            have hb10 : Below w2.heap.size w9 (w9.setRow (w6.heap.size) #[.slice C9 r0.length e9, .slice D9 rz0.length f9]) := below_setRow (Below.refl _ _) ge7
            have DD : Bk (w9.setRow (w6.heap.size) #[.slice C9 r0.length e9, .slice D9 rz0.length f9]) (w6.heap.size) 34 #[.slice C9 r0.length e9, .slice D9 rz0.length f9] := setRow_heap _ _ _ _ _ _ za9
            have oo_10 := own_rowK oo_9 za9 (by decide) #[.slice C9 r0.length e9, .slice D9 rz0.length f9]
            have oz_10 := own_rowK oz_9 za9 (by decide) #[.slice C9 r0.length e9, .slice D9 rz0.length f9]
            have B0_10 : Bk (w9.setRow (w6.heap.size) #[.slice C9 r0.length e9, .slice D9 rz0.length f9]) (w.heap.size) 25 #[.int .i16 s0, .slice A0 l0.length c0] := (setRow_other _ _ _ _ (by have e1 := B0_2.lt; have e2 := ge7; omega)).trans B0_9
            have B1_10 : Bk (w9.setRow (w6.heap.size) #[.slice C9 r0.length e9, .slice D9 rz0.length f9]) (w.heap.size + 1) 29 #[.slice A1 l1.length c1, .slice U1 z1.length v1] := (setRow_other _ _ _ _ (by have e1 := B1_2.lt; have e2 := ge7; omega)).trans B1_9
            have B2_10 : Bk (w9.setRow (w6.heap.size) #[.slice C9 r0.length e9, .slice D9 rz0.length f9]) (w.heap.size + 1 + 1) 59 #[.int .i64 x2_0, .int .i64 x2_1] := (setRow_other _ _ _ _ (by have e1 := B2_2.lt; have e2 := ge7; omega)).trans B2_9
            have tb10 := tb9.trans hb10
            refine hK.out _ _ ⟨(B0_10.cell (i := 0) rfl), (B0_10.cell (i := 1) rfl), (B1_10.cell (i := 0) rfl), (B1_10.cell (i := 1) rfl), (B2_10.cell (i := 0) rfl), (B2_10.cell (i := 1) rfl)⟩ (fun hS10 => ?_)
            clear hK K
            refine wpAnyH_take (i := 14) (v := .int .i64 r1) rfl (by kernel_rfl) (by kernel_rfl) (by kernel_rfl) (fun _ _ _ h => h) (Or.inl ⟨by rfl, fun w' _ => by go_simp⟩) hS10 ?_
            change wpAnyH _ _ _ _ _ _ _ (Act.put _ (some 11) _) _
            simp only [Act.put, List.setIfInBounds_toArray, List.set_cons_zero, List.set_cons_succ]
            refine wpAnyH_done (by kernel_rfl) ?_ _
            go_wp2_with fail
            go_meet
            exact ⟨_, C9, e9, D9, f9, _, rfl, rfl, rfl, DD, ge7, oo_10, oz_10, tb10⟩
        · obtain ⟨w6, hX6⟩ : ∃ X, X = w5.alloc (.cells #[.slice none 0 0, .slice none 0 0] 34) := ⟨_, rfl⟩
          have hb6 : Below w5.heap.size w5 w6 := by rw [hX6]; exact (Below.refl _ _).alloc (Nat.le_refl _) _
          have za6 : Bk w6 w5.heap.size 34 #[.slice none 0 0, .slice none 0 0] := by rw [hX6]; exact heap_new' _ _ _ rfl
          have ge6 : w2.heap.size ≤ w5.heap.size := tb5.size
          intro K hK
          rw [if_pos (by rfl)]
          go_simp
          rw [← hX6]
          clear hX6
          have b6 := step_below hb6 b5
          have B0_6 := B0_5.keep hb6
          have B1_6 := B1_5.keep hb6
          have B2_6 := B2_5.keep hb6
          have q4_6 := own_keep q4_5 hb6
          have q5_6 := own_keep q5_5 hb6
          have d5_6 := own_keep d5_5 hb6
          have tb6 := tb5.trans (hb6.mono tb5.size)
          refine hK.out _ _ ⟨(B0_6.cell (i := 0) rfl), (B0_6.cell (i := 1) rfl), (B1_6.cell (i := 0) rfl), (B1_6.cell (i := 1) rfl), (B2_6.cell (i := 0) rfl), (B2_6.cell (i := 1) rfl)⟩ (fun hS6 => ?_)
          clear hK K
          try (change wpAnyH _ _ _ _ _ _ _ (Act.put _ (some 10) _) _)
          try simp only [Act.put, List.setIfInBounds_toArray, List.set_cons_zero, List.set_cons_succ]
          refine wpAnyH_ready (rs := [5]) (by kernel_rfl) (by simp) (AllReadyH.cons rfl ?_ AllReadyH.nil)
          intro K hK
          rw [if_pos (by rfl)]
          go_simp
          refine (toLives_any x2_0 x2_1 _).mono ?_
          rintro e w7 ⟨rfl, hb7⟩
          have b7 := step_below hb7 b6
          have B0_7 := B0_6.keep hb7
          have B1_7 := B1_6.keep hb7
          have B2_7 := B2_6.keep hb7
          have q4_7 := own_keep q4_6 hb7
          have q5_7 := own_keep q5_6 hb7
          have d5_7 := own_keep d5_6 hb7
          have tb7 := tb6.trans (hb7.mono tb6.size)
          have za7 := za6.keep hb7
          refine hK.out _ _ ⟨(B0_7.cell (i := 0) rfl), (B0_7.cell (i := 1) rfl), (B1_7.cell (i := 0) rfl), (B1_7.cell (i := 1) rfl), (B2_7.cell (i := 0) rfl), (B2_7.cell (i := 1) rfl)⟩ (fun hS7 => ?_)
          clear hK K
          try (change wpAnyH _ _ _ _ _ _ _ (Act.put _ (some 43) _) _)
          try simp only [Act.put, List.setIfInBounds_toArray, List.set_cons_zero, List.set_cons_succ]
          refine wpAnyH_ready (rs := [7]) (by kernel_rfl) (by simp) (AllReadyH.cons rfl ?_ AllReadyH.nil)
          intro K hK
          rw [if_pos (by rfl)]
          go_simp
          refine (toActS_ex A3 c3 l3 _ (hA3.below b7) hn3).mono ?_
          rintro e w8 ⟨g8, rfl, hg8, own8, hb8⟩
          have b8 := step_below hb8 b7
          have B0_8 := B0_7.keep hb8
          have B1_8 := B1_7.keep hb8
          have B2_8 := B2_7.keep hb8
          have q4_8 := own_keep q4_7 hb8
          have q5_8 := own_keep q5_7 hb8
          have d5_8 := own_keep d5_7 hb8
          have gl8 : g8 < w8.heap.size := (own8.lt g8 rfl).2
          have q8_8 := own8
          have tb8 := tb7.trans (hb8.mono tb7.size)
          have za8 := za7.keep hb8
          refine hK.out _ _ ⟨(B0_8.cell (i := 0) rfl), (B0_8.cell (i := 1) rfl), (B1_8.cell (i := 0) rfl), (B1_8.cell (i := 1) rfl), (B2_8.cell (i := 0) rfl), (B2_8.cell (i := 1) rfl)⟩ (fun hS8 => ?_)
          clear hK K
          try (change wpAnyH _ _ _ _ _ _ _ (Act.put _ (some 45) _) _)
          try simp only [Act.put, List.setIfInBounds_toArray, List.set_cons_zero, List.set_cons_succ]
          refine wpAnyH_ready (rs := [8]) (by kernel_rfl) (by simp) (AllReadyH.cons rfl ?_ AllReadyH.nil)
          intro K hK
          rw [if_pos (by rfl)]
          go_simp
          refine (KS _ _ _ _ _ (HA.of_own q4_8) (WnA.of_own q5_8) (SZ.of_own d5_8) (AcA.of_own q8_8) ).mono ?_
          rintro e w9 ⟨C9, e9, D9, f9, rfl, own9, owm9, hb9⟩
          have b9 := step_below hb9 b8
          have B0_9 := B0_8.keep hb9
          have B1_9 := B1_8.keep hb9
          have B2_9 := B2_8.keep hb9
          have v9_9 := own9
          have vz9_9 := owm9
          have t9 : Below w9.heap.size w9 w9 := Below.refl _ _
          have tb9 := tb8.trans (hb9.mono tb8.size)
          have za9 := za8.keep hb9
          have oo_9 := own_base own9 tb8.size
          have oz_9 := own_base owm9 tb8.size
          refine hK.out _ _ ⟨(B0_9.cell (i := 0) rfl), (B0_9.cell (i := 1) rfl), (B1_9.cell (i := 0) rfl), (B1_9.cell (i := 1) rfl), (B2_9.cell (i := 0) rfl), (B2_9.cell (i := 1) rfl)⟩ (fun hS9 => ?_)
          clear hK K
          try (change wpAnyH _ _ _ _ _ _ _ (Act.put _ (some 46) _) _)
          try simp only [Act.put, List.setIfInBounds_toArray, List.set_cons_zero, List.set_cons_succ]
          refine wpAnyH_take (i := 9) (v := .tuple #[.agg #[.slice C9 r0.length e9, .slice D9 rz0.length f9], .int .i64 r1]) rfl (by kernel_rfl) (by kernel_rfl) (by kernel_rfl) (fun _ _ _ h => h) (Or.inl ⟨by rfl, fun w' _ => by go_simp⟩) hS9 ?_
          change wpAnyH _ _ _ _ _ _ _ (Act.put _ (some 37) _) _
          simp only [Act.put, List.setIfInBounds_toArray, List.set_cons_zero, List.set_cons_succ]
          refine wpAnyH_take (i := 10) (v := .agg #[.slice C9 r0.length e9, .slice D9 rz0.length f9]) rfl (by kernel_rfl) (by kernel_rfl) (by kernel_rfl) (fun _ _ _ h => h) (Or.inl ⟨by rfl, fun w' _ => by go_simp⟩) hS9 ?_
          change wpAnyH _ _ _ _ _ _ _ (Act.put _ (some 47) _) _
          simp only [Act.put, List.setIfInBounds_toArray, List.set_cons_zero, List.set_cons_succ]
          refine wpAnyH_take (i := 11) (v := .int .i64 r1) rfl (by kernel_rfl) (by kernel_rfl) (by kernel_rfl) (fun _ _ _ h => h) (Or.inl ⟨by rfl, fun w' _ => by go_simp⟩) hS9 ?_
          change wpAnyH _ _ _ _ _ _ _ (Act.put _ (some 48) _) _
          simp only [Act.put, List.setIfInBounds_toArray, List.set_cons_zero, List.set_cons_succ]
          refine wpAnyH_ready (rs := [13]) (by kernel_rfl) (by simp) (AllReadyH.cons rfl ?_ AllReadyH.nil)
          intro K hK
          rw [if_pos (by rfl)]
          refine wp_store_row 34 (.tmp 10) (.tmp 47) rfl (w5.heap.size) #[.slice C9 r0.length e9, .slice D9 rz0.length f9] rfl rfl 34 _ za9 (infoWear _ _) (szWear _ _ _ _) (oneWear _ _ _ _ _ _) ?_
          have hb10 : Below w2.heap.size w9 (w9.setRow (w5.heap.size) #[.slice C9 r0.length e9, .slice D9 rz0.length f9]) := below_setRow (Below.refl _ _) ge6
          have DD : Bk (w9.setRow (w5.heap.size) #[.slice C9 r0.length e9, .slice D9 rz0.length f9]) (w5.heap.size) 34 #[.slice C9 r0.length e9, .slice D9 rz0.length f9] := setRow_heap _ _ _ _ _ _ za9
          have oo_10 := own_rowK oo_9 za9 (by decide) #[.slice C9 r0.length e9, .slice D9 rz0.length f9]
          have oz_10 := own_rowK oz_9 za9 (by decide) #[.slice C9 r0.length e9, .slice D9 rz0.length f9]
          have B0_10 : Bk (w9.setRow (w5.heap.size) #[.slice C9 r0.length e9, .slice D9 rz0.length f9]) (w.heap.size) 25 #[.int .i16 s0, .slice A0 l0.length c0] := (setRow_other _ _ _ _ (by have e1 := B0_2.lt; have e2 := ge6; omega)).trans B0_9
          have B1_10 : Bk (w9.setRow (w5.heap.size) #[.slice C9 r0.length e9, .slice D9 rz0.length f9]) (w.heap.size + 1) 29 #[.slice A1 l1.length c1, .slice U1 z1.length v1] := (setRow_other _ _ _ _ (by have e1 := B1_2.lt; have e2 := ge6; omega)).trans B1_9
          have B2_10 : Bk (w9.setRow (w5.heap.size) #[.slice C9 r0.length e9, .slice D9 rz0.length f9]) (w.heap.size + 1 + 1) 59 #[.int .i64 x2_0, .int .i64 x2_1] := (setRow_other _ _ _ _ (by have e1 := B2_2.lt; have e2 := ge6; omega)).trans B2_9
          have tb10 := tb9.trans hb10
          refine hK.out _ _ ⟨(B0_10.cell (i := 0) rfl), (B0_10.cell (i := 1) rfl), (B1_10.cell (i := 0) rfl), (B1_10.cell (i := 1) rfl), (B2_10.cell (i := 0) rfl), (B2_10.cell (i := 1) rfl)⟩ (fun hS10 => ?_)
          clear hK K
          refine wpAnyH_take (i := 14) (v := .int .i64 r1) rfl (by kernel_rfl) (by kernel_rfl) (by kernel_rfl) (fun _ _ _ h => h) (Or.inl ⟨by rfl, fun w' _ => by go_simp⟩) hS10 ?_
          change wpAnyH _ _ _ _ _ _ _ (Act.put _ (some 11) _) _
          simp only [Act.put, List.setIfInBounds_toArray, List.set_cons_zero, List.set_cons_succ]
          refine wpAnyH_done (by kernel_rfl) ?_ _
          go_wp2_with fail
          go_meet
          exact ⟨_, C9, e9, D9, f9, _, rfl, rfl, rfl, DD, ge6, oo_10, oz_10, tb10⟩
      · obtain ⟨w5, hX5⟩ : ∃ X, X = w4.alloc (.cells #[.slice none 0 0, .slice none 0 0] 34) := ⟨_, rfl⟩
        have hb5 : Below w4.heap.size w4 w5 := by rw [hX5]; exact (Below.refl _ _).alloc (Nat.le_refl _) _
        have za5 : Bk w5 w4.heap.size 34 #[.slice none 0 0, .slice none 0 0] := by rw [hX5]; exact heap_new' _ _ _ rfl
        have ge5 : w2.heap.size ≤ w4.heap.size := tb4.size
        intro K hK
        rw [if_pos (by rfl)]
        go_simp
        rw [← hX5]
        clear hX5
        have b5 := step_below hb5 b4
        have B0_5 := B0_4.keep hb5
        have B1_5 := B1_4.keep hb5
        have B2_5 := B2_4.keep hb5
        have q4_5 := own_keep q4_4 hb5
        have tb5 := tb4.trans (hb5.mono tb4.size)
        refine hK.out _ _ ⟨(B0_5.cell (i := 0) rfl), (B0_5.cell (i := 1) rfl), (B1_5.cell (i := 0) rfl), (B1_5.cell (i := 1) rfl), (B2_5.cell (i := 0) rfl), (B2_5.cell (i := 1) rfl)⟩ (fun hS5 => ?_)
        clear hK K
        try (change wpAnyH _ _ _ _ _ _ _ (Act.put _ (some 10) _) _)
        try simp only [Act.put, List.setIfInBounds_toArray, List.set_cons_zero, List.set_cons_succ]
        refine wpAnyH_ready (rs := [3]) (by kernel_rfl) (by simp) (AllReadyH.cons rfl ?_ AllReadyH.nil)
        intro K hK
        rw [if_pos (by rfl)]
        go_simp
        refine (toWear_any A1 c1 l1 U1 v1 z1 _ (hA1.below b5) (hU1.below b5) hn1.1 hn1.2).mono ?_
        rintro e w6 ⟨g6, m6, rfl, hg6, hgm6, own6, owm6, hb6⟩
        have b6 := step_below hb6 b5
        have B0_6 := B0_5.keep hb6
        have B1_6 := B1_5.keep hb6
        have B2_6 := B2_5.keep hb6
        have q4_6 := own_keep q4_5 hb6
        have gl6 : g6 < w6.heap.size := (own6.lt g6 rfl).2
        have gm6 : m6 < w6.heap.size := (owm6.lt m6 rfl).2
        have q6_6 := own6
        have d6_6 := owm6
        have tb6 := tb5.trans (hb6.mono tb5.size)
        have za6 := za5.keep hb6
        refine hK.out _ _ ⟨(B0_6.cell (i := 0) rfl), (B0_6.cell (i := 1) rfl), (B1_6.cell (i := 0) rfl), (B1_6.cell (i := 1) rfl), (B2_6.cell (i := 0) rfl), (B2_6.cell (i := 1) rfl)⟩ (fun hS6 => ?_)
        clear hK K
        try (change wpAnyH _ _ _ _ _ _ _ (Act.put _ (some 41) _) _)
        try simp only [Act.put, List.setIfInBounds_toArray, List.set_cons_zero, List.set_cons_succ]
        refine wpAnyH_ready (rs := [5]) (by kernel_rfl) (by simp) (AllReadyH.cons rfl ?_ AllReadyH.nil)
        intro K hK
        rw [if_pos (by rfl)]
        go_simp
        refine (toLives_any x2_0 x2_1 _).mono ?_
        rintro e w7 ⟨rfl, hb7⟩
        have b7 := step_below hb7 b6
        have B0_7 := B0_6.keep hb7
        have B1_7 := B1_6.keep hb7
        have B2_7 := B2_6.keep hb7
        have q4_7 := own_keep q4_6 hb7
        have q6_7 := own_keep q6_6 hb7
        have d6_7 := own_keep d6_6 hb7
        have tb7 := tb6.trans (hb7.mono tb6.size)
        have za7 := za6.keep hb7
        refine hK.out _ _ ⟨(B0_7.cell (i := 0) rfl), (B0_7.cell (i := 1) rfl), (B1_7.cell (i := 0) rfl), (B1_7.cell (i := 1) rfl), (B2_7.cell (i := 0) rfl), (B2_7.cell (i := 1) rfl)⟩ (fun hS7 => ?_)
        clear hK K
        try (change wpAnyH _ _ _ _ _ _ _ (Act.put _ (some 43) _) _)
        try simp only [Act.put, List.setIfInBounds_toArray, List.set_cons_zero, List.set_cons_succ]
        refine wpAnyH_ready (rs := [7]) (by kernel_rfl) (by simp) (AllReadyH.cons rfl ?_ AllReadyH.nil)
        intro K hK
        rw [if_pos (by rfl)]
        go_simp
        refine (toActS_ex A3 c3 l3 _ (hA3.below b7) hn3).mono ?_
        rintro e w8 ⟨g8, rfl, hg8, own8, hb8⟩
        have b8 := step_below hb8 b7
        have B0_8 := B0_7.keep hb8
        have B1_8 := B1_7.keep hb8
        have B2_8 := B2_7.keep hb8
        have q4_8 := own_keep q4_7 hb8
        have q6_8 := own_keep q6_7 hb8
        have d6_8 := own_keep d6_7 hb8
        have gl8 : g8 < w8.heap.size := (own8.lt g8 rfl).2
        have q8_8 := own8
        have tb8 := tb7.trans (hb8.mono tb7.size)
        have za8 := za7.keep hb8
        refine hK.out _ _ ⟨(B0_8.cell (i := 0) rfl), (B0_8.cell (i := 1) rfl), (B1_8.cell (i := 0) rfl), (B1_8.cell (i := 1) rfl), (B2_8.cell (i := 0) rfl), (B2_8.cell (i := 1) rfl)⟩ (fun hS8 => ?_)
        clear hK K
        try (change wpAnyH _ _ _ _ _ _ _ (Act.put _ (some 45) _) _)
        try simp only [Act.put, List.setIfInBounds_toArray, List.set_cons_zero, List.set_cons_succ]
        refine wpAnyH_ready (rs := [8]) (by kernel_rfl) (by simp) (AllReadyH.cons rfl ?_ AllReadyH.nil)
        intro K hK
        rw [if_pos (by rfl)]
        go_simp
        refine (KS _ _ _ _ _ (HA.of_own q4_8) (WnA.of_own q6_8) (SZ.of_own d6_8) (AcA.of_own q8_8) ).mono ?_
        rintro e w9 ⟨C9, e9, D9, f9, rfl, own9, owm9, hb9⟩
        have b9 := step_below hb9 b8
        have B0_9 := B0_8.keep hb9
        have B1_9 := B1_8.keep hb9
        have B2_9 := B2_8.keep hb9
        have v9_9 := own9
        have vz9_9 := owm9
        have t9 : Below w9.heap.size w9 w9 := Below.refl _ _
        have tb9 := tb8.trans (hb9.mono tb8.size)
        have za9 := za8.keep hb9
        have oo_9 := own_base own9 tb8.size
        have oz_9 := own_base owm9 tb8.size
        refine hK.out _ _ ⟨(B0_9.cell (i := 0) rfl), (B0_9.cell (i := 1) rfl), (B1_9.cell (i := 0) rfl), (B1_9.cell (i := 1) rfl), (B2_9.cell (i := 0) rfl), (B2_9.cell (i := 1) rfl)⟩ (fun hS9 => ?_)
        clear hK K
        try (change wpAnyH _ _ _ _ _ _ _ (Act.put _ (some 46) _) _)
        try simp only [Act.put, List.setIfInBounds_toArray, List.set_cons_zero, List.set_cons_succ]
        refine wpAnyH_take (i := 9) (v := .tuple #[.agg #[.slice C9 r0.length e9, .slice D9 rz0.length f9], .int .i64 r1]) rfl (by kernel_rfl) (by kernel_rfl) (by kernel_rfl) (fun _ _ _ h => h) (Or.inl ⟨by rfl, fun w' _ => by go_simp⟩) hS9 ?_
        change wpAnyH _ _ _ _ _ _ _ (Act.put _ (some 37) _) _
        simp only [Act.put, List.setIfInBounds_toArray, List.set_cons_zero, List.set_cons_succ]
        refine wpAnyH_take (i := 10) (v := .agg #[.slice C9 r0.length e9, .slice D9 rz0.length f9]) rfl (by kernel_rfl) (by kernel_rfl) (by kernel_rfl) (fun _ _ _ h => h) (Or.inl ⟨by rfl, fun w' _ => by go_simp⟩) hS9 ?_
        change wpAnyH _ _ _ _ _ _ _ (Act.put _ (some 47) _) _
        simp only [Act.put, List.setIfInBounds_toArray, List.set_cons_zero, List.set_cons_succ]
        refine wpAnyH_take (i := 11) (v := .int .i64 r1) rfl (by kernel_rfl) (by kernel_rfl) (by kernel_rfl) (fun _ _ _ h => h) (Or.inl ⟨by rfl, fun w' _ => by go_simp⟩) hS9 ?_
        change wpAnyH _ _ _ _ _ _ _ (Act.put _ (some 48) _) _
        simp only [Act.put, List.setIfInBounds_toArray, List.set_cons_zero, List.set_cons_succ]
        refine wpAnyH_ready (rs := [13]) (by kernel_rfl) (by simp) (AllReadyH.cons rfl ?_ AllReadyH.nil)
        intro K hK
        rw [if_pos (by rfl)]
        refine wp_store_row 34 (.tmp 10) (.tmp 47) rfl (w4.heap.size) #[.slice C9 r0.length e9, .slice D9 rz0.length f9] rfl rfl 34 _ za9 (infoWear _ _) (szWear _ _ _ _) (oneWear _ _ _ _ _ _) ?_
        have hb10 : Below w2.heap.size w9 (w9.setRow (w4.heap.size) #[.slice C9 r0.length e9, .slice D9 rz0.length f9]) := below_setRow (Below.refl _ _) ge5
        have DD : Bk (w9.setRow (w4.heap.size) #[.slice C9 r0.length e9, .slice D9 rz0.length f9]) (w4.heap.size) 34 #[.slice C9 r0.length e9, .slice D9 rz0.length f9] := setRow_heap _ _ _ _ _ _ za9
        have oo_10 := own_rowK oo_9 za9 (by decide) #[.slice C9 r0.length e9, .slice D9 rz0.length f9]
        have oz_10 := own_rowK oz_9 za9 (by decide) #[.slice C9 r0.length e9, .slice D9 rz0.length f9]
        have B0_10 : Bk (w9.setRow (w4.heap.size) #[.slice C9 r0.length e9, .slice D9 rz0.length f9]) (w.heap.size) 25 #[.int .i16 s0, .slice A0 l0.length c0] := (setRow_other _ _ _ _ (by have e1 := B0_2.lt; have e2 := ge5; omega)).trans B0_9
        have B1_10 : Bk (w9.setRow (w4.heap.size) #[.slice C9 r0.length e9, .slice D9 rz0.length f9]) (w.heap.size + 1) 29 #[.slice A1 l1.length c1, .slice U1 z1.length v1] := (setRow_other _ _ _ _ (by have e1 := B1_2.lt; have e2 := ge5; omega)).trans B1_9
        have B2_10 : Bk (w9.setRow (w4.heap.size) #[.slice C9 r0.length e9, .slice D9 rz0.length f9]) (w.heap.size + 1 + 1) 59 #[.int .i64 x2_0, .int .i64 x2_1] := (setRow_other _ _ _ _ (by have e1 := B2_2.lt; have e2 := ge5; omega)).trans B2_9
        have tb10 := tb9.trans hb10
        refine hK.out _ _ ⟨(B0_10.cell (i := 0) rfl), (B0_10.cell (i := 1) rfl), (B1_10.cell (i := 0) rfl), (B1_10.cell (i := 1) rfl), (B2_10.cell (i := 0) rfl), (B2_10.cell (i := 1) rfl)⟩ (fun hS10 => ?_)
        clear hK K
        refine wpAnyH_take (i := 14) (v := .int .i64 r1) rfl (by kernel_rfl) (by kernel_rfl) (by kernel_rfl) (fun _ _ _ h => h) (Or.inl ⟨by rfl, fun w' _ => by go_simp⟩) hS10 ?_
        change wpAnyH _ _ _ _ _ _ _ (Act.put _ (some 11) _) _
        simp only [Act.put, List.setIfInBounds_toArray, List.set_cons_zero, List.set_cons_succ]
        refine wpAnyH_done (by kernel_rfl) ?_ _
        go_wp2_with fail
        go_meet
        exact ⟨_, C9, e9, D9, f9, _, rfl, rfl, rfl, DD, ge5, oo_10, oz_10, tb10⟩
    · obtain ⟨w4, hX4⟩ : ∃ X, X = wd3.alloc (.cells #[.slice none 0 0, .slice none 0 0] 34) := ⟨_, rfl⟩
      have hb4 : Below wd3.heap.size wd3 w4 := by rw [hX4]; exact (Below.refl _ _).alloc (Nat.le_refl _) _
      have za4 : Bk w4 wd3.heap.size 34 #[.slice none 0 0, .slice none 0 0] := by rw [hX4]; exact heap_new' _ _ _ rfl
      have ge4 : w2.heap.size ≤ wd3.heap.size := tb3.size
      intro K hK
      rw [if_pos (by rfl)]
      go_simp
      rw [← hX4]
      clear hX4
      have b4 := step_below hb4 b3
      have B0_4 := B0_3.keep hb4
      have B1_4 := B1_3.keep hb4
      have B2_4 := B2_3.keep hb4
      have tb4 := tb3.trans (hb4.mono tb3.size)
      refine hK.out _ _ ⟨(B0_4.cell (i := 0) rfl), (B0_4.cell (i := 1) rfl), (B1_4.cell (i := 0) rfl), (B1_4.cell (i := 1) rfl), (B2_4.cell (i := 0) rfl), (B2_4.cell (i := 1) rfl)⟩ (fun hS4 => ?_)
      clear hK K
      try (change wpAnyH _ _ _ _ _ _ _ (Act.put _ (some 10) _) _)
      try simp only [Act.put, List.setIfInBounds_toArray, List.set_cons_zero, List.set_cons_succ]
      refine wpAnyH_ready (rs := [1]) (by kernel_rfl) (by simp) (AllReadyH.cons rfl ?_ AllReadyH.nil)
      intro K hK
      rw [if_pos (by rfl)]
      go_simp
      refine (toFrame_any s0 A0 c0 l0 _ (hA0.below b4) hn0).mono ?_
      rintro e w5 ⟨g5, rfl, hg5, own5, hb5⟩
      have b5 := step_below hb5 b4
      have B0_5 := B0_4.keep hb5
      have B1_5 := B1_4.keep hb5
      have B2_5 := B2_4.keep hb5
      have gl5 : g5 < w5.heap.size := (own5.lt g5 rfl).2
      have q5_5 := own5
      have tb5 := tb4.trans (hb5.mono tb4.size)
      have za5 := za4.keep hb5
      refine hK.out _ _ ⟨(B0_5.cell (i := 0) rfl), (B0_5.cell (i := 1) rfl), (B1_5.cell (i := 0) rfl), (B1_5.cell (i := 1) rfl), (B2_5.cell (i := 0) rfl), (B2_5.cell (i := 1) rfl)⟩ (fun hS5 => ?_)
      clear hK K
      try (change wpAnyH _ _ _ _ _ _ _ (Act.put _ (some 39) _) _)
      try simp only [Act.put, List.setIfInBounds_toArray, List.set_cons_zero, List.set_cons_succ]
      refine wpAnyH_ready (rs := [3]) (by kernel_rfl) (by simp) (AllReadyH.cons rfl ?_ AllReadyH.nil)
      intro K hK
      rw [if_pos (by rfl)]
      go_simp
      refine (toWear_any A1 c1 l1 U1 v1 z1 _ (hA1.below b5) (hU1.below b5) hn1.1 hn1.2).mono ?_
      rintro e w6 ⟨g6, m6, rfl, hg6, hgm6, own6, owm6, hb6⟩
      have b6 := step_below hb6 b5
      have B0_6 := B0_5.keep hb6
      have B1_6 := B1_5.keep hb6
      have B2_6 := B2_5.keep hb6
      have q5_6 := own_keep q5_5 hb6
      have gl6 : g6 < w6.heap.size := (own6.lt g6 rfl).2
      have gm6 : m6 < w6.heap.size := (owm6.lt m6 rfl).2
      have q6_6 := own6
      have d6_6 := owm6
      have tb6 := tb5.trans (hb6.mono tb5.size)
      have za6 := za5.keep hb6
      refine hK.out _ _ ⟨(B0_6.cell (i := 0) rfl), (B0_6.cell (i := 1) rfl), (B1_6.cell (i := 0) rfl), (B1_6.cell (i := 1) rfl), (B2_6.cell (i := 0) rfl), (B2_6.cell (i := 1) rfl)⟩ (fun hS6 => ?_)
      clear hK K
      try (change wpAnyH _ _ _ _ _ _ _ (Act.put _ (some 41) _) _)
      try simp only [Act.put, List.setIfInBounds_toArray, List.set_cons_zero, List.set_cons_succ]
      refine wpAnyH_ready (rs := [5]) (by kernel_rfl) (by simp) (AllReadyH.cons rfl ?_ AllReadyH.nil)
      intro K hK
      rw [if_pos (by rfl)]
      go_simp
      refine (toLives_any x2_0 x2_1 _).mono ?_
      rintro e w7 ⟨rfl, hb7⟩
      have b7 := step_below hb7 b6
      have B0_7 := B0_6.keep hb7
      have B1_7 := B1_6.keep hb7
      have B2_7 := B2_6.keep hb7
      have q5_7 := own_keep q5_6 hb7
      have q6_7 := own_keep q6_6 hb7
      have d6_7 := own_keep d6_6 hb7
      have tb7 := tb6.trans (hb7.mono tb6.size)
      have za7 := za6.keep hb7
      refine hK.out _ _ ⟨(B0_7.cell (i := 0) rfl), (B0_7.cell (i := 1) rfl), (B1_7.cell (i := 0) rfl), (B1_7.cell (i := 1) rfl), (B2_7.cell (i := 0) rfl), (B2_7.cell (i := 1) rfl)⟩ (fun hS7 => ?_)
      clear hK K
      try (change wpAnyH _ _ _ _ _ _ _ (Act.put _ (some 43) _) _)
      try simp only [Act.put, List.setIfInBounds_toArray, List.set_cons_zero, List.set_cons_succ]
      refine wpAnyH_ready (rs := [7]) (by kernel_rfl) (by simp) (AllReadyH.cons rfl ?_ AllReadyH.nil)
      intro K hK
      rw [if_pos (by rfl)]
      go_simp
      refine (toActS_ex A3 c3 l3 _ (hA3.below b7) hn3).mono ?_
      rintro e w8 ⟨g8, rfl, hg8, own8, hb8⟩
      have b8 := step_below hb8 b7
      have B0_8 := B0_7.keep hb8
      have B1_8 := B1_7.keep hb8
      have B2_8 := B2_7.keep hb8
      have q5_8 := own_keep q5_7 hb8
      have q6_8 := own_keep q6_7 hb8
      have d6_8 := own_keep d6_7 hb8
      have gl8 : g8 < w8.heap.size := (own8.lt g8 rfl).2
      have q8_8 := own8
      have tb8 := tb7.trans (hb8.mono tb7.size)
      have za8 := za7.keep hb8
      refine hK.out _ _ ⟨(B0_8.cell (i := 0) rfl), (B0_8.cell (i := 1) rfl), (B1_8.cell (i := 0) rfl), (B1_8.cell (i := 1) rfl), (B2_8.cell (i := 0) rfl), (B2_8.cell (i := 1) rfl)⟩ (fun hS8 => ?_)
      clear hK K
      try (change wpAnyH _ _ _ _ _ _ _ (Act.put _ (some 45) _) _)
      try simp only [Act.put, List.setIfInBounds_toArray, List.set_cons_zero, List.set_cons_succ]
      refine wpAnyH_ready (rs := [8]) (by kernel_rfl) (by simp) (AllReadyH.cons rfl ?_ AllReadyH.nil)
      intro K hK
      rw [if_pos (by rfl)]
      go_simp
      refine (KS _ _ _ _ _ (HA.of_own q5_8) (WnA.of_own q6_8) (SZ.of_own d6_8) (AcA.of_own q8_8) ).mono ?_
      rintro e w9 ⟨C9, e9, D9, f9, rfl, own9, owm9, hb9⟩
      have b9 := step_below hb9 b8
      have B0_9 := B0_8.keep hb9
      have B1_9 := B1_8.keep hb9
      have B2_9 := B2_8.keep hb9
      have v9_9 := own9
      have vz9_9 := owm9
      have t9 : Below w9.heap.size w9 w9 := Below.refl _ _
      have tb9 := tb8.trans (hb9.mono tb8.size)
      have za9 := za8.keep hb9
      have oo_9 := own_base own9 tb8.size
      have oz_9 := own_base owm9 tb8.size
      refine hK.out _ _ ⟨(B0_9.cell (i := 0) rfl), (B0_9.cell (i := 1) rfl), (B1_9.cell (i := 0) rfl), (B1_9.cell (i := 1) rfl), (B2_9.cell (i := 0) rfl), (B2_9.cell (i := 1) rfl)⟩ (fun hS9 => ?_)
      clear hK K
      try (change wpAnyH _ _ _ _ _ _ _ (Act.put _ (some 46) _) _)
      try simp only [Act.put, List.setIfInBounds_toArray, List.set_cons_zero, List.set_cons_succ]
      refine wpAnyH_take (i := 9) (v := .tuple #[.agg #[.slice C9 r0.length e9, .slice D9 rz0.length f9], .int .i64 r1]) rfl (by kernel_rfl) (by kernel_rfl) (by kernel_rfl) (fun _ _ _ h => h) (Or.inl ⟨by rfl, fun w' _ => by go_simp⟩) hS9 ?_
      change wpAnyH _ _ _ _ _ _ _ (Act.put _ (some 37) _) _
      simp only [Act.put, List.setIfInBounds_toArray, List.set_cons_zero, List.set_cons_succ]
      refine wpAnyH_take (i := 10) (v := .agg #[.slice C9 r0.length e9, .slice D9 rz0.length f9]) rfl (by kernel_rfl) (by kernel_rfl) (by kernel_rfl) (fun _ _ _ h => h) (Or.inl ⟨by rfl, fun w' _ => by go_simp⟩) hS9 ?_
      change wpAnyH _ _ _ _ _ _ _ (Act.put _ (some 47) _) _
      simp only [Act.put, List.setIfInBounds_toArray, List.set_cons_zero, List.set_cons_succ]
      refine wpAnyH_take (i := 11) (v := .int .i64 r1) rfl (by kernel_rfl) (by kernel_rfl) (by kernel_rfl) (fun _ _ _ h => h) (Or.inl ⟨by rfl, fun w' _ => by go_simp⟩) hS9 ?_
      change wpAnyH _ _ _ _ _ _ _ (Act.put _ (some 48) _) _
      simp only [Act.put, List.setIfInBounds_toArray, List.set_cons_zero, List.set_cons_succ]
      refine wpAnyH_ready (rs := [13]) (by kernel_rfl) (by simp) (AllReadyH.cons rfl ?_ AllReadyH.nil)
      intro K hK
      rw [if_pos (by rfl)]
      refine wp_store_row 34 (.tmp 10) (.tmp 47) rfl (wd3.heap.size) #[.slice C9 r0.length e9, .slice D9 rz0.length f9] rfl rfl 34 _ za9 (infoWear _ _) (szWear _ _ _ _) (oneWear _ _ _ _ _ _) ?_
      have hb10 : Below w2.heap.size w9 (w9.setRow (wd3.heap.size) #[.slice C9 r0.length e9, .slice D9 rz0.length f9]) := below_setRow (Below.refl _ _) ge4
      have DD : Bk (w9.setRow (wd3.heap.size) #[.slice C9 r0.length e9, .slice D9 rz0.length f9]) (wd3.heap.size) 34 #[.slice C9 r0.length e9, .slice D9 rz0.length f9] := setRow_heap _ _ _ _ _ _ za9
      have oo_10 := own_rowK oo_9 za9 (by decide) #[.slice C9 r0.length e9, .slice D9 rz0.length f9]
      have oz_10 := own_rowK oz_9 za9 (by decide) #[.slice C9 r0.length e9, .slice D9 rz0.length f9]
      have B0_10 : Bk (w9.setRow (wd3.heap.size) #[.slice C9 r0.length e9, .slice D9 rz0.length f9]) (w.heap.size) 25 #[.int .i16 s0, .slice A0 l0.length c0] := (setRow_other _ _ _ _ (by have e1 := B0_2.lt; have e2 := ge4; omega)).trans B0_9
      have B1_10 : Bk (w9.setRow (wd3.heap.size) #[.slice C9 r0.length e9, .slice D9 rz0.length f9]) (w.heap.size + 1) 29 #[.slice A1 l1.length c1, .slice U1 z1.length v1] := (setRow_other _ _ _ _ (by have e1 := B1_2.lt; have e2 := ge4; omega)).trans B1_9
      have B2_10 : Bk (w9.setRow (wd3.heap.size) #[.slice C9 r0.length e9, .slice D9 rz0.length f9]) (w.heap.size + 1 + 1) 59 #[.int .i64 x2_0, .int .i64 x2_1] := (setRow_other _ _ _ _ (by have e1 := B2_2.lt; have e2 := ge4; omega)).trans B2_9
      have tb10 := tb9.trans hb10
      refine hK.out _ _ ⟨(B0_10.cell (i := 0) rfl), (B0_10.cell (i := 1) rfl), (B1_10.cell (i := 0) rfl), (B1_10.cell (i := 1) rfl), (B2_10.cell (i := 0) rfl), (B2_10.cell (i := 1) rfl)⟩ (fun hS10 => ?_)
      clear hK K
      refine wpAnyH_take (i := 14) (v := .int .i64 r1) rfl (by kernel_rfl) (by kernel_rfl) (by kernel_rfl) (fun _ _ _ h => h) (Or.inl ⟨by rfl, fun w' _ => by go_simp⟩) hS10 ?_
      change wpAnyH _ _ _ _ _ _ _ (Act.put _ (some 11) _) _
      simp only [Act.put, List.setIfInBounds_toArray, List.set_cons_zero, List.set_cons_succ]
      refine wpAnyH_done (by kernel_rfl) ?_ _
      go_wp2_with fail
      go_meet
      exact ⟨_, C9, e9, D9, f9, _, rfl, rfl, rfl, DD, ge4, oo_10, oz_10, tb10⟩
  obtain ⟨rg3, C3, e3, D3, f3, w3, rfl, rfl, rfl, K3, rge3, own3, owm3, hb3⟩ := hcut
  have b3 := step_below hb3 b2
  have B0_3 := B0_2.keep hb3
  have B1_3 := B1_2.keep hb3
  have B2_3 := B2_2.keep hb3
  have t3 : Below w3.heap.size w3 w3 := Below.refl _ _
  have v3_3 := own3
  have vz3_3 := owm3
  have Rw3_3 := K3
  have pf49_0 := B0_3.cell (i := 0) rfl
  have pf49_1 := B0_3.cell (i := 1) rfl
  go_wp2_with fail
  clear pf49_0 pf49_1
  refine (toFrame_any s0 A0 c0 l0 _ (hA0.below b3) hn0).mono ?_
  rintro e w4 ⟨g4, rfl, hg4, own4, hb4⟩
  have b4 := step_below hb4 b3
  have B0_4 := B0_3.keep hb4
  have B1_4 := B1_3.keep hb4
  have B2_4 := B2_3.keep hb4
  have Rw3_4 := Rw3_3.keep hb4
  have v3_4 := own_keep v3_3 hb4
  have vz3_4 := own_keep vz3_3 hb4
  have t4 := step_below hb4 t3
  have gl4 : g4 < w4.heap.size := (own4.lt g4 rfl).2
  have q4_4 := own4
  go_upto_region 13 with fail
  obtain ⟨w5, hX5⟩ : ∃ X, X = w4.alloc (.cells #[.int .i16 s0, .slice (some ⟨g4, 0, none⟩) l0.length l0.length] 39) := ⟨_, rfl⟩
  have hb5 : Below w4.heap.size w4 w5 := by rw [hX5]; exact (Below.refl _ _).alloc (Nat.le_refl _) _
  have K5 : Bk w5 w4.heap.size 39 #[.int .i16 s0, .slice (some ⟨g4, 0, none⟩) l0.length l0.length] := by rw [hX5]; exact Bk.new _ _ _ rfl
  rw [← hX5]
  clear hX5
  have b5 := step_below hb5 b4
  have B0_5 := B0_4.keep hb5
  have B1_5 := B1_4.keep hb5
  have B2_5 := B2_4.keep hb5
  have Rw3_5 := Rw3_4.keep hb5
  have v3_5 := own_keep v3_4 hb5
  have vz3_5 := own_keep vz3_4 hb5
  have q4_5 := own_keep q4_4 hb5
  have t5 := step_below hb5 t4
  have Y0_5 := K5
  have yw0 : w4.heap.size < w5.heap.size := K5.lt
  have pf51_0 := B1_5.cell (i := 0) rfl
  have pf51_1 := B1_5.cell (i := 1) rfl
  go_wp2_with fail
  clear pf51_0 pf51_1
  refine (toWear_any A1 c1 l1 U1 v1 z1 _ (hA1.below b5) (hU1.below b5) hn1.1 hn1.2).mono ?_
  rintro e w6 ⟨g6, m6, rfl, hg6, hgm6, own6, owm6, hb6⟩
  have b6 := step_below hb6 b5
  have B0_6 := B0_5.keep hb6
  have B1_6 := B1_5.keep hb6
  have B2_6 := B2_5.keep hb6
  have Rw3_6 := Rw3_5.keep hb6
  have Y0_6 := Y0_5.keep hb6
  have v3_6 := own_keep v3_5 hb6
  have vz3_6 := own_keep vz3_5 hb6
  have q4_6 := own_keep q4_5 hb6
  have t6 := step_below hb6 t5
  have gl6 : g6 < w6.heap.size := (own6.lt g6 rfl).2
  have gm6 : m6 < w6.heap.size := (owm6.lt m6 rfl).2
  have q6_6 := own6
  have d6_6 := owm6
  go_upto_region 14 with fail
  obtain ⟨w7, hX7⟩ : ∃ X, X = w6.alloc (.cells #[.slice (some ⟨g6, 0, none⟩) l1.length l1.length, .slice (some ⟨m6, 0, none⟩) z1.length z1.length] 34) := ⟨_, rfl⟩
  have hb7 : Below w6.heap.size w6 w7 := by rw [hX7]; exact (Below.refl _ _).alloc (Nat.le_refl _) _
  have K7 : Bk w7 w6.heap.size 34 #[.slice (some ⟨g6, 0, none⟩) l1.length l1.length, .slice (some ⟨m6, 0, none⟩) z1.length z1.length] := by rw [hX7]; exact Bk.new _ _ _ rfl
  rw [← hX7]
  clear hX7
  have b7 := step_below hb7 b6
  have B0_7 := B0_6.keep hb7
  have B1_7 := B1_6.keep hb7
  have B2_7 := B2_6.keep hb7
  have Rw3_7 := Rw3_6.keep hb7
  have Y0_7 := Y0_6.keep hb7
  have v3_7 := own_keep v3_6 hb7
  have vz3_7 := own_keep vz3_6 hb7
  have q4_7 := own_keep q4_6 hb7
  have q6_7 := own_keep q6_6 hb7
  have d6_7 := own_keep d6_6 hb7
  have t7 := step_below hb7 t6
  have Y1_7 := K7
  have yw1 : w6.heap.size < w7.heap.size := K7.lt
  go_wp2_with fail
  refine (toActS_ex A3 c3 l3 _ (hA3.below b7) hn3).mono ?_
  rintro e w8 ⟨g8, rfl, hg8, own8, hb8⟩
  have b8 := step_below hb8 b7
  have B0_8 := B0_7.keep hb8
  have B1_8 := B1_7.keep hb8
  have B2_8 := B2_7.keep hb8
  have Rw3_8 := Rw3_7.keep hb8
  have Y0_8 := Y0_7.keep hb8
  have Y1_8 := Y1_7.keep hb8
  have v3_8 := own_keep v3_7 hb8
  have vz3_8 := own_keep vz3_7 hb8
  have q4_8 := own_keep q4_7 hb8
  have q6_8 := own_keep q6_7 hb8
  have d6_8 := own_keep d6_7 hb8
  have t8 := step_below hb8 t7
  have gl8 : g8 < w8.heap.size := (own8.lt g8 rfl).2
  have q8_8 := own8
  go_upto_region 15 with fail
  go_cut [15, 16] from 55 to 63 (fun a_ b_ wx => ∃ (g : Nat) (C : Option Addr) (e : Nat) (D : Option Addr) (f : Nat) (W : World), a_ = .pointer (some ⟨g, 0, none⟩) ∧ b_ = .int .i64 r1 ∧ W = wx ∧ Bk W g 34 #[.slice C r0.length e, .slice D rz0.length f] ∧ w8.heap.size ≤ g ∧ W.ownsRow w8.heap.size 97 3 (.slice C r0.length e) r0.length (wnC r0) ∧ W.ownsRow w8.heap.size 2 1 (.slice D rz0.length f) rz0.length (icells rz0) ∧ Below w8.heap.size w8 W)
  case first =>
    have hb9 : Below w8.heap.size w8 w8.drew := (Below.refl _ _).drew
    have tb8 : Below w8.heap.size w8 w8 := Below.refl _ _
    have b9 := step_below hb9 b8
    have B0_9 := B0_8.keep hb9
    have B1_9 := B1_8.keep hb9
    have B2_9 := B2_8.keep hb9
    have Rw3_9 := Rw3_8.keep hb9
    have Y0_9 := Y0_8.keep hb9
    have Y1_9 := Y1_8.keep hb9
    have v3_9 := own_keep v3_8 hb9
    have vz3_9 := own_keep vz3_8 hb9
    have q4_9 := own_keep q4_8 hb9
    have q6_9 := own_keep q6_8 hb9
    have d6_9 := own_keep d6_8 hb9
    have q8_9 := own_keep q8_8 hb9
    have t9 := step_below hb9 t8
    have tb9 := step_below hb9 tb8
    refine wp_region_held_drew (S := fun w' => w'.cell? ⟨w.heap.size + 1 + 1, 0, none⟩ = some (.int .i64 x2_0) ∧ w'.cell? ⟨w.heap.size + 1 + 1, 1, none⟩ = some (.int .i64 x2_1) ∧ w'.cell? ⟨w4.heap.size, 0, none⟩ = some (.int .i16 s0) ∧ w'.cell? ⟨w4.heap.size, 1, none⟩ = some (.slice (some ⟨g4, 0, none⟩) l0.length l0.length) ∧ w'.cell? ⟨w6.heap.size, 0, none⟩ = some (.slice (some ⟨g6, 0, none⟩) l1.length l1.length) ∧ w'.cell? ⟨w6.heap.size, 1, none⟩ = some (.slice (some ⟨m6, 0, none⟩) z1.length z1.length)) (by kernel_rfl) ⟨(B2_9.cell (i := 0) rfl), (B2_9.cell (i := 1) rfl), (Y0_9.cell (i := 0) rfl), (Y0_9.cell (i := 1) rfl), (Y1_9.cell (i := 0) rfl), (Y1_9.cell (i := 1) rfl)⟩ fun hS9 => ?_
    generalize w8.drew = wd9 at *
    change wpAnyH _ _ _ _ _ _ #[false, false, false, false, false, false, false, false, false, false, false, false] _ _
    refine wpAnyH_take (i := 0) (v := .agg #[.int .i16 s0, .slice (some ⟨g4, 0, none⟩) l0.length l0.length]) rfl (by kernel_rfl) (by kernel_rfl) (by kernel_rfl) (fun _ _ _ h => h) (Or.inl ⟨by rfl, fun w' h => ?_⟩) hS9 ?_
    · have c0 := h.2.2.1
      have c1 := h.2.2.2.1
      clear h
      go_simp
    change wpAnyH _ _ _ _ _ _ _ (Act.put _ (some 56) _) _
    simp only [Act.put, List.setIfInBounds_toArray, List.set_cons_zero, List.set_cons_succ]
    refine wpAnyH_take (i := 1) (v := .agg #[.slice (some ⟨g6, 0, none⟩) l1.length l1.length, .slice (some ⟨m6, 0, none⟩) z1.length z1.length]) rfl (by kernel_rfl) (by kernel_rfl) (by kernel_rfl) (fun _ _ _ h => h) (Or.inl ⟨by rfl, fun w' h => ?_⟩) hS9 ?_
    · have c0 := h.2.2.2.2.1
      have c1 := h.2.2.2.2.2
      clear h
      go_simp
    change wpAnyH _ _ _ _ _ _ _ (Act.put _ (some 57) _) _
    simp only [Act.put, List.setIfInBounds_toArray, List.set_cons_zero, List.set_cons_succ]
    refine wpAnyH_take (i := 2) (v := .agg #[.int .i64 x2_0, .int .i64 x2_1]) rfl (by kernel_rfl) (by kernel_rfl) (by kernel_rfl) (fun _ _ _ h => h) (Or.inl ⟨by rfl, fun w' h => ?_⟩) hS9 ?_
    · have c0 := h.1
      have c1 := h.2.1
      clear h
      go_simp
    change wpAnyH _ _ _ _ _ _ _ (Act.put _ (some 58) _) _
    simp only [Act.put, List.setIfInBounds_toArray, List.set_cons_zero, List.set_cons_succ]
    refine wpAnyH_take (i := 4) (v := .slice (some ⟨g8, 0, none⟩) l3.length l3.length) rfl (by kernel_rfl) (by kernel_rfl) (by kernel_rfl) (fun _ _ _ h => h) (Or.inl ⟨by rfl, fun w' _ => by go_simp⟩) hS9 ?_
    change wpAnyH _ _ _ _ _ _ _ (Act.put _ (some 60) _) _
    simp only [Act.put, List.setIfInBounds_toArray, List.set_cons_zero, List.set_cons_succ]
    refine wpAnyH_ready (rs := [3, 9]) (by kernel_rfl) (by simp) (AllReadyH.cons rfl ?_ (AllReadyH.cons rfl ?_ AllReadyH.nil))
    · intro K hK
      rw [if_pos (by rfl)]
      go_simp
      refine (toLives_any x2_0 x2_1 _).mono ?_
      rintro e w10 ⟨rfl, hb10⟩
      have b10 := step_below hb10 b9
      have B2_10 := B2_9.keep hb10
      have Y0_10 := Y0_9.keep hb10
      have Y1_10 := Y1_9.keep hb10
      have q4_10 := own_keep q4_9 hb10
      have q6_10 := own_keep q6_9 hb10
      have d6_10 := own_keep d6_9 hb10
      have q8_10 := own_keep q8_9 hb10
      have t10 := step_below hb10 t9
      have tb10 := tb9.trans (hb10.mono tb9.size)
      refine hK.out _ _ ⟨(B2_10.cell (i := 0) rfl), (B2_10.cell (i := 1) rfl), (Y0_10.cell (i := 0) rfl), (Y0_10.cell (i := 1) rfl), (Y1_10.cell (i := 0) rfl), (Y1_10.cell (i := 1) rfl)⟩ (fun hS10 => ?_)
      clear hK K
      try (change wpAnyH _ _ _ _ _ _ _ (Act.put _ (some 59) _) _)
      try simp only [Act.put, List.setIfInBounds_toArray, List.set_cons_zero, List.set_cons_succ]
      refine wpAnyH_ready (rs := [5, 9]) (by kernel_rfl) (by simp) (AllReadyH.cons rfl ?_ (AllReadyH.cons rfl ?_ AllReadyH.nil))
      · intro K hK
        rw [if_pos (by rfl)]
        go_simp
        refine (KI _ _ _ _ _ (HA.of_own q4_10) (WnA.of_own q6_10) (SZ.of_own d6_10) (AcA.of_own q8_10) ).mono ?_
        rintro e w11 ⟨C11, e11, D11, f11, rfl, own11, owm11, hb11⟩
        have b11 := step_below hb11 b10
        have B2_11 := B2_10.keep hb11
        have Y0_11 := Y0_10.keep hb11
        have Y1_11 := Y1_10.keep hb11
        have q4_11 := own_keep q4_10 hb11
        have q6_11 := own_keep q6_10 hb11
        have d6_11 := own_keep d6_10 hb11
        have q8_11 := own_keep q8_10 hb11
        have t11 := step_below hb11 t10
        have r11_11 := own11
        have rz11_11 := owm11
        have tb11 := tb10.trans (hb11.mono tb10.size)
        have oo_11 := own_base own11 tb10.size
        have oz_11 := own_base owm11 tb10.size
        refine hK.out _ _ ⟨(B2_11.cell (i := 0) rfl), (B2_11.cell (i := 1) rfl), (Y0_11.cell (i := 0) rfl), (Y0_11.cell (i := 1) rfl), (Y1_11.cell (i := 0) rfl), (Y1_11.cell (i := 1) rfl)⟩ (fun hS11 => ?_)
        clear hK K
        try (change wpAnyH _ _ _ _ _ _ _ (Act.put _ (some 61) _) _)
        try simp only [Act.put, List.setIfInBounds_toArray, List.set_cons_zero, List.set_cons_succ]
        refine wpAnyH_take (i := 6) (v := .tuple #[.agg #[.slice C11 r0.length e11, .slice D11 rz0.length f11], .int .i64 r1]) rfl (by kernel_rfl) (by kernel_rfl) (by kernel_rfl) (fun _ _ _ h => h) (Or.inl ⟨by rfl, fun w' _ => by go_simp⟩) hS11 ?_
        change wpAnyH _ _ _ _ _ _ _ (Act.put _ (some 55) _) _
        simp only [Act.put, List.setIfInBounds_toArray, List.set_cons_zero, List.set_cons_succ]
        refine wpAnyH_take (i := 7) (v := .agg #[.slice C11 r0.length e11, .slice D11 rz0.length f11]) rfl (by kernel_rfl) (by kernel_rfl) (by kernel_rfl) (fun _ _ _ h => h) (Or.inl ⟨by rfl, fun w' _ => by go_simp⟩) hS11 ?_
        change wpAnyH _ _ _ _ _ _ _ (Act.put _ (some 62) _) _
        simp only [Act.put, List.setIfInBounds_toArray, List.set_cons_zero, List.set_cons_succ]
        refine wpAnyH_take (i := 8) (v := .int .i64 r1) rfl (by kernel_rfl) (by kernel_rfl) (by kernel_rfl) (fun _ _ _ h => h) (Or.inl ⟨by rfl, fun w' _ => by go_simp⟩) hS11 ?_
        change wpAnyH _ _ _ _ _ _ _ (Act.put _ (some 63) _) _
        simp only [Act.put, List.setIfInBounds_toArray, List.set_cons_zero, List.set_cons_succ]
        refine wpAnyH_ready (rs := [9]) (by kernel_rfl) (by simp) (AllReadyH.cons rfl ?_ AllReadyH.nil)
        obtain ⟨w12, hX12⟩ : ∃ X, X = w11.alloc (.cells #[.slice none 0 0, .slice none 0 0] 34) := ⟨_, rfl⟩
        have hb12 : Below w11.heap.size w11 w12 := by rw [hX12]; exact (Below.refl _ _).alloc (Nat.le_refl _) _
        have za12 : Bk w12 w11.heap.size 34 #[.slice none 0 0, .slice none 0 0] := by rw [hX12]; exact heap_new' _ _ _ rfl
        have ge12 : w8.heap.size ≤ w11.heap.size := tb11.size
        intro K hK
        rw [if_pos (by rfl)]
        go_simp
        rw [← hX12]
        clear hX12
        have b12 := step_below hb12 b11
        have B2_12 := B2_11.keep hb12
        have Y0_12 := Y0_11.keep hb12
        have Y1_12 := Y1_11.keep hb12
        have q4_12 := own_keep q4_11 hb12
        have q6_12 := own_keep q6_11 hb12
        have d6_12 := own_keep d6_11 hb12
        have q8_12 := own_keep q8_11 hb12
        have r11_12 := own_keep r11_11 hb12
        have rz11_12 := own_keep rz11_11 hb12
        have t12 := step_below hb12 t11
        have tb12 := tb11.trans (hb12.mono tb11.size)
        have oo_12 := own_keep oo_11 hb12
        have oz_12 := own_keep oz_11 hb12
        refine hK.out _ _ ⟨(B2_12.cell (i := 0) rfl), (B2_12.cell (i := 1) rfl), (Y0_12.cell (i := 0) rfl), (Y0_12.cell (i := 1) rfl), (Y1_12.cell (i := 0) rfl), (Y1_12.cell (i := 1) rfl)⟩ (fun hS12 => ?_)
        clear hK K
        try (change wpAnyH _ _ _ _ _ _ _ (Act.put _ (some 15) _) _)
        try simp only [Act.put, List.setIfInBounds_toArray, List.set_cons_zero, List.set_cons_succ]
        refine wpAnyH_ready (rs := [10]) (by kernel_rfl) (by simp) (AllReadyH.cons rfl ?_ AllReadyH.nil)
        intro K hK
        rw [if_pos (by rfl)]
        refine wp_store_row 34 (.tmp 15) (.tmp 62) rfl (w11.heap.size) #[.slice C11 r0.length e11, .slice D11 rz0.length f11] rfl rfl 34 _ za12 (infoWear _ _) (szWear _ _ _ _) (oneWear _ _ _ _ _ _) ?_
        have hb13 : Below w8.heap.size w12 (w12.setRow (w11.heap.size) #[.slice C11 r0.length e11, .slice D11 rz0.length f11]) := below_setRow (Below.refl _ _) ge12
        have DD : Bk (w12.setRow (w11.heap.size) #[.slice C11 r0.length e11, .slice D11 rz0.length f11]) (w11.heap.size) 34 #[.slice C11 r0.length e11, .slice D11 rz0.length f11] := setRow_heap _ _ _ _ _ _ za12
        have oo_13 := own_rowK oo_12 za12 (by decide) #[.slice C11 r0.length e11, .slice D11 rz0.length f11]
        have oz_13 := own_rowK oz_12 za12 (by decide) #[.slice C11 r0.length e11, .slice D11 rz0.length f11]
        have B2_13 : Bk (w12.setRow (w11.heap.size) #[.slice C11 r0.length e11, .slice D11 rz0.length f11]) (w.heap.size + 1 + 1) 59 #[.int .i64 x2_0, .int .i64 x2_1] := (setRow_other _ _ _ _ (by have e1 := B2_8.lt; have e2 := ge12; omega)).trans B2_12
        have Y0_13 : Bk (w12.setRow (w11.heap.size) #[.slice C11 r0.length e11, .slice D11 rz0.length f11]) (w4.heap.size) 39 #[.int .i16 s0, .slice (some ⟨g4, 0, none⟩) l0.length l0.length] := (setRow_other _ _ _ _ (by have e1 := Y0_8.lt; have e2 := ge12; omega)).trans Y0_12
        have Y1_13 : Bk (w12.setRow (w11.heap.size) #[.slice C11 r0.length e11, .slice D11 rz0.length f11]) (w6.heap.size) 34 #[.slice (some ⟨g6, 0, none⟩) l1.length l1.length, .slice (some ⟨m6, 0, none⟩) z1.length z1.length] := (setRow_other _ _ _ _ (by have e1 := Y1_8.lt; have e2 := ge12; omega)).trans Y1_12
        have tb13 := tb12.trans hb13
        refine hK.out _ _ ⟨(B2_13.cell (i := 0) rfl), (B2_13.cell (i := 1) rfl), (Y0_13.cell (i := 0) rfl), (Y0_13.cell (i := 1) rfl), (Y1_13.cell (i := 0) rfl), (Y1_13.cell (i := 1) rfl)⟩ (fun hS13 => ?_)
        clear hK K
        refine wpAnyH_take (i := 11) (v := .int .i64 r1) rfl (by kernel_rfl) (by kernel_rfl) (by kernel_rfl) (fun _ _ _ h => h) (Or.inl ⟨by rfl, fun w' _ => by go_simp⟩) hS13 ?_
        change wpAnyH _ _ _ _ _ _ _ (Act.put _ (some 16) _) _
        simp only [Act.put, List.setIfInBounds_toArray, List.set_cons_zero, List.set_cons_succ]
        refine wpAnyH_done (by kernel_rfl) ?_ _
        go_wp2_with fail
        go_meet
        exact ⟨_, C11, e11, D11, f11, _, rfl, rfl, rfl, DD, ge12, oo_13, oz_13, tb13⟩
      · obtain ⟨w11, hX11⟩ : ∃ X, X = w10.alloc (.cells #[.slice none 0 0, .slice none 0 0] 34) := ⟨_, rfl⟩
        have hb11 : Below w10.heap.size w10 w11 := by rw [hX11]; exact (Below.refl _ _).alloc (Nat.le_refl _) _
        have za11 : Bk w11 w10.heap.size 34 #[.slice none 0 0, .slice none 0 0] := by rw [hX11]; exact heap_new' _ _ _ rfl
        have ge11 : w8.heap.size ≤ w10.heap.size := tb10.size
        intro K hK
        rw [if_pos (by rfl)]
        go_simp
        rw [← hX11]
        clear hX11
        have b11 := step_below hb11 b10
        have B2_11 := B2_10.keep hb11
        have Y0_11 := Y0_10.keep hb11
        have Y1_11 := Y1_10.keep hb11
        have q4_11 := own_keep q4_10 hb11
        have q6_11 := own_keep q6_10 hb11
        have d6_11 := own_keep d6_10 hb11
        have q8_11 := own_keep q8_10 hb11
        have t11 := step_below hb11 t10
        have tb11 := tb10.trans (hb11.mono tb10.size)
        refine hK.out _ _ ⟨(B2_11.cell (i := 0) rfl), (B2_11.cell (i := 1) rfl), (Y0_11.cell (i := 0) rfl), (Y0_11.cell (i := 1) rfl), (Y1_11.cell (i := 0) rfl), (Y1_11.cell (i := 1) rfl)⟩ (fun hS11 => ?_)
        clear hK K
        try (change wpAnyH _ _ _ _ _ _ _ (Act.put _ (some 15) _) _)
        try simp only [Act.put, List.setIfInBounds_toArray, List.set_cons_zero, List.set_cons_succ]
        refine wpAnyH_ready (rs := [5]) (by kernel_rfl) (by simp) (AllReadyH.cons rfl ?_ AllReadyH.nil)
        intro K hK
        rw [if_pos (by rfl)]
        go_simp
        refine (KI _ _ _ _ _ (HA.of_own q4_11) (WnA.of_own q6_11) (SZ.of_own d6_11) (AcA.of_own q8_11) ).mono ?_
        rintro e w12 ⟨C12, e12, D12, f12, rfl, own12, owm12, hb12⟩
        have b12 := step_below hb12 b11
        have B2_12 := B2_11.keep hb12
        have Y0_12 := Y0_11.keep hb12
        have Y1_12 := Y1_11.keep hb12
        have q4_12 := own_keep q4_11 hb12
        have q6_12 := own_keep q6_11 hb12
        have d6_12 := own_keep d6_11 hb12
        have q8_12 := own_keep q8_11 hb12
        have t12 := step_below hb12 t11
        have r12_12 := own12
        have rz12_12 := owm12
        have tb12 := tb11.trans (hb12.mono tb11.size)
        have za12 := za11.keep hb12
        have oo_12 := own_base own12 tb11.size
        have oz_12 := own_base owm12 tb11.size
        refine hK.out _ _ ⟨(B2_12.cell (i := 0) rfl), (B2_12.cell (i := 1) rfl), (Y0_12.cell (i := 0) rfl), (Y0_12.cell (i := 1) rfl), (Y1_12.cell (i := 0) rfl), (Y1_12.cell (i := 1) rfl)⟩ (fun hS12 => ?_)
        clear hK K
        try (change wpAnyH _ _ _ _ _ _ _ (Act.put _ (some 61) _) _)
        try simp only [Act.put, List.setIfInBounds_toArray, List.set_cons_zero, List.set_cons_succ]
        refine wpAnyH_take (i := 6) (v := .tuple #[.agg #[.slice C12 r0.length e12, .slice D12 rz0.length f12], .int .i64 r1]) rfl (by kernel_rfl) (by kernel_rfl) (by kernel_rfl) (fun _ _ _ h => h) (Or.inl ⟨by rfl, fun w' _ => by go_simp⟩) hS12 ?_
        change wpAnyH _ _ _ _ _ _ _ (Act.put _ (some 55) _) _
        simp only [Act.put, List.setIfInBounds_toArray, List.set_cons_zero, List.set_cons_succ]
        refine wpAnyH_take (i := 7) (v := .agg #[.slice C12 r0.length e12, .slice D12 rz0.length f12]) rfl (by kernel_rfl) (by kernel_rfl) (by kernel_rfl) (fun _ _ _ h => h) (Or.inl ⟨by rfl, fun w' _ => by go_simp⟩) hS12 ?_
        change wpAnyH _ _ _ _ _ _ _ (Act.put _ (some 62) _) _
        simp only [Act.put, List.setIfInBounds_toArray, List.set_cons_zero, List.set_cons_succ]
        refine wpAnyH_take (i := 8) (v := .int .i64 r1) rfl (by kernel_rfl) (by kernel_rfl) (by kernel_rfl) (fun _ _ _ h => h) (Or.inl ⟨by rfl, fun w' _ => by go_simp⟩) hS12 ?_
        change wpAnyH _ _ _ _ _ _ _ (Act.put _ (some 63) _) _
        simp only [Act.put, List.setIfInBounds_toArray, List.set_cons_zero, List.set_cons_succ]
        refine wpAnyH_ready (rs := [10]) (by kernel_rfl) (by simp) (AllReadyH.cons rfl ?_ AllReadyH.nil)
        intro K hK
        rw [if_pos (by rfl)]
        refine wp_store_row 34 (.tmp 15) (.tmp 62) rfl (w10.heap.size) #[.slice C12 r0.length e12, .slice D12 rz0.length f12] rfl rfl 34 _ za12 (infoWear _ _) (szWear _ _ _ _) (oneWear _ _ _ _ _ _) ?_
        have hb13 : Below w8.heap.size w12 (w12.setRow (w10.heap.size) #[.slice C12 r0.length e12, .slice D12 rz0.length f12]) := below_setRow (Below.refl _ _) ge11
        have DD : Bk (w12.setRow (w10.heap.size) #[.slice C12 r0.length e12, .slice D12 rz0.length f12]) (w10.heap.size) 34 #[.slice C12 r0.length e12, .slice D12 rz0.length f12] := setRow_heap _ _ _ _ _ _ za12
        have oo_13 := own_rowK oo_12 za12 (by decide) #[.slice C12 r0.length e12, .slice D12 rz0.length f12]
        have oz_13 := own_rowK oz_12 za12 (by decide) #[.slice C12 r0.length e12, .slice D12 rz0.length f12]
        have B2_13 : Bk (w12.setRow (w10.heap.size) #[.slice C12 r0.length e12, .slice D12 rz0.length f12]) (w.heap.size + 1 + 1) 59 #[.int .i64 x2_0, .int .i64 x2_1] := (setRow_other _ _ _ _ (by have e1 := B2_8.lt; have e2 := ge11; omega)).trans B2_12
        have Y0_13 : Bk (w12.setRow (w10.heap.size) #[.slice C12 r0.length e12, .slice D12 rz0.length f12]) (w4.heap.size) 39 #[.int .i16 s0, .slice (some ⟨g4, 0, none⟩) l0.length l0.length] := (setRow_other _ _ _ _ (by have e1 := Y0_8.lt; have e2 := ge11; omega)).trans Y0_12
        have Y1_13 : Bk (w12.setRow (w10.heap.size) #[.slice C12 r0.length e12, .slice D12 rz0.length f12]) (w6.heap.size) 34 #[.slice (some ⟨g6, 0, none⟩) l1.length l1.length, .slice (some ⟨m6, 0, none⟩) z1.length z1.length] := (setRow_other _ _ _ _ (by have e1 := Y1_8.lt; have e2 := ge11; omega)).trans Y1_12
        have tb13 := tb12.trans hb13
        refine hK.out _ _ ⟨(B2_13.cell (i := 0) rfl), (B2_13.cell (i := 1) rfl), (Y0_13.cell (i := 0) rfl), (Y0_13.cell (i := 1) rfl), (Y1_13.cell (i := 0) rfl), (Y1_13.cell (i := 1) rfl)⟩ (fun hS13 => ?_)
        clear hK K
        refine wpAnyH_take (i := 11) (v := .int .i64 r1) rfl (by kernel_rfl) (by kernel_rfl) (by kernel_rfl) (fun _ _ _ h => h) (Or.inl ⟨by rfl, fun w' _ => by go_simp⟩) hS13 ?_
        change wpAnyH _ _ _ _ _ _ _ (Act.put _ (some 16) _) _
        simp only [Act.put, List.setIfInBounds_toArray, List.set_cons_zero, List.set_cons_succ]
        refine wpAnyH_done (by kernel_rfl) ?_ _
        go_wp2_with fail
        go_meet
        exact ⟨_, C12, e12, D12, f12, _, rfl, rfl, rfl, DD, ge11, oo_13, oz_13, tb13⟩
    · obtain ⟨w10, hX10⟩ : ∃ X, X = wd9.alloc (.cells #[.slice none 0 0, .slice none 0 0] 34) := ⟨_, rfl⟩
      have hb10 : Below wd9.heap.size wd9 w10 := by rw [hX10]; exact (Below.refl _ _).alloc (Nat.le_refl _) _
      have za10 : Bk w10 wd9.heap.size 34 #[.slice none 0 0, .slice none 0 0] := by rw [hX10]; exact heap_new' _ _ _ rfl
      have ge10 : w8.heap.size ≤ wd9.heap.size := tb9.size
      intro K hK
      rw [if_pos (by rfl)]
      go_simp
      rw [← hX10]
      clear hX10
      have b10 := step_below hb10 b9
      have B2_10 := B2_9.keep hb10
      have Y0_10 := Y0_9.keep hb10
      have Y1_10 := Y1_9.keep hb10
      have q4_10 := own_keep q4_9 hb10
      have q6_10 := own_keep q6_9 hb10
      have d6_10 := own_keep d6_9 hb10
      have q8_10 := own_keep q8_9 hb10
      have t10 := step_below hb10 t9
      have tb10 := tb9.trans (hb10.mono tb9.size)
      refine hK.out _ _ ⟨(B2_10.cell (i := 0) rfl), (B2_10.cell (i := 1) rfl), (Y0_10.cell (i := 0) rfl), (Y0_10.cell (i := 1) rfl), (Y1_10.cell (i := 0) rfl), (Y1_10.cell (i := 1) rfl)⟩ (fun hS10 => ?_)
      clear hK K
      try (change wpAnyH _ _ _ _ _ _ _ (Act.put _ (some 15) _) _)
      try simp only [Act.put, List.setIfInBounds_toArray, List.set_cons_zero, List.set_cons_succ]
      refine wpAnyH_ready (rs := [3]) (by kernel_rfl) (by simp) (AllReadyH.cons rfl ?_ AllReadyH.nil)
      intro K hK
      rw [if_pos (by rfl)]
      go_simp
      refine (toLives_any x2_0 x2_1 _).mono ?_
      rintro e w11 ⟨rfl, hb11⟩
      have b11 := step_below hb11 b10
      have B2_11 := B2_10.keep hb11
      have Y0_11 := Y0_10.keep hb11
      have Y1_11 := Y1_10.keep hb11
      have q4_11 := own_keep q4_10 hb11
      have q6_11 := own_keep q6_10 hb11
      have d6_11 := own_keep d6_10 hb11
      have q8_11 := own_keep q8_10 hb11
      have t11 := step_below hb11 t10
      have tb11 := tb10.trans (hb11.mono tb10.size)
      have za11 := za10.keep hb11
      refine hK.out _ _ ⟨(B2_11.cell (i := 0) rfl), (B2_11.cell (i := 1) rfl), (Y0_11.cell (i := 0) rfl), (Y0_11.cell (i := 1) rfl), (Y1_11.cell (i := 0) rfl), (Y1_11.cell (i := 1) rfl)⟩ (fun hS11 => ?_)
      clear hK K
      try (change wpAnyH _ _ _ _ _ _ _ (Act.put _ (some 59) _) _)
      try simp only [Act.put, List.setIfInBounds_toArray, List.set_cons_zero, List.set_cons_succ]
      refine wpAnyH_ready (rs := [5]) (by kernel_rfl) (by simp) (AllReadyH.cons rfl ?_ AllReadyH.nil)
      intro K hK
      rw [if_pos (by rfl)]
      go_simp
      refine (KI _ _ _ _ _ (HA.of_own q4_11) (WnA.of_own q6_11) (SZ.of_own d6_11) (AcA.of_own q8_11) ).mono ?_
      rintro e w12 ⟨C12, e12, D12, f12, rfl, own12, owm12, hb12⟩
      have b12 := step_below hb12 b11
      have B2_12 := B2_11.keep hb12
      have Y0_12 := Y0_11.keep hb12
      have Y1_12 := Y1_11.keep hb12
      have q4_12 := own_keep q4_11 hb12
      have q6_12 := own_keep q6_11 hb12
      have d6_12 := own_keep d6_11 hb12
      have q8_12 := own_keep q8_11 hb12
      have t12 := step_below hb12 t11
      have r12_12 := own12
      have rz12_12 := owm12
      have tb12 := tb11.trans (hb12.mono tb11.size)
      have za12 := za11.keep hb12
      have oo_12 := own_base own12 tb11.size
      have oz_12 := own_base owm12 tb11.size
      refine hK.out _ _ ⟨(B2_12.cell (i := 0) rfl), (B2_12.cell (i := 1) rfl), (Y0_12.cell (i := 0) rfl), (Y0_12.cell (i := 1) rfl), (Y1_12.cell (i := 0) rfl), (Y1_12.cell (i := 1) rfl)⟩ (fun hS12 => ?_)
      clear hK K
      try (change wpAnyH _ _ _ _ _ _ _ (Act.put _ (some 61) _) _)
      try simp only [Act.put, List.setIfInBounds_toArray, List.set_cons_zero, List.set_cons_succ]
      refine wpAnyH_take (i := 6) (v := .tuple #[.agg #[.slice C12 r0.length e12, .slice D12 rz0.length f12], .int .i64 r1]) rfl (by kernel_rfl) (by kernel_rfl) (by kernel_rfl) (fun _ _ _ h => h) (Or.inl ⟨by rfl, fun w' _ => by go_simp⟩) hS12 ?_
      change wpAnyH _ _ _ _ _ _ _ (Act.put _ (some 55) _) _
      simp only [Act.put, List.setIfInBounds_toArray, List.set_cons_zero, List.set_cons_succ]
      refine wpAnyH_take (i := 7) (v := .agg #[.slice C12 r0.length e12, .slice D12 rz0.length f12]) rfl (by kernel_rfl) (by kernel_rfl) (by kernel_rfl) (fun _ _ _ h => h) (Or.inl ⟨by rfl, fun w' _ => by go_simp⟩) hS12 ?_
      change wpAnyH _ _ _ _ _ _ _ (Act.put _ (some 62) _) _
      simp only [Act.put, List.setIfInBounds_toArray, List.set_cons_zero, List.set_cons_succ]
      refine wpAnyH_take (i := 8) (v := .int .i64 r1) rfl (by kernel_rfl) (by kernel_rfl) (by kernel_rfl) (fun _ _ _ h => h) (Or.inl ⟨by rfl, fun w' _ => by go_simp⟩) hS12 ?_
      change wpAnyH _ _ _ _ _ _ _ (Act.put _ (some 63) _) _
      simp only [Act.put, List.setIfInBounds_toArray, List.set_cons_zero, List.set_cons_succ]
      refine wpAnyH_ready (rs := [10]) (by kernel_rfl) (by simp) (AllReadyH.cons rfl ?_ AllReadyH.nil)
      intro K hK
      rw [if_pos (by rfl)]
      refine wp_store_row 34 (.tmp 15) (.tmp 62) rfl (wd9.heap.size) #[.slice C12 r0.length e12, .slice D12 rz0.length f12] rfl rfl 34 _ za12 (infoWear _ _) (szWear _ _ _ _) (oneWear _ _ _ _ _ _) ?_
      have hb13 : Below w8.heap.size w12 (w12.setRow (wd9.heap.size) #[.slice C12 r0.length e12, .slice D12 rz0.length f12]) := below_setRow (Below.refl _ _) ge10
      have DD : Bk (w12.setRow (wd9.heap.size) #[.slice C12 r0.length e12, .slice D12 rz0.length f12]) (wd9.heap.size) 34 #[.slice C12 r0.length e12, .slice D12 rz0.length f12] := setRow_heap _ _ _ _ _ _ za12
      have oo_13 := own_rowK oo_12 za12 (by decide) #[.slice C12 r0.length e12, .slice D12 rz0.length f12]
      have oz_13 := own_rowK oz_12 za12 (by decide) #[.slice C12 r0.length e12, .slice D12 rz0.length f12]
      have B2_13 : Bk (w12.setRow (wd9.heap.size) #[.slice C12 r0.length e12, .slice D12 rz0.length f12]) (w.heap.size + 1 + 1) 59 #[.int .i64 x2_0, .int .i64 x2_1] := (setRow_other _ _ _ _ (by have e1 := B2_8.lt; have e2 := ge10; omega)).trans B2_12
      have Y0_13 : Bk (w12.setRow (wd9.heap.size) #[.slice C12 r0.length e12, .slice D12 rz0.length f12]) (w4.heap.size) 39 #[.int .i16 s0, .slice (some ⟨g4, 0, none⟩) l0.length l0.length] := (setRow_other _ _ _ _ (by have e1 := Y0_8.lt; have e2 := ge10; omega)).trans Y0_12
      have Y1_13 : Bk (w12.setRow (wd9.heap.size) #[.slice C12 r0.length e12, .slice D12 rz0.length f12]) (w6.heap.size) 34 #[.slice (some ⟨g6, 0, none⟩) l1.length l1.length, .slice (some ⟨m6, 0, none⟩) z1.length z1.length] := (setRow_other _ _ _ _ (by have e1 := Y1_8.lt; have e2 := ge10; omega)).trans Y1_12
      have tb13 := tb12.trans hb13
      refine hK.out _ _ ⟨(B2_13.cell (i := 0) rfl), (B2_13.cell (i := 1) rfl), (Y0_13.cell (i := 0) rfl), (Y0_13.cell (i := 1) rfl), (Y1_13.cell (i := 0) rfl), (Y1_13.cell (i := 1) rfl)⟩ (fun hS13 => ?_)
      clear hK K
      refine wpAnyH_take (i := 11) (v := .int .i64 r1) rfl (by kernel_rfl) (by kernel_rfl) (by kernel_rfl) (fun _ _ _ h => h) (Or.inl ⟨by rfl, fun w' _ => by go_simp⟩) hS13 ?_
      change wpAnyH _ _ _ _ _ _ _ (Act.put _ (some 16) _) _
      simp only [Act.put, List.setIfInBounds_toArray, List.set_cons_zero, List.set_cons_succ]
      refine wpAnyH_done (by kernel_rfl) ?_ _
      go_wp2_with fail
      go_meet
      exact ⟨_, C12, e12, D12, f12, _, rfl, rfl, rfl, DD, ge10, oo_13, oz_13, tb13⟩
  obtain ⟨rg9, C9, e9, D9, f9, w9, rfl, rfl, rfl, K9, rge9, own9, owm9, hb9⟩ := hcut
  have b9 := step_below hb9 b8
  have B0_9 := B0_8.keep hb9
  have B1_9 := B1_8.keep hb9
  have B2_9 := B2_8.keep hb9
  have Rw3_9 := Rw3_8.keep hb9
  have Y0_9 := Y0_8.keep hb9
  have Y1_9 := Y1_8.keep hb9
  have v3_9 := own_keep v3_8 hb9
  have vz3_9 := own_keep vz3_8 hb9
  have q4_9 := own_keep q4_8 hb9
  have q6_9 := own_keep q6_8 hb9
  have d6_9 := own_keep d6_8 hb9
  have q8_9 := own_keep q8_8 hb9
  have t9 := step_below hb9 t8
  have r9_9 := own9
  have rz9_9 := owm9
  have Rw9_9 := K9
  have pf64_0 := Rw9_9.cell (i := 0) rfl
  have pf64_1 := Rw9_9.cell (i := 1) rfl
  have pf65_0 := Rw3_9.cell (i := 0) rfl
  have pf65_1 := Rw3_9.cell (i := 1) rfl
  go_wp2_with fail
  clear pf64_0 pf64_1 pf65_0 pf65_1
  refine (eqWear_self _ _ _ _ r0 _ _ _ _ rz0 _ (WnA.of_own r9_9) (WnA.of_own v3_9) (SI.of_own rz9_9) (SI.of_own vz3_9) hrl0 hrlz0).mono ?_
  rintro e w10 ⟨rfl, hb10⟩
  have b10 := step_below hb10 b9
  have B0_10 := B0_9.keep hb10
  have B1_10 := B1_9.keep hb10
  have B2_10 := B2_9.keep hb10
  have Rw3_10 := Rw3_9.keep hb10
  have Y0_10 := Y0_9.keep hb10
  have Y1_10 := Y1_9.keep hb10
  have Rw9_10 := Rw9_9.keep hb10
  have v3_10 := own_keep v3_9 hb10
  have vz3_10 := own_keep vz3_9 hb10
  have q4_10 := own_keep q4_9 hb10
  have q6_10 := own_keep q6_9 hb10
  have d6_10 := own_keep d6_9 hb10
  have q8_10 := own_keep q8_9 hb10
  have r9_10 := own_keep r9_9 hb10
  have rz9_10 := own_keep rz9_9 hb10
  have t10 := step_below hb10 t9
  go_wp2_with fail
  have hb11 : Below w10.heap.size w10 w10.drew := (Below.refl _ _).drew
  have b11 := step_below hb11 b10
  have B0_11 := B0_10.keep hb11
  have B1_11 := B1_10.keep hb11
  have B2_11 := B2_10.keep hb11
  have Rw3_11 := Rw3_10.keep hb11
  have Y0_11 := Y0_10.keep hb11
  have Y1_11 := Y1_10.keep hb11
  have Rw9_11 := Rw9_10.keep hb11
  have v3_11 := own_keep v3_10 hb11
  have vz3_11 := own_keep vz3_10 hb11
  have q4_11 := own_keep q4_10 hb11
  have q6_11 := own_keep q6_10 hb11
  have d6_11 := own_keep d6_10 hb11
  have q8_11 := own_keep q8_10 hb11
  have r9_11 := own_keep r9_10 hb11
  have rz9_11 := own_keep rz9_10 hb11
  have t11 := step_below hb11 t10
  refine wp_region_held_drew (S := fun w' => w'.cell? ⟨w4.heap.size, 0, none⟩ = some (.int .i16 s0) ∧ w'.cell? ⟨w4.heap.size, 1, none⟩ = some (.slice (some ⟨g4, 0, none⟩) l0.length l0.length) ∧ w'.cell? ⟨w.heap.size, 0, none⟩ = some (.int .i16 s0) ∧ w'.cell? ⟨w.heap.size, 1, none⟩ = some (.slice A0 l0.length c0)) (by kernel_rfl) ⟨(Y0_11.cell (i := 0) rfl), (Y0_11.cell (i := 1) rfl), (B0_11.cell (i := 0) rfl), (B0_11.cell (i := 1) rfl)⟩ fun hS11 => ?_
  refine wpAnyH_take (i := 0) (v := .agg #[.int .i16 s0, .slice (some ⟨g4, 0, none⟩) l0.length l0.length]) rfl (by kernel_rfl) (by kernel_rfl) (by kernel_rfl) (fun _ _ _ h => h) (Or.inl ⟨by rfl, fun w' h => ?_⟩) hS11 ?_
  · have c0 := h.1
    have c1 := h.2.1
    clear h
    go_simp
  simp only [Act.put, List.setIfInBounds_toArray, List.set_cons_zero, List.set_cons_succ]
  refine wpAnyH_take (i := 1) (v := .agg #[.int .i16 s0, .slice A0 l0.length c0]) rfl (by kernel_rfl) (by kernel_rfl) (by kernel_rfl) (fun _ _ _ h => h) (Or.inl ⟨by rfl, fun w' h => ?_⟩) hS11 ?_
  · have c0 := h.2.2.1
    have c1 := h.2.2.2
    clear h
    go_simp
  simp only [Act.put, List.setIfInBounds_toArray, List.set_cons_zero, List.set_cons_succ]
  refine wpAnyH_ready (rs := [2]) (by kernel_rfl) (by simp) (AllReadyH.cons rfl ?_ AllReadyH.nil)
  intro K hK
  rw [if_pos (by rfl)]
  go_simp
  refine (toFrame_any s0 A0 c0 l0 _ (hA0.below b11) hn0).mono ?_
  rintro e w12 ⟨g12, rfl, hg12, own12, hb12⟩
  have b12 := step_below hb12 b11
  have B0_12 := B0_11.keep hb12
  have B1_12 := B1_11.keep hb12
  have B2_12 := B2_11.keep hb12
  have Rw3_12 := Rw3_11.keep hb12
  have Y0_12 := Y0_11.keep hb12
  have Y1_12 := Y1_11.keep hb12
  have Rw9_12 := Rw9_11.keep hb12
  have v3_12 := own_keep v3_11 hb12
  have vz3_12 := own_keep vz3_11 hb12
  have q4_12 := own_keep q4_11 hb12
  have q6_12 := own_keep q6_11 hb12
  have d6_12 := own_keep d6_11 hb12
  have q8_12 := own_keep q8_11 hb12
  have r9_12 := own_keep r9_11 hb12
  have rz9_12 := own_keep rz9_11 hb12
  have t12 := step_below hb12 t11
  have gl12 : g12 < w12.heap.size := (own12.lt g12 rfl).2
  have q12_12 := own12
  refine hK.out _ _ ⟨(Y0_12.cell (i := 0) rfl), (Y0_12.cell (i := 1) rfl), (B0_12.cell (i := 0) rfl), (B0_12.cell (i := 1) rfl)⟩ (fun hS12 => ?_)
  clear hK K
  refine wpAnyH_ready (rs := [3]) (by kernel_rfl) (by simp) (AllReadyH.cons rfl ?_ AllReadyH.nil)
  intro K hK
  rw [if_pos (by rfl)]
  go_simp
  refine (eqFrame_any s0 _ _ _ _ l0 _ (HA.of_own q4_12) (HA.of_own q12_12) hn0).mono ?_
  rintro e w13 ⟨rfl, hb13⟩
  have b13 := step_below hb13 b12
  have B0_13 := B0_12.keep hb13
  have B1_13 := B1_12.keep hb13
  have B2_13 := B2_12.keep hb13
  have Rw3_13 := Rw3_12.keep hb13
  have Y0_13 := Y0_12.keep hb13
  have Y1_13 := Y1_12.keep hb13
  have Rw9_13 := Rw9_12.keep hb13
  have v3_13 := own_keep v3_12 hb13
  have vz3_13 := own_keep vz3_12 hb13
  have q4_13 := own_keep q4_12 hb13
  have q6_13 := own_keep q6_12 hb13
  have d6_13 := own_keep d6_12 hb13
  have q8_13 := own_keep q8_12 hb13
  have r9_13 := own_keep r9_12 hb13
  have rz9_13 := own_keep rz9_12 hb13
  have t13 := step_below hb13 t12
  refine hK.out _ _ ⟨(Y0_13.cell (i := 0) rfl), (Y0_13.cell (i := 1) rfl), (B0_13.cell (i := 0) rfl), (B0_13.cell (i := 1) rfl)⟩ (fun hS13 => ?_)
  clear hK K
  refine wpAnyH_take (i := 4) (v := .bool false) rfl (by kernel_rfl) (by kernel_rfl) (by kernel_rfl) (fun _ _ _ h => h) (Or.inl ⟨by rfl, fun w' _ => by go_simp⟩) hS13 ?_
  change wpAnyH _ _ _ _ _ _ _ (Act.put _ (some 77) _) _
  simp only [Act.put, List.setIfInBounds_toArray, List.set_cons_zero, List.set_cons_succ]
  refine wpAnyH_done (by kernel_rfl) ?_ _
  go_wp2_with fail
  have hb14 : Below w13.heap.size w13 w13.drew := (Below.refl _ _).drew
  have b14 := step_below hb14 b13
  have B0_14 := B0_13.keep hb14
  have B1_14 := B1_13.keep hb14
  have B2_14 := B2_13.keep hb14
  have Rw3_14 := Rw3_13.keep hb14
  have Y0_14 := Y0_13.keep hb14
  have Y1_14 := Y1_13.keep hb14
  have Rw9_14 := Rw9_13.keep hb14
  have v3_14 := own_keep v3_13 hb14
  have vz3_14 := own_keep vz3_13 hb14
  have q4_14 := own_keep q4_13 hb14
  have q6_14 := own_keep q6_13 hb14
  have d6_14 := own_keep d6_13 hb14
  have q8_14 := own_keep q8_13 hb14
  have r9_14 := own_keep r9_13 hb14
  have rz9_14 := own_keep rz9_13 hb14
  have t14 := step_below hb14 t13
  refine wp_region_held_drew (S := fun w' => w'.cell? ⟨w6.heap.size, 0, none⟩ = some (.slice (some ⟨g6, 0, none⟩) l1.length l1.length) ∧ w'.cell? ⟨w6.heap.size, 1, none⟩ = some (.slice (some ⟨m6, 0, none⟩) z1.length z1.length) ∧ w'.cell? ⟨w.heap.size + 1, 0, none⟩ = some (.slice A1 l1.length c1) ∧ w'.cell? ⟨w.heap.size + 1, 1, none⟩ = some (.slice U1 z1.length v1)) (by kernel_rfl) ⟨(Y1_14.cell (i := 0) rfl), (Y1_14.cell (i := 1) rfl), (B1_14.cell (i := 0) rfl), (B1_14.cell (i := 1) rfl)⟩ fun hS14 => ?_
  refine wpAnyH_take (i := 0) (v := .agg #[.slice (some ⟨g6, 0, none⟩) l1.length l1.length, .slice (some ⟨m6, 0, none⟩) z1.length z1.length]) rfl (by kernel_rfl) (by kernel_rfl) (by kernel_rfl) (fun _ _ _ h => h) (Or.inl ⟨by rfl, fun w' h => ?_⟩) hS14 ?_
  · have c0 := h.1
    have c1 := h.2.1
    clear h
    go_simp
  simp only [Act.put, List.setIfInBounds_toArray, List.set_cons_zero, List.set_cons_succ]
  refine wpAnyH_take (i := 1) (v := .agg #[.slice A1 l1.length c1, .slice U1 z1.length v1]) rfl (by kernel_rfl) (by kernel_rfl) (by kernel_rfl) (fun _ _ _ h => h) (Or.inl ⟨by rfl, fun w' h => ?_⟩) hS14 ?_
  · have c0 := h.2.2.1
    have c1 := h.2.2.2
    clear h
    go_simp
  simp only [Act.put, List.setIfInBounds_toArray, List.set_cons_zero, List.set_cons_succ]
  refine wpAnyH_ready (rs := [2]) (by kernel_rfl) (by simp) (AllReadyH.cons rfl ?_ AllReadyH.nil)
  intro K hK
  rw [if_pos (by rfl)]
  go_simp
  refine (toWear_any A1 c1 l1 U1 v1 z1 _ (hA1.below b14) (hU1.below b14) hn1.1 hn1.2).mono ?_
  rintro e w15 ⟨g15, m15, rfl, hg15, hgm15, own15, owm15, hb15⟩
  have b15 := step_below hb15 b14
  have B0_15 := B0_14.keep hb15
  have B1_15 := B1_14.keep hb15
  have B2_15 := B2_14.keep hb15
  have Rw3_15 := Rw3_14.keep hb15
  have Y0_15 := Y0_14.keep hb15
  have Y1_15 := Y1_14.keep hb15
  have Rw9_15 := Rw9_14.keep hb15
  have v3_15 := own_keep v3_14 hb15
  have vz3_15 := own_keep vz3_14 hb15
  have q4_15 := own_keep q4_14 hb15
  have q6_15 := own_keep q6_14 hb15
  have d6_15 := own_keep d6_14 hb15
  have q8_15 := own_keep q8_14 hb15
  have r9_15 := own_keep r9_14 hb15
  have rz9_15 := own_keep rz9_14 hb15
  have t15 := step_below hb15 t14
  have gl15 : g15 < w15.heap.size := (own15.lt g15 rfl).2
  have gm15 : m15 < w15.heap.size := (owm15.lt m15 rfl).2
  have q15_15 := own15
  have d15_15 := owm15
  refine hK.out _ _ ⟨(Y1_15.cell (i := 0) rfl), (Y1_15.cell (i := 1) rfl), (B1_15.cell (i := 0) rfl), (B1_15.cell (i := 1) rfl)⟩ (fun hS15 => ?_)
  clear hK K
  refine wpAnyH_ready (rs := [3]) (by kernel_rfl) (by simp) (AllReadyH.cons rfl ?_ AllReadyH.nil)
  intro K hK
  rw [if_pos (by rfl)]
  go_simp
  refine (eqWear_self _ _ _ _ l1 _ _ _ _ z1 _ (WnA.of_own q6_15) (WnA.of_own q15_15) (SI.of_own d6_15) (SI.of_own d15_15) hn1.1 hn1.2).mono ?_
  rintro e w16 ⟨rfl, hb16⟩
  have b16 := step_below hb16 b15
  have B0_16 := B0_15.keep hb16
  have B1_16 := B1_15.keep hb16
  have B2_16 := B2_15.keep hb16
  have Rw3_16 := Rw3_15.keep hb16
  have Y0_16 := Y0_15.keep hb16
  have Y1_16 := Y1_15.keep hb16
  have Rw9_16 := Rw9_15.keep hb16
  have v3_16 := own_keep v3_15 hb16
  have vz3_16 := own_keep vz3_15 hb16
  have q4_16 := own_keep q4_15 hb16
  have q6_16 := own_keep q6_15 hb16
  have d6_16 := own_keep d6_15 hb16
  have q8_16 := own_keep q8_15 hb16
  have r9_16 := own_keep r9_15 hb16
  have rz9_16 := own_keep rz9_15 hb16
  have t16 := step_below hb16 t15
  refine hK.out _ _ ⟨(Y1_16.cell (i := 0) rfl), (Y1_16.cell (i := 1) rfl), (B1_16.cell (i := 0) rfl), (B1_16.cell (i := 1) rfl)⟩ (fun hS16 => ?_)
  clear hK K
  refine wpAnyH_take (i := 4) (v := .bool false) rfl (by kernel_rfl) (by kernel_rfl) (by kernel_rfl) (fun _ _ _ h => h) (Or.inl ⟨by rfl, fun w' _ => by go_simp⟩) hS16 ?_
  change wpAnyH _ _ _ _ _ _ _ (Act.put _ (some 82) _) _
  simp only [Act.put, List.setIfInBounds_toArray, List.set_cons_zero, List.set_cons_succ]
  refine wpAnyH_done (by kernel_rfl) ?_ _
  go_wp2_with fail
  refine (toActS_ex A3 c3 l3 _ (hA3.below b16) hn3).mono ?_
  rintro e w17 ⟨g17, rfl, hg17, own17, hb17⟩
  have b17 := step_below hb17 b16
  have B0_17 := B0_16.keep hb17
  have B1_17 := B1_16.keep hb17
  have B2_17 := B2_16.keep hb17
  have Rw3_17 := Rw3_16.keep hb17
  have Y0_17 := Y0_16.keep hb17
  have Y1_17 := Y1_16.keep hb17
  have Rw9_17 := Rw9_16.keep hb17
  have v3_17 := own_keep v3_16 hb17
  have vz3_17 := own_keep vz3_16 hb17
  have q4_17 := own_keep q4_16 hb17
  have q6_17 := own_keep q6_16 hb17
  have d6_17 := own_keep d6_16 hb17
  have q8_17 := own_keep q8_16 hb17
  have r9_17 := own_keep r9_16 hb17
  have rz9_17 := own_keep rz9_16 hb17
  have t17 := step_below hb17 t16
  have gl17 : g17 < w17.heap.size := (own17.lt g17 rfl).2
  have q17_17 := own17
  go_wp2_with fail
  refine (eqActS_self _ _ _ _ l3 _ (AcA.of_own q8_17) (AcA.of_own q17_17) hn3).mono ?_
  rintro e w18 ⟨rfl, hb18⟩
  have b18 := step_below hb18 b17
  have B0_18 := B0_17.keep hb18
  have B1_18 := B1_17.keep hb18
  have B2_18 := B2_17.keep hb18
  have Rw3_18 := Rw3_17.keep hb18
  have Y0_18 := Y0_17.keep hb18
  have Y1_18 := Y1_17.keep hb18
  have Rw9_18 := Rw9_17.keep hb18
  have v3_18 := own_keep v3_17 hb18
  have vz3_18 := own_keep vz3_17 hb18
  have q4_18 := own_keep q4_17 hb18
  have q6_18 := own_keep q6_17 hb18
  have d6_18 := own_keep d6_17 hb18
  have q8_18 := own_keep q8_17 hb18
  have r9_18 := own_keep r9_17 hb18
  have rz9_18 := own_keep rz9_17 hb18
  have t18 := step_below hb18 t17
  have pf88_0 := Y0_18.cell (i := 0) rfl
  have pf88_1 := Y0_18.cell (i := 1) rfl
  go_wp2_with fail
  clear pf88_0 pf88_1
  refine (markFrame_from s0 _ _ l0 _ (1) _ q4_18 hn0 ⟨by omega, by omega⟩).mono ?_
  rintro e w19 ⟨rfl, mo19, hgr19⟩
  have hbs19 := hgr19.size
  have t19 : Below w3.heap.size w3 w19 := t18.grown hgr19 t18.size (fun j hj => by cases hj; exact Nat.le_trans t3.size hg4)
  have b19 : Below w.heap.size w w19 := b3.trans (t19.mono b3.size)
  have B0_19 := B0_3.keep t19
  have B1_19 := B1_3.keep t19
  have B2_19 := B2_3.keep t19
  have Rw3_19 := Rw3_3.keep t19
  have Rw9_19 := Rw9_18.grown hgr19 (own_neK q4_18 Rw9_18 (by decide))
  have Y0_19 := Y0_18.grown hgr19 (fun e => by have e' : g4 = w4.heap.size := Option.some.inj e; have gg := gl4; have gh := hg4; have h4_ := hb4.size; have h5_ := hb5.size; omega)
  have Y1_19 := Y1_18.grown hgr19 (fun e => by have e' : g4 = w6.heap.size := Option.some.inj e; have gg := gl4; have gh := hg4; have h4_ := hb4.size; have h5_ := hb5.size; have h6_ := hb6.size; have h7_ := hb7.size; omega)
  have v3_19 := own_keep v3_3 t19
  have vz3_19 := own_keep vz3_3 t19
  have q6_19 := q6_18.kept hgr19 (own_ne2 q6_18 q4_18 (by decide))
  have d6_19 := d6_18.kept hgr19 (own_ne2 d6_18 q4_18 (by decide))
  have q8_19 := q8_18.kept hgr19 (own_ne2 q8_18 q4_18 (by decide))
  have r9_19 := r9_18.kept hgr19 (own_ne2 r9_18 q4_18 (by decide))
  have rz9_19 := rz9_18.kept hgr19 (own_ne2 rz9_18 q4_18 (by decide))
  have hneg19 : decide (1 + 2 * (l0.length : Int) < 0) = false := by simp; omega
  have pf91_0 := Y1_19.cell (i := 0) rfl
  have pf91_1 := Y1_19.cell (i := 1) rfl
  go_wp2_with fail
  clear pf91_0 pf91_1
  refine (markWear_from _ _ l1 _ _ z1 _ _ (1 + 2 * (l0.length : Int)) _ q6_19 d6_19 hn1.1 hn1.2 ⟨by omega, by omega⟩).mono ?_
  rintro e w21 ⟨w20, rfl, mo20, hgr20, mo21, hgr21⟩
  have hbs20 := hgr20.size
  have t20 : Below w3.heap.size w3 w20 := t19.grown hgr20 t19.size (fun j hj => by cases hj; exact Nat.le_trans t5.size hg6)
  have b20 : Below w.heap.size w w20 := b3.trans (t20.mono b3.size)
  have B0_20 := B0_3.keep t20
  have B1_20 := B1_3.keep t20
  have B2_20 := B2_3.keep t20
  have Rw3_20 := Rw3_3.keep t20
  have Rw9_20 := Rw9_19.grown hgr20 (own_neK q6_19 Rw9_19 (by decide))
  have Y0_20 := Y0_19.grown hgr20 (own_neK q6_19 Y0_19 (by decide))
  have Y1_20 := Y1_19.grown hgr20 (own_neK q6_19 Y1_19 (by decide))
  have v3_20 := own_keep v3_3 t20
  have vz3_20 := own_keep vz3_3 t20
  have d6_20 := d6_19.kept hgr20 (own_ne2 d6_19 q6_19 (by decide))
  have q8_20 := q8_19.kept hgr20 (own_ne2 q8_19 q6_19 (by decide))
  have r9_20 := r9_19.kept hgr20 (Or.inr (fun e => by have h1 := r9_19.lt g6 (by rw [e]; rfl); have gg := gl6; have h7_ := hb7.size; have h8_ := hb8.size; omega))
  have rz9_20 := rz9_19.kept hgr20 (own_ne2 rz9_19 q6_19 (by decide))
  have hbs21 := hgr21.size
  have t21 : Below w3.heap.size w3 w21 := t20.grown hgr21 t20.size (fun j hj => by cases hj; exact Nat.le_trans t5.size hgm6)
  have b21 : Below w.heap.size w w21 := b3.trans (t21.mono b3.size)
  have B0_21 := B0_3.keep t21
  have B1_21 := B1_3.keep t21
  have B2_21 := B2_3.keep t21
  have Rw3_21 := Rw3_3.keep t21
  have Rw9_21 := Rw9_20.grown hgr21 (own_neK d6_20 Rw9_20 (by decide))
  have Y0_21 := Y0_20.grown hgr21 (own_neK d6_20 Y0_20 (by decide))
  have Y1_21 := Y1_20.grown hgr21 (own_neK d6_20 Y1_20 (by decide))
  have v3_21 := own_keep v3_3 t21
  have vz3_21 := own_keep vz3_3 t21
  have q8_21 := q8_20.kept hgr21 (own_ne2 q8_20 d6_20 (by decide))
  have r9_21 := r9_20.kept hgr21 (own_ne2 r9_20 d6_20 (by decide))
  have rz9_21 := rz9_20.kept hgr21 (Or.inr (fun e => by have h1 := rz9_20.lt m6 (by rw [e]; rfl); have gg := gm6; have h7_ := hb7.size; have h8_ := hb8.size; omega))
  have hneg20 : decide (1 + 2 * (l0.length : Int) + 3 * (l1.length : Int) + (z1.length : Int) < 0) = false := by simp; omega
  go_wp2_with fail
  refine (markActS_from _ _ l3 _ (1 + 2 * (l0.length : Int) + 3 * (l1.length : Int) + (z1.length : Int)) _ q8_21 hn3 ⟨by omega, by omega⟩).mono ?_
  rintro e w22 ⟨rfl, mo22, hgr22⟩
  have hbs22 := hgr22.size
  have t22 : Below w3.heap.size w3 w22 := t21.grown hgr22 t21.size (fun j hj => by cases hj; exact Nat.le_trans t7.size hg8)
  have b22 : Below w.heap.size w w22 := b3.trans (t22.mono b3.size)
  have B0_22 := B0_3.keep t22
  have B1_22 := B1_3.keep t22
  have B2_22 := B2_3.keep t22
  have Rw3_22 := Rw3_3.keep t22
  have Rw9_22 := Rw9_21.grown hgr22 (own_neK q8_21 Rw9_21 (by decide))
  have Y0_22 := Y0_21.grown hgr22 (fun e => by have e' : g8 = w4.heap.size := Option.some.inj e; have gg := gl8; have gh := hg8; have h5_ := hb5.size; have h6_ := hb6.size; have h7_ := hb7.size; have h8_ := hb8.size; omega)
  have Y1_22 := Y1_21.grown hgr22 (fun e => by have e' : g8 = w6.heap.size := Option.some.inj e; have gg := gl8; have gh := hg8; have h7_ := hb7.size; have h8_ := hb8.size; omega)
  have v3_22 := own_keep v3_3 t22
  have vz3_22 := own_keep vz3_3 t22
  have r9_22 := r9_21.kept hgr22 (own_ne2 r9_21 q8_21 (by decide))
  have rz9_22 := rz9_21.kept hgr22 (own_ne2 rz9_21 q8_21 (by decide))
  have hneg22 : decide (1 + 2 * (l0.length : Int) + 3 * (l1.length : Int) + (z1.length : Int) + 5 * (l3.length : Int) < 0) = false := by simp; omega
  have pf100_0 := Rw9_22.cell (i := 0) rfl
  have pf100_1 := Rw9_22.cell (i := 1) rfl
  have pf101_0 := Rw3_22.cell (i := 0) rfl
  have pf101_1 := Rw3_22.cell (i := 1) rfl
  go_wp2_with fail
  clear pf100_0 pf100_1 pf101_0 pf101_1
  refine (eqWear_self _ _ _ _ r0 _ _ _ _ rz0 _ (WnA.of_own r9_22) (WnA.of_own v3_22) (SI.of_own rz9_22) (SI.of_own vz3_22) hrl0 hrlz0).mono ?_
  rintro e w23 ⟨rfl, hb23⟩
  have b23 := step_below hb23 b22
  have B0_23 := B0_22.keep hb23
  have B1_23 := B1_22.keep hb23
  have B2_23 := B2_22.keep hb23
  have Rw3_23 := Rw3_22.keep hb23
  have Y0_23 := Y0_22.keep hb23
  have Y1_23 := Y1_22.keep hb23
  have Rw9_23 := Rw9_22.keep hb23
  have v3_23 := own_keep v3_22 hb23
  have vz3_23 := own_keep vz3_22 hb23
  have r9_23 := own_keep r9_22 hb23
  have rz9_23 := own_keep rz9_22 hb23
  have t23 := step_below hb23 t22
  have pf110_0 := Rw9_23.cell (i := 0) rfl
  have pf110_1 := Rw9_23.cell (i := 1) rfl
  go_wp2_with fail
  clear pf110_0 pf110_1
  refine (markWear_from _ _ r0 _ _ rz0 _ _ (1) _ r9_23 rz9_23 hrl0 hrlz0 ⟨by omega, by omega⟩).mono ?_
  rintro e w25 ⟨w24, rfl, mo24, hgr24, mo25, hgr25⟩
  have hbs24 := hgr24.size
  have t24 : Below w3.heap.size w3 w24 := t23.grown hgr24 t23.size (fun j hj => Nat.le_trans t8.size ((r9_23).lt j hj).1)
  have b24 : Below w.heap.size w w24 := b3.trans (t24.mono b3.size)
  have B0_24 := B0_3.keep t24
  have B1_24 := B1_3.keep t24
  have B2_24 := B2_3.keep t24
  have Rw3_24 := Rw3_3.keep t24
  have Rw9_24 := Rw9_23.grown hgr24 (own_neK r9_23 Rw9_23 (by decide))
  have v3_24 := own_keep v3_3 t24
  have vz3_24 := own_keep vz3_3 t24
  have rz9_24 := rz9_23.kept hgr24 (own_ne2 rz9_23 r9_23 (by decide))
  have k24_24 := mo24
  have hbs25 := hgr25.size
  have t25 : Below w3.heap.size w3 w25 := t24.grown hgr25 t24.size (fun j hj => Nat.le_trans t8.size ((rz9_24).lt j hj).1)
  have b25 : Below w.heap.size w w25 := b3.trans (t25.mono b3.size)
  have B0_25 := B0_3.keep t25
  have B1_25 := B1_3.keep t25
  have B2_25 := B2_3.keep t25
  have Rw3_25 := Rw3_3.keep t25
  have Rw9_25 := Rw9_24.grown hgr25 (own_neK rz9_24 Rw9_24 (by decide))
  have v3_25 := own_keep v3_3 t25
  have vz3_25 := own_keep vz3_3 t25
  have k24_25 := k24_24.kept hgr25 (own_ne2 k24_24 rz9_24 (by decide))
  have k25_25 := mo25
  have hneg24 : decide (1 + 3 * (r0.length : Int) + (rz0.length : Int) < 0) = false := by simp; omega
  have hneq24 : ((1 + 3 * (r0.length : Int) + (rz0.length : Int)) != (1 + 3 * (r0.length : Int) + (rz0.length : Int))) = false := by simp
  have pf113_0 := Rw9_25.cell (i := 0) rfl
  have pf113_1 := Rw9_25.cell (i := 1) rfl
  go_wp2_with fail
  clear pf113_0 pf113_1
  refine (heldWear_from _ _ r0.length _ _ rz0.length (1) _ (mkWn_of_own k24_25) (mkI_of_own k25_25) hrl0 hrlz0 ⟨by omega, by omega⟩).mono ?_
  rintro e w26 ⟨rfl, hb26⟩
  have b26 := step_below hb26 b25
  have B0_26 := B0_25.keep hb26
  have B1_26 := B1_25.keep hb26
  have B2_26 := B2_25.keep hb26
  have Rw3_26 := Rw3_25.keep hb26
  have Rw9_26 := Rw9_25.keep hb26
  have v3_26 := own_keep v3_25 hb26
  have vz3_26 := own_keep vz3_25 hb26
  have k24_26 := own_keep k24_25 hb26
  have k25_26 := own_keep k25_25 hb26
  have t26 := step_below hb26 t25
  go_upto_region 38 with fail
  go_cut [20, 21] from 121 to 132 (fun a_ b_ wx => ∃ (g : Nat) (C : Option Addr) (e : Nat) (D : Option Addr) (f : Nat) (W : World), a_ = .pointer (some ⟨g, 0, none⟩) ∧ b_ = .int .i64 r1 ∧ W = wx ∧ Bk W g 34 #[.slice C r0.length e, .slice D rz0.length f] ∧ w26.heap.size ≤ g ∧ W.ownsRow w26.heap.size 97 3 (.slice C r0.length e) r0.length (wnC r0) ∧ W.ownsRow w26.heap.size 2 1 (.slice D rz0.length f) rz0.length (icells rz0) ∧ Below w26.heap.size w26 W)
  case first =>
    have hb27 : Below w26.heap.size w26 w26.drew := (Below.refl _ _).drew
    have tb26 : Below w26.heap.size w26 w26 := Below.refl _ _
    have b27 := step_below hb27 b26
    have B0_27 := B0_26.keep hb27
    have B1_27 := B1_26.keep hb27
    have B2_27 := B2_26.keep hb27
    have Rw3_27 := Rw3_26.keep hb27
    have Rw9_27 := Rw9_26.keep hb27
    have v3_27 := own_keep v3_26 hb27
    have vz3_27 := own_keep vz3_26 hb27
    have k24_27 := own_keep k24_26 hb27
    have k25_27 := own_keep k25_26 hb27
    have t27 := step_below hb27 t26
    have tb27 := step_below hb27 tb26
    refine wp_region_held_drew (S := fun w' => w'.cell? ⟨w.heap.size, 0, none⟩ = some (.int .i16 s0) ∧ w'.cell? ⟨w.heap.size, 1, none⟩ = some (.slice A0 l0.length c0) ∧ w'.cell? ⟨w.heap.size + 1, 0, none⟩ = some (.slice A1 l1.length c1) ∧ w'.cell? ⟨w.heap.size + 1, 1, none⟩ = some (.slice U1 z1.length v1) ∧ w'.cell? ⟨w.heap.size + 1 + 1, 0, none⟩ = some (.int .i64 x2_0) ∧ w'.cell? ⟨w.heap.size + 1 + 1, 1, none⟩ = some (.int .i64 x2_1)) (by kernel_rfl) ⟨(B0_27.cell (i := 0) rfl), (B0_27.cell (i := 1) rfl), (B1_27.cell (i := 0) rfl), (B1_27.cell (i := 1) rfl), (B2_27.cell (i := 0) rfl), (B2_27.cell (i := 1) rfl)⟩ fun hS27 => ?_
    generalize w26.drew = wd27 at *
    change wpAnyH _ _ _ _ _ _ #[false, false, false, false, false, false, false, false, false, false, false, false, false, false, false] _ _
    refine wpAnyH_take (i := 0) (v := .agg #[.int .i16 s0, .slice A0 l0.length c0]) rfl (by kernel_rfl) (by kernel_rfl) (by kernel_rfl) (fun _ _ _ h => h) (Or.inl ⟨by rfl, fun w' h => ?_⟩) hS27 ?_
    · have c0 := h.1
      have c1 := h.2.1
      clear h
      go_simp
    change wpAnyH _ _ _ _ _ _ _ (Act.put _ (some 122) _) _
    simp only [Act.put, List.setIfInBounds_toArray, List.set_cons_zero, List.set_cons_succ]
    refine wpAnyH_take (i := 2) (v := .agg #[.slice A1 l1.length c1, .slice U1 z1.length v1]) rfl (by kernel_rfl) (by kernel_rfl) (by kernel_rfl) (fun _ _ _ h => h) (Or.inl ⟨by rfl, fun w' h => ?_⟩) hS27 ?_
    · have c0 := h.2.2.1
      have c1 := h.2.2.2.1
      clear h
      go_simp
    change wpAnyH _ _ _ _ _ _ _ (Act.put _ (some 124) _) _
    simp only [Act.put, List.setIfInBounds_toArray, List.set_cons_zero, List.set_cons_succ]
    refine wpAnyH_take (i := 4) (v := .agg #[.int .i64 x2_0, .int .i64 x2_1]) rfl (by kernel_rfl) (by kernel_rfl) (by kernel_rfl) (fun _ _ _ h => h) (Or.inl ⟨by rfl, fun w' h => ?_⟩) hS27 ?_
    · have c0 := h.2.2.2.2.1
      have c1 := h.2.2.2.2.2
      clear h
      go_simp
    change wpAnyH _ _ _ _ _ _ _ (Act.put _ (some 126) _) _
    simp only [Act.put, List.setIfInBounds_toArray, List.set_cons_zero, List.set_cons_succ]
    refine wpAnyH_take (i := 6) (v := .slice A3 l3.length c3) rfl (by kernel_rfl) (by kernel_rfl) (by kernel_rfl) (fun _ _ _ h => h) (Or.inl ⟨by rfl, fun w' _ => by go_simp⟩) hS27 ?_
    change wpAnyH _ _ _ _ _ _ _ (Act.put _ (some 128) _) _
    simp only [Act.put, List.setIfInBounds_toArray, List.set_cons_zero, List.set_cons_succ]
    refine wpAnyH_ready (rs := [1, 12]) (by kernel_rfl) (by simp) (AllReadyH.cons rfl ?_ (AllReadyH.cons rfl ?_ AllReadyH.nil))
    · intro K hK
      rw [if_pos (by rfl)]
      go_simp
      refine (toFrame_any s0 A0 c0 l0 _ (hA0.below b27) hn0).mono ?_
      rintro e w28 ⟨g28, rfl, hg28, own28, hb28⟩
      have b28 := step_below hb28 b27
      have B0_28 := B0_27.keep hb28
      have B1_28 := B1_27.keep hb28
      have B2_28 := B2_27.keep hb28
      have t28 := step_below hb28 t27
      have gl28 : g28 < w28.heap.size := (own28.lt g28 rfl).2
      have q28_28 := own28
      have tb28 := tb27.trans (hb28.mono tb27.size)
      refine hK.out _ _ ⟨(B0_28.cell (i := 0) rfl), (B0_28.cell (i := 1) rfl), (B1_28.cell (i := 0) rfl), (B1_28.cell (i := 1) rfl), (B2_28.cell (i := 0) rfl), (B2_28.cell (i := 1) rfl)⟩ (fun hS28 => ?_)
      clear hK K
      try (change wpAnyH _ _ _ _ _ _ _ (Act.put _ (some 123) _) _)
      try simp only [Act.put, List.setIfInBounds_toArray, List.set_cons_zero, List.set_cons_succ]
      refine wpAnyH_ready (rs := [3, 12]) (by kernel_rfl) (by simp) (AllReadyH.cons rfl ?_ (AllReadyH.cons rfl ?_ AllReadyH.nil))
      · intro K hK
        rw [if_pos (by rfl)]
        go_simp
        refine (toWear_any A1 c1 l1 U1 v1 z1 _ (hA1.below b28) (hU1.below b28) hn1.1 hn1.2).mono ?_
        rintro e w29 ⟨g29, m29, rfl, hg29, hgm29, own29, owm29, hb29⟩
        have b29 := step_below hb29 b28
        have B0_29 := B0_28.keep hb29
        have B1_29 := B1_28.keep hb29
        have B2_29 := B2_28.keep hb29
        have q28_29 := own_keep q28_28 hb29
        have t29 := step_below hb29 t28
        have gl29 : g29 < w29.heap.size := (own29.lt g29 rfl).2
        have gm29 : m29 < w29.heap.size := (owm29.lt m29 rfl).2
        have q29_29 := own29
        have d29_29 := owm29
        have tb29 := tb28.trans (hb29.mono tb28.size)
        refine hK.out _ _ ⟨(B0_29.cell (i := 0) rfl), (B0_29.cell (i := 1) rfl), (B1_29.cell (i := 0) rfl), (B1_29.cell (i := 1) rfl), (B2_29.cell (i := 0) rfl), (B2_29.cell (i := 1) rfl)⟩ (fun hS29 => ?_)
        clear hK K
        try (change wpAnyH _ _ _ _ _ _ _ (Act.put _ (some 125) _) _)
        try simp only [Act.put, List.setIfInBounds_toArray, List.set_cons_zero, List.set_cons_succ]
        refine wpAnyH_ready (rs := [5, 12]) (by kernel_rfl) (by simp) (AllReadyH.cons rfl ?_ (AllReadyH.cons rfl ?_ AllReadyH.nil))
        · intro K hK
          rw [if_pos (by rfl)]
          go_simp
          refine (toLives_any x2_0 x2_1 _).mono ?_
          rintro e w30 ⟨rfl, hb30⟩
          have b30 := step_below hb30 b29
          have B0_30 := B0_29.keep hb30
          have B1_30 := B1_29.keep hb30
          have B2_30 := B2_29.keep hb30
          have q28_30 := own_keep q28_29 hb30
          have q29_30 := own_keep q29_29 hb30
          have d29_30 := own_keep d29_29 hb30
          have t30 := step_below hb30 t29
          have tb30 := tb29.trans (hb30.mono tb29.size)
          refine hK.out _ _ ⟨(B0_30.cell (i := 0) rfl), (B0_30.cell (i := 1) rfl), (B1_30.cell (i := 0) rfl), (B1_30.cell (i := 1) rfl), (B2_30.cell (i := 0) rfl), (B2_30.cell (i := 1) rfl)⟩ (fun hS30 => ?_)
          clear hK K
          try (change wpAnyH _ _ _ _ _ _ _ (Act.put _ (some 127) _) _)
          try simp only [Act.put, List.setIfInBounds_toArray, List.set_cons_zero, List.set_cons_succ]
          refine wpAnyH_ready (rs := [7, 12]) (by kernel_rfl) (by simp) (AllReadyH.cons rfl ?_ (AllReadyH.cons rfl ?_ AllReadyH.nil))
          · intro K hK
            rw [if_pos (by rfl)]
            go_simp
            refine (toActS_ex A3 c3 l3 _ (hA3.below b30) hn3).mono ?_
            rintro e w31 ⟨g31, rfl, hg31, own31, hb31⟩
            have b31 := step_below hb31 b30
            have B0_31 := B0_30.keep hb31
            have B1_31 := B1_30.keep hb31
            have B2_31 := B2_30.keep hb31
            have q28_31 := own_keep q28_30 hb31
            have q29_31 := own_keep q29_30 hb31
            have d29_31 := own_keep d29_30 hb31
            have t31 := step_below hb31 t30
            have gl31 : g31 < w31.heap.size := (own31.lt g31 rfl).2
            have q31_31 := own31
            have tb31 := tb30.trans (hb31.mono tb30.size)
            refine hK.out _ _ ⟨(B0_31.cell (i := 0) rfl), (B0_31.cell (i := 1) rfl), (B1_31.cell (i := 0) rfl), (B1_31.cell (i := 1) rfl), (B2_31.cell (i := 0) rfl), (B2_31.cell (i := 1) rfl)⟩ (fun hS31 => ?_)
            clear hK K
            try (change wpAnyH _ _ _ _ _ _ _ (Act.put _ (some 129) _) _)
            try simp only [Act.put, List.setIfInBounds_toArray, List.set_cons_zero, List.set_cons_succ]
            refine wpAnyH_ready (rs := [8, 12]) (by kernel_rfl) (by simp) (AllReadyH.cons rfl ?_ (AllReadyH.cons rfl ?_ AllReadyH.nil))
            · intro K hK
              rw [if_pos (by rfl)]
              go_simp
              refine (KI _ _ _ _ _ (HA.of_own q28_31) (WnA.of_own q29_31) (SZ.of_own d29_31) (AcA.of_own q31_31) ).mono ?_
              rintro e w32 ⟨C32, e32, D32, f32, rfl, own32, owm32, hb32⟩
              have b32 := step_below hb32 b31
              have B0_32 := B0_31.keep hb32
              have B1_32 := B1_31.keep hb32
              have B2_32 := B2_31.keep hb32
              have q28_32 := own_keep q28_31 hb32
              have q29_32 := own_keep q29_31 hb32
              have d29_32 := own_keep d29_31 hb32
              have q31_32 := own_keep q31_31 hb32
              have t32 := step_below hb32 t31
              have r32_32 := own32
              have rz32_32 := owm32
              have tb32 := tb31.trans (hb32.mono tb31.size)
              have oo_32 := own_base own32 tb31.size
              have oz_32 := own_base owm32 tb31.size
              refine hK.out _ _ ⟨(B0_32.cell (i := 0) rfl), (B0_32.cell (i := 1) rfl), (B1_32.cell (i := 0) rfl), (B1_32.cell (i := 1) rfl), (B2_32.cell (i := 0) rfl), (B2_32.cell (i := 1) rfl)⟩ (fun hS32 => ?_)
              clear hK K
              try (change wpAnyH _ _ _ _ _ _ _ (Act.put _ (some 130) _) _)
              try simp only [Act.put, List.setIfInBounds_toArray, List.set_cons_zero, List.set_cons_succ]
              refine wpAnyH_take (i := 9) (v := .tuple #[.agg #[.slice C32 r0.length e32, .slice D32 rz0.length f32], .int .i64 r1]) rfl (by kernel_rfl) (by kernel_rfl) (by kernel_rfl) (fun _ _ _ h => h) (Or.inl ⟨by rfl, fun w' _ => by go_simp⟩) hS32 ?_
              change wpAnyH _ _ _ _ _ _ _ (Act.put _ (some 121) _) _
              simp only [Act.put, List.setIfInBounds_toArray, List.set_cons_zero, List.set_cons_succ]
              refine wpAnyH_take (i := 10) (v := .agg #[.slice C32 r0.length e32, .slice D32 rz0.length f32]) rfl (by kernel_rfl) (by kernel_rfl) (by kernel_rfl) (fun _ _ _ h => h) (Or.inl ⟨by rfl, fun w' _ => by go_simp⟩) hS32 ?_
              change wpAnyH _ _ _ _ _ _ _ (Act.put _ (some 131) _) _
              simp only [Act.put, List.setIfInBounds_toArray, List.set_cons_zero, List.set_cons_succ]
              refine wpAnyH_take (i := 11) (v := .int .i64 r1) rfl (by kernel_rfl) (by kernel_rfl) (by kernel_rfl) (fun _ _ _ h => h) (Or.inl ⟨by rfl, fun w' _ => by go_simp⟩) hS32 ?_
              change wpAnyH _ _ _ _ _ _ _ (Act.put _ (some 132) _) _
              simp only [Act.put, List.setIfInBounds_toArray, List.set_cons_zero, List.set_cons_succ]
              refine wpAnyH_ready (rs := [12]) (by kernel_rfl) (by simp) (AllReadyH.cons rfl ?_ AllReadyH.nil)
              obtain ⟨w33, hX33⟩ : ∃ X, X = w32.alloc (.cells #[.slice none 0 0, .slice none 0 0] 34) := ⟨_, rfl⟩
              have hb33 : Below w32.heap.size w32 w33 := by rw [hX33]; exact (Below.refl _ _).alloc (Nat.le_refl _) _
              have za33 : Bk w33 w32.heap.size 34 #[.slice none 0 0, .slice none 0 0] := by rw [hX33]; exact heap_new' _ _ _ rfl
              have ge33 : w26.heap.size ≤ w32.heap.size := tb32.size
              intro K hK
              rw [if_pos (by rfl)]
              go_simp
              rw [← hX33]
              clear hX33
              have b33 := step_below hb33 b32
              have B0_33 := B0_32.keep hb33
              have B1_33 := B1_32.keep hb33
              have B2_33 := B2_32.keep hb33
              have q28_33 := own_keep q28_32 hb33
              have q29_33 := own_keep q29_32 hb33
              have d29_33 := own_keep d29_32 hb33
              have q31_33 := own_keep q31_32 hb33
              have r32_33 := own_keep r32_32 hb33
              have rz32_33 := own_keep rz32_32 hb33
              have t33 := step_below hb33 t32
              have tb33 := tb32.trans (hb33.mono tb32.size)
              have oo_33 := own_keep oo_32 hb33
              have oz_33 := own_keep oz_32 hb33
              refine hK.out _ _ ⟨(B0_33.cell (i := 0) rfl), (B0_33.cell (i := 1) rfl), (B1_33.cell (i := 0) rfl), (B1_33.cell (i := 1) rfl), (B2_33.cell (i := 0) rfl), (B2_33.cell (i := 1) rfl)⟩ (fun hS33 => ?_)
              clear hK K
              try (change wpAnyH _ _ _ _ _ _ _ (Act.put _ (some 20) _) _)
              try simp only [Act.put, List.setIfInBounds_toArray, List.set_cons_zero, List.set_cons_succ]
              refine wpAnyH_ready (rs := [13]) (by kernel_rfl) (by simp) (AllReadyH.cons rfl ?_ AllReadyH.nil)
              intro K hK
              rw [if_pos (by rfl)]
              refine wp_store_row 34 (.tmp 20) (.tmp 131) rfl (w32.heap.size) #[.slice C32 r0.length e32, .slice D32 rz0.length f32] rfl rfl 34 _ za33 (infoWear _ _) (szWear _ _ _ _) (oneWear _ _ _ _ _ _) ?_
              have hb34 : Below w26.heap.size w33 (w33.setRow (w32.heap.size) #[.slice C32 r0.length e32, .slice D32 rz0.length f32]) := below_setRow (Below.refl _ _) ge33
              have DD : Bk (w33.setRow (w32.heap.size) #[.slice C32 r0.length e32, .slice D32 rz0.length f32]) (w32.heap.size) 34 #[.slice C32 r0.length e32, .slice D32 rz0.length f32] := setRow_heap _ _ _ _ _ _ za33
              have oo_34 := own_rowK oo_33 za33 (by decide) #[.slice C32 r0.length e32, .slice D32 rz0.length f32]
              have oz_34 := own_rowK oz_33 za33 (by decide) #[.slice C32 r0.length e32, .slice D32 rz0.length f32]
              have B0_34 : Bk (w33.setRow (w32.heap.size) #[.slice C32 r0.length e32, .slice D32 rz0.length f32]) (w.heap.size) 25 #[.int .i16 s0, .slice A0 l0.length c0] := (setRow_other _ _ _ _ (by have e1 := B0_26.lt; have e2 := ge33; omega)).trans B0_33
              have B1_34 : Bk (w33.setRow (w32.heap.size) #[.slice C32 r0.length e32, .slice D32 rz0.length f32]) (w.heap.size + 1) 29 #[.slice A1 l1.length c1, .slice U1 z1.length v1] := (setRow_other _ _ _ _ (by have e1 := B1_26.lt; have e2 := ge33; omega)).trans B1_33
              have B2_34 : Bk (w33.setRow (w32.heap.size) #[.slice C32 r0.length e32, .slice D32 rz0.length f32]) (w.heap.size + 1 + 1) 59 #[.int .i64 x2_0, .int .i64 x2_1] := (setRow_other _ _ _ _ (by have e1 := B2_26.lt; have e2 := ge33; omega)).trans B2_33
              have tb34 := tb33.trans hb34
              refine hK.out _ _ ⟨(B0_34.cell (i := 0) rfl), (B0_34.cell (i := 1) rfl), (B1_34.cell (i := 0) rfl), (B1_34.cell (i := 1) rfl), (B2_34.cell (i := 0) rfl), (B2_34.cell (i := 1) rfl)⟩ (fun hS34 => ?_)
              clear hK K
              refine wpAnyH_take (i := 14) (v := .int .i64 r1) rfl (by kernel_rfl) (by kernel_rfl) (by kernel_rfl) (fun _ _ _ h => h) (Or.inl ⟨by rfl, fun w' _ => by go_simp⟩) hS34 ?_
              change wpAnyH _ _ _ _ _ _ _ (Act.put _ (some 21) _) _
              simp only [Act.put, List.setIfInBounds_toArray, List.set_cons_zero, List.set_cons_succ]
              refine wpAnyH_done (by kernel_rfl) ?_ _
              go_wp2_with fail
              go_meet
              exact ⟨_, C32, e32, D32, f32, _, rfl, rfl, rfl, DD, ge33, oo_34, oz_34, tb34⟩
            · obtain ⟨w32, hX32⟩ : ∃ X, X = w31.alloc (.cells #[.slice none 0 0, .slice none 0 0] 34) := ⟨_, rfl⟩
              have hb32 : Below w31.heap.size w31 w32 := by rw [hX32]; exact (Below.refl _ _).alloc (Nat.le_refl _) _
              have za32 : Bk w32 w31.heap.size 34 #[.slice none 0 0, .slice none 0 0] := by rw [hX32]; exact heap_new' _ _ _ rfl
              have ge32 : w26.heap.size ≤ w31.heap.size := tb31.size
              intro K hK
              rw [if_pos (by rfl)]
              go_simp
              rw [← hX32]
              clear hX32
              have b32 := step_below hb32 b31
              have B0_32 := B0_31.keep hb32
              have B1_32 := B1_31.keep hb32
              have B2_32 := B2_31.keep hb32
              have q28_32 := own_keep q28_31 hb32
              have q29_32 := own_keep q29_31 hb32
              have d29_32 := own_keep d29_31 hb32
              have q31_32 := own_keep q31_31 hb32
              have t32 := step_below hb32 t31
              have tb32 := tb31.trans (hb32.mono tb31.size)
              refine hK.out _ _ ⟨(B0_32.cell (i := 0) rfl), (B0_32.cell (i := 1) rfl), (B1_32.cell (i := 0) rfl), (B1_32.cell (i := 1) rfl), (B2_32.cell (i := 0) rfl), (B2_32.cell (i := 1) rfl)⟩ (fun hS32 => ?_)
              clear hK K
              try (change wpAnyH _ _ _ _ _ _ _ (Act.put _ (some 20) _) _)
              try simp only [Act.put, List.setIfInBounds_toArray, List.set_cons_zero, List.set_cons_succ]
              refine wpAnyH_ready (rs := [8]) (by kernel_rfl) (by simp) (AllReadyH.cons rfl ?_ AllReadyH.nil)
              intro K hK
              rw [if_pos (by rfl)]
              go_simp
              refine (KI _ _ _ _ _ (HA.of_own q28_32) (WnA.of_own q29_32) (SZ.of_own d29_32) (AcA.of_own q31_32) ).mono ?_
              rintro e w33 ⟨C33, e33, D33, f33, rfl, own33, owm33, hb33⟩
              have b33 := step_below hb33 b32
              have B0_33 := B0_32.keep hb33
              have B1_33 := B1_32.keep hb33
              have B2_33 := B2_32.keep hb33
              have q28_33 := own_keep q28_32 hb33
              have q29_33 := own_keep q29_32 hb33
              have d29_33 := own_keep d29_32 hb33
              have q31_33 := own_keep q31_32 hb33
              have t33 := step_below hb33 t32
              have r33_33 := own33
              have rz33_33 := owm33
              have tb33 := tb32.trans (hb33.mono tb32.size)
              have za33 := za32.keep hb33
              have oo_33 := own_base own33 tb32.size
              have oz_33 := own_base owm33 tb32.size
              refine hK.out _ _ ⟨(B0_33.cell (i := 0) rfl), (B0_33.cell (i := 1) rfl), (B1_33.cell (i := 0) rfl), (B1_33.cell (i := 1) rfl), (B2_33.cell (i := 0) rfl), (B2_33.cell (i := 1) rfl)⟩ (fun hS33 => ?_)
              clear hK K
              try (change wpAnyH _ _ _ _ _ _ _ (Act.put _ (some 130) _) _)
              try simp only [Act.put, List.setIfInBounds_toArray, List.set_cons_zero, List.set_cons_succ]
              refine wpAnyH_take (i := 9) (v := .tuple #[.agg #[.slice C33 r0.length e33, .slice D33 rz0.length f33], .int .i64 r1]) rfl (by kernel_rfl) (by kernel_rfl) (by kernel_rfl) (fun _ _ _ h => h) (Or.inl ⟨by rfl, fun w' _ => by go_simp⟩) hS33 ?_
              change wpAnyH _ _ _ _ _ _ _ (Act.put _ (some 121) _) _
              simp only [Act.put, List.setIfInBounds_toArray, List.set_cons_zero, List.set_cons_succ]
              refine wpAnyH_take (i := 10) (v := .agg #[.slice C33 r0.length e33, .slice D33 rz0.length f33]) rfl (by kernel_rfl) (by kernel_rfl) (by kernel_rfl) (fun _ _ _ h => h) (Or.inl ⟨by rfl, fun w' _ => by go_simp⟩) hS33 ?_
              change wpAnyH _ _ _ _ _ _ _ (Act.put _ (some 131) _) _
              simp only [Act.put, List.setIfInBounds_toArray, List.set_cons_zero, List.set_cons_succ]
              refine wpAnyH_take (i := 11) (v := .int .i64 r1) rfl (by kernel_rfl) (by kernel_rfl) (by kernel_rfl) (fun _ _ _ h => h) (Or.inl ⟨by rfl, fun w' _ => by go_simp⟩) hS33 ?_
              change wpAnyH _ _ _ _ _ _ _ (Act.put _ (some 132) _) _
              simp only [Act.put, List.setIfInBounds_toArray, List.set_cons_zero, List.set_cons_succ]
              refine wpAnyH_ready (rs := [13]) (by kernel_rfl) (by simp) (AllReadyH.cons rfl ?_ AllReadyH.nil)
              intro K hK
              rw [if_pos (by rfl)]
              refine wp_store_row 34 (.tmp 20) (.tmp 131) rfl (w31.heap.size) #[.slice C33 r0.length e33, .slice D33 rz0.length f33] rfl rfl 34 _ za33 (infoWear _ _) (szWear _ _ _ _) (oneWear _ _ _ _ _ _) ?_
              have hb34 : Below w26.heap.size w33 (w33.setRow (w31.heap.size) #[.slice C33 r0.length e33, .slice D33 rz0.length f33]) := below_setRow (Below.refl _ _) ge32
              have DD : Bk (w33.setRow (w31.heap.size) #[.slice C33 r0.length e33, .slice D33 rz0.length f33]) (w31.heap.size) 34 #[.slice C33 r0.length e33, .slice D33 rz0.length f33] := setRow_heap _ _ _ _ _ _ za33
              have oo_34 := own_rowK oo_33 za33 (by decide) #[.slice C33 r0.length e33, .slice D33 rz0.length f33]
              have oz_34 := own_rowK oz_33 za33 (by decide) #[.slice C33 r0.length e33, .slice D33 rz0.length f33]
              have B0_34 : Bk (w33.setRow (w31.heap.size) #[.slice C33 r0.length e33, .slice D33 rz0.length f33]) (w.heap.size) 25 #[.int .i16 s0, .slice A0 l0.length c0] := (setRow_other _ _ _ _ (by have e1 := B0_26.lt; have e2 := ge32; omega)).trans B0_33
              have B1_34 : Bk (w33.setRow (w31.heap.size) #[.slice C33 r0.length e33, .slice D33 rz0.length f33]) (w.heap.size + 1) 29 #[.slice A1 l1.length c1, .slice U1 z1.length v1] := (setRow_other _ _ _ _ (by have e1 := B1_26.lt; have e2 := ge32; omega)).trans B1_33
              have B2_34 : Bk (w33.setRow (w31.heap.size) #[.slice C33 r0.length e33, .slice D33 rz0.length f33]) (w.heap.size + 1 + 1) 59 #[.int .i64 x2_0, .int .i64 x2_1] := (setRow_other _ _ _ _ (by have e1 := B2_26.lt; have e2 := ge32; omega)).trans B2_33
              have tb34 := tb33.trans hb34
              refine hK.out _ _ ⟨(B0_34.cell (i := 0) rfl), (B0_34.cell (i := 1) rfl), (B1_34.cell (i := 0) rfl), (B1_34.cell (i := 1) rfl), (B2_34.cell (i := 0) rfl), (B2_34.cell (i := 1) rfl)⟩ (fun hS34 => ?_)
              clear hK K
              refine wpAnyH_take (i := 14) (v := .int .i64 r1) rfl (by kernel_rfl) (by kernel_rfl) (by kernel_rfl) (fun _ _ _ h => h) (Or.inl ⟨by rfl, fun w' _ => by go_simp⟩) hS34 ?_
              change wpAnyH _ _ _ _ _ _ _ (Act.put _ (some 21) _) _
              simp only [Act.put, List.setIfInBounds_toArray, List.set_cons_zero, List.set_cons_succ]
              refine wpAnyH_done (by kernel_rfl) ?_ _
              go_wp2_with fail
              go_meet
              exact ⟨_, C33, e33, D33, f33, _, rfl, rfl, rfl, DD, ge32, oo_34, oz_34, tb34⟩
          · obtain ⟨w31, hX31⟩ : ∃ X, X = w30.alloc (.cells #[.slice none 0 0, .slice none 0 0] 34) := ⟨_, rfl⟩
            have hb31 : Below w30.heap.size w30 w31 := by rw [hX31]; exact (Below.refl _ _).alloc (Nat.le_refl _) _
            have za31 : Bk w31 w30.heap.size 34 #[.slice none 0 0, .slice none 0 0] := by rw [hX31]; exact heap_new' _ _ _ rfl
            have ge31 : w26.heap.size ≤ w30.heap.size := tb30.size
            intro K hK
            rw [if_pos (by rfl)]
            go_simp
            rw [← hX31]
            clear hX31
            have b31 := step_below hb31 b30
            have B0_31 := B0_30.keep hb31
            have B1_31 := B1_30.keep hb31
            have B2_31 := B2_30.keep hb31
            have q28_31 := own_keep q28_30 hb31
            have q29_31 := own_keep q29_30 hb31
            have d29_31 := own_keep d29_30 hb31
            have t31 := step_below hb31 t30
            have tb31 := tb30.trans (hb31.mono tb30.size)
            refine hK.out _ _ ⟨(B0_31.cell (i := 0) rfl), (B0_31.cell (i := 1) rfl), (B1_31.cell (i := 0) rfl), (B1_31.cell (i := 1) rfl), (B2_31.cell (i := 0) rfl), (B2_31.cell (i := 1) rfl)⟩ (fun hS31 => ?_)
            clear hK K
            try (change wpAnyH _ _ _ _ _ _ _ (Act.put _ (some 20) _) _)
            try simp only [Act.put, List.setIfInBounds_toArray, List.set_cons_zero, List.set_cons_succ]
            refine wpAnyH_ready (rs := [7]) (by kernel_rfl) (by simp) (AllReadyH.cons rfl ?_ AllReadyH.nil)
            intro K hK
            rw [if_pos (by rfl)]
            go_simp
            refine (toActS_ex A3 c3 l3 _ (hA3.below b31) hn3).mono ?_
            rintro e w32 ⟨g32, rfl, hg32, own32, hb32⟩
            have b32 := step_below hb32 b31
            have B0_32 := B0_31.keep hb32
            have B1_32 := B1_31.keep hb32
            have B2_32 := B2_31.keep hb32
            have q28_32 := own_keep q28_31 hb32
            have q29_32 := own_keep q29_31 hb32
            have d29_32 := own_keep d29_31 hb32
            have t32 := step_below hb32 t31
            have gl32 : g32 < w32.heap.size := (own32.lt g32 rfl).2
            have q32_32 := own32
            have tb32 := tb31.trans (hb32.mono tb31.size)
            have za32 := za31.keep hb32
            refine hK.out _ _ ⟨(B0_32.cell (i := 0) rfl), (B0_32.cell (i := 1) rfl), (B1_32.cell (i := 0) rfl), (B1_32.cell (i := 1) rfl), (B2_32.cell (i := 0) rfl), (B2_32.cell (i := 1) rfl)⟩ (fun hS32 => ?_)
            clear hK K
            try (change wpAnyH _ _ _ _ _ _ _ (Act.put _ (some 129) _) _)
            try simp only [Act.put, List.setIfInBounds_toArray, List.set_cons_zero, List.set_cons_succ]
            refine wpAnyH_ready (rs := [8]) (by kernel_rfl) (by simp) (AllReadyH.cons rfl ?_ AllReadyH.nil)
            intro K hK
            rw [if_pos (by rfl)]
            go_simp
            refine (KI _ _ _ _ _ (HA.of_own q28_32) (WnA.of_own q29_32) (SZ.of_own d29_32) (AcA.of_own q32_32) ).mono ?_
            rintro e w33 ⟨C33, e33, D33, f33, rfl, own33, owm33, hb33⟩
            have b33 := step_below hb33 b32
            have B0_33 := B0_32.keep hb33
            have B1_33 := B1_32.keep hb33
            have B2_33 := B2_32.keep hb33
            have q28_33 := own_keep q28_32 hb33
            have q29_33 := own_keep q29_32 hb33
            have d29_33 := own_keep d29_32 hb33
            have q32_33 := own_keep q32_32 hb33
            have t33 := step_below hb33 t32
            have r33_33 := own33
            have rz33_33 := owm33
            have tb33 := tb32.trans (hb33.mono tb32.size)
            have za33 := za32.keep hb33
            have oo_33 := own_base own33 tb32.size
            have oz_33 := own_base owm33 tb32.size
            refine hK.out _ _ ⟨(B0_33.cell (i := 0) rfl), (B0_33.cell (i := 1) rfl), (B1_33.cell (i := 0) rfl), (B1_33.cell (i := 1) rfl), (B2_33.cell (i := 0) rfl), (B2_33.cell (i := 1) rfl)⟩ (fun hS33 => ?_)
            clear hK K
            try (change wpAnyH _ _ _ _ _ _ _ (Act.put _ (some 130) _) _)
            try simp only [Act.put, List.setIfInBounds_toArray, List.set_cons_zero, List.set_cons_succ]
            refine wpAnyH_take (i := 9) (v := .tuple #[.agg #[.slice C33 r0.length e33, .slice D33 rz0.length f33], .int .i64 r1]) rfl (by kernel_rfl) (by kernel_rfl) (by kernel_rfl) (fun _ _ _ h => h) (Or.inl ⟨by rfl, fun w' _ => by go_simp⟩) hS33 ?_
            change wpAnyH _ _ _ _ _ _ _ (Act.put _ (some 121) _) _
            simp only [Act.put, List.setIfInBounds_toArray, List.set_cons_zero, List.set_cons_succ]
            refine wpAnyH_take (i := 10) (v := .agg #[.slice C33 r0.length e33, .slice D33 rz0.length f33]) rfl (by kernel_rfl) (by kernel_rfl) (by kernel_rfl) (fun _ _ _ h => h) (Or.inl ⟨by rfl, fun w' _ => by go_simp⟩) hS33 ?_
            change wpAnyH _ _ _ _ _ _ _ (Act.put _ (some 131) _) _
            simp only [Act.put, List.setIfInBounds_toArray, List.set_cons_zero, List.set_cons_succ]
            refine wpAnyH_take (i := 11) (v := .int .i64 r1) rfl (by kernel_rfl) (by kernel_rfl) (by kernel_rfl) (fun _ _ _ h => h) (Or.inl ⟨by rfl, fun w' _ => by go_simp⟩) hS33 ?_
            change wpAnyH _ _ _ _ _ _ _ (Act.put _ (some 132) _) _
            simp only [Act.put, List.setIfInBounds_toArray, List.set_cons_zero, List.set_cons_succ]
            refine wpAnyH_ready (rs := [13]) (by kernel_rfl) (by simp) (AllReadyH.cons rfl ?_ AllReadyH.nil)
            intro K hK
            rw [if_pos (by rfl)]
            refine wp_store_row 34 (.tmp 20) (.tmp 131) rfl (w30.heap.size) #[.slice C33 r0.length e33, .slice D33 rz0.length f33] rfl rfl 34 _ za33 (infoWear _ _) (szWear _ _ _ _) (oneWear _ _ _ _ _ _) ?_
            have hb34 : Below w26.heap.size w33 (w33.setRow (w30.heap.size) #[.slice C33 r0.length e33, .slice D33 rz0.length f33]) := below_setRow (Below.refl _ _) ge31
            have DD : Bk (w33.setRow (w30.heap.size) #[.slice C33 r0.length e33, .slice D33 rz0.length f33]) (w30.heap.size) 34 #[.slice C33 r0.length e33, .slice D33 rz0.length f33] := setRow_heap _ _ _ _ _ _ za33
            have oo_34 := own_rowK oo_33 za33 (by decide) #[.slice C33 r0.length e33, .slice D33 rz0.length f33]
            have oz_34 := own_rowK oz_33 za33 (by decide) #[.slice C33 r0.length e33, .slice D33 rz0.length f33]
            have B0_34 : Bk (w33.setRow (w30.heap.size) #[.slice C33 r0.length e33, .slice D33 rz0.length f33]) (w.heap.size) 25 #[.int .i16 s0, .slice A0 l0.length c0] := (setRow_other _ _ _ _ (by have e1 := B0_26.lt; have e2 := ge31; omega)).trans B0_33
            have B1_34 : Bk (w33.setRow (w30.heap.size) #[.slice C33 r0.length e33, .slice D33 rz0.length f33]) (w.heap.size + 1) 29 #[.slice A1 l1.length c1, .slice U1 z1.length v1] := (setRow_other _ _ _ _ (by have e1 := B1_26.lt; have e2 := ge31; omega)).trans B1_33
            have B2_34 : Bk (w33.setRow (w30.heap.size) #[.slice C33 r0.length e33, .slice D33 rz0.length f33]) (w.heap.size + 1 + 1) 59 #[.int .i64 x2_0, .int .i64 x2_1] := (setRow_other _ _ _ _ (by have e1 := B2_26.lt; have e2 := ge31; omega)).trans B2_33
            have tb34 := tb33.trans hb34
            refine hK.out _ _ ⟨(B0_34.cell (i := 0) rfl), (B0_34.cell (i := 1) rfl), (B1_34.cell (i := 0) rfl), (B1_34.cell (i := 1) rfl), (B2_34.cell (i := 0) rfl), (B2_34.cell (i := 1) rfl)⟩ (fun hS34 => ?_)
            clear hK K
            refine wpAnyH_take (i := 14) (v := .int .i64 r1) rfl (by kernel_rfl) (by kernel_rfl) (by kernel_rfl) (fun _ _ _ h => h) (Or.inl ⟨by rfl, fun w' _ => by go_simp⟩) hS34 ?_
            change wpAnyH _ _ _ _ _ _ _ (Act.put _ (some 21) _) _
            simp only [Act.put, List.setIfInBounds_toArray, List.set_cons_zero, List.set_cons_succ]
            refine wpAnyH_done (by kernel_rfl) ?_ _
            go_wp2_with fail
            go_meet
            exact ⟨_, C33, e33, D33, f33, _, rfl, rfl, rfl, DD, ge31, oo_34, oz_34, tb34⟩
        · obtain ⟨w30, hX30⟩ : ∃ X, X = w29.alloc (.cells #[.slice none 0 0, .slice none 0 0] 34) := ⟨_, rfl⟩
          have hb30 : Below w29.heap.size w29 w30 := by rw [hX30]; exact (Below.refl _ _).alloc (Nat.le_refl _) _
          have za30 : Bk w30 w29.heap.size 34 #[.slice none 0 0, .slice none 0 0] := by rw [hX30]; exact heap_new' _ _ _ rfl
          have ge30 : w26.heap.size ≤ w29.heap.size := tb29.size
          intro K hK
          rw [if_pos (by rfl)]
          go_simp
          rw [← hX30]
          clear hX30
          have b30 := step_below hb30 b29
          have B0_30 := B0_29.keep hb30
          have B1_30 := B1_29.keep hb30
          have B2_30 := B2_29.keep hb30
          have q28_30 := own_keep q28_29 hb30
          have q29_30 := own_keep q29_29 hb30
          have d29_30 := own_keep d29_29 hb30
          have t30 := step_below hb30 t29
          have tb30 := tb29.trans (hb30.mono tb29.size)
          refine hK.out _ _ ⟨(B0_30.cell (i := 0) rfl), (B0_30.cell (i := 1) rfl), (B1_30.cell (i := 0) rfl), (B1_30.cell (i := 1) rfl), (B2_30.cell (i := 0) rfl), (B2_30.cell (i := 1) rfl)⟩ (fun hS30 => ?_)
          clear hK K
          try (change wpAnyH _ _ _ _ _ _ _ (Act.put _ (some 20) _) _)
          try simp only [Act.put, List.setIfInBounds_toArray, List.set_cons_zero, List.set_cons_succ]
          refine wpAnyH_ready (rs := [5]) (by kernel_rfl) (by simp) (AllReadyH.cons rfl ?_ AllReadyH.nil)
          intro K hK
          rw [if_pos (by rfl)]
          go_simp
          refine (toLives_any x2_0 x2_1 _).mono ?_
          rintro e w31 ⟨rfl, hb31⟩
          have b31 := step_below hb31 b30
          have B0_31 := B0_30.keep hb31
          have B1_31 := B1_30.keep hb31
          have B2_31 := B2_30.keep hb31
          have q28_31 := own_keep q28_30 hb31
          have q29_31 := own_keep q29_30 hb31
          have d29_31 := own_keep d29_30 hb31
          have t31 := step_below hb31 t30
          have tb31 := tb30.trans (hb31.mono tb30.size)
          have za31 := za30.keep hb31
          refine hK.out _ _ ⟨(B0_31.cell (i := 0) rfl), (B0_31.cell (i := 1) rfl), (B1_31.cell (i := 0) rfl), (B1_31.cell (i := 1) rfl), (B2_31.cell (i := 0) rfl), (B2_31.cell (i := 1) rfl)⟩ (fun hS31 => ?_)
          clear hK K
          try (change wpAnyH _ _ _ _ _ _ _ (Act.put _ (some 127) _) _)
          try simp only [Act.put, List.setIfInBounds_toArray, List.set_cons_zero, List.set_cons_succ]
          refine wpAnyH_ready (rs := [7]) (by kernel_rfl) (by simp) (AllReadyH.cons rfl ?_ AllReadyH.nil)
          intro K hK
          rw [if_pos (by rfl)]
          go_simp
          refine (toActS_ex A3 c3 l3 _ (hA3.below b31) hn3).mono ?_
          rintro e w32 ⟨g32, rfl, hg32, own32, hb32⟩
          have b32 := step_below hb32 b31
          have B0_32 := B0_31.keep hb32
          have B1_32 := B1_31.keep hb32
          have B2_32 := B2_31.keep hb32
          have q28_32 := own_keep q28_31 hb32
          have q29_32 := own_keep q29_31 hb32
          have d29_32 := own_keep d29_31 hb32
          have t32 := step_below hb32 t31
          have gl32 : g32 < w32.heap.size := (own32.lt g32 rfl).2
          have q32_32 := own32
          have tb32 := tb31.trans (hb32.mono tb31.size)
          have za32 := za31.keep hb32
          refine hK.out _ _ ⟨(B0_32.cell (i := 0) rfl), (B0_32.cell (i := 1) rfl), (B1_32.cell (i := 0) rfl), (B1_32.cell (i := 1) rfl), (B2_32.cell (i := 0) rfl), (B2_32.cell (i := 1) rfl)⟩ (fun hS32 => ?_)
          clear hK K
          try (change wpAnyH _ _ _ _ _ _ _ (Act.put _ (some 129) _) _)
          try simp only [Act.put, List.setIfInBounds_toArray, List.set_cons_zero, List.set_cons_succ]
          refine wpAnyH_ready (rs := [8]) (by kernel_rfl) (by simp) (AllReadyH.cons rfl ?_ AllReadyH.nil)
          intro K hK
          rw [if_pos (by rfl)]
          go_simp
          refine (KI _ _ _ _ _ (HA.of_own q28_32) (WnA.of_own q29_32) (SZ.of_own d29_32) (AcA.of_own q32_32) ).mono ?_
          rintro e w33 ⟨C33, e33, D33, f33, rfl, own33, owm33, hb33⟩
          have b33 := step_below hb33 b32
          have B0_33 := B0_32.keep hb33
          have B1_33 := B1_32.keep hb33
          have B2_33 := B2_32.keep hb33
          have q28_33 := own_keep q28_32 hb33
          have q29_33 := own_keep q29_32 hb33
          have d29_33 := own_keep d29_32 hb33
          have q32_33 := own_keep q32_32 hb33
          have t33 := step_below hb33 t32
          have r33_33 := own33
          have rz33_33 := owm33
          have tb33 := tb32.trans (hb33.mono tb32.size)
          have za33 := za32.keep hb33
          have oo_33 := own_base own33 tb32.size
          have oz_33 := own_base owm33 tb32.size
          refine hK.out _ _ ⟨(B0_33.cell (i := 0) rfl), (B0_33.cell (i := 1) rfl), (B1_33.cell (i := 0) rfl), (B1_33.cell (i := 1) rfl), (B2_33.cell (i := 0) rfl), (B2_33.cell (i := 1) rfl)⟩ (fun hS33 => ?_)
          clear hK K
          try (change wpAnyH _ _ _ _ _ _ _ (Act.put _ (some 130) _) _)
          try simp only [Act.put, List.setIfInBounds_toArray, List.set_cons_zero, List.set_cons_succ]
          refine wpAnyH_take (i := 9) (v := .tuple #[.agg #[.slice C33 r0.length e33, .slice D33 rz0.length f33], .int .i64 r1]) rfl (by kernel_rfl) (by kernel_rfl) (by kernel_rfl) (fun _ _ _ h => h) (Or.inl ⟨by rfl, fun w' _ => by go_simp⟩) hS33 ?_
          change wpAnyH _ _ _ _ _ _ _ (Act.put _ (some 121) _) _
          simp only [Act.put, List.setIfInBounds_toArray, List.set_cons_zero, List.set_cons_succ]
          refine wpAnyH_take (i := 10) (v := .agg #[.slice C33 r0.length e33, .slice D33 rz0.length f33]) rfl (by kernel_rfl) (by kernel_rfl) (by kernel_rfl) (fun _ _ _ h => h) (Or.inl ⟨by rfl, fun w' _ => by go_simp⟩) hS33 ?_
          change wpAnyH _ _ _ _ _ _ _ (Act.put _ (some 131) _) _
          simp only [Act.put, List.setIfInBounds_toArray, List.set_cons_zero, List.set_cons_succ]
          refine wpAnyH_take (i := 11) (v := .int .i64 r1) rfl (by kernel_rfl) (by kernel_rfl) (by kernel_rfl) (fun _ _ _ h => h) (Or.inl ⟨by rfl, fun w' _ => by go_simp⟩) hS33 ?_
          change wpAnyH _ _ _ _ _ _ _ (Act.put _ (some 132) _) _
          simp only [Act.put, List.setIfInBounds_toArray, List.set_cons_zero, List.set_cons_succ]
          refine wpAnyH_ready (rs := [13]) (by kernel_rfl) (by simp) (AllReadyH.cons rfl ?_ AllReadyH.nil)
          intro K hK
          rw [if_pos (by rfl)]
          refine wp_store_row 34 (.tmp 20) (.tmp 131) rfl (w29.heap.size) #[.slice C33 r0.length e33, .slice D33 rz0.length f33] rfl rfl 34 _ za33 (infoWear _ _) (szWear _ _ _ _) (oneWear _ _ _ _ _ _) ?_
          have hb34 : Below w26.heap.size w33 (w33.setRow (w29.heap.size) #[.slice C33 r0.length e33, .slice D33 rz0.length f33]) := below_setRow (Below.refl _ _) ge30
          have DD : Bk (w33.setRow (w29.heap.size) #[.slice C33 r0.length e33, .slice D33 rz0.length f33]) (w29.heap.size) 34 #[.slice C33 r0.length e33, .slice D33 rz0.length f33] := setRow_heap _ _ _ _ _ _ za33
          have oo_34 := own_rowK oo_33 za33 (by decide) #[.slice C33 r0.length e33, .slice D33 rz0.length f33]
          have oz_34 := own_rowK oz_33 za33 (by decide) #[.slice C33 r0.length e33, .slice D33 rz0.length f33]
          have B0_34 : Bk (w33.setRow (w29.heap.size) #[.slice C33 r0.length e33, .slice D33 rz0.length f33]) (w.heap.size) 25 #[.int .i16 s0, .slice A0 l0.length c0] := (setRow_other _ _ _ _ (by have e1 := B0_26.lt; have e2 := ge30; omega)).trans B0_33
          have B1_34 : Bk (w33.setRow (w29.heap.size) #[.slice C33 r0.length e33, .slice D33 rz0.length f33]) (w.heap.size + 1) 29 #[.slice A1 l1.length c1, .slice U1 z1.length v1] := (setRow_other _ _ _ _ (by have e1 := B1_26.lt; have e2 := ge30; omega)).trans B1_33
          have B2_34 : Bk (w33.setRow (w29.heap.size) #[.slice C33 r0.length e33, .slice D33 rz0.length f33]) (w.heap.size + 1 + 1) 59 #[.int .i64 x2_0, .int .i64 x2_1] := (setRow_other _ _ _ _ (by have e1 := B2_26.lt; have e2 := ge30; omega)).trans B2_33
          have tb34 := tb33.trans hb34
          refine hK.out _ _ ⟨(B0_34.cell (i := 0) rfl), (B0_34.cell (i := 1) rfl), (B1_34.cell (i := 0) rfl), (B1_34.cell (i := 1) rfl), (B2_34.cell (i := 0) rfl), (B2_34.cell (i := 1) rfl)⟩ (fun hS34 => ?_)
          clear hK K
          refine wpAnyH_take (i := 14) (v := .int .i64 r1) rfl (by kernel_rfl) (by kernel_rfl) (by kernel_rfl) (fun _ _ _ h => h) (Or.inl ⟨by rfl, fun w' _ => by go_simp⟩) hS34 ?_
          change wpAnyH _ _ _ _ _ _ _ (Act.put _ (some 21) _) _
          simp only [Act.put, List.setIfInBounds_toArray, List.set_cons_zero, List.set_cons_succ]
          refine wpAnyH_done (by kernel_rfl) ?_ _
          go_wp2_with fail
          go_meet
          exact ⟨_, C33, e33, D33, f33, _, rfl, rfl, rfl, DD, ge30, oo_34, oz_34, tb34⟩
      · obtain ⟨w29, hX29⟩ : ∃ X, X = w28.alloc (.cells #[.slice none 0 0, .slice none 0 0] 34) := ⟨_, rfl⟩
        have hb29 : Below w28.heap.size w28 w29 := by rw [hX29]; exact (Below.refl _ _).alloc (Nat.le_refl _) _
        have za29 : Bk w29 w28.heap.size 34 #[.slice none 0 0, .slice none 0 0] := by rw [hX29]; exact heap_new' _ _ _ rfl
        have ge29 : w26.heap.size ≤ w28.heap.size := tb28.size
        intro K hK
        rw [if_pos (by rfl)]
        go_simp
        rw [← hX29]
        clear hX29
        have b29 := step_below hb29 b28
        have B0_29 := B0_28.keep hb29
        have B1_29 := B1_28.keep hb29
        have B2_29 := B2_28.keep hb29
        have q28_29 := own_keep q28_28 hb29
        have t29 := step_below hb29 t28
        have tb29 := tb28.trans (hb29.mono tb28.size)
        refine hK.out _ _ ⟨(B0_29.cell (i := 0) rfl), (B0_29.cell (i := 1) rfl), (B1_29.cell (i := 0) rfl), (B1_29.cell (i := 1) rfl), (B2_29.cell (i := 0) rfl), (B2_29.cell (i := 1) rfl)⟩ (fun hS29 => ?_)
        clear hK K
        try (change wpAnyH _ _ _ _ _ _ _ (Act.put _ (some 20) _) _)
        try simp only [Act.put, List.setIfInBounds_toArray, List.set_cons_zero, List.set_cons_succ]
        refine wpAnyH_ready (rs := [3]) (by kernel_rfl) (by simp) (AllReadyH.cons rfl ?_ AllReadyH.nil)
        intro K hK
        rw [if_pos (by rfl)]
        go_simp
        refine (toWear_any A1 c1 l1 U1 v1 z1 _ (hA1.below b29) (hU1.below b29) hn1.1 hn1.2).mono ?_
        rintro e w30 ⟨g30, m30, rfl, hg30, hgm30, own30, owm30, hb30⟩
        have b30 := step_below hb30 b29
        have B0_30 := B0_29.keep hb30
        have B1_30 := B1_29.keep hb30
        have B2_30 := B2_29.keep hb30
        have q28_30 := own_keep q28_29 hb30
        have t30 := step_below hb30 t29
        have gl30 : g30 < w30.heap.size := (own30.lt g30 rfl).2
        have gm30 : m30 < w30.heap.size := (owm30.lt m30 rfl).2
        have q30_30 := own30
        have d30_30 := owm30
        have tb30 := tb29.trans (hb30.mono tb29.size)
        have za30 := za29.keep hb30
        refine hK.out _ _ ⟨(B0_30.cell (i := 0) rfl), (B0_30.cell (i := 1) rfl), (B1_30.cell (i := 0) rfl), (B1_30.cell (i := 1) rfl), (B2_30.cell (i := 0) rfl), (B2_30.cell (i := 1) rfl)⟩ (fun hS30 => ?_)
        clear hK K
        try (change wpAnyH _ _ _ _ _ _ _ (Act.put _ (some 125) _) _)
        try simp only [Act.put, List.setIfInBounds_toArray, List.set_cons_zero, List.set_cons_succ]
        refine wpAnyH_ready (rs := [5]) (by kernel_rfl) (by simp) (AllReadyH.cons rfl ?_ AllReadyH.nil)
        intro K hK
        rw [if_pos (by rfl)]
        go_simp
        refine (toLives_any x2_0 x2_1 _).mono ?_
        rintro e w31 ⟨rfl, hb31⟩
        have b31 := step_below hb31 b30
        have B0_31 := B0_30.keep hb31
        have B1_31 := B1_30.keep hb31
        have B2_31 := B2_30.keep hb31
        have q28_31 := own_keep q28_30 hb31
        have q30_31 := own_keep q30_30 hb31
        have d30_31 := own_keep d30_30 hb31
        have t31 := step_below hb31 t30
        have tb31 := tb30.trans (hb31.mono tb30.size)
        have za31 := za30.keep hb31
        refine hK.out _ _ ⟨(B0_31.cell (i := 0) rfl), (B0_31.cell (i := 1) rfl), (B1_31.cell (i := 0) rfl), (B1_31.cell (i := 1) rfl), (B2_31.cell (i := 0) rfl), (B2_31.cell (i := 1) rfl)⟩ (fun hS31 => ?_)
        clear hK K
        try (change wpAnyH _ _ _ _ _ _ _ (Act.put _ (some 127) _) _)
        try simp only [Act.put, List.setIfInBounds_toArray, List.set_cons_zero, List.set_cons_succ]
        refine wpAnyH_ready (rs := [7]) (by kernel_rfl) (by simp) (AllReadyH.cons rfl ?_ AllReadyH.nil)
        intro K hK
        rw [if_pos (by rfl)]
        go_simp
        refine (toActS_ex A3 c3 l3 _ (hA3.below b31) hn3).mono ?_
        rintro e w32 ⟨g32, rfl, hg32, own32, hb32⟩
        have b32 := step_below hb32 b31
        have B0_32 := B0_31.keep hb32
        have B1_32 := B1_31.keep hb32
        have B2_32 := B2_31.keep hb32
        have q28_32 := own_keep q28_31 hb32
        have q30_32 := own_keep q30_31 hb32
        have d30_32 := own_keep d30_31 hb32
        have t32 := step_below hb32 t31
        have gl32 : g32 < w32.heap.size := (own32.lt g32 rfl).2
        have q32_32 := own32
        have tb32 := tb31.trans (hb32.mono tb31.size)
        have za32 := za31.keep hb32
        refine hK.out _ _ ⟨(B0_32.cell (i := 0) rfl), (B0_32.cell (i := 1) rfl), (B1_32.cell (i := 0) rfl), (B1_32.cell (i := 1) rfl), (B2_32.cell (i := 0) rfl), (B2_32.cell (i := 1) rfl)⟩ (fun hS32 => ?_)
        clear hK K
        try (change wpAnyH _ _ _ _ _ _ _ (Act.put _ (some 129) _) _)
        try simp only [Act.put, List.setIfInBounds_toArray, List.set_cons_zero, List.set_cons_succ]
        refine wpAnyH_ready (rs := [8]) (by kernel_rfl) (by simp) (AllReadyH.cons rfl ?_ AllReadyH.nil)
        intro K hK
        rw [if_pos (by rfl)]
        go_simp
        refine (KI _ _ _ _ _ (HA.of_own q28_32) (WnA.of_own q30_32) (SZ.of_own d30_32) (AcA.of_own q32_32) ).mono ?_
        rintro e w33 ⟨C33, e33, D33, f33, rfl, own33, owm33, hb33⟩
        have b33 := step_below hb33 b32
        have B0_33 := B0_32.keep hb33
        have B1_33 := B1_32.keep hb33
        have B2_33 := B2_32.keep hb33
        have q28_33 := own_keep q28_32 hb33
        have q30_33 := own_keep q30_32 hb33
        have d30_33 := own_keep d30_32 hb33
        have q32_33 := own_keep q32_32 hb33
        have t33 := step_below hb33 t32
        have r33_33 := own33
        have rz33_33 := owm33
        have tb33 := tb32.trans (hb33.mono tb32.size)
        have za33 := za32.keep hb33
        have oo_33 := own_base own33 tb32.size
        have oz_33 := own_base owm33 tb32.size
        refine hK.out _ _ ⟨(B0_33.cell (i := 0) rfl), (B0_33.cell (i := 1) rfl), (B1_33.cell (i := 0) rfl), (B1_33.cell (i := 1) rfl), (B2_33.cell (i := 0) rfl), (B2_33.cell (i := 1) rfl)⟩ (fun hS33 => ?_)
        clear hK K
        try (change wpAnyH _ _ _ _ _ _ _ (Act.put _ (some 130) _) _)
        try simp only [Act.put, List.setIfInBounds_toArray, List.set_cons_zero, List.set_cons_succ]
        refine wpAnyH_take (i := 9) (v := .tuple #[.agg #[.slice C33 r0.length e33, .slice D33 rz0.length f33], .int .i64 r1]) rfl (by kernel_rfl) (by kernel_rfl) (by kernel_rfl) (fun _ _ _ h => h) (Or.inl ⟨by rfl, fun w' _ => by go_simp⟩) hS33 ?_
        change wpAnyH _ _ _ _ _ _ _ (Act.put _ (some 121) _) _
        simp only [Act.put, List.setIfInBounds_toArray, List.set_cons_zero, List.set_cons_succ]
        refine wpAnyH_take (i := 10) (v := .agg #[.slice C33 r0.length e33, .slice D33 rz0.length f33]) rfl (by kernel_rfl) (by kernel_rfl) (by kernel_rfl) (fun _ _ _ h => h) (Or.inl ⟨by rfl, fun w' _ => by go_simp⟩) hS33 ?_
        change wpAnyH _ _ _ _ _ _ _ (Act.put _ (some 131) _) _
        simp only [Act.put, List.setIfInBounds_toArray, List.set_cons_zero, List.set_cons_succ]
        refine wpAnyH_take (i := 11) (v := .int .i64 r1) rfl (by kernel_rfl) (by kernel_rfl) (by kernel_rfl) (fun _ _ _ h => h) (Or.inl ⟨by rfl, fun w' _ => by go_simp⟩) hS33 ?_
        change wpAnyH _ _ _ _ _ _ _ (Act.put _ (some 132) _) _
        simp only [Act.put, List.setIfInBounds_toArray, List.set_cons_zero, List.set_cons_succ]
        refine wpAnyH_ready (rs := [13]) (by kernel_rfl) (by simp) (AllReadyH.cons rfl ?_ AllReadyH.nil)
        intro K hK
        rw [if_pos (by rfl)]
        refine wp_store_row 34 (.tmp 20) (.tmp 131) rfl (w28.heap.size) #[.slice C33 r0.length e33, .slice D33 rz0.length f33] rfl rfl 34 _ za33 (infoWear _ _) (szWear _ _ _ _) (oneWear _ _ _ _ _ _) ?_
        have hb34 : Below w26.heap.size w33 (w33.setRow (w28.heap.size) #[.slice C33 r0.length e33, .slice D33 rz0.length f33]) := below_setRow (Below.refl _ _) ge29
        have DD : Bk (w33.setRow (w28.heap.size) #[.slice C33 r0.length e33, .slice D33 rz0.length f33]) (w28.heap.size) 34 #[.slice C33 r0.length e33, .slice D33 rz0.length f33] := setRow_heap _ _ _ _ _ _ za33
        have oo_34 := own_rowK oo_33 za33 (by decide) #[.slice C33 r0.length e33, .slice D33 rz0.length f33]
        have oz_34 := own_rowK oz_33 za33 (by decide) #[.slice C33 r0.length e33, .slice D33 rz0.length f33]
        have B0_34 : Bk (w33.setRow (w28.heap.size) #[.slice C33 r0.length e33, .slice D33 rz0.length f33]) (w.heap.size) 25 #[.int .i16 s0, .slice A0 l0.length c0] := (setRow_other _ _ _ _ (by have e1 := B0_26.lt; have e2 := ge29; omega)).trans B0_33
        have B1_34 : Bk (w33.setRow (w28.heap.size) #[.slice C33 r0.length e33, .slice D33 rz0.length f33]) (w.heap.size + 1) 29 #[.slice A1 l1.length c1, .slice U1 z1.length v1] := (setRow_other _ _ _ _ (by have e1 := B1_26.lt; have e2 := ge29; omega)).trans B1_33
        have B2_34 : Bk (w33.setRow (w28.heap.size) #[.slice C33 r0.length e33, .slice D33 rz0.length f33]) (w.heap.size + 1 + 1) 59 #[.int .i64 x2_0, .int .i64 x2_1] := (setRow_other _ _ _ _ (by have e1 := B2_26.lt; have e2 := ge29; omega)).trans B2_33
        have tb34 := tb33.trans hb34
        refine hK.out _ _ ⟨(B0_34.cell (i := 0) rfl), (B0_34.cell (i := 1) rfl), (B1_34.cell (i := 0) rfl), (B1_34.cell (i := 1) rfl), (B2_34.cell (i := 0) rfl), (B2_34.cell (i := 1) rfl)⟩ (fun hS34 => ?_)
        clear hK K
        refine wpAnyH_take (i := 14) (v := .int .i64 r1) rfl (by kernel_rfl) (by kernel_rfl) (by kernel_rfl) (fun _ _ _ h => h) (Or.inl ⟨by rfl, fun w' _ => by go_simp⟩) hS34 ?_
        change wpAnyH _ _ _ _ _ _ _ (Act.put _ (some 21) _) _
        simp only [Act.put, List.setIfInBounds_toArray, List.set_cons_zero, List.set_cons_succ]
        refine wpAnyH_done (by kernel_rfl) ?_ _
        go_wp2_with fail
        go_meet
        exact ⟨_, C33, e33, D33, f33, _, rfl, rfl, rfl, DD, ge29, oo_34, oz_34, tb34⟩
    · obtain ⟨w28, hX28⟩ : ∃ X, X = wd27.alloc (.cells #[.slice none 0 0, .slice none 0 0] 34) := ⟨_, rfl⟩
      have hb28 : Below wd27.heap.size wd27 w28 := by rw [hX28]; exact (Below.refl _ _).alloc (Nat.le_refl _) _
      have za28 : Bk w28 wd27.heap.size 34 #[.slice none 0 0, .slice none 0 0] := by rw [hX28]; exact heap_new' _ _ _ rfl
      have ge28 : w26.heap.size ≤ wd27.heap.size := tb27.size
      intro K hK
      rw [if_pos (by rfl)]
      go_simp
      rw [← hX28]
      clear hX28
      have b28 := step_below hb28 b27
      have B0_28 := B0_27.keep hb28
      have B1_28 := B1_27.keep hb28
      have B2_28 := B2_27.keep hb28
      have t28 := step_below hb28 t27
      have tb28 := tb27.trans (hb28.mono tb27.size)
      refine hK.out _ _ ⟨(B0_28.cell (i := 0) rfl), (B0_28.cell (i := 1) rfl), (B1_28.cell (i := 0) rfl), (B1_28.cell (i := 1) rfl), (B2_28.cell (i := 0) rfl), (B2_28.cell (i := 1) rfl)⟩ (fun hS28 => ?_)
      clear hK K
      try (change wpAnyH _ _ _ _ _ _ _ (Act.put _ (some 20) _) _)
      try simp only [Act.put, List.setIfInBounds_toArray, List.set_cons_zero, List.set_cons_succ]
      refine wpAnyH_ready (rs := [1]) (by kernel_rfl) (by simp) (AllReadyH.cons rfl ?_ AllReadyH.nil)
      intro K hK
      rw [if_pos (by rfl)]
      go_simp
      refine (toFrame_any s0 A0 c0 l0 _ (hA0.below b28) hn0).mono ?_
      rintro e w29 ⟨g29, rfl, hg29, own29, hb29⟩
      have b29 := step_below hb29 b28
      have B0_29 := B0_28.keep hb29
      have B1_29 := B1_28.keep hb29
      have B2_29 := B2_28.keep hb29
      have t29 := step_below hb29 t28
      have gl29 : g29 < w29.heap.size := (own29.lt g29 rfl).2
      have q29_29 := own29
      have tb29 := tb28.trans (hb29.mono tb28.size)
      have za29 := za28.keep hb29
      refine hK.out _ _ ⟨(B0_29.cell (i := 0) rfl), (B0_29.cell (i := 1) rfl), (B1_29.cell (i := 0) rfl), (B1_29.cell (i := 1) rfl), (B2_29.cell (i := 0) rfl), (B2_29.cell (i := 1) rfl)⟩ (fun hS29 => ?_)
      clear hK K
      try (change wpAnyH _ _ _ _ _ _ _ (Act.put _ (some 123) _) _)
      try simp only [Act.put, List.setIfInBounds_toArray, List.set_cons_zero, List.set_cons_succ]
      refine wpAnyH_ready (rs := [3]) (by kernel_rfl) (by simp) (AllReadyH.cons rfl ?_ AllReadyH.nil)
      intro K hK
      rw [if_pos (by rfl)]
      go_simp
      refine (toWear_any A1 c1 l1 U1 v1 z1 _ (hA1.below b29) (hU1.below b29) hn1.1 hn1.2).mono ?_
      rintro e w30 ⟨g30, m30, rfl, hg30, hgm30, own30, owm30, hb30⟩
      have b30 := step_below hb30 b29
      have B0_30 := B0_29.keep hb30
      have B1_30 := B1_29.keep hb30
      have B2_30 := B2_29.keep hb30
      have q29_30 := own_keep q29_29 hb30
      have t30 := step_below hb30 t29
      have gl30 : g30 < w30.heap.size := (own30.lt g30 rfl).2
      have gm30 : m30 < w30.heap.size := (owm30.lt m30 rfl).2
      have q30_30 := own30
      have d30_30 := owm30
      have tb30 := tb29.trans (hb30.mono tb29.size)
      have za30 := za29.keep hb30
      refine hK.out _ _ ⟨(B0_30.cell (i := 0) rfl), (B0_30.cell (i := 1) rfl), (B1_30.cell (i := 0) rfl), (B1_30.cell (i := 1) rfl), (B2_30.cell (i := 0) rfl), (B2_30.cell (i := 1) rfl)⟩ (fun hS30 => ?_)
      clear hK K
      try (change wpAnyH _ _ _ _ _ _ _ (Act.put _ (some 125) _) _)
      try simp only [Act.put, List.setIfInBounds_toArray, List.set_cons_zero, List.set_cons_succ]
      refine wpAnyH_ready (rs := [5]) (by kernel_rfl) (by simp) (AllReadyH.cons rfl ?_ AllReadyH.nil)
      intro K hK
      rw [if_pos (by rfl)]
      go_simp
      refine (toLives_any x2_0 x2_1 _).mono ?_
      rintro e w31 ⟨rfl, hb31⟩
      have b31 := step_below hb31 b30
      have B0_31 := B0_30.keep hb31
      have B1_31 := B1_30.keep hb31
      have B2_31 := B2_30.keep hb31
      have q29_31 := own_keep q29_30 hb31
      have q30_31 := own_keep q30_30 hb31
      have d30_31 := own_keep d30_30 hb31
      have t31 := step_below hb31 t30
      have tb31 := tb30.trans (hb31.mono tb30.size)
      have za31 := za30.keep hb31
      refine hK.out _ _ ⟨(B0_31.cell (i := 0) rfl), (B0_31.cell (i := 1) rfl), (B1_31.cell (i := 0) rfl), (B1_31.cell (i := 1) rfl), (B2_31.cell (i := 0) rfl), (B2_31.cell (i := 1) rfl)⟩ (fun hS31 => ?_)
      clear hK K
      try (change wpAnyH _ _ _ _ _ _ _ (Act.put _ (some 127) _) _)
      try simp only [Act.put, List.setIfInBounds_toArray, List.set_cons_zero, List.set_cons_succ]
      refine wpAnyH_ready (rs := [7]) (by kernel_rfl) (by simp) (AllReadyH.cons rfl ?_ AllReadyH.nil)
      intro K hK
      rw [if_pos (by rfl)]
      go_simp
      refine (toActS_ex A3 c3 l3 _ (hA3.below b31) hn3).mono ?_
      rintro e w32 ⟨g32, rfl, hg32, own32, hb32⟩
      have b32 := step_below hb32 b31
      have B0_32 := B0_31.keep hb32
      have B1_32 := B1_31.keep hb32
      have B2_32 := B2_31.keep hb32
      have q29_32 := own_keep q29_31 hb32
      have q30_32 := own_keep q30_31 hb32
      have d30_32 := own_keep d30_31 hb32
      have t32 := step_below hb32 t31
      have gl32 : g32 < w32.heap.size := (own32.lt g32 rfl).2
      have q32_32 := own32
      have tb32 := tb31.trans (hb32.mono tb31.size)
      have za32 := za31.keep hb32
      refine hK.out _ _ ⟨(B0_32.cell (i := 0) rfl), (B0_32.cell (i := 1) rfl), (B1_32.cell (i := 0) rfl), (B1_32.cell (i := 1) rfl), (B2_32.cell (i := 0) rfl), (B2_32.cell (i := 1) rfl)⟩ (fun hS32 => ?_)
      clear hK K
      try (change wpAnyH _ _ _ _ _ _ _ (Act.put _ (some 129) _) _)
      try simp only [Act.put, List.setIfInBounds_toArray, List.set_cons_zero, List.set_cons_succ]
      refine wpAnyH_ready (rs := [8]) (by kernel_rfl) (by simp) (AllReadyH.cons rfl ?_ AllReadyH.nil)
      intro K hK
      rw [if_pos (by rfl)]
      go_simp
      refine (KI _ _ _ _ _ (HA.of_own q29_32) (WnA.of_own q30_32) (SZ.of_own d30_32) (AcA.of_own q32_32) ).mono ?_
      rintro e w33 ⟨C33, e33, D33, f33, rfl, own33, owm33, hb33⟩
      have b33 := step_below hb33 b32
      have B0_33 := B0_32.keep hb33
      have B1_33 := B1_32.keep hb33
      have B2_33 := B2_32.keep hb33
      have q29_33 := own_keep q29_32 hb33
      have q30_33 := own_keep q30_32 hb33
      have d30_33 := own_keep d30_32 hb33
      have q32_33 := own_keep q32_32 hb33
      have t33 := step_below hb33 t32
      have r33_33 := own33
      have rz33_33 := owm33
      have tb33 := tb32.trans (hb33.mono tb32.size)
      have za33 := za32.keep hb33
      have oo_33 := own_base own33 tb32.size
      have oz_33 := own_base owm33 tb32.size
      refine hK.out _ _ ⟨(B0_33.cell (i := 0) rfl), (B0_33.cell (i := 1) rfl), (B1_33.cell (i := 0) rfl), (B1_33.cell (i := 1) rfl), (B2_33.cell (i := 0) rfl), (B2_33.cell (i := 1) rfl)⟩ (fun hS33 => ?_)
      clear hK K
      try (change wpAnyH _ _ _ _ _ _ _ (Act.put _ (some 130) _) _)
      try simp only [Act.put, List.setIfInBounds_toArray, List.set_cons_zero, List.set_cons_succ]
      refine wpAnyH_take (i := 9) (v := .tuple #[.agg #[.slice C33 r0.length e33, .slice D33 rz0.length f33], .int .i64 r1]) rfl (by kernel_rfl) (by kernel_rfl) (by kernel_rfl) (fun _ _ _ h => h) (Or.inl ⟨by rfl, fun w' _ => by go_simp⟩) hS33 ?_
      change wpAnyH _ _ _ _ _ _ _ (Act.put _ (some 121) _) _
      simp only [Act.put, List.setIfInBounds_toArray, List.set_cons_zero, List.set_cons_succ]
      refine wpAnyH_take (i := 10) (v := .agg #[.slice C33 r0.length e33, .slice D33 rz0.length f33]) rfl (by kernel_rfl) (by kernel_rfl) (by kernel_rfl) (fun _ _ _ h => h) (Or.inl ⟨by rfl, fun w' _ => by go_simp⟩) hS33 ?_
      change wpAnyH _ _ _ _ _ _ _ (Act.put _ (some 131) _) _
      simp only [Act.put, List.setIfInBounds_toArray, List.set_cons_zero, List.set_cons_succ]
      refine wpAnyH_take (i := 11) (v := .int .i64 r1) rfl (by kernel_rfl) (by kernel_rfl) (by kernel_rfl) (fun _ _ _ h => h) (Or.inl ⟨by rfl, fun w' _ => by go_simp⟩) hS33 ?_
      change wpAnyH _ _ _ _ _ _ _ (Act.put _ (some 132) _) _
      simp only [Act.put, List.setIfInBounds_toArray, List.set_cons_zero, List.set_cons_succ]
      refine wpAnyH_ready (rs := [13]) (by kernel_rfl) (by simp) (AllReadyH.cons rfl ?_ AllReadyH.nil)
      intro K hK
      rw [if_pos (by rfl)]
      refine wp_store_row 34 (.tmp 20) (.tmp 131) rfl (wd27.heap.size) #[.slice C33 r0.length e33, .slice D33 rz0.length f33] rfl rfl 34 _ za33 (infoWear _ _) (szWear _ _ _ _) (oneWear _ _ _ _ _ _) ?_
      have hb34 : Below w26.heap.size w33 (w33.setRow (wd27.heap.size) #[.slice C33 r0.length e33, .slice D33 rz0.length f33]) := below_setRow (Below.refl _ _) ge28
      have DD : Bk (w33.setRow (wd27.heap.size) #[.slice C33 r0.length e33, .slice D33 rz0.length f33]) (wd27.heap.size) 34 #[.slice C33 r0.length e33, .slice D33 rz0.length f33] := setRow_heap _ _ _ _ _ _ za33
      have oo_34 := own_rowK oo_33 za33 (by decide) #[.slice C33 r0.length e33, .slice D33 rz0.length f33]
      have oz_34 := own_rowK oz_33 za33 (by decide) #[.slice C33 r0.length e33, .slice D33 rz0.length f33]
      have B0_34 : Bk (w33.setRow (wd27.heap.size) #[.slice C33 r0.length e33, .slice D33 rz0.length f33]) (w.heap.size) 25 #[.int .i16 s0, .slice A0 l0.length c0] := (setRow_other _ _ _ _ (by have e1 := B0_26.lt; have e2 := ge28; omega)).trans B0_33
      have B1_34 : Bk (w33.setRow (wd27.heap.size) #[.slice C33 r0.length e33, .slice D33 rz0.length f33]) (w.heap.size + 1) 29 #[.slice A1 l1.length c1, .slice U1 z1.length v1] := (setRow_other _ _ _ _ (by have e1 := B1_26.lt; have e2 := ge28; omega)).trans B1_33
      have B2_34 : Bk (w33.setRow (wd27.heap.size) #[.slice C33 r0.length e33, .slice D33 rz0.length f33]) (w.heap.size + 1 + 1) 59 #[.int .i64 x2_0, .int .i64 x2_1] := (setRow_other _ _ _ _ (by have e1 := B2_26.lt; have e2 := ge28; omega)).trans B2_33
      have tb34 := tb33.trans hb34
      refine hK.out _ _ ⟨(B0_34.cell (i := 0) rfl), (B0_34.cell (i := 1) rfl), (B1_34.cell (i := 0) rfl), (B1_34.cell (i := 1) rfl), (B2_34.cell (i := 0) rfl), (B2_34.cell (i := 1) rfl)⟩ (fun hS34 => ?_)
      clear hK K
      refine wpAnyH_take (i := 14) (v := .int .i64 r1) rfl (by kernel_rfl) (by kernel_rfl) (by kernel_rfl) (fun _ _ _ h => h) (Or.inl ⟨by rfl, fun w' _ => by go_simp⟩) hS34 ?_
      change wpAnyH _ _ _ _ _ _ _ (Act.put _ (some 21) _) _
      simp only [Act.put, List.setIfInBounds_toArray, List.set_cons_zero, List.set_cons_succ]
      refine wpAnyH_done (by kernel_rfl) ?_ _
      go_wp2_with fail
      go_meet
      exact ⟨_, C33, e33, D33, f33, _, rfl, rfl, rfl, DD, ge28, oo_34, oz_34, tb34⟩
  obtain ⟨rg27, C27, e27, D27, f27, w27, rfl, rfl, rfl, K27, rge27, own27, owm27, hb27⟩ := hcut
  have b27 := step_below hb27 b26
  have B0_27 := B0_26.keep hb27
  have B1_27 := B1_26.keep hb27
  have B2_27 := B2_26.keep hb27
  have Rw3_27 := Rw3_26.keep hb27
  have Rw9_27 := Rw9_26.keep hb27
  have v3_27 := own_keep v3_26 hb27
  have vz3_27 := own_keep vz3_26 hb27
  have k24_27 := own_keep k24_26 hb27
  have k25_27 := own_keep k25_26 hb27
  have t27 := step_below hb27 t26
  have r27_27 := own27
  have rz27_27 := owm27
  have Rw27_27 := K27
  have pf133_0 := Rw27_27.cell (i := 0) rfl
  have pf133_1 := Rw27_27.cell (i := 1) rfl
  have pf134_0 := Rw3_27.cell (i := 0) rfl
  have pf134_1 := Rw3_27.cell (i := 1) rfl
  go_wp2_with fail
  clear pf133_0 pf133_1 pf134_0 pf134_1
  refine (eqWear_self _ _ _ _ r0 _ _ _ _ rz0 _ (WnA.of_own r27_27) (WnA.of_own v3_27) (SI.of_own rz27_27) (SI.of_own vz3_27) hrl0 hrlz0).mono ?_
  rintro e w28 ⟨rfl, hb28⟩
  have b28 := step_below hb28 b27
  have B0_28 := B0_27.keep hb28
  have B1_28 := B1_27.keep hb28
  have B2_28 := B2_27.keep hb28
  have Rw3_28 := Rw3_27.keep hb28
  have Rw9_28 := Rw9_27.keep hb28
  have v3_28 := own_keep v3_27 hb28
  have vz3_28 := own_keep vz3_27 hb28
  have k24_28 := own_keep k24_27 hb28
  have k25_28 := own_keep k25_27 hb28
  have t28 := step_below hb28 t27
  have pf142_0 := Rw9_28.cell (i := 0) rfl
  have pf142_1 := Rw9_28.cell (i := 1) rfl
  go_wp2_with fail
  clear pf142_0 pf142_1
  refine (heldWear_from _ _ r0.length _ _ rz0.length (1) _ (mkWn_of_own k24_28) (mkI_of_own k25_28) hrl0 hrlz0 ⟨by omega, by omega⟩).mono ?_
  rintro e w29 ⟨rfl, hb29⟩
  have b29 := step_below hb29 b28
  have B0_29 := B0_28.keep hb29
  have B1_29 := B1_28.keep hb29
  have B2_29 := B2_28.keep hb29
  have Rw3_29 := Rw3_28.keep hb29
  have Rw9_29 := Rw9_28.keep hb29
  have v3_29 := own_keep v3_28 hb29
  have vz3_29 := own_keep vz3_28 hb29
  have k24_29 := own_keep k24_28 hb29
  have k25_29 := own_keep k25_28 hb29
  have t29 := step_below hb29 t28
  go_wp2
  go_ret
  exact ⟨rfl, b29⟩
theorem lawDoWearActs_any (s0 : Int) (A0 : Option Addr) (c0 : Nat) (l0 : List (Int × Int)) (A1 : Option Addr) (c1 : Nat) (l1 : List (Int × Int × Int)) (U1 : Option Addr) (v1 : Nat) (z1 : List Int) (x2_0 : Int) (x2_1 : Int) (A3 : Option Addr) (c3 : Nat) (l3 : List (Int × Int × Int × Int × Int)) (w : World) (hA0 : HA w A0 l0) (hwf0 : HWF l0) (hs0 : -32768 ≤ s0 ∧ s0 ≤ 32767) (hA1 : WnA w A1 l1) (hU1 : SZ w U1 z1) (hwf1 : WnWF l1) (hzwf1 : ZWF z1) (hv2 : LvWF x2_0 x2_1) (hA3 : AcA w A3 l3) (hwf3 : AcWF l3) (hm0 : l0.length ≤ maxLen) (hm1 : l1.length ≤ maxLen ∧ z1.length ≤ maxLen) (hm3 : l3.length ≤ maxLen)  :
    Calls Tryz.prog 7 #[.agg #[.int .i16 s0, .slice A0 l0.length c0], .agg #[.slice A1 l1.length c1, .slice U1 z1.length v1], .agg #[.int .i64 x2_0, .int .i64 x2_1], .slice A3 l3.length c3] w (Says true w) := by
  rcases Nat.lt_or_ge 1048576 (l0.length) with h0 | h0
  · exact lawDoWearActs_big0 s0 A0 c0 l0 A1 c1 l1 U1 v1 z1 x2_0 x2_1 A3 c3 l3 w  h0 hm0 hm1 hm3
  rcases Nat.lt_or_ge 1048576 (l0.length + (l1.length + z1.length)) with h1 | h1
  · exact lawDoWearActs_big1 s0 A0 c0 l0 A1 c1 l1 U1 v1 z1 x2_0 x2_1 A3 c3 l3 w h0 h1 hm0 hm1 hm3
  rcases Nat.lt_or_ge 1048576 (l0.length + (l1.length + z1.length) + l3.length) with h2 | h2
  · exact lawDoWearActs_big2 s0 A0 c0 l0 A1 c1 l1 U1 v1 z1 x2_0 x2_1 A3 c3 l3 w h0 h1 h2 hm0 hm1 hm3
  exact lawDoWearActs_small s0 A0 c0 l0 A1 c1 l1 U1 v1 z1 x2_0 x2_1 A3 c3 l3 w hA0 hwf0 hs0 hA1 hU1 hwf1 hzwf1 hv2 hA3 hwf3 h0 h1 h2 hm0 hm1 hm3 
end Go.Proofs.YtcocfnjbgceidaaGreat
