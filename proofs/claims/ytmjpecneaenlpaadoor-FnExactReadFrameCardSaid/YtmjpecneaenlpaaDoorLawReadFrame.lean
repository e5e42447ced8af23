import Derived.Test.YtmjpecneaenlpaaDoorRfr
import Derived.Test.YtmjpecneaenlpaaDoorGbk
import Derived.Test.YtmjpecneaenlpaaDoorMkf
import Derived.Test.YtmjpecneaenlpaaDoorGba
import Derived.Deep.RegionHeld3
import Derived.Deep.CutRange
namespace Go.Proofs.YtmjpecneaenlpaaDoor
open Go.RowKit

set_option maxRecDepth 20000 in
set_option maxHeartbeats 1000000 in
theorem lawReadFrame_big0 (tx0 : ByteArray) (w : World)  (hbg : 1048576 < tx0.size) (hm0 : tx0.size ≤ maxLen) :
    Calls Tryd.prog 4 #[.string tx0] w (Says true w) := by
  have b0 : Below w.heap.size w w := Below.refl _ _
  go_enter Tryd.func4, Tryd.ntmps4
  go_wp2
  go_ret
  exact ⟨rfl, b0⟩
set_option maxRecDepth 20000 in
set_option maxHeartbeats 4000000 in
theorem lawReadFrame_small (tx0 : ByteArray) (w : World) (hT : RdW w) (hc0 : tx0.size ≤ 1048576) (hm0 : tx0.size ≤ maxLen) :
    Calls Tryd.prog 4 #[.string tx0] w (Says true w) := by
  have hn0 : tx0.size ≤ 1048576 := by omega
  obtain ⟨r0, hr0⟩ : ∃ r : List (Int × Int), r = rfL tx0 := ⟨_, rfl⟩
  obtain ⟨r1, hr1⟩ : ∃ r : Int, r = rfC tx0 := ⟨_, rfl⟩
  obtain ⟨rs0, hrs0⟩ : ∃ r : Int, r = rfS tx0 := ⟨_, rfl⟩
  have hrl0 : r0.length ≤ 1048576 := by rw [hr0]; exact rfL_len _
  have KS : ∀ (W : World), RdW W → Calls Tryd.prog 12 #[.string tx0] W (fun e w' => ∃ (C : Option Addr) (q : Nat), e = .returned (.tuple #[.agg #[.int .i16 rs0, .slice C r0.length q], .int .i64 r1]) ∧ w'.ownsRow W.heap.size 62 2 (.slice C r0.length q) r0.length (hcells r0) ∧ Below W.heap.size W w') := fun  W hT' => by rw [hrs0, hr0, hr1]; exact specReadFrame_any tx0 W hn0
  have KI : ∀ (W : World), RdW W → Calls Tryd.prog 13 #[.string tx0] W (fun e w' => ∃ (C : Option Addr) (q : Nat), e = .returned (.tuple #[.agg #[.int .i16 rs0, .slice C r0.length q], .int .i64 r1]) ∧ w'.ownsRow W.heap.size 62 2 (.slice C r0.length q) r0.length (hcells r0) ∧ Below W.heap.size W w') := fun  W hT' => by rw [hrs0, hr0, hr1]; exact implReadFrame_any tx0 W hn0 hT'
  clear hrs0 hr0 hr1
  have b0 : Below w.heap.size w w := Below.refl _ _
  go_enter Tryd.func4, Tryd.ntmps4
  go_wp2_with fail
  refine (KS _  (hT.keep b0)).mono ?_
  rintro e w1 ⟨C1, e1, rfl, own1, hb1⟩
  have b1 := step_below hb1 b0
  have v1_1 := own1
  have t1 : Below w1.heap.size w1 w1 := Below.refl _ _
  go_upto_region 4 with fail
  obtain ⟨w2, hX2⟩ : ∃ X, X = w1.alloc (.cells #[.int .i16 rs0, .slice C1 r0.length e1] 32) := ⟨_, rfl⟩
  have hb2 : Below w1.heap.size w1 w2 := by rw [hX2]; exact (Below.refl _ _).alloc (Nat.le_refl _) _
  have K2 : Bk w2 w1.heap.size 32 #[.int .i16 rs0, .slice C1 r0.length e1] := by rw [hX2]; exact Bk.new _ _ _ rfl
  rw [← hX2]
  clear hX2
  have b2 := step_below hb2 b1
  have v1_2 := own_keep v1_1 hb2
  have t2 := step_below hb2 t1
  have R2_2 := K2
  go_wp2_with fail
  refine (KI _  (hT.keep b2)).mono ?_
  rintro e w3 ⟨C3, e3, rfl, own3, hb3⟩
  have b3 := step_below hb3 b2
  have R2_3 := R2_2.keep hb3
  have v1_3 := own_keep v1_2 hb3
  have t3 := step_below hb3 t2
  have r3_3 := own3
  go_upto_region 5 with fail
  obtain ⟨w4, hX4⟩ : ∃ X, X = w3.alloc (.cells #[.int .i16 rs0, .slice C3 r0.length e3] 32) := ⟨_, rfl⟩
  have hb4 : Below w3.heap.size w3 w4 := by rw [hX4]; exact (Below.refl _ _).alloc (Nat.le_refl _) _
  have K4 : Bk w4 w3.heap.size 32 #[.int .i16 rs0, .slice C3 r0.length e3] := by rw [hX4]; exact Bk.new _ _ _ rfl
  rw [← hX4]
  clear hX4
  have b4 := step_below hb4 b3
  have R2_4 := R2_3.keep hb4
  have v1_4 := own_keep v1_3 hb4
  have r3_4 := own_keep r3_3 hb4
  have t4 := step_below hb4 t3
  have R4_4 := K4
  have pf24_0 := R4_4.cell (i := 0) rfl
  have pf24_1 := R4_4.cell (i := 1) rfl
  have pf25_0 := R2_4.cell (i := 0) rfl
  have pf25_1 := R2_4.cell (i := 1) rfl
  go_wp2_with fail
  clear pf24_0 pf24_1 pf25_0 pf25_1
  refine (eqFrame_any rs0 _ _ _ _ r0 _ (HA.of_own r3_4) (HA.of_own v1_4) hrl0).mono ?_
  rintro e w5 ⟨rfl, hb5⟩
  have b5 := step_below hb5 b4
  have R2_5 := R2_4.keep hb5
  have R4_5 := R4_4.keep hb5
  have v1_5 := own_keep v1_4 hb5
  have r3_5 := own_keep r3_4 hb5
  have t5 := step_below hb5 t4
  have pf33_0 := R4_5.cell (i := 0) rfl
  have pf33_1 := R4_5.cell (i := 1) rfl
  go_wp2_with fail
  clear pf33_0 pf33_1
  refine (markFrame_from rs0 _ _ r0 _ (1) _ r3_5 hrl0 ⟨by omega, by omega⟩).mono ?_
  rintro e w6 ⟨rfl, mo6, hgr6⟩
  have hbs6 := hgr6.size
  have t6 : Below w1.heap.size w1 w6 := t5.grown hgr6 t5.size (fun j hj => Nat.le_trans t2.size ((r3_5).lt j hj).1)
  have b6 : Below w.heap.size w w6 := b1.trans (t6.mono b1.size)
  have R2_6 := R2_5.grown hgr6 (own_neK r3_5 R2_5 (by decide))
  have R4_6 := R4_5.grown hgr6 (own_neK r3_5 R4_5 (by decide))
  have v1_6 := own_keep v1_1 t6
  have k6_6 := mo6
  have hneg6 : decide (1 + 2 * (r0.length : Int) < 0) = false := by simp; omega
  have hneq6 : ((1 + 2 * (r0.length : Int)) != (1 + 2 * (r0.length : Int))) = false := by simp
  have pf36_0 := R4_6.cell (i := 0) rfl
  have pf36_1 := R4_6.cell (i := 1) rfl
  go_wp2_with fail
  clear pf36_0 pf36_1
  refine (heldFrame_from rs0 _ _ r0.length (1) _ (mkH_of_own k6_6) hrl0 ⟨by omega, by omega⟩).mono ?_
  rintro e w7 ⟨rfl, hb7⟩
  have b7 := step_below hb7 b6
  have R2_7 := R2_6.keep hb7
  have R4_7 := R4_6.keep hb7
  have v1_7 := own_keep v1_6 hb7
  have k6_7 := own_keep k6_6 hb7
  have t7 := step_below hb7 t6
  go_wp2_with fail
  refine (KI _  (hT.keep b7)).mono ?_
  rintro e w8 ⟨C8, e8, rfl, own8, hb8⟩
  have b8 := step_below hb8 b7
  have R2_8 := R2_7.keep hb8
  have R4_8 := R4_7.keep hb8
  have v1_8 := own_keep v1_7 hb8
  have k6_8 := own_keep k6_7 hb8
  have t8 := step_below hb8 t7
  have r8_8 := own8
  go_upto_region 16 with fail
  obtain ⟨w9, hX9⟩ : ∃ X, X = w8.alloc (.cells #[.int .i16 rs0, .slice C8 r0.length e8] 32) := ⟨_, rfl⟩
  have hb9 : Below w8.heap.size w8 w9 := by rw [hX9]; exact (Below.refl _ _).alloc (Nat.le_refl _) _
  have K9 : Bk w9 w8.heap.size 32 #[.int .i16 rs0, .slice C8 r0.length e8] := by rw [hX9]; exact Bk.new _ _ _ rfl
  rw [← hX9]
  clear hX9
  have b9 := step_below hb9 b8
  have R2_9 := R2_8.keep hb9
  have R4_9 := R4_8.keep hb9
  have v1_9 := own_keep v1_8 hb9
  have k6_9 := own_keep k6_8 hb9
  have r8_9 := own_keep r8_8 hb9
  have t9 := step_below hb9 t8
  have R9_9 := K9
  have pf49_0 := R9_9.cell (i := 0) rfl
  have pf49_1 := R9_9.cell (i := 1) rfl
  have pf50_0 := R2_9.cell (i := 0) rfl
  have pf50_1 := R2_9.cell (i := 1) rfl
  go_wp2_with fail
  clear pf49_0 pf49_1 pf50_0 pf50_1
  refine (eqFrame_any rs0 _ _ _ _ r0 _ (HA.of_own r8_9) (HA.of_own v1_9) hrl0).mono ?_
  rintro e w10 ⟨rfl, hb10⟩
  have b10 := step_below hb10 b9
  have R2_10 := R2_9.keep hb10
  have R4_10 := R4_9.keep hb10
  have R9_10 := R9_9.keep hb10
  have v1_10 := own_keep v1_9 hb10
  have k6_10 := own_keep k6_9 hb10
  have t10 := step_below hb10 t9
  have pf58_0 := R4_10.cell (i := 0) rfl
  have pf58_1 := R4_10.cell (i := 1) rfl
  go_wp2_with fail
  clear pf58_0 pf58_1
  refine (heldFrame_from rs0 _ _ r0.length (1) _ (mkH_of_own k6_10) hrl0 ⟨by omega, by omega⟩).mono ?_
  rintro e w11 ⟨rfl, hb11⟩
  have b11 := step_below hb11 b10
  have R2_11 := R2_10.keep hb11
  have R4_11 := R4_10.keep hb11
  have R9_11 := R9_10.keep hb11
  have v1_11 := own_keep v1_10 hb11
  have k6_11 := own_keep k6_10 hb11
  have t11 := step_below hb11 t10
  go_wp2
  go_ret
  exact ⟨rfl, b11⟩
theorem lawReadFrame_any (tx0 : ByteArray) (w : World) (hT : RdW w) (hm0 : tx0.size ≤ maxLen)  :
    Calls Tryd.prog 4 #[.string tx0] w (Says true w) := by
  rcases Nat.lt_or_ge 1048576 (tx0.size) with h0 | h0
  · exact lawReadFrame_big0 tx0 w  h0 hm0
  exact lawReadFrame_small tx0 w hT h0 hm0 
end Go.Proofs.YtmjpecneaenlpaaDoor
