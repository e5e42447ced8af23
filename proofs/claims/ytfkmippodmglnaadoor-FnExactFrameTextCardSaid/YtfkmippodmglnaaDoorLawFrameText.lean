import Derived.Test.YtfkmippodmglnaaDoorFts2
import Derived.Test.YtfkmippodmglnaaDoorFti2
import Derived.Test.YtfkmippodmglnaaDoorGao
import Derived.Test.YtfkmippodmglnaaDoorLwf
import Derived.Deep.RegionHeld3
import Derived.Deep.CutRange
namespace Go.Proofs.YtfkmippodmglnaaDoor
open Go.RowKit

set_option maxRecDepth 20000 in
set_option maxHeartbeats 1000000 in
theorem lawFrameText_big0 (s0 : Int) (A0 : Option Addr) (c0 : Nat) (l0 : List (Int × Int)) (w : World)  (hbg : 1048576 < l0.length) (hm0 : l0.length ≤ maxLen) :
    Calls Tryd.prog 6 #[.agg #[.int .i16 s0, .slice A0 l0.length c0]] w (Says true w) := by
  obtain ⟨X0, hX0⟩ : ∃ X, X = (w.alloc (.cells #[.int .i16 s0, .slice A0 l0.length c0] 47)) := ⟨_, rfl⟩
  have b0 : Below w.heap.size w X0 := by rw [hX0]; exact ((Below.refl _ _).alloc (Nat.le_refl _) _)
  have B0_0 : Bk X0 (w.heap.size) 47 #[.int .i16 s0, .slice A0 l0.length c0] := by rw [hX0]; exact Bk.new _ _ _ rfl
  have bw0 : w.heap.size < X0.heap.size := B0_0.lt
  go_enter Tryd.func6, Tryd.ntmps6
  go_upto_region 1 with fail
  rw [← hX0]
  clear hX0
  have pf7_0 := B0_0.cell (i := 0) rfl
  have pf7_1 := B0_0.cell (i := 1) rfl
  go_wp2_with fail
  clear pf7_0 pf7_1
  refine (szFrame_at_big s0 A0 l0.length c0 (1048576) (by omega) (by omega) hm0 (by omega) _).mono ?_
  rintro e w1 ⟨rfl, hb1⟩
  have b1 := step_below hb1 b0
  go_wp2
  go_ret
  exact ⟨rfl, b1⟩
set_option maxRecDepth 20000 in
set_option maxHeartbeats 4000000 in
theorem lawFrameText_small (s0 : Int) (A0 : Option Addr) (c0 : Nat) (l0 : List (Int × Int)) (w : World) (hA0 : HA w A0 l0) (hwf0 : HWF l0) (hs0 : -32768 ≤ s0 ∧ s0 ≤ 32767) (hT : PsW w) (hc0 : l0.length ≤ 1048576) (hm0 : l0.length ≤ maxLen) :
    Calls Tryd.prog 6 #[.agg #[.int .i16 s0, .slice A0 l0.length c0]] w (Says true w) := by
  have hn0 : l0.length ≤ 1048576 := by omega
  obtain ⟨r0, hr0⟩ : ∃ r : ByteArray, r = ftV s0 l0 := ⟨_, rfl⟩
  have KS : ∀ (E0 : Option Addr) (W : World), HA W E0 l0 → PsW W → Calls Tryd.prog 23 #[.agg #[.int .i16 s0, .slice E0 l0.length l0.length]] W (fun e w' => e = .returned (.string r0) ∧ Below W.heap.size W w') := fun E0 W h0 hT' => by rw [hr0]; exact specFrameText_any s0 E0 l0.length l0 W h0 hn0 hwf0 hs0
  have KI : ∀ (E0 : Option Addr) (W : World), HA W E0 l0 → PsW W → Calls Tryd.prog 25 #[.agg #[.int .i16 s0, .slice E0 l0.length l0.length]] W (fun e w' => e = .returned (.string r0) ∧ Below W.heap.size W w') := fun E0 W h0 hT' => by rw [hr0]; exact implFrameText_any s0 E0 l0.length l0 W h0 hn0 hwf0 hs0 hT'
  clear hr0
  obtain ⟨X0, hX0⟩ : ∃ X, X = (w.alloc (.cells #[.int .i16 s0, .slice A0 l0.length c0] 47)) := ⟨_, rfl⟩
  have b0 : Below w.heap.size w X0 := by rw [hX0]; exact ((Below.refl _ _).alloc (Nat.le_refl _) _)
  have B0_0 : Bk X0 (w.heap.size) 47 #[.int .i16 s0, .slice A0 l0.length c0] := by rw [hX0]; exact Bk.new _ _ _ rfl
  have bw0 : w.heap.size < X0.heap.size := B0_0.lt
  go_enter Tryd.func6, Tryd.ntmps6
  go_upto_region 1 with fail
  rw [← hX0]
  clear hX0
  have pf7_0 := B0_0.cell (i := 0) rfl
  have pf7_1 := B0_0.cell (i := 1) rfl
  go_wp2_with fail
  clear pf7_0 pf7_1
  refine (szFrame_at_small s0 A0 l0.length c0 (1048576) (by omega) (by omega) hm0 (by omega) _).mono ?_
  rintro e w1 ⟨rfl, hb1⟩
  have b1 := step_below hb1 b0
  have B0_1 := B0_0.keep hb1
  have pf12_0 := B0_1.cell (i := 0) rfl
  have pf12_1 := B0_1.cell (i := 1) rfl
  go_wp2_with fail
  clear pf12_0 pf12_1
  refine (toFrame_any s0 A0 c0 l0 _ (hA0.below b1) hn0).mono ?_
  rintro e w2 ⟨g2, rfl, hg2, own2, hb2⟩
  have b2 := step_below hb2 b1
  have B0_2 := B0_1.keep hb2
  have gl2 : g2 < w2.heap.size := (own2.lt g2 rfl).2
  have q2_2 := own2
  go_wp2_with fail
  refine (KS _ _ (HA.of_own q2_2) (hT.keep b2)).mono ?_
  rintro e w3 ⟨rfl, hb3⟩
  have b3 := step_below hb3 b2
  have B0_3 := B0_2.keep hb3
  have t3 : Below w3.heap.size w3 w3 := Below.refl _ _
  have pf15_0 := B0_3.cell (i := 0) rfl
  have pf15_1 := B0_3.cell (i := 1) rfl
  go_wp2_with fail
  clear pf15_0 pf15_1
  refine (toFrame_any s0 A0 c0 l0 _ (hA0.below b3) hn0).mono ?_
  rintro e w4 ⟨g4, rfl, hg4, own4, hb4⟩
  have b4 := step_below hb4 b3
  have B0_4 := B0_3.keep hb4
  have t4 := step_below hb4 t3
  have gl4 : g4 < w4.heap.size := (own4.lt g4 rfl).2
  have q4_4 := own4
  go_upto_region 7 with fail
  obtain ⟨w5, hX5⟩ : ∃ X, X = w4.alloc (.cells #[.int .i16 s0, .slice (some ⟨g4, 0, none⟩) l0.length l0.length] 52) := ⟨_, rfl⟩
  have hb5 : Below w4.heap.size w4 w5 := by rw [hX5]; exact (Below.refl _ _).alloc (Nat.le_refl _) _
  have K5 : Bk w5 w4.heap.size 52 #[.int .i16 s0, .slice (some ⟨g4, 0, none⟩) l0.length l0.length] := by rw [hX5]; exact Bk.new _ _ _ rfl
  rw [← hX5]
  clear hX5
  have b5 := step_below hb5 b4
  have B0_5 := B0_4.keep hb5
  have q4_5 := own_keep q4_4 hb5
  have t5 := step_below hb5 t4
  have Y0_5 := K5
  have yw0 : w4.heap.size < w5.heap.size := K5.lt
  have pf17_0 := Y0_5.cell (i := 0) rfl
  have pf17_1 := Y0_5.cell (i := 1) rfl
  go_wp2_with fail
  clear pf17_0 pf17_1
  refine (KI _ _ (HA.of_own q4_5) (hT.keep b5)).mono ?_
  rintro e w6 ⟨rfl, hb6⟩
  have b6 := step_below hb6 b5
  have B0_6 := B0_5.keep hb6
  have Y0_6 := Y0_5.keep hb6
  have q4_6 := own_keep q4_5 hb6
  have t6 := step_below hb6 t5
  go_wp2_with fail
  have hb7 : Below w6.heap.size w6 w6.drew := (Below.refl _ _).drew
  have b7 := step_below hb7 b6
  have B0_7 := B0_6.keep hb7
  have Y0_7 := Y0_6.keep hb7
  have q4_7 := own_keep q4_6 hb7
  have t7 := step_below hb7 t6
  refine wp_region_held_drew (S := fun w' => w'.cell? ⟨w4.heap.size, 0, none⟩ = some (.int .i16 s0) ∧ w'.cell? ⟨w4.heap.size, 1, none⟩ = some (.slice (some ⟨g4, 0, none⟩) l0.length l0.length) ∧ w'.cell? ⟨w.heap.size, 0, none⟩ = some (.int .i16 s0) ∧ w'.cell? ⟨w.heap.size, 1, none⟩ = some (.slice A0 l0.length c0)) (by kernel_rfl) ⟨(Y0_7.cell (i := 0) rfl), (Y0_7.cell (i := 1) rfl), (B0_7.cell (i := 0) rfl), (B0_7.cell (i := 1) rfl)⟩ fun hS7 => ?_
  refine wpAnyH_take (i := 0) (v := .agg #[.int .i16 s0, .slice (some ⟨g4, 0, none⟩) l0.length l0.length]) rfl (by kernel_rfl) (by kernel_rfl) (by kernel_rfl) (fun _ _ _ h => h) (Or.inl ⟨by rfl, fun w' h => ?_⟩) hS7 ?_
  · have c0 := h.1
    have c1 := h.2.1
    clear h
    go_simp
  simp only [Act.put, List.setIfInBounds_toArray, List.set_cons_zero, List.set_cons_succ]
  refine wpAnyH_take (i := 1) (v := .agg #[.int .i16 s0, .slice A0 l0.length c0]) rfl (by kernel_rfl) (by kernel_rfl) (by kernel_rfl) (fun _ _ _ h => h) (Or.inl ⟨by rfl, fun w' h => ?_⟩) hS7 ?_
  · have c0 := h.2.2.1
    have c1 := h.2.2.2
    clear h
    go_simp
  simp only [Act.put, List.setIfInBounds_toArray, List.set_cons_zero, List.set_cons_succ]
  refine wpAnyH_ready (rs := [2]) (by kernel_rfl) (by simp) (AllReadyH.cons rfl ?_ AllReadyH.nil)
  intro K hK
  rw [if_pos (by rfl)]
  go_simp
  refine (toFrame_any s0 A0 c0 l0 _ (hA0.below b7) hn0).mono ?_
  rintro e w8 ⟨g8, rfl, hg8, own8, hb8⟩
  have b8 := step_below hb8 b7
  have B0_8 := B0_7.keep hb8
  have Y0_8 := Y0_7.keep hb8
  have q4_8 := own_keep q4_7 hb8
  have t8 := step_below hb8 t7
  have gl8 : g8 < w8.heap.size := (own8.lt g8 rfl).2
  have q8_8 := own8
  refine hK.out _ _ ⟨(Y0_8.cell (i := 0) rfl), (Y0_8.cell (i := 1) rfl), (B0_8.cell (i := 0) rfl), (B0_8.cell (i := 1) rfl)⟩ (fun hS8 => ?_)
  clear hK K
  refine wpAnyH_ready (rs := [3]) (by kernel_rfl) (by simp) (AllReadyH.cons rfl ?_ AllReadyH.nil)
  intro K hK
  rw [if_pos (by rfl)]
  go_simp
  refine (eqFrame_any s0 _ _ _ _ l0 _ (HA.of_own q4_8) (HA.of_own q8_8) hn0).mono ?_
  rintro e w9 ⟨rfl, hb9⟩
  have b9 := step_below hb9 b8
  have B0_9 := B0_8.keep hb9
  have Y0_9 := Y0_8.keep hb9
  have q4_9 := own_keep q4_8 hb9
  have t9 := step_below hb9 t8
  refine hK.out _ _ ⟨(Y0_9.cell (i := 0) rfl), (Y0_9.cell (i := 1) rfl), (B0_9.cell (i := 0) rfl), (B0_9.cell (i := 1) rfl)⟩ (fun hS9 => ?_)
  clear hK K
  refine wpAnyH_take (i := 4) (v := .bool false) rfl (by kernel_rfl) (by kernel_rfl) (by kernel_rfl) (fun _ _ _ h => h) (Or.inl ⟨by rfl, fun w' _ => by go_simp⟩) hS9 ?_
  change wpAnyH _ _ _ _ _ _ _ (Act.put _ (some 26) _) _
  simp only [Act.put, List.setIfInBounds_toArray, List.set_cons_zero, List.set_cons_succ]
  refine wpAnyH_done (by kernel_rfl) ?_ _
  go_wp2
  go_ret
  exact ⟨rfl, b9⟩
theorem lawFrameText_any (s0 : Int) (A0 : Option Addr) (c0 : Nat) (l0 : List (Int × Int)) (w : World) (hA0 : HA w A0 l0) (hwf0 : HWF l0) (hs0 : -32768 ≤ s0 ∧ s0 ≤ 32767) (hT : PsW w) (hm0 : l0.length ≤ maxLen)  :
    Calls Tryd.prog 6 #[.agg #[.int .i16 s0, .slice A0 l0.length c0]] w (Says true w) := by
  rcases Nat.lt_or_ge 1048576 (l0.length) with h0 | h0
  · exact lawFrameText_big0 s0 A0 c0 l0 w  h0 hm0
  exact lawFrameText_small s0 A0 c0 l0 w hA0 hwf0 hs0 hT h0 hm0 
end Go.Proofs.YtfkmippodmglnaaDoor
