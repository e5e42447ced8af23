import Derived.Test.YtehcghaficbhiaaLwf
import Derived.Test.YtehcghaficbhiaaMkf
import Derived.Test.YtehcghaficbhiaaFdl
import Derived.Test.YtehcghaficbhiaaSts
import Derived.Deep.RegionHeld3
import Derived.Deep.CutRange
namespace Go.Proofs.Ytehcghaficbhiaa
open Go.RowKit

set_option maxRecDepth 20000 in
set_option maxHeartbeats 1000000 in
theorem lawSwapTracks_big0 (s0 : Int) (A0 : Option Addr) (c0 : Nat) (l0 : List (Int × Int)) (d1 : Nat → Int) (x2 : Int) (x3 : Int) (w : World)  (hbg : 1048576 < l0.length) (hm0 : l0.length ≤ maxLen) :
    Calls Try.prog 3 #[.agg #[.int .i16 s0, .slice A0 l0.length c0], .agg (da d1), .int .i64 x2, .int .i64 x3] w (Says true w) := by
  obtain ⟨X0, hX0⟩ : ∃ X, X = ((w.alloc (.cells #[.int .i16 s0, .slice A0 l0.length c0] 25)).alloc (.cells (da d1) 27)) := ⟨_, rfl⟩
  have b0 : Below w.heap.size w X0 := by rw [hX0]; exact (((Below.refl _ _).alloc (Nat.le_refl _) _).alloc (by simp) _)
  have B0_0 : Bk X0 (w.heap.size) 25 #[.int .i16 s0, .slice A0 l0.length c0] := by rw [hX0]; exact Bk.new _ _ _ rfl |>.old _
  have bw0 : w.heap.size < X0.heap.size := B0_0.lt
  have B1_0 : Bk X0 (w.heap.size + 1) 27 (da d1) := by rw [hX0]; exact Bk.new _ _ _ (by simp)
  have bw1 : w.heap.size + 1 < X0.heap.size := B1_0.lt
  go_enter Try.func3, Try.ntmps3
  go_upto_region 1 with fail
  rw [← hX0]
  clear hX0
  have pf23_ := B0_0.cell (i := 0) rfl
  have qf23_ := B0_0.cell (i := 1) rfl
  go_wp2_with fail
  clear pf23_ qf23_
  refine (szFrame_at_big s0 A0 l0.length c0 (1048576) (by omega) (by omega) hm0 (by omega) _).mono ?_
  rintro e w1 ⟨rfl, hb1⟩
  have b1 := step_below hb1 b0
  go_wp2
  go_ret
  exact ⟨rfl, b1⟩
set_option maxRecDepth 20000 in
set_option maxHeartbeats 16000000 in
theorem lawSwapTracks_small (s0 : Int) (A0 : Option Addr) (c0 : Nat) (l0 : List (Int × Int)) (d1 : Nat → Int) (x2 : Int) (x3 : Int) (w : World) (hA0 : HA w A0 l0) (hwf0 : HWF l0) (hs0 : -32768 ≤ s0 ∧ s0 ≤ 32767) (hd1 : DWF d1) (hc0 : l0.length ≤ 1048576) (hm0 : l0.length ≤ maxLen) :
    Calls Try.prog 3 #[.agg #[.int .i16 s0, .slice A0 l0.length c0], .agg (da d1), .int .i64 x2, .int .i64 x3] w (Says true w) := by
  have hn0 : l0.length ≤ 1048576 := by omega
  obtain ⟨r0, hr0⟩ : ∃ r : List (Int × Int), r = swL s0 l0 d1 x2 x3 := ⟨_, rfl⟩
  obtain ⟨r1, hr1⟩ : ∃ r : Nat → Int, r = swR s0 l0 d1 x2 x3 := ⟨_, rfl⟩
  obtain ⟨r2, hr2⟩ : ∃ r : Int, r = swC s0 l0 d1 x2 x3 := ⟨_, rfl⟩
  obtain ⟨rs0, hrs0⟩ : ∃ r : Int, r = swS s0 l0 d1 x2 x3 := ⟨_, rfl⟩
  have hrl0 : r0.length ≤ 1048576 := by rw [hr0]; exact swL_len _ _ _ _ _ hn0
  have KS : ∀ (E0 : Option Addr) (W : World), HA W E0 l0 → Calls Try.prog 6 #[.agg #[.int .i16 s0, .slice E0 l0.length l0.length], .agg (da d1), .int .i64 x2, .int .i64 x3] W (fun e w' => ∃ (C : Option Addr) (q : Nat), e = .returned (.tuple #[.agg #[.int .i16 rs0, .slice C r0.length q], .agg (da r1), .int .i64 r2]) ∧ w'.ownsRow W.heap.size 49 2 (.slice C r0.length q) r0.length (hcells r0) ∧ Below W.heap.size W w') := fun E0 W h0 => by rw [hrs0, hr0, hr1, hr2]; exact specSwapTracks_any s0 E0 l0.length l0 d1 x2 x3 W h0 hn0 hwf0 hs0 hd1  
  have KI : ∀ (E0 : Option Addr) (W : World), HA W E0 l0 → Calls Try.prog 9 #[.agg #[.int .i16 s0, .slice E0 l0.length l0.length], .agg (da d1), .int .i64 x2, .int .i64 x3] W (fun e w' => ∃ (C : Option Addr) (q : Nat), e = .returned (.tuple #[.agg #[.int .i16 rs0, .slice C r0.length q], .agg (da r1), .int .i64 r2]) ∧ w'.ownsRow W.heap.size 49 2 (.slice C r0.length q) r0.length (hcells r0) ∧ Below W.heap.size W w') := fun E0 W h0 => by rw [hrs0, hr0, hr1, hr2]; exact implSwapTracks_any s0 E0 l0.length l0 d1 x2 x3 W h0 hn0 hwf0 hs0 hd1  
  clear hrs0 hr0 hr1 hr2
  obtain ⟨X0, hX0⟩ : ∃ X, X = ((w.alloc (.cells #[.int .i16 s0, .slice A0 l0.length c0] 25)).alloc (.cells (da d1) 27)) := ⟨_, rfl⟩
  have b0 : Below w.heap.size w X0 := by rw [hX0]; exact (((Below.refl _ _).alloc (Nat.le_refl _) _).alloc (by simp) _)
  have B0_0 : Bk X0 (w.heap.size) 25 #[.int .i16 s0, .slice A0 l0.length c0] := by rw [hX0]; exact Bk.new _ _ _ rfl |>.old _
  have bw0 : w.heap.size < X0.heap.size := B0_0.lt
  have B1_0 : Bk X0 (w.heap.size + 1) 27 (da d1) := by rw [hX0]; exact Bk.new _ _ _ (by simp)
  have bw1 : w.heap.size + 1 < X0.heap.size := B1_0.lt
  go_enter Try.func3, Try.ntmps3
  go_upto_region 1 with fail
  rw [← hX0]
  clear hX0
  have pf23_ := B0_0.cell (i := 0) rfl
  have qf23_ := B0_0.cell (i := 1) rfl
  go_wp2_with fail
  clear pf23_ qf23_
  refine (szFrame_at_small s0 A0 l0.length c0 (1048576) (by omega) (by omega) hm0 (by omega) _).mono ?_
  rintro e w1 ⟨rfl, hb1⟩
  have b1 := step_below hb1 b0
  have B0_1 := B0_0.keep hb1
  have B1_1 := B1_0.keep hb1
  go_upto_region 5 with fail
  go_cut [10, 11, 12] from 28 to 38 (fun a b c wx => ∃ (g0 g1 : Nat) (C : Option Addr) (e : Nat) (W : World), a = .pointer (some ⟨g0, 0, none⟩) ∧ b = .pointer (some ⟨g1, 0, none⟩) ∧ c = .int .i64 r2 ∧ W = wx ∧ Bk W g0 31 #[.int .i16 rs0, .slice C r0.length e] ∧ Bk W g1 32 (da r1) ∧ w1.heap.size ≤ g0 ∧ w1.heap.size ≤ g1 ∧ W.ownsRow w1.heap.size 49 2 (.slice C r0.length e) r0.length (hcells r0) ∧ Below w1.heap.size w1 W)
  case first =>
    have hz := zeroDrum
    have hb2 : Below w1.heap.size w1 w1.drew := (Below.refl _ _).drew
    have tb1 : Below w1.heap.size w1 w1 := Below.refl _ _
    have b2 := step_below hb2 b1
    have B0_2 := B0_1.keep hb2
    have B1_2 := B1_1.keep hb2
    have tb2 := step_below hb2 tb1
    refine wp_region_held_drew (S := fun w' => w'.cell? ⟨w.heap.size, 0, none⟩ = some (.int .i16 s0) ∧ w'.cell? ⟨w.heap.size, 1, none⟩ = some (.slice A0 l0.length c0) ∧ w'.rangeAt (w.heap.size + 1) 0 (dv d1)) (by kernel_rfl) ⟨(B0_2.cell (i := 0) rfl), (B0_2.cell (i := 1) rfl), (show Dr w1.drew (w.heap.size + 1) 27 d1 from B1_2).range⟩ fun hS2 => ?_
    generalize w1.drew = wd2 at *
    change wpAnyH _ _ _ _ _ _ #[false, false, false, false, false, false, false, false, false, false, false, false, false, false, false, false] _ _
    apply jnFA (F := fun g0 g1 W ga C e => Bk W g0 31 #[.int .i16 0, .slice none 0 0] ∧ Bk W g1 32 (da fun _ => 0) ∧ w1.heap.size ≤ g0 ∧ w1.heap.size ≤ g1 ∧ Below w1.heap.size w1 W ∧ W.ownsRow w1.heap.size 49 2 (.slice C r0.length e) r0.length (hcells r0))
    · intro J3_
      apply jnF (F := fun g0 g1 W ga => Bk W g0 31 #[.int .i16 0, .slice none 0 0] ∧ Bk W g1 32 (da fun _ => 0) ∧ w1.heap.size ≤ g0 ∧ w1.heap.size ≤ g1 ∧ Below w1.heap.size w1 W ∧ W.ownsRow w1.heap.size 49 2 (.slice (some ⟨ga, 0, none⟩) l0.length l0.length) l0.length (hcells l0) ∧ ga < W.heap.size)
      · intro J2_
        apply jnF (F := fun g0 g1 W ga => Bk W g0 31 #[.int .i16 0, .slice none 0 0] ∧ Bk W g1 32 (da fun _ => 0) ∧ w1.heap.size ≤ g0 ∧ w1.heap.size ≤ g1 ∧ Below w1.heap.size w1 W ∧ W.ownsRow w1.heap.size 49 2 (.slice (some ⟨ga, 0, none⟩) l0.length l0.length) l0.length (hcells l0) ∧ ga < W.heap.size)
        · intro J1_
          apply jn (F := fun g0 g1 W => Bk W g0 31 #[.int .i16 0, .slice none 0 0] ∧ Bk W g1 32 (da fun _ => 0) ∧ w1.heap.size ≤ g0 ∧ w1.heap.size ≤ g1 ∧ Below w1.heap.size w1 W)
          · intro J0_
            refine wpAnyH_take (i := 0) (v := .agg #[.int .i16 s0, .slice A0 l0.length c0]) rfl (by kernel_rfl) (by kernel_rfl) (by kernel_rfl) (fun _ _ _ h => h) (Or.inl ⟨by rfl, fun w' h => ?_⟩) hS2 ?_
            · have c0 := h.1
              have c1 := h.2.1
              clear h
              go_simp
            simp only [Act.put, List.setIfInBounds_toArray, List.set_cons_zero, List.set_cons_succ]
            refine wpAnyH_take (i := 2) rfl (by kernel_rfl) (by kernel_rfl) (by kernel_rfl) (fun _ _ _ h => h) (yieldsIf_load_mid (by rfl) _ _ rfl (w.heap.size + 1) 0 rfl (dv d1) _ (fun _ h => h.2.2) Try.underlying27 rfl (infoLt d1)) hS2 ?_
            simp only [Act.put, List.setIfInBounds_toArray, List.set_cons_zero, List.set_cons_succ]
            refine wpAnyH_take (i := 4) (v := .int .i64 x2) rfl (by kernel_rfl) (by kernel_rfl) (by kernel_rfl) (fun _ _ _ h => h) (Or.inl ⟨by rfl, fun w' _ => by go_simp⟩) hS2 ?_
            change wpAnyH _ _ _ _ _ _ _ (Act.put _ (some 33) _) _
            simp only [Act.put, List.setIfInBounds_toArray, List.set_cons_zero, List.set_cons_succ]
            refine wpAnyH_take (i := 5) (v := .int .i64 x3) rfl (by kernel_rfl) (by kernel_rfl) (by kernel_rfl) (fun _ _ _ h => h) (Or.inl ⟨by rfl, fun w' _ => by go_simp⟩) hS2 ?_
            change wpAnyH _ _ _ _ _ _ _ (Act.put _ (some 34) _) _
            simp only [Act.put, List.setIfInBounds_toArray, List.set_cons_zero, List.set_cons_succ]
            refine wpAnyH_ready (rs := [1, 11, 12]) (by kernel_rfl) (by simp) (AllReadyH.cons rfl ?_ (AllReadyH.cons rfl ?_ (AllReadyH.cons rfl ?_ AllReadyH.nil)))
            · intro K hK
              rw [if_pos (by rfl)]
              go_simp
              refine (toFrame_any s0 A0 c0 l0 _ (hA0.below b2) hn0).mono ?_
              rintro e w3 ⟨g3, rfl, hg3, own3, hb3⟩
              have b3 := step_below hb3 b2
              have B0_3 := B0_2.keep hb3
              have B1_3 := B1_2.keep hb3
              have gl3 : g3 < w3.heap.size := (own3.lt g3 rfl).2
              have q3_3 := own3
              have tb3 := tb2.trans (hb3.mono tb2.size)
              refine hK.out _ _ ⟨(B0_3.cell (i := 0) rfl), (B0_3.cell (i := 1) rfl), (show Dr w3 (w.heap.size + 1) 27 d1 from B1_3).range⟩ (fun hS3 => ?_)
              clear hK K
              refine wpAnyH_ready (rs := [3, 11, 12]) (by kernel_rfl) (by simp) (AllReadyH.cons rfl ?_ (AllReadyH.cons rfl ?_ (AllReadyH.cons rfl ?_ AllReadyH.nil)))
              · intro K hK
                rw [if_pos (by rfl)]
                go_simp
                refine (toDrum_any d1 _).mono ?_
                rintro e w4 ⟨rfl, hb4⟩
                have b4 := step_below hb4 b3
                have B0_4 := B0_3.keep hb4
                have B1_4 := B1_3.keep hb4
                have q3_4 := own_keep q3_3 hb4
                have tb4 := tb3.trans (hb4.mono tb3.size)
                refine hK.out _ _ ⟨(B0_4.cell (i := 0) rfl), (B0_4.cell (i := 1) rfl), (show Dr w4 (w.heap.size + 1) 27 d1 from B1_4).range⟩ (fun hS4 => ?_)
                clear hK K
                refine wpAnyH_ready (rs := [6, 11, 12]) (by kernel_rfl) (by simp) (AllReadyH.cons rfl ?_ (AllReadyH.cons rfl ?_ (AllReadyH.cons rfl ?_ AllReadyH.nil)))
                · intro K hK
                  rw [if_pos (by rfl)]
                  go_simp
                  refine (KS _ _ (HA.of_own q3_4) ).mono ?_
                  rintro e w5 ⟨C5, e5, rfl, own5, hb5⟩
                  have b5 := step_below hb5 b4
                  have B0_5 := B0_4.keep hb5
                  have B1_5 := B1_4.keep hb5
                  have v5_5 := own5
                  have t5 : Below w5.heap.size w5 w5 := Below.refl _ _
                  have tb5 := tb4.trans (hb5.mono tb4.size)
                  have oo_5 := own_base own5 tb4.size
                  refine hK.out _ _ ⟨(B0_5.cell (i := 0) rfl), (B0_5.cell (i := 1) rfl), (show Dr w5 (w.heap.size + 1) 27 d1 from B1_5).range⟩ (fun hS5 => ?_)
                  clear hK K
                  refine wpAnyH_take (i := 7) (v := .tuple #[.agg #[.int .i16 rs0, .slice C5 r0.length e5], .agg (da r1), .int .i64 r2]) rfl (by kernel_rfl) (by kernel_rfl) (by kernel_rfl) (fun _ _ _ h => h) (Or.inl ⟨by rfl, fun w' _ => by go_simp⟩) hS5 ?_
                  change wpAnyH _ _ _ _ _ _ _ (Act.put _ (some 28) _) _
                  simp only [Act.put, List.setIfInBounds_toArray, List.set_cons_zero, List.set_cons_succ]
                  refine wpAnyH_take (i := 8) (v := .agg #[.int .i16 rs0, .slice C5 r0.length e5]) rfl (by kernel_rfl) (by kernel_rfl) (by kernel_rfl) (fun _ _ _ h => h) (Or.inl ⟨by rfl, fun w' _ => by go_simp⟩) hS5 ?_
                  change wpAnyH _ _ _ _ _ _ _ (Act.put _ (some 36) _) _
                  simp only [Act.put, List.setIfInBounds_toArray, List.set_cons_zero, List.set_cons_succ]
                  refine wpAnyH_take (i := 9) (v := .agg (da r1)) rfl (by kernel_rfl) (by kernel_rfl) (by kernel_rfl) (fun _ _ _ h => h) (Or.inl ⟨by rfl, fun w' _ => by go_simp⟩) hS5 ?_
                  change wpAnyH _ _ _ _ _ _ _ (Act.put _ (some 37) _) _
                  simp only [Act.put, List.setIfInBounds_toArray, List.set_cons_zero, List.set_cons_succ]
                  refine wpAnyH_take (i := 10) (v := .int .i64 r2) rfl (by kernel_rfl) (by kernel_rfl) (by kernel_rfl) (fun _ _ _ h => h) (Or.inl ⟨by rfl, fun w' _ => by go_simp⟩) hS5 ?_
                  change wpAnyH _ _ _ _ _ _ _ (Act.put _ (some 38) _) _
                  simp only [Act.put, List.setIfInBounds_toArray, List.set_cons_zero, List.set_cons_succ]
                  refine wpAnyH_ready (rs := [11, 12]) (by kernel_rfl) (by simp) (AllReadyH.cons rfl ?_ (AllReadyH.cons rfl ?_ AllReadyH.nil))
                  · obtain ⟨w6, hX6⟩ : ∃ X, X = w5.alloc (.cells #[.int .i16 0, .slice none 0 0] 31) := ⟨_, rfl⟩
                    have hb6 : Below w5.heap.size w5 w6 := by rw [hX6]; exact (Below.refl _ _).alloc (Nat.le_refl _) _
                    have z10_6 : Bk w6 w5.heap.size 31 #[.int .i16 0, .slice none 0 0] := by rw [hX6]; exact heap_new' _ _ _ rfl
                    have ge6 : w1.heap.size ≤ w5.heap.size := tb5.size
                    intro K hK
                    rw [if_pos (by rfl)]
                    go_simp
                    rw [← hX6]
                    clear hX6
                    obtain ⟨a6_, ha6_⟩ : ∃ g, w5.heap.size = g := ⟨_, rfl⟩
                    rw [ha6_] at z10_6
                    replace ge6 := Nat.le_trans ge6 (Nat.le_of_eq ha6_)
                    rw [ha6_]
                    clear ha6_
                    have b6 := step_below hb6 b5
                    have B0_6 := B0_5.keep hb6
                    have B1_6 := B1_5.keep hb6
                    have v5_6 := own_keep v5_5 hb6
                    have t6 := step_below hb6 t5
                    have tb6 := tb5.trans (hb6.mono tb5.size)
                    have oo_6 := own_keep oo_5 hb6
                    refine hK.out _ _ ⟨(B0_6.cell (i := 0) rfl), (B0_6.cell (i := 1) rfl), (show Dr w6 (w.heap.size + 1) 27 d1 from B1_6).range⟩ (fun hS6 => ?_)
                    clear hK K
                    refine wpAnyH_ready (rs := [12]) (by kernel_rfl) (by simp) (AllReadyH.cons rfl ?_ AllReadyH.nil)
                    obtain ⟨w7, hX7⟩ : ∃ X, X = w6.alloc (.cells za 32) := ⟨_, rfl⟩
                    have hb7 : Below w6.heap.size w6 w7 := by rw [hX7]; exact (Below.refl _ _).alloc (Nat.le_refl _) _
                    have z11_7 : Bk w7 w6.heap.size 32 (da fun _ => 0) := by rw [hX7, za_eq]; exact heap_new' _ _ _ rfl
                    have ge7 : w1.heap.size ≤ w6.heap.size := tb6.size
                    intro K hK
                    rw [if_pos (by rfl)]
                    go_simp
                    rw [← hX7]
                    clear hX7
                    obtain ⟨a7_, ha7_⟩ : ∃ g, w6.heap.size = g := ⟨_, rfl⟩
                    rw [ha7_] at z11_7
                    replace ge7 := Nat.le_trans ge7 (Nat.le_of_eq ha7_)
                    rw [ha7_]
                    clear ha7_
                    have b7 := step_below hb7 b6
                    have B0_7 := B0_6.keep hb7
                    have B1_7 := B1_6.keep hb7
                    have v5_7 := own_keep v5_6 hb7
                    have t7 := step_below hb7 t6
                    have tb7 := tb6.trans (hb7.mono tb6.size)
                    have z10_7 := z10_6.keep hb7
                    have oo_7 := own_keep oo_6 hb7
                    refine hK.out _ _ ⟨(B0_7.cell (i := 0) rfl), (B0_7.cell (i := 1) rfl), (show Dr w7 (w.heap.size + 1) 27 d1 from B1_7).range⟩ (fun hS7 => ?_)
                    clear hK K
                    try (simp only [Act.put, List.setIfInBounds_toArray, List.set_cons_zero, List.set_cons_succ])
                    exact J3_ a6_ a7_ w7 g3 C5 e5 ⟨z10_7, z11_7, ge6, ge7, tb7, oo_7⟩
                  · obtain ⟨w6, hX6⟩ : ∃ X, X = w5.alloc (.cells za 32) := ⟨_, rfl⟩
                    have hb6 : Below w5.heap.size w5 w6 := by rw [hX6]; exact (Below.refl _ _).alloc (Nat.le_refl _) _
                    have z11_6 : Bk w6 w5.heap.size 32 (da fun _ => 0) := by rw [hX6, za_eq]; exact heap_new' _ _ _ rfl
                    have ge6 : w1.heap.size ≤ w5.heap.size := tb5.size
                    intro K hK
                    rw [if_pos (by rfl)]
                    go_simp
                    rw [← hX6]
                    clear hX6
                    obtain ⟨a6_, ha6_⟩ : ∃ g, w5.heap.size = g := ⟨_, rfl⟩
                    rw [ha6_] at z11_6
                    replace ge6 := Nat.le_trans ge6 (Nat.le_of_eq ha6_)
                    rw [ha6_]
                    clear ha6_
                    have b6 := step_below hb6 b5
                    have B0_6 := B0_5.keep hb6
                    have B1_6 := B1_5.keep hb6
                    have v5_6 := own_keep v5_5 hb6
                    have t6 := step_below hb6 t5
                    have tb6 := tb5.trans (hb6.mono tb5.size)
                    have oo_6 := own_keep oo_5 hb6
                    refine hK.out _ _ ⟨(B0_6.cell (i := 0) rfl), (B0_6.cell (i := 1) rfl), (show Dr w6 (w.heap.size + 1) 27 d1 from B1_6).range⟩ (fun hS6 => ?_)
                    clear hK K
                    refine wpAnyH_ready (rs := [11]) (by kernel_rfl) (by simp) (AllReadyH.cons rfl ?_ AllReadyH.nil)
                    obtain ⟨w7, hX7⟩ : ∃ X, X = w6.alloc (.cells #[.int .i16 0, .slice none 0 0] 31) := ⟨_, rfl⟩
                    have hb7 : Below w6.heap.size w6 w7 := by rw [hX7]; exact (Below.refl _ _).alloc (Nat.le_refl _) _
                    have z10_7 : Bk w7 w6.heap.size 31 #[.int .i16 0, .slice none 0 0] := by rw [hX7]; exact heap_new' _ _ _ rfl
                    have ge7 : w1.heap.size ≤ w6.heap.size := tb6.size
                    intro K hK
                    rw [if_pos (by rfl)]
                    go_simp
                    rw [← hX7]
                    clear hX7
                    obtain ⟨a7_, ha7_⟩ : ∃ g, w6.heap.size = g := ⟨_, rfl⟩
                    rw [ha7_] at z10_7
                    replace ge7 := Nat.le_trans ge7 (Nat.le_of_eq ha7_)
                    rw [ha7_]
                    clear ha7_
                    have b7 := step_below hb7 b6
                    have B0_7 := B0_6.keep hb7
                    have B1_7 := B1_6.keep hb7
                    have v5_7 := own_keep v5_6 hb7
                    have t7 := step_below hb7 t6
                    have tb7 := tb6.trans (hb7.mono tb6.size)
                    have z11_7 := z11_6.keep hb7
                    have oo_7 := own_keep oo_6 hb7
                    refine hK.out _ _ ⟨(B0_7.cell (i := 0) rfl), (B0_7.cell (i := 1) rfl), (show Dr w7 (w.heap.size + 1) 27 d1 from B1_7).range⟩ (fun hS7 => ?_)
                    clear hK K
                    try (simp only [Act.put, List.setIfInBounds_toArray, List.set_cons_zero, List.set_cons_succ])
                    exact J3_ a7_ a6_ w7 g3 C5 e5 ⟨z10_7, z11_7, ge7, ge6, tb7, oo_7⟩
                · obtain ⟨w5, hX5⟩ : ∃ X, X = w4.alloc (.cells #[.int .i16 0, .slice none 0 0] 31) := ⟨_, rfl⟩
                  have hb5 : Below w4.heap.size w4 w5 := by rw [hX5]; exact (Below.refl _ _).alloc (Nat.le_refl _) _
                  have z10_5 : Bk w5 w4.heap.size 31 #[.int .i16 0, .slice none 0 0] := by rw [hX5]; exact heap_new' _ _ _ rfl
                  have ge5 : w1.heap.size ≤ w4.heap.size := tb4.size
                  intro K hK
                  rw [if_pos (by rfl)]
                  go_simp
                  rw [← hX5]
                  clear hX5
                  obtain ⟨a5_, ha5_⟩ : ∃ g, w4.heap.size = g := ⟨_, rfl⟩
                  rw [ha5_] at z10_5
                  replace ge5 := Nat.le_trans ge5 (Nat.le_of_eq ha5_)
                  rw [ha5_]
                  clear ha5_
                  have b5 := step_below hb5 b4
                  have B0_5 := B0_4.keep hb5
                  have B1_5 := B1_4.keep hb5
                  have q3_5 := own_keep q3_4 hb5
                  have tb5 := tb4.trans (hb5.mono tb4.size)
                  refine hK.out _ _ ⟨(B0_5.cell (i := 0) rfl), (B0_5.cell (i := 1) rfl), (show Dr w5 (w.heap.size + 1) 27 d1 from B1_5).range⟩ (fun hS5 => ?_)
                  clear hK K
                  refine wpAnyH_ready (rs := [6, 12]) (by kernel_rfl) (by simp) (AllReadyH.cons rfl ?_ (AllReadyH.cons rfl ?_ AllReadyH.nil))
                  · intro K hK
                    rw [if_pos (by rfl)]
                    go_simp
                    refine (KS _ _ (HA.of_own q3_5) ).mono ?_
                    rintro e w6 ⟨C6, e6, rfl, own6, hb6⟩
                    have b6 := step_below hb6 b5
                    have B0_6 := B0_5.keep hb6
                    have B1_6 := B1_5.keep hb6
                    have v6_6 := own6
                    have t6 : Below w6.heap.size w6 w6 := Below.refl _ _
                    have tb6 := tb5.trans (hb6.mono tb5.size)
                    have z10_6 := z10_5.keep hb6
                    have oo_6 := own_base own6 tb5.size
                    refine hK.out _ _ ⟨(B0_6.cell (i := 0) rfl), (B0_6.cell (i := 1) rfl), (show Dr w6 (w.heap.size + 1) 27 d1 from B1_6).range⟩ (fun hS6 => ?_)
                    clear hK K
                    refine wpAnyH_take (i := 7) (v := .tuple #[.agg #[.int .i16 rs0, .slice C6 r0.length e6], .agg (da r1), .int .i64 r2]) rfl (by kernel_rfl) (by kernel_rfl) (by kernel_rfl) (fun _ _ _ h => h) (Or.inl ⟨by rfl, fun w' _ => by go_simp⟩) hS6 ?_
                    change wpAnyH _ _ _ _ _ _ _ (Act.put _ (some 28) _) _
                    simp only [Act.put, List.setIfInBounds_toArray, List.set_cons_zero, List.set_cons_succ]
                    refine wpAnyH_take (i := 8) (v := .agg #[.int .i16 rs0, .slice C6 r0.length e6]) rfl (by kernel_rfl) (by kernel_rfl) (by kernel_rfl) (fun _ _ _ h => h) (Or.inl ⟨by rfl, fun w' _ => by go_simp⟩) hS6 ?_
                    change wpAnyH _ _ _ _ _ _ _ (Act.put _ (some 36) _) _
                    simp only [Act.put, List.setIfInBounds_toArray, List.set_cons_zero, List.set_cons_succ]
                    refine wpAnyH_take (i := 9) (v := .agg (da r1)) rfl (by kernel_rfl) (by kernel_rfl) (by kernel_rfl) (fun _ _ _ h => h) (Or.inl ⟨by rfl, fun w' _ => by go_simp⟩) hS6 ?_
                    change wpAnyH _ _ _ _ _ _ _ (Act.put _ (some 37) _) _
                    simp only [Act.put, List.setIfInBounds_toArray, List.set_cons_zero, List.set_cons_succ]
                    refine wpAnyH_take (i := 10) (v := .int .i64 r2) rfl (by kernel_rfl) (by kernel_rfl) (by kernel_rfl) (fun _ _ _ h => h) (Or.inl ⟨by rfl, fun w' _ => by go_simp⟩) hS6 ?_
                    change wpAnyH _ _ _ _ _ _ _ (Act.put _ (some 38) _) _
                    simp only [Act.put, List.setIfInBounds_toArray, List.set_cons_zero, List.set_cons_succ]
                    refine wpAnyH_ready (rs := [12]) (by kernel_rfl) (by simp) (AllReadyH.cons rfl ?_ AllReadyH.nil)
                    obtain ⟨w7, hX7⟩ : ∃ X, X = w6.alloc (.cells za 32) := ⟨_, rfl⟩
                    have hb7 : Below w6.heap.size w6 w7 := by rw [hX7]; exact (Below.refl _ _).alloc (Nat.le_refl _) _
                    have z11_7 : Bk w7 w6.heap.size 32 (da fun _ => 0) := by rw [hX7, za_eq]; exact heap_new' _ _ _ rfl
                    have ge7 : w1.heap.size ≤ w6.heap.size := tb6.size
                    intro K hK
                    rw [if_pos (by rfl)]
                    go_simp
                    rw [← hX7]
                    clear hX7
                    obtain ⟨a7_, ha7_⟩ : ∃ g, w6.heap.size = g := ⟨_, rfl⟩
                    rw [ha7_] at z11_7
                    replace ge7 := Nat.le_trans ge7 (Nat.le_of_eq ha7_)
                    rw [ha7_]
                    clear ha7_
                    have b7 := step_below hb7 b6
                    have B0_7 := B0_6.keep hb7
                    have B1_7 := B1_6.keep hb7
                    have v6_7 := own_keep v6_6 hb7
                    have t7 := step_below hb7 t6
                    have tb7 := tb6.trans (hb7.mono tb6.size)
                    have z10_7 := z10_6.keep hb7
                    have oo_7 := own_keep oo_6 hb7
                    refine hK.out _ _ ⟨(B0_7.cell (i := 0) rfl), (B0_7.cell (i := 1) rfl), (show Dr w7 (w.heap.size + 1) 27 d1 from B1_7).range⟩ (fun hS7 => ?_)
                    clear hK K
                    try (simp only [Act.put, List.setIfInBounds_toArray, List.set_cons_zero, List.set_cons_succ])
                    exact J3_ a5_ a7_ w7 g3 C6 e6 ⟨z10_7, z11_7, ge5, ge7, tb7, oo_7⟩
                  · obtain ⟨w6, hX6⟩ : ∃ X, X = w5.alloc (.cells za 32) := ⟨_, rfl⟩
                    have hb6 : Below w5.heap.size w5 w6 := by rw [hX6]; exact (Below.refl _ _).alloc (Nat.le_refl _) _
                    have z11_6 : Bk w6 w5.heap.size 32 (da fun _ => 0) := by rw [hX6, za_eq]; exact heap_new' _ _ _ rfl
                    have ge6 : w1.heap.size ≤ w5.heap.size := tb5.size
                    intro K hK
                    rw [if_pos (by rfl)]
                    go_simp
                    rw [← hX6]
                    clear hX6
                    obtain ⟨a6_, ha6_⟩ : ∃ g, w5.heap.size = g := ⟨_, rfl⟩
                    rw [ha6_] at z11_6
                    replace ge6 := Nat.le_trans ge6 (Nat.le_of_eq ha6_)
                    rw [ha6_]
                    clear ha6_
                    have b6 := step_below hb6 b5
                    have B0_6 := B0_5.keep hb6
                    have B1_6 := B1_5.keep hb6
                    have q3_6 := own_keep q3_5 hb6
                    have tb6 := tb5.trans (hb6.mono tb5.size)
                    have z10_6 := z10_5.keep hb6
                    refine hK.out _ _ ⟨(B0_6.cell (i := 0) rfl), (B0_6.cell (i := 1) rfl), (show Dr w6 (w.heap.size + 1) 27 d1 from B1_6).range⟩ (fun hS6 => ?_)
                    clear hK K
                    try (simp only [Act.put, List.setIfInBounds_toArray, List.set_cons_zero, List.set_cons_succ])
                    exact J2_ a5_ a6_ w6 g3 ⟨z10_6, z11_6, ge5, ge6, tb6, own_base q3_6 (Nat.le_trans tb2.size hg3), ((q3_6).lt _ rfl).2⟩
                · obtain ⟨w5, hX5⟩ : ∃ X, X = w4.alloc (.cells za 32) := ⟨_, rfl⟩
                  have hb5 : Below w4.heap.size w4 w5 := by rw [hX5]; exact (Below.refl _ _).alloc (Nat.le_refl _) _
                  have z11_5 : Bk w5 w4.heap.size 32 (da fun _ => 0) := by rw [hX5, za_eq]; exact heap_new' _ _ _ rfl
                  have ge5 : w1.heap.size ≤ w4.heap.size := tb4.size
                  intro K hK
                  rw [if_pos (by rfl)]
                  go_simp
                  rw [← hX5]
                  clear hX5
                  obtain ⟨a5_, ha5_⟩ : ∃ g, w4.heap.size = g := ⟨_, rfl⟩
                  rw [ha5_] at z11_5
                  replace ge5 := Nat.le_trans ge5 (Nat.le_of_eq ha5_)
                  rw [ha5_]
                  clear ha5_
                  have b5 := step_below hb5 b4
                  have B0_5 := B0_4.keep hb5
                  have B1_5 := B1_4.keep hb5
                  have q3_5 := own_keep q3_4 hb5
                  have tb5 := tb4.trans (hb5.mono tb4.size)
                  refine hK.out _ _ ⟨(B0_5.cell (i := 0) rfl), (B0_5.cell (i := 1) rfl), (show Dr w5 (w.heap.size + 1) 27 d1 from B1_5).range⟩ (fun hS5 => ?_)
                  clear hK K
                  refine wpAnyH_ready (rs := [6, 11]) (by kernel_rfl) (by simp) (AllReadyH.cons rfl ?_ (AllReadyH.cons rfl ?_ AllReadyH.nil))
                  · intro K hK
                    rw [if_pos (by rfl)]
                    go_simp
                    refine (KS _ _ (HA.of_own q3_5) ).mono ?_
                    rintro e w6 ⟨C6, e6, rfl, own6, hb6⟩
                    have b6 := step_below hb6 b5
                    have B0_6 := B0_5.keep hb6
                    have B1_6 := B1_5.keep hb6
                    have v6_6 := own6
                    have t6 : Below w6.heap.size w6 w6 := Below.refl _ _
                    have tb6 := tb5.trans (hb6.mono tb5.size)
                    have z11_6 := z11_5.keep hb6
                    have oo_6 := own_base own6 tb5.size
                    refine hK.out _ _ ⟨(B0_6.cell (i := 0) rfl), (B0_6.cell (i := 1) rfl), (show Dr w6 (w.heap.size + 1) 27 d1 from B1_6).range⟩ (fun hS6 => ?_)
                    clear hK K
                    refine wpAnyH_take (i := 7) (v := .tuple #[.agg #[.int .i16 rs0, .slice C6 r0.length e6], .agg (da r1), .int .i64 r2]) rfl (by kernel_rfl) (by kernel_rfl) (by kernel_rfl) (fun _ _ _ h => h) (Or.inl ⟨by rfl, fun w' _ => by go_simp⟩) hS6 ?_
                    change wpAnyH _ _ _ _ _ _ _ (Act.put _ (some 28) _) _
                    simp only [Act.put, List.setIfInBounds_toArray, List.set_cons_zero, List.set_cons_succ]
                    refine wpAnyH_take (i := 8) (v := .agg #[.int .i16 rs0, .slice C6 r0.length e6]) rfl (by kernel_rfl) (by kernel_rfl) (by kernel_rfl) (fun _ _ _ h => h) (Or.inl ⟨by rfl, fun w' _ => by go_simp⟩) hS6 ?_
                    change wpAnyH _ _ _ _ _ _ _ (Act.put _ (some 36) _) _
                    simp only [Act.put, List.setIfInBounds_toArray, List.set_cons_zero, List.set_cons_succ]
                    refine wpAnyH_take (i := 9) (v := .agg (da r1)) rfl (by kernel_rfl) (by kernel_rfl) (by kernel_rfl) (fun _ _ _ h => h) (Or.inl ⟨by rfl, fun w' _ => by go_simp⟩) hS6 ?_
                    change wpAnyH _ _ _ _ _ _ _ (Act.put _ (some 37) _) _
                    simp only [Act.put, List.setIfInBounds_toArray, List.set_cons_zero, List.set_cons_succ]
                    refine wpAnyH_take (i := 10) (v := .int .i64 r2) rfl (by kernel_rfl) (by kernel_rfl) (by kernel_rfl) (fun _ _ _ h => h) (Or.inl ⟨by rfl, fun w' _ => by go_simp⟩) hS6 ?_
                    change wpAnyH _ _ _ _ _ _ _ (Act.put _ (some 38) _) _
                    simp only [Act.put, List.setIfInBounds_toArray, List.set_cons_zero, List.set_cons_succ]
                    refine wpAnyH_ready (rs := [11]) (by kernel_rfl) (by simp) (AllReadyH.cons rfl ?_ AllReadyH.nil)
                    obtain ⟨w7, hX7⟩ : ∃ X, X = w6.alloc (.cells #[.int .i16 0, .slice none 0 0] 31) := ⟨_, rfl⟩
                    have hb7 : Below w6.heap.size w6 w7 := by rw [hX7]; exact (Below.refl _ _).alloc (Nat.le_refl _) _
                    have z10_7 : Bk w7 w6.heap.size 31 #[.int .i16 0, .slice none 0 0] := by rw [hX7]; exact heap_new' _ _ _ rfl
                    have ge7 : w1.heap.size ≤ w6.heap.size := tb6.size
                    intro K hK
                    rw [if_pos (by rfl)]
                    go_simp
                    rw [← hX7]
                    clear hX7
                    obtain ⟨a7_, ha7_⟩ : ∃ g, w6.heap.size = g := ⟨_, rfl⟩
                    rw [ha7_] at z10_7
                    replace ge7 := Nat.le_trans ge7 (Nat.le_of_eq ha7_)
                    rw [ha7_]
                    clear ha7_
                    have b7 := step_below hb7 b6
                    have B0_7 := B0_6.keep hb7
                    have B1_7 := B1_6.keep hb7
                    have v6_7 := own_keep v6_6 hb7
                    have t7 := step_below hb7 t6
                    have tb7 := tb6.trans (hb7.mono tb6.size)
                    have z11_7 := z11_6.keep hb7
                    have oo_7 := own_keep oo_6 hb7
                    refine hK.out _ _ ⟨(B0_7.cell (i := 0) rfl), (B0_7.cell (i := 1) rfl), (show Dr w7 (w.heap.size + 1) 27 d1 from B1_7).range⟩ (fun hS7 => ?_)
                    clear hK K
                    try (simp only [Act.put, List.setIfInBounds_toArray, List.set_cons_zero, List.set_cons_succ])
                    exact J3_ a7_ a5_ w7 g3 C6 e6 ⟨z10_7, z11_7, ge7, ge5, tb7, oo_7⟩
                  · obtain ⟨w6, hX6⟩ : ∃ X, X = w5.alloc (.cells #[.int .i16 0, .slice none 0 0] 31) := ⟨_, rfl⟩
                    have hb6 : Below w5.heap.size w5 w6 := by rw [hX6]; exact (Below.refl _ _).alloc (Nat.le_refl _) _
                    have z10_6 : Bk w6 w5.heap.size 31 #[.int .i16 0, .slice none 0 0] := by rw [hX6]; exact heap_new' _ _ _ rfl
                    have ge6 : w1.heap.size ≤ w5.heap.size := tb5.size
                    intro K hK
                    rw [if_pos (by rfl)]
                    go_simp
                    rw [← hX6]
                    clear hX6
                    obtain ⟨a6_, ha6_⟩ : ∃ g, w5.heap.size = g := ⟨_, rfl⟩
                    rw [ha6_] at z10_6
                    replace ge6 := Nat.le_trans ge6 (Nat.le_of_eq ha6_)
                    rw [ha6_]
                    clear ha6_
                    have b6 := step_below hb6 b5
                    have B0_6 := B0_5.keep hb6
                    have B1_6 := B1_5.keep hb6
                    have q3_6 := own_keep q3_5 hb6
                    have tb6 := tb5.trans (hb6.mono tb5.size)
                    have z11_6 := z11_5.keep hb6
                    refine hK.out _ _ ⟨(B0_6.cell (i := 0) rfl), (B0_6.cell (i := 1) rfl), (show Dr w6 (w.heap.size + 1) 27 d1 from B1_6).range⟩ (fun hS6 => ?_)
                    clear hK K
                    try (simp only [Act.put, List.setIfInBounds_toArray, List.set_cons_zero, List.set_cons_succ])
                    exact J2_ a6_ a5_ w6 g3 ⟨z10_6, z11_6, ge6, ge5, tb6, own_base q3_6 (Nat.le_trans tb2.size hg3), ((q3_6).lt _ rfl).2⟩
              · obtain ⟨w4, hX4⟩ : ∃ X, X = w3.alloc (.cells #[.int .i16 0, .slice none 0 0] 31) := ⟨_, rfl⟩
                have hb4 : Below w3.heap.size w3 w4 := by rw [hX4]; exact (Below.refl _ _).alloc (Nat.le_refl _) _
                have z10_4 : Bk w4 w3.heap.size 31 #[.int .i16 0, .slice none 0 0] := by rw [hX4]; exact heap_new' _ _ _ rfl
                have ge4 : w1.heap.size ≤ w3.heap.size := tb3.size
                intro K hK
                rw [if_pos (by rfl)]
                go_simp
                rw [← hX4]
                clear hX4
                obtain ⟨a4_, ha4_⟩ : ∃ g, w3.heap.size = g := ⟨_, rfl⟩
                rw [ha4_] at z10_4
                replace ge4 := Nat.le_trans ge4 (Nat.le_of_eq ha4_)
                rw [ha4_]
                clear ha4_
                have b4 := step_below hb4 b3
                have B0_4 := B0_3.keep hb4
                have B1_4 := B1_3.keep hb4
                have q3_4 := own_keep q3_3 hb4
                have tb4 := tb3.trans (hb4.mono tb3.size)
                refine hK.out _ _ ⟨(B0_4.cell (i := 0) rfl), (B0_4.cell (i := 1) rfl), (show Dr w4 (w.heap.size + 1) 27 d1 from B1_4).range⟩ (fun hS4 => ?_)
                clear hK K
                refine wpAnyH_ready (rs := [3, 12]) (by kernel_rfl) (by simp) (AllReadyH.cons rfl ?_ (AllReadyH.cons rfl ?_ AllReadyH.nil))
                · intro K hK
                  rw [if_pos (by rfl)]
                  go_simp
                  refine (toDrum_any d1 _).mono ?_
                  rintro e w5 ⟨rfl, hb5⟩
                  have b5 := step_below hb5 b4
                  have B0_5 := B0_4.keep hb5
                  have B1_5 := B1_4.keep hb5
                  have q3_5 := own_keep q3_4 hb5
                  have tb5 := tb4.trans (hb5.mono tb4.size)
                  have z10_5 := z10_4.keep hb5
                  refine hK.out _ _ ⟨(B0_5.cell (i := 0) rfl), (B0_5.cell (i := 1) rfl), (show Dr w5 (w.heap.size + 1) 27 d1 from B1_5).range⟩ (fun hS5 => ?_)
                  clear hK K
                  refine wpAnyH_ready (rs := [6, 12]) (by kernel_rfl) (by simp) (AllReadyH.cons rfl ?_ (AllReadyH.cons rfl ?_ AllReadyH.nil))
                  · intro K hK
                    rw [if_pos (by rfl)]
                    go_simp
                    refine (KS _ _ (HA.of_own q3_5) ).mono ?_
                    rintro e w6 ⟨C6, e6, rfl, own6, hb6⟩
                    have b6 := step_below hb6 b5
                    have B0_6 := B0_5.keep hb6
                    have B1_6 := B1_5.keep hb6
                    have v6_6 := own6
                    have t6 : Below w6.heap.size w6 w6 := Below.refl _ _
                    have tb6 := tb5.trans (hb6.mono tb5.size)
                    have z10_6 := z10_5.keep hb6
                    have oo_6 := own_base own6 tb5.size
                    refine hK.out _ _ ⟨(B0_6.cell (i := 0) rfl), (B0_6.cell (i := 1) rfl), (show Dr w6 (w.heap.size + 1) 27 d1 from B1_6).range⟩ (fun hS6 => ?_)
                    clear hK K
                    refine wpAnyH_take (i := 7) (v := .tuple #[.agg #[.int .i16 rs0, .slice C6 r0.length e6], .agg (da r1), .int .i64 r2]) rfl (by kernel_rfl) (by kernel_rfl) (by kernel_rfl) (fun _ _ _ h => h) (Or.inl ⟨by rfl, fun w' _ => by go_simp⟩) hS6 ?_
                    change wpAnyH _ _ _ _ _ _ _ (Act.put _ (some 28) _) _
                    simp only [Act.put, List.setIfInBounds_toArray, List.set_cons_zero, List.set_cons_succ]
                    refine wpAnyH_take (i := 8) (v := .agg #[.int .i16 rs0, .slice C6 r0.length e6]) rfl (by kernel_rfl) (by kernel_rfl) (by kernel_rfl) (fun _ _ _ h => h) (Or.inl ⟨by rfl, fun w' _ => by go_simp⟩) hS6 ?_
                    change wpAnyH _ _ _ _ _ _ _ (Act.put _ (some 36) _) _
                    simp only [Act.put, List.setIfInBounds_toArray, List.set_cons_zero, List.set_cons_succ]
                    refine wpAnyH_take (i := 9) (v := .agg (da r1)) rfl (by kernel_rfl) (by kernel_rfl) (by kernel_rfl) (fun _ _ _ h => h) (Or.inl ⟨by rfl, fun w' _ => by go_simp⟩) hS6 ?_
                    change wpAnyH _ _ _ _ _ _ _ (Act.put _ (some 37) _) _
                    simp only [Act.put, List.setIfInBounds_toArray, List.set_cons_zero, List.set_cons_succ]
                    refine wpAnyH_take (i := 10) (v := .int .i64 r2) rfl (by kernel_rfl) (by kernel_rfl) (by kernel_rfl) (fun _ _ _ h => h) (Or.inl ⟨by rfl, fun w' _ => by go_simp⟩) hS6 ?_
                    change wpAnyH _ _ _ _ _ _ _ (Act.put _ (some 38) _) _
                    simp only [Act.put, List.setIfInBounds_toArray, List.set_cons_zero, List.set_cons_succ]
                    refine wpAnyH_ready (rs := [12]) (by kernel_rfl) (by simp) (AllReadyH.cons rfl ?_ AllReadyH.nil)
                    obtain ⟨w7, hX7⟩ : ∃ X, X = w6.alloc (.cells za 32) := ⟨_, rfl⟩
                    have hb7 : Below w6.heap.size w6 w7 := by rw [hX7]; exact (Below.refl _ _).alloc (Nat.le_refl _) _
                    have z11_7 : Bk w7 w6.heap.size 32 (da fun _ => 0) := by rw [hX7, za_eq]; exact heap_new' _ _ _ rfl
                    have ge7 : w1.heap.size ≤ w6.heap.size := tb6.size
                    intro K hK
                    rw [if_pos (by rfl)]
                    go_simp
                    rw [← hX7]
                    clear hX7
                    obtain ⟨a7_, ha7_⟩ : ∃ g, w6.heap.size = g := ⟨_, rfl⟩
                    rw [ha7_] at z11_7
                    replace ge7 := Nat.le_trans ge7 (Nat.le_of_eq ha7_)
                    rw [ha7_]
                    clear ha7_
                    have b7 := step_below hb7 b6
                    have B0_7 := B0_6.keep hb7
                    have B1_7 := B1_6.keep hb7
                    have v6_7 := own_keep v6_6 hb7
                    have t7 := step_below hb7 t6
                    have tb7 := tb6.trans (hb7.mono tb6.size)
                    have z10_7 := z10_6.keep hb7
                    have oo_7 := own_keep oo_6 hb7
                    refine hK.out _ _ ⟨(B0_7.cell (i := 0) rfl), (B0_7.cell (i := 1) rfl), (show Dr w7 (w.heap.size + 1) 27 d1 from B1_7).range⟩ (fun hS7 => ?_)
                    clear hK K
                    try (simp only [Act.put, List.setIfInBounds_toArray, List.set_cons_zero, List.set_cons_succ])
                    exact J3_ a4_ a7_ w7 g3 C6 e6 ⟨z10_7, z11_7, ge4, ge7, tb7, oo_7⟩
                  · obtain ⟨w6, hX6⟩ : ∃ X, X = w5.alloc (.cells za 32) := ⟨_, rfl⟩
                    have hb6 : Below w5.heap.size w5 w6 := by rw [hX6]; exact (Below.refl _ _).alloc (Nat.le_refl _) _
                    have z11_6 : Bk w6 w5.heap.size 32 (da fun _ => 0) := by rw [hX6, za_eq]; exact heap_new' _ _ _ rfl
                    have ge6 : w1.heap.size ≤ w5.heap.size := tb5.size
                    intro K hK
                    rw [if_pos (by rfl)]
                    go_simp
                    rw [← hX6]
                    clear hX6
                    obtain ⟨a6_, ha6_⟩ : ∃ g, w5.heap.size = g := ⟨_, rfl⟩
                    rw [ha6_] at z11_6
                    replace ge6 := Nat.le_trans ge6 (Nat.le_of_eq ha6_)
                    rw [ha6_]
                    clear ha6_
                    have b6 := step_below hb6 b5
                    have B0_6 := B0_5.keep hb6
                    have B1_6 := B1_5.keep hb6
                    have q3_6 := own_keep q3_5 hb6
                    have tb6 := tb5.trans (hb6.mono tb5.size)
                    have z10_6 := z10_5.keep hb6
                    refine hK.out _ _ ⟨(B0_6.cell (i := 0) rfl), (B0_6.cell (i := 1) rfl), (show Dr w6 (w.heap.size + 1) 27 d1 from B1_6).range⟩ (fun hS6 => ?_)
                    clear hK K
                    try (simp only [Act.put, List.setIfInBounds_toArray, List.set_cons_zero, List.set_cons_succ])
                    exact J2_ a4_ a6_ w6 g3 ⟨z10_6, z11_6, ge4, ge6, tb6, own_base q3_6 (Nat.le_trans tb2.size hg3), ((q3_6).lt _ rfl).2⟩
                · obtain ⟨w5, hX5⟩ : ∃ X, X = w4.alloc (.cells za 32) := ⟨_, rfl⟩
                  have hb5 : Below w4.heap.size w4 w5 := by rw [hX5]; exact (Below.refl _ _).alloc (Nat.le_refl _) _
                  have z11_5 : Bk w5 w4.heap.size 32 (da fun _ => 0) := by rw [hX5, za_eq]; exact heap_new' _ _ _ rfl
                  have ge5 : w1.heap.size ≤ w4.heap.size := tb4.size
                  intro K hK
                  rw [if_pos (by rfl)]
                  go_simp
                  rw [← hX5]
                  clear hX5
                  obtain ⟨a5_, ha5_⟩ : ∃ g, w4.heap.size = g := ⟨_, rfl⟩
                  rw [ha5_] at z11_5
                  replace ge5 := Nat.le_trans ge5 (Nat.le_of_eq ha5_)
                  rw [ha5_]
                  clear ha5_
                  have b5 := step_below hb5 b4
                  have B0_5 := B0_4.keep hb5
                  have B1_5 := B1_4.keep hb5
                  have q3_5 := own_keep q3_4 hb5
                  have tb5 := tb4.trans (hb5.mono tb4.size)
                  have z10_5 := z10_4.keep hb5
                  refine hK.out _ _ ⟨(B0_5.cell (i := 0) rfl), (B0_5.cell (i := 1) rfl), (show Dr w5 (w.heap.size + 1) 27 d1 from B1_5).range⟩ (fun hS5 => ?_)
                  clear hK K
                  try (simp only [Act.put, List.setIfInBounds_toArray, List.set_cons_zero, List.set_cons_succ])
                  exact J1_ a4_ a5_ w5 g3 ⟨z10_5, z11_5, ge4, ge5, tb5, own_base q3_5 (Nat.le_trans tb2.size hg3), ((q3_5).lt _ rfl).2⟩
              · obtain ⟨w4, hX4⟩ : ∃ X, X = w3.alloc (.cells za 32) := ⟨_, rfl⟩
                have hb4 : Below w3.heap.size w3 w4 := by rw [hX4]; exact (Below.refl _ _).alloc (Nat.le_refl _) _
                have z11_4 : Bk w4 w3.heap.size 32 (da fun _ => 0) := by rw [hX4, za_eq]; exact heap_new' _ _ _ rfl
                have ge4 : w1.heap.size ≤ w3.heap.size := tb3.size
                intro K hK
                rw [if_pos (by rfl)]
                go_simp
                rw [← hX4]
                clear hX4
                obtain ⟨a4_, ha4_⟩ : ∃ g, w3.heap.size = g := ⟨_, rfl⟩
                rw [ha4_] at z11_4
                replace ge4 := Nat.le_trans ge4 (Nat.le_of_eq ha4_)
                rw [ha4_]
                clear ha4_
                have b4 := step_below hb4 b3
                have B0_4 := B0_3.keep hb4
                have B1_4 := B1_3.keep hb4
                have q3_4 := own_keep q3_3 hb4
                have tb4 := tb3.trans (hb4.mono tb3.size)
                refine hK.out _ _ ⟨(B0_4.cell (i := 0) rfl), (B0_4.cell (i := 1) rfl), (show Dr w4 (w.heap.size + 1) 27 d1 from B1_4).range⟩ (fun hS4 => ?_)
                clear hK K
                refine wpAnyH_ready (rs := [3, 11]) (by kernel_rfl) (by simp) (AllReadyH.cons rfl ?_ (AllReadyH.cons rfl ?_ AllReadyH.nil))
                · intro K hK
                  rw [if_pos (by rfl)]
                  go_simp
                  refine (toDrum_any d1 _).mono ?_
                  rintro e w5 ⟨rfl, hb5⟩
                  have b5 := step_below hb5 b4
                  have B0_5 := B0_4.keep hb5
                  have B1_5 := B1_4.keep hb5
                  have q3_5 := own_keep q3_4 hb5
                  have tb5 := tb4.trans (hb5.mono tb4.size)
                  have z11_5 := z11_4.keep hb5
                  refine hK.out _ _ ⟨(B0_5.cell (i := 0) rfl), (B0_5.cell (i := 1) rfl), (show Dr w5 (w.heap.size + 1) 27 d1 from B1_5).range⟩ (fun hS5 => ?_)
                  clear hK K
                  refine wpAnyH_ready (rs := [6, 11]) (by kernel_rfl) (by simp) (AllReadyH.cons rfl ?_ (AllReadyH.cons rfl ?_ AllReadyH.nil))
                  · intro K hK
                    rw [if_pos (by rfl)]
                    go_simp
                    refine (KS _ _ (HA.of_own q3_5) ).mono ?_
                    rintro e w6 ⟨C6, e6, rfl, own6, hb6⟩
                    have b6 := step_below hb6 b5
                    have B0_6 := B0_5.keep hb6
                    have B1_6 := B1_5.keep hb6
                    have v6_6 := own6
                    have t6 : Below w6.heap.size w6 w6 := Below.refl _ _
                    have tb6 := tb5.trans (hb6.mono tb5.size)
                    have z11_6 := z11_5.keep hb6
                    have oo_6 := own_base own6 tb5.size
                    refine hK.out _ _ ⟨(B0_6.cell (i := 0) rfl), (B0_6.cell (i := 1) rfl), (show Dr w6 (w.heap.size + 1) 27 d1 from B1_6).range⟩ (fun hS6 => ?_)
                    clear hK K
                    refine wpAnyH_take (i := 7) (v := .tuple #[.agg #[.int .i16 rs0, .slice C6 r0.length e6], .agg (da r1), .int .i64 r2]) rfl (by kernel_rfl) (by kernel_rfl) (by kernel_rfl) (fun _ _ _ h => h) (Or.inl ⟨by rfl, fun w' _ => by go_simp⟩) hS6 ?_
                    change wpAnyH _ _ _ _ _ _ _ (Act.put _ (some 28) _) _
                    simp only [Act.put, List.setIfInBounds_toArray, List.set_cons_zero, List.set_cons_succ]
                    refine wpAnyH_take (i := 8) (v := .agg #[.int .i16 rs0, .slice C6 r0.length e6]) rfl (by kernel_rfl) (by kernel_rfl) (by kernel_rfl) (fun _ _ _ h => h) (Or.inl ⟨by rfl, fun w' _ => by go_simp⟩) hS6 ?_
                    change wpAnyH _ _ _ _ _ _ _ (Act.put _ (some 36) _) _
                    simp only [Act.put, List.setIfInBounds_toArray, List.set_cons_zero, List.set_cons_succ]
                    refine wpAnyH_take (i := 9) (v := .agg (da r1)) rfl (by kernel_rfl) (by kernel_rfl) (by kernel_rfl) (fun _ _ _ h => h) (Or.inl ⟨by rfl, fun w' _ => by go_simp⟩) hS6 ?_
                    change wpAnyH _ _ _ _ _ _ _ (Act.put _ (some 37) _) _
                    simp only [Act.put, List.setIfInBounds_toArray, List.set_cons_zero, List.set_cons_succ]
                    refine wpAnyH_take (i := 10) (v := .int .i64 r2) rfl (by kernel_rfl) (by kernel_rfl) (by kernel_rfl) (fun _ _ _ h => h) (Or.inl ⟨by rfl, fun w' _ => by go_simp⟩) hS6 ?_
                    change wpAnyH _ _ _ _ _ _ _ (Act.put _ (some 38) _) _
                    simp only [Act.put, List.setIfInBounds_toArray, List.set_cons_zero, List.set_cons_succ]
                    refine wpAnyH_ready (rs := [11]) (by kernel_rfl) (by simp) (AllReadyH.cons rfl ?_ AllReadyH.nil)
                    obtain ⟨w7, hX7⟩ : ∃ X, X = w6.alloc (.cells #[.int .i16 0, .slice none 0 0] 31) := ⟨_, rfl⟩
                    have hb7 : Below w6.heap.size w6 w7 := by rw [hX7]; exact (Below.refl _ _).alloc (Nat.le_refl _) _
                    have z10_7 : Bk w7 w6.heap.size 31 #[.int .i16 0, .slice none 0 0] := by rw [hX7]; exact heap_new' _ _ _ rfl
                    have ge7 : w1.heap.size ≤ w6.heap.size := tb6.size
                    intro K hK
                    rw [if_pos (by rfl)]
                    go_simp
                    rw [← hX7]
                    clear hX7
                    obtain ⟨a7_, ha7_⟩ : ∃ g, w6.heap.size = g := ⟨_, rfl⟩
                    rw [ha7_] at z10_7
                    replace ge7 := Nat.le_trans ge7 (Nat.le_of_eq ha7_)
                    rw [ha7_]
                    clear ha7_
                    have b7 := step_below hb7 b6
                    have B0_7 := B0_6.keep hb7
                    have B1_7 := B1_6.keep hb7
                    have v6_7 := own_keep v6_6 hb7
                    have t7 := step_below hb7 t6
                    have tb7 := tb6.trans (hb7.mono tb6.size)
                    have z11_7 := z11_6.keep hb7
                    have oo_7 := own_keep oo_6 hb7
                    refine hK.out _ _ ⟨(B0_7.cell (i := 0) rfl), (B0_7.cell (i := 1) rfl), (show Dr w7 (w.heap.size + 1) 27 d1 from B1_7).range⟩ (fun hS7 => ?_)
                    clear hK K
                    try (simp only [Act.put, List.setIfInBounds_toArray, List.set_cons_zero, List.set_cons_succ])
                    exact J3_ a7_ a4_ w7 g3 C6 e6 ⟨z10_7, z11_7, ge7, ge4, tb7, oo_7⟩
                  · obtain ⟨w6, hX6⟩ : ∃ X, X = w5.alloc (.cells #[.int .i16 0, .slice none 0 0] 31) := ⟨_, rfl⟩
                    have hb6 : Below w5.heap.size w5 w6 := by rw [hX6]; exact (Below.refl _ _).alloc (Nat.le_refl _) _
                    have z10_6 : Bk w6 w5.heap.size 31 #[.int .i16 0, .slice none 0 0] := by rw [hX6]; exact heap_new' _ _ _ rfl
                    have ge6 : w1.heap.size ≤ w5.heap.size := tb5.size
                    intro K hK
                    rw [if_pos (by rfl)]
                    go_simp
                    rw [← hX6]
                    clear hX6
                    obtain ⟨a6_, ha6_⟩ : ∃ g, w5.heap.size = g := ⟨_, rfl⟩
                    rw [ha6_] at z10_6
                    replace ge6 := Nat.le_trans ge6 (Nat.le_of_eq ha6_)
                    rw [ha6_]
                    clear ha6_
                    have b6 := step_below hb6 b5
                    have B0_6 := B0_5.keep hb6
                    have B1_6 := B1_5.keep hb6
                    have q3_6 := own_keep q3_5 hb6
                    have tb6 := tb5.trans (hb6.mono tb5.size)
                    have z11_6 := z11_5.keep hb6
                    refine hK.out _ _ ⟨(B0_6.cell (i := 0) rfl), (B0_6.cell (i := 1) rfl), (show Dr w6 (w.heap.size + 1) 27 d1 from B1_6).range⟩ (fun hS6 => ?_)
                    clear hK K
                    try (simp only [Act.put, List.setIfInBounds_toArray, List.set_cons_zero, List.set_cons_succ])
                    exact J2_ a6_ a4_ w6 g3 ⟨z10_6, z11_6, ge6, ge4, tb6, own_base q3_6 (Nat.le_trans tb2.size hg3), ((q3_6).lt _ rfl).2⟩
                · obtain ⟨w5, hX5⟩ : ∃ X, X = w4.alloc (.cells #[.int .i16 0, .slice none 0 0] 31) := ⟨_, rfl⟩
                  have hb5 : Below w4.heap.size w4 w5 := by rw [hX5]; exact (Below.refl _ _).alloc (Nat.le_refl _) _
                  have z10_5 : Bk w5 w4.heap.size 31 #[.int .i16 0, .slice none 0 0] := by rw [hX5]; exact heap_new' _ _ _ rfl
                  have ge5 : w1.heap.size ≤ w4.heap.size := tb4.size
                  intro K hK
                  rw [if_pos (by rfl)]
                  go_simp
                  rw [← hX5]
                  clear hX5
                  obtain ⟨a5_, ha5_⟩ : ∃ g, w4.heap.size = g := ⟨_, rfl⟩
                  rw [ha5_] at z10_5
                  replace ge5 := Nat.le_trans ge5 (Nat.le_of_eq ha5_)
                  rw [ha5_]
                  clear ha5_
                  have b5 := step_below hb5 b4
                  have B0_5 := B0_4.keep hb5
                  have B1_5 := B1_4.keep hb5
                  have q3_5 := own_keep q3_4 hb5
                  have tb5 := tb4.trans (hb5.mono tb4.size)
                  have z11_5 := z11_4.keep hb5
                  refine hK.out _ _ ⟨(B0_5.cell (i := 0) rfl), (B0_5.cell (i := 1) rfl), (show Dr w5 (w.heap.size + 1) 27 d1 from B1_5).range⟩ (fun hS5 => ?_)
                  clear hK K
                  try (simp only [Act.put, List.setIfInBounds_toArray, List.set_cons_zero, List.set_cons_succ])
                  exact J1_ a5_ a4_ w5 g3 ⟨z10_5, z11_5, ge5, ge4, tb5, own_base q3_5 (Nat.le_trans tb2.size hg3), ((q3_5).lt _ rfl).2⟩
            · obtain ⟨w3, hX3⟩ : ∃ X, X = wd2.alloc (.cells #[.int .i16 0, .slice none 0 0] 31) := ⟨_, rfl⟩
              have hb3 : Below wd2.heap.size wd2 w3 := by rw [hX3]; exact (Below.refl _ _).alloc (Nat.le_refl _) _
              have z10_3 : Bk w3 wd2.heap.size 31 #[.int .i16 0, .slice none 0 0] := by rw [hX3]; exact heap_new' _ _ _ rfl
              have ge3 : w1.heap.size ≤ wd2.heap.size := tb2.size
              intro K hK
              rw [if_pos (by rfl)]
              go_simp
              rw [← hX3]
              clear hX3
              obtain ⟨a3_, ha3_⟩ : ∃ g, wd2.heap.size = g := ⟨_, rfl⟩
              rw [ha3_] at z10_3
              replace ge3 := Nat.le_trans ge3 (Nat.le_of_eq ha3_)
              rw [ha3_]
              clear ha3_
              have b3 := step_below hb3 b2
              have B0_3 := B0_2.keep hb3
              have B1_3 := B1_2.keep hb3
              have tb3 := tb2.trans (hb3.mono tb2.size)
              refine hK.out _ _ ⟨(B0_3.cell (i := 0) rfl), (B0_3.cell (i := 1) rfl), (show Dr w3 (w.heap.size + 1) 27 d1 from B1_3).range⟩ (fun hS3 => ?_)
              clear hK K
              refine wpAnyH_ready (rs := [1, 12]) (by kernel_rfl) (by simp) (AllReadyH.cons rfl ?_ (AllReadyH.cons rfl ?_ AllReadyH.nil))
              · intro K hK
                rw [if_pos (by rfl)]
                go_simp
                refine (toFrame_any s0 A0 c0 l0 _ (hA0.below b3) hn0).mono ?_
                rintro e w4 ⟨g4, rfl, hg4, own4, hb4⟩
                have b4 := step_below hb4 b3
                have B0_4 := B0_3.keep hb4
                have B1_4 := B1_3.keep hb4
                have gl4 : g4 < w4.heap.size := (own4.lt g4 rfl).2
                have q4_4 := own4
                have tb4 := tb3.trans (hb4.mono tb3.size)
                have z10_4 := z10_3.keep hb4
                refine hK.out _ _ ⟨(B0_4.cell (i := 0) rfl), (B0_4.cell (i := 1) rfl), (show Dr w4 (w.heap.size + 1) 27 d1 from B1_4).range⟩ (fun hS4 => ?_)
                clear hK K
                refine wpAnyH_ready (rs := [3, 12]) (by kernel_rfl) (by simp) (AllReadyH.cons rfl ?_ (AllReadyH.cons rfl ?_ AllReadyH.nil))
                · intro K hK
                  rw [if_pos (by rfl)]
                  go_simp
                  refine (toDrum_any d1 _).mono ?_
                  rintro e w5 ⟨rfl, hb5⟩
                  have b5 := step_below hb5 b4
                  have B0_5 := B0_4.keep hb5
                  have B1_5 := B1_4.keep hb5
                  have q4_5 := own_keep q4_4 hb5
                  have tb5 := tb4.trans (hb5.mono tb4.size)
                  have z10_5 := z10_4.keep hb5
                  refine hK.out _ _ ⟨(B0_5.cell (i := 0) rfl), (B0_5.cell (i := 1) rfl), (show Dr w5 (w.heap.size + 1) 27 d1 from B1_5).range⟩ (fun hS5 => ?_)
                  clear hK K
                  refine wpAnyH_ready (rs := [6, 12]) (by kernel_rfl) (by simp) (AllReadyH.cons rfl ?_ (AllReadyH.cons rfl ?_ AllReadyH.nil))
                  · intro K hK
                    rw [if_pos (by rfl)]
                    go_simp
                    refine (KS _ _ (HA.of_own q4_5) ).mono ?_
                    rintro e w6 ⟨C6, e6, rfl, own6, hb6⟩
                    have b6 := step_below hb6 b5
                    have B0_6 := B0_5.keep hb6
                    have B1_6 := B1_5.keep hb6
                    have v6_6 := own6
                    have t6 : Below w6.heap.size w6 w6 := Below.refl _ _
                    have tb6 := tb5.trans (hb6.mono tb5.size)
                    have z10_6 := z10_5.keep hb6
                    have oo_6 := own_base own6 tb5.size
                    refine hK.out _ _ ⟨(B0_6.cell (i := 0) rfl), (B0_6.cell (i := 1) rfl), (show Dr w6 (w.heap.size + 1) 27 d1 from B1_6).range⟩ (fun hS6 => ?_)
                    clear hK K
                    refine wpAnyH_take (i := 7) (v := .tuple #[.agg #[.int .i16 rs0, .slice C6 r0.length e6], .agg (da r1), .int .i64 r2]) rfl (by kernel_rfl) (by kernel_rfl) (by kernel_rfl) (fun _ _ _ h => h) (Or.inl ⟨by rfl, fun w' _ => by go_simp⟩) hS6 ?_
                    change wpAnyH _ _ _ _ _ _ _ (Act.put _ (some 28) _) _
                    simp only [Act.put, List.setIfInBounds_toArray, List.set_cons_zero, List.set_cons_succ]
                    refine wpAnyH_take (i := 8) (v := .agg #[.int .i16 rs0, .slice C6 r0.length e6]) rfl (by kernel_rfl) (by kernel_rfl) (by kernel_rfl) (fun _ _ _ h => h) (Or.inl ⟨by rfl, fun w' _ => by go_simp⟩) hS6 ?_
                    change wpAnyH _ _ _ _ _ _ _ (Act.put _ (some 36) _) _
                    simp only [Act.put, List.setIfInBounds_toArray, List.set_cons_zero, List.set_cons_succ]
                    refine wpAnyH_take (i := 9) (v := .agg (da r1)) rfl (by kernel_rfl) (by kernel_rfl) (by kernel_rfl) (fun _ _ _ h => h) (Or.inl ⟨by rfl, fun w' _ => by go_simp⟩) hS6 ?_
                    change wpAnyH _ _ _ _ _ _ _ (Act.put _ (some 37) _) _
                    simp only [Act.put, List.setIfInBounds_toArray, List.set_cons_zero, List.set_cons_succ]
                    refine wpAnyH_take (i := 10) (v := .int .i64 r2) rfl (by kernel_rfl) (by kernel_rfl) (by kernel_rfl) (fun _ _ _ h => h) (Or.inl ⟨by rfl, fun w' _ => by go_simp⟩) hS6 ?_
                    change wpAnyH _ _ _ _ _ _ _ (Act.put _ (some 38) _) _
                    simp only [Act.put, List.setIfInBounds_toArray, List.set_cons_zero, List.set_cons_succ]
                    refine wpAnyH_ready (rs := [12]) (by kernel_rfl) (by simp) (AllReadyH.cons rfl ?_ AllReadyH.nil)
                    obtain ⟨w7, hX7⟩ : ∃ X, X = w6.alloc (.cells za 32) := ⟨_, rfl⟩
                    have hb7 : Below w6.heap.size w6 w7 := by rw [hX7]; exact (Below.refl _ _).alloc (Nat.le_refl _) _
                    have z11_7 : Bk w7 w6.heap.size 32 (da fun _ => 0) := by rw [hX7, za_eq]; exact heap_new' _ _ _ rfl
                    have ge7 : w1.heap.size ≤ w6.heap.size := tb6.size
                    intro K hK
                    rw [if_pos (by rfl)]
                    go_simp
                    rw [← hX7]
                    clear hX7
                    obtain ⟨a7_, ha7_⟩ : ∃ g, w6.heap.size = g := ⟨_, rfl⟩
                    rw [ha7_] at z11_7
                    replace ge7 := Nat.le_trans ge7 (Nat.le_of_eq ha7_)
                    rw [ha7_]
                    clear ha7_
                    have b7 := step_below hb7 b6
                    have B0_7 := B0_6.keep hb7
                    have B1_7 := B1_6.keep hb7
                    have v6_7 := own_keep v6_6 hb7
                    have t7 := step_below hb7 t6
                    have tb7 := tb6.trans (hb7.mono tb6.size)
                    have z10_7 := z10_6.keep hb7
                    have oo_7 := own_keep oo_6 hb7
                    refine hK.out _ _ ⟨(B0_7.cell (i := 0) rfl), (B0_7.cell (i := 1) rfl), (show Dr w7 (w.heap.size + 1) 27 d1 from B1_7).range⟩ (fun hS7 => ?_)
                    clear hK K
                    try (simp only [Act.put, List.setIfInBounds_toArray, List.set_cons_zero, List.set_cons_succ])
                    exact J3_ a3_ a7_ w7 g4 C6 e6 ⟨z10_7, z11_7, ge3, ge7, tb7, oo_7⟩
                  · obtain ⟨w6, hX6⟩ : ∃ X, X = w5.alloc (.cells za 32) := ⟨_, rfl⟩
                    have hb6 : Below w5.heap.size w5 w6 := by rw [hX6]; exact (Below.refl _ _).alloc (Nat.le_refl _) _
                    have z11_6 : Bk w6 w5.heap.size 32 (da fun _ => 0) := by rw [hX6, za_eq]; exact heap_new' _ _ _ rfl
                    have ge6 : w1.heap.size ≤ w5.heap.size := tb5.size
                    intro K hK
                    rw [if_pos (by rfl)]
                    go_simp
                    rw [← hX6]
                    clear hX6
                    obtain ⟨a6_, ha6_⟩ : ∃ g, w5.heap.size = g := ⟨_, rfl⟩
                    rw [ha6_] at z11_6
                    replace ge6 := Nat.le_trans ge6 (Nat.le_of_eq ha6_)
                    rw [ha6_]
                    clear ha6_
                    have b6 := step_below hb6 b5
                    have B0_6 := B0_5.keep hb6
                    have B1_6 := B1_5.keep hb6
                    have q4_6 := own_keep q4_5 hb6
                    have tb6 := tb5.trans (hb6.mono tb5.size)
                    have z10_6 := z10_5.keep hb6
                    refine hK.out _ _ ⟨(B0_6.cell (i := 0) rfl), (B0_6.cell (i := 1) rfl), (show Dr w6 (w.heap.size + 1) 27 d1 from B1_6).range⟩ (fun hS6 => ?_)
                    clear hK K
                    try (simp only [Act.put, List.setIfInBounds_toArray, List.set_cons_zero, List.set_cons_succ])
                    exact J2_ a3_ a6_ w6 g4 ⟨z10_6, z11_6, ge3, ge6, tb6, own_base q4_6 (Nat.le_trans tb3.size hg4), ((q4_6).lt _ rfl).2⟩
                · obtain ⟨w5, hX5⟩ : ∃ X, X = w4.alloc (.cells za 32) := ⟨_, rfl⟩
                  have hb5 : Below w4.heap.size w4 w5 := by rw [hX5]; exact (Below.refl _ _).alloc (Nat.le_refl _) _
                  have z11_5 : Bk w5 w4.heap.size 32 (da fun _ => 0) := by rw [hX5, za_eq]; exact heap_new' _ _ _ rfl
                  have ge5 : w1.heap.size ≤ w4.heap.size := tb4.size
                  intro K hK
                  rw [if_pos (by rfl)]
                  go_simp
                  rw [← hX5]
                  clear hX5
                  obtain ⟨a5_, ha5_⟩ : ∃ g, w4.heap.size = g := ⟨_, rfl⟩
                  rw [ha5_] at z11_5
                  replace ge5 := Nat.le_trans ge5 (Nat.le_of_eq ha5_)
                  rw [ha5_]
                  clear ha5_
                  have b5 := step_below hb5 b4
                  have B0_5 := B0_4.keep hb5
                  have B1_5 := B1_4.keep hb5
                  have q4_5 := own_keep q4_4 hb5
                  have tb5 := tb4.trans (hb5.mono tb4.size)
                  have z10_5 := z10_4.keep hb5
                  refine hK.out _ _ ⟨(B0_5.cell (i := 0) rfl), (B0_5.cell (i := 1) rfl), (show Dr w5 (w.heap.size + 1) 27 d1 from B1_5).range⟩ (fun hS5 => ?_)
                  clear hK K
                  try (simp only [Act.put, List.setIfInBounds_toArray, List.set_cons_zero, List.set_cons_succ])
                  exact J1_ a3_ a5_ w5 g4 ⟨z10_5, z11_5, ge3, ge5, tb5, own_base q4_5 (Nat.le_trans tb3.size hg4), ((q4_5).lt _ rfl).2⟩
              · obtain ⟨w4, hX4⟩ : ∃ X, X = w3.alloc (.cells za 32) := ⟨_, rfl⟩
                have hb4 : Below w3.heap.size w3 w4 := by rw [hX4]; exact (Below.refl _ _).alloc (Nat.le_refl _) _
                have z11_4 : Bk w4 w3.heap.size 32 (da fun _ => 0) := by rw [hX4, za_eq]; exact heap_new' _ _ _ rfl
                have ge4 : w1.heap.size ≤ w3.heap.size := tb3.size
                intro K hK
                rw [if_pos (by rfl)]
                go_simp
                rw [← hX4]
                clear hX4
                obtain ⟨a4_, ha4_⟩ : ∃ g, w3.heap.size = g := ⟨_, rfl⟩
                rw [ha4_] at z11_4
                replace ge4 := Nat.le_trans ge4 (Nat.le_of_eq ha4_)
                rw [ha4_]
                clear ha4_
                have b4 := step_below hb4 b3
                have B0_4 := B0_3.keep hb4
                have B1_4 := B1_3.keep hb4
                have tb4 := tb3.trans (hb4.mono tb3.size)
                have z10_4 := z10_3.keep hb4
                refine hK.out _ _ ⟨(B0_4.cell (i := 0) rfl), (B0_4.cell (i := 1) rfl), (show Dr w4 (w.heap.size + 1) 27 d1 from B1_4).range⟩ (fun hS4 => ?_)
                clear hK K
                try (simp only [Act.put, List.setIfInBounds_toArray, List.set_cons_zero, List.set_cons_succ])
                exact J0_ a3_ a4_ w4 ⟨z10_4, z11_4, ge3, ge4, tb4⟩
            · obtain ⟨w3, hX3⟩ : ∃ X, X = wd2.alloc (.cells za 32) := ⟨_, rfl⟩
              have hb3 : Below wd2.heap.size wd2 w3 := by rw [hX3]; exact (Below.refl _ _).alloc (Nat.le_refl _) _
              have z11_3 : Bk w3 wd2.heap.size 32 (da fun _ => 0) := by rw [hX3, za_eq]; exact heap_new' _ _ _ rfl
              have ge3 : w1.heap.size ≤ wd2.heap.size := tb2.size
              intro K hK
              rw [if_pos (by rfl)]
              go_simp
              rw [← hX3]
              clear hX3
              obtain ⟨a3_, ha3_⟩ : ∃ g, wd2.heap.size = g := ⟨_, rfl⟩
              rw [ha3_] at z11_3
              replace ge3 := Nat.le_trans ge3 (Nat.le_of_eq ha3_)
              rw [ha3_]
              clear ha3_
              have b3 := step_below hb3 b2
              have B0_3 := B0_2.keep hb3
              have B1_3 := B1_2.keep hb3
              have tb3 := tb2.trans (hb3.mono tb2.size)
              refine hK.out _ _ ⟨(B0_3.cell (i := 0) rfl), (B0_3.cell (i := 1) rfl), (show Dr w3 (w.heap.size + 1) 27 d1 from B1_3).range⟩ (fun hS3 => ?_)
              clear hK K
              refine wpAnyH_ready (rs := [1, 11]) (by kernel_rfl) (by simp) (AllReadyH.cons rfl ?_ (AllReadyH.cons rfl ?_ AllReadyH.nil))
              · intro K hK
                rw [if_pos (by rfl)]
                go_simp
                refine (toFrame_any s0 A0 c0 l0 _ (hA0.below b3) hn0).mono ?_
                rintro e w4 ⟨g4, rfl, hg4, own4, hb4⟩
                have b4 := step_below hb4 b3
                have B0_4 := B0_3.keep hb4
                have B1_4 := B1_3.keep hb4
                have gl4 : g4 < w4.heap.size := (own4.lt g4 rfl).2
                have q4_4 := own4
                have tb4 := tb3.trans (hb4.mono tb3.size)
                have z11_4 := z11_3.keep hb4
                refine hK.out _ _ ⟨(B0_4.cell (i := 0) rfl), (B0_4.cell (i := 1) rfl), (show Dr w4 (w.heap.size + 1) 27 d1 from B1_4).range⟩ (fun hS4 => ?_)
                clear hK K
                refine wpAnyH_ready (rs := [3, 11]) (by kernel_rfl) (by simp) (AllReadyH.cons rfl ?_ (AllReadyH.cons rfl ?_ AllReadyH.nil))
                · intro K hK
                  rw [if_pos (by rfl)]
                  go_simp
                  refine (toDrum_any d1 _).mono ?_
                  rintro e w5 ⟨rfl, hb5⟩
                  have b5 := step_below hb5 b4
                  have B0_5 := B0_4.keep hb5
                  have B1_5 := B1_4.keep hb5
                  have q4_5 := own_keep q4_4 hb5
                  have tb5 := tb4.trans (hb5.mono tb4.size)
                  have z11_5 := z11_4.keep hb5
                  refine hK.out _ _ ⟨(B0_5.cell (i := 0) rfl), (B0_5.cell (i := 1) rfl), (show Dr w5 (w.heap.size + 1) 27 d1 from B1_5).range⟩ (fun hS5 => ?_)
                  clear hK K
                  refine wpAnyH_ready (rs := [6, 11]) (by kernel_rfl) (by simp) (AllReadyH.cons rfl ?_ (AllReadyH.cons rfl ?_ AllReadyH.nil))
                  · intro K hK
                    rw [if_pos (by rfl)]
                    go_simp
                    refine (KS _ _ (HA.of_own q4_5) ).mono ?_
                    rintro e w6 ⟨C6, e6, rfl, own6, hb6⟩
                    have b6 := step_below hb6 b5
                    have B0_6 := B0_5.keep hb6
                    have B1_6 := B1_5.keep hb6
                    have v6_6 := own6
                    have t6 : Below w6.heap.size w6 w6 := Below.refl _ _
                    have tb6 := tb5.trans (hb6.mono tb5.size)
                    have z11_6 := z11_5.keep hb6
                    have oo_6 := own_base own6 tb5.size
                    refine hK.out _ _ ⟨(B0_6.cell (i := 0) rfl), (B0_6.cell (i := 1) rfl), (show Dr w6 (w.heap.size + 1) 27 d1 from B1_6).range⟩ (fun hS6 => ?_)
                    clear hK K
                    refine wpAnyH_take (i := 7) (v := .tuple #[.agg #[.int .i16 rs0, .slice C6 r0.length e6], .agg (da r1), .int .i64 r2]) rfl (by kernel_rfl) (by kernel_rfl) (by kernel_rfl) (fun _ _ _ h => h) (Or.inl ⟨by rfl, fun w' _ => by go_simp⟩) hS6 ?_
                    change wpAnyH _ _ _ _ _ _ _ (Act.put _ (some 28) _) _
                    simp only [Act.put, List.setIfInBounds_toArray, List.set_cons_zero, List.set_cons_succ]
                    refine wpAnyH_take (i := 8) (v := .agg #[.int .i16 rs0, .slice C6 r0.length e6]) rfl (by kernel_rfl) (by kernel_rfl) (by kernel_rfl) (fun _ _ _ h => h) (Or.inl ⟨by rfl, fun w' _ => by go_simp⟩) hS6 ?_
                    change wpAnyH _ _ _ _ _ _ _ (Act.put _ (some 36) _) _
                    simp only [Act.put, List.setIfInBounds_toArray, List.set_cons_zero, List.set_cons_succ]
                    refine wpAnyH_take (i := 9) (v := .agg (da r1)) rfl (by kernel_rfl) (by kernel_rfl) (by kernel_rfl) (fun _ _ _ h => h) (Or.inl ⟨by rfl, fun w' _ => by go_simp⟩) hS6 ?_
                    change wpAnyH _ _ _ _ _ _ _ (Act.put _ (some 37) _) _
                    simp only [Act.put, List.setIfInBounds_toArray, List.set_cons_zero, List.set_cons_succ]
                    refine wpAnyH_take (i := 10) (v := .int .i64 r2) rfl (by kernel_rfl) (by kernel_rfl) (by kernel_rfl) (fun _ _ _ h => h) (Or.inl ⟨by rfl, fun w' _ => by go_simp⟩) hS6 ?_
                    change wpAnyH _ _ _ _ _ _ _ (Act.put _ (some 38) _) _
                    simp only [Act.put, List.setIfInBounds_toArray, List.set_cons_zero, List.set_cons_succ]
                    refine wpAnyH_ready (rs := [11]) (by kernel_rfl) (by simp) (AllReadyH.cons rfl ?_ AllReadyH.nil)
                    obtain ⟨w7, hX7⟩ : ∃ X, X = w6.alloc (.cells #[.int .i16 0, .slice none 0 0] 31) := ⟨_, rfl⟩
                    have hb7 : Below w6.heap.size w6 w7 := by rw [hX7]; exact (Below.refl _ _).alloc (Nat.le_refl _) _
                    have z10_7 : Bk w7 w6.heap.size 31 #[.int .i16 0, .slice none 0 0] := by rw [hX7]; exact heap_new' _ _ _ rfl
                    have ge7 : w1.heap.size ≤ w6.heap.size := tb6.size
                    intro K hK
                    rw [if_pos (by rfl)]
                    go_simp
                    rw [← hX7]
                    clear hX7
                    obtain ⟨a7_, ha7_⟩ : ∃ g, w6.heap.size = g := ⟨_, rfl⟩
                    rw [ha7_] at z10_7
                    replace ge7 := Nat.le_trans ge7 (Nat.le_of_eq ha7_)
                    rw [ha7_]
                    clear ha7_
                    have b7 := step_below hb7 b6
                    have B0_7 := B0_6.keep hb7
                    have B1_7 := B1_6.keep hb7
                    have v6_7 := own_keep v6_6 hb7
                    have t7 := step_below hb7 t6
                    have tb7 := tb6.trans (hb7.mono tb6.size)
                    have z11_7 := z11_6.keep hb7
                    have oo_7 := own_keep oo_6 hb7
                    refine hK.out _ _ ⟨(B0_7.cell (i := 0) rfl), (B0_7.cell (i := 1) rfl), (show Dr w7 (w.heap.size + 1) 27 d1 from B1_7).range⟩ (fun hS7 => ?_)
                    clear hK K
                    try (simp only [Act.put, List.setIfInBounds_toArray, List.set_cons_zero, List.set_cons_succ])
                    exact J3_ a7_ a3_ w7 g4 C6 e6 ⟨z10_7, z11_7, ge7, ge3, tb7, oo_7⟩
                  · obtain ⟨w6, hX6⟩ : ∃ X, X = w5.alloc (.cells #[.int .i16 0, .slice none 0 0] 31) := ⟨_, rfl⟩
                    have hb6 : Below w5.heap.size w5 w6 := by rw [hX6]; exact (Below.refl _ _).alloc (Nat.le_refl _) _
                    have z10_6 : Bk w6 w5.heap.size 31 #[.int .i16 0, .slice none 0 0] := by rw [hX6]; exact heap_new' _ _ _ rfl
                    have ge6 : w1.heap.size ≤ w5.heap.size := tb5.size
                    intro K hK
                    rw [if_pos (by rfl)]
                    go_simp
                    rw [← hX6]
                    clear hX6
                    obtain ⟨a6_, ha6_⟩ : ∃ g, w5.heap.size = g := ⟨_, rfl⟩
                    rw [ha6_] at z10_6
                    replace ge6 := Nat.le_trans ge6 (Nat.le_of_eq ha6_)
                    rw [ha6_]
                    clear ha6_
                    have b6 := step_below hb6 b5
                    have B0_6 := B0_5.keep hb6
                    have B1_6 := B1_5.keep hb6
                    have q4_6 := own_keep q4_5 hb6
                    have tb6 := tb5.trans (hb6.mono tb5.size)
                    have z11_6 := z11_5.keep hb6
                    refine hK.out _ _ ⟨(B0_6.cell (i := 0) rfl), (B0_6.cell (i := 1) rfl), (show Dr w6 (w.heap.size + 1) 27 d1 from B1_6).range⟩ (fun hS6 => ?_)
                    clear hK K
                    try (simp only [Act.put, List.setIfInBounds_toArray, List.set_cons_zero, List.set_cons_succ])
                    exact J2_ a6_ a3_ w6 g4 ⟨z10_6, z11_6, ge6, ge3, tb6, own_base q4_6 (Nat.le_trans tb3.size hg4), ((q4_6).lt _ rfl).2⟩
                · obtain ⟨w5, hX5⟩ : ∃ X, X = w4.alloc (.cells #[.int .i16 0, .slice none 0 0] 31) := ⟨_, rfl⟩
                  have hb5 : Below w4.heap.size w4 w5 := by rw [hX5]; exact (Below.refl _ _).alloc (Nat.le_refl _) _
                  have z10_5 : Bk w5 w4.heap.size 31 #[.int .i16 0, .slice none 0 0] := by rw [hX5]; exact heap_new' _ _ _ rfl
                  have ge5 : w1.heap.size ≤ w4.heap.size := tb4.size
                  intro K hK
                  rw [if_pos (by rfl)]
                  go_simp
                  rw [← hX5]
                  clear hX5
                  obtain ⟨a5_, ha5_⟩ : ∃ g, w4.heap.size = g := ⟨_, rfl⟩
                  rw [ha5_] at z10_5
                  replace ge5 := Nat.le_trans ge5 (Nat.le_of_eq ha5_)
                  rw [ha5_]
                  clear ha5_
                  have b5 := step_below hb5 b4
                  have B0_5 := B0_4.keep hb5
                  have B1_5 := B1_4.keep hb5
                  have q4_5 := own_keep q4_4 hb5
                  have tb5 := tb4.trans (hb5.mono tb4.size)
                  have z11_5 := z11_4.keep hb5
                  refine hK.out _ _ ⟨(B0_5.cell (i := 0) rfl), (B0_5.cell (i := 1) rfl), (show Dr w5 (w.heap.size + 1) 27 d1 from B1_5).range⟩ (fun hS5 => ?_)
                  clear hK K
                  try (simp only [Act.put, List.setIfInBounds_toArray, List.set_cons_zero, List.set_cons_succ])
                  exact J1_ a5_ a3_ w5 g4 ⟨z10_5, z11_5, ge5, ge3, tb5, own_base q4_5 (Nat.le_trans tb3.size hg4), ((q4_5).lt _ rfl).2⟩
              · obtain ⟨w4, hX4⟩ : ∃ X, X = w3.alloc (.cells #[.int .i16 0, .slice none 0 0] 31) := ⟨_, rfl⟩
                have hb4 : Below w3.heap.size w3 w4 := by rw [hX4]; exact (Below.refl _ _).alloc (Nat.le_refl _) _
                have z10_4 : Bk w4 w3.heap.size 31 #[.int .i16 0, .slice none 0 0] := by rw [hX4]; exact heap_new' _ _ _ rfl
                have ge4 : w1.heap.size ≤ w3.heap.size := tb3.size
                intro K hK
                rw [if_pos (by rfl)]
                go_simp
                rw [← hX4]
                clear hX4
                obtain ⟨a4_, ha4_⟩ : ∃ g, w3.heap.size = g := ⟨_, rfl⟩
                rw [ha4_] at z10_4
                replace ge4 := Nat.le_trans ge4 (Nat.le_of_eq ha4_)
                rw [ha4_]
                clear ha4_
                have b4 := step_below hb4 b3
                have B0_4 := B0_3.keep hb4
                have B1_4 := B1_3.keep hb4
                have tb4 := tb3.trans (hb4.mono tb3.size)
                have z11_4 := z11_3.keep hb4
                refine hK.out _ _ ⟨(B0_4.cell (i := 0) rfl), (B0_4.cell (i := 1) rfl), (show Dr w4 (w.heap.size + 1) 27 d1 from B1_4).range⟩ (fun hS4 => ?_)
                clear hK K
                try (simp only [Act.put, List.setIfInBounds_toArray, List.set_cons_zero, List.set_cons_succ])
                exact J0_ a4_ a3_ w4 ⟨z10_4, z11_4, ge4, ge3, tb4⟩
          · rintro a0s9000 a1s9000 w9000 ⟨z10_9000, z11_9000, ge0s9000, ge1s9000, tb9000⟩
            have hb9000 := tb9000
            have B0_9000 := B0_1.keep hb9000
            have B1_9000 := B1_1.keep hb9000
            have b9000 := step_below hb9000 b1
            show wpAnyH _ _ _ _ _ _ _ _ _
            refine wpAnyH_ready (rs := [1]) (by kernel_rfl) (by simp) (AllReadyH.cons rfl ?_ AllReadyH.nil)
            intro K hK
            rw [if_pos (by rfl)]
            go_simp
            refine (toFrame_any s0 A0 c0 l0 _ (hA0.below b9000) hn0).mono ?_
            rintro e w9001 ⟨g9001, rfl, hg9001, own9001, hb9001⟩
            have b9001 := step_below hb9001 b9000
            have B0_9001 := B0_9000.keep hb9001
            have B1_9001 := B1_9000.keep hb9001
            have gl9001 : g9001 < w9001.heap.size := (own9001.lt g9001 rfl).2
            have q9001_9001 := own9001
            have tb9001 := tb9000.trans (hb9001.mono tb9000.size)
            have z10_9001 := z10_9000.keep hb9001
            have z11_9001 := z11_9000.keep hb9001
            refine hK.out _ _ ⟨(B0_9001.cell (i := 0) rfl), (B0_9001.cell (i := 1) rfl), (show Dr w9001 (w.heap.size + 1) 27 d1 from B1_9001).range⟩ (fun hS9001 => ?_)
            clear hK K
            try (simp only [Act.put, List.setIfInBounds_toArray, List.set_cons_zero, List.set_cons_succ])
            exact J1_ a0s9000 a1s9000 w9001 g9001 ⟨z10_9001, z11_9001, ge0s9000, ge1s9000, tb9001, own_base q9001_9001 (Nat.le_trans tb9000.size hg9001), ((q9001_9001).lt _ rfl).2⟩
        · rintro a0s9001 a1s9001 w9001 g9001 ⟨z10_9001, z11_9001, ge0s9001, ge1s9001, tb9001, q9001_9001, gl9001⟩
          have hb9001 := tb9001
          have B0_9001 := B0_1.keep hb9001
          have B1_9001 := B1_1.keep hb9001
          have b9001 := step_below hb9001 b1
          show wpAnyH _ _ _ _ _ _ _ _ _
          refine wpAnyH_ready (rs := [3]) (by kernel_rfl) (by simp) (AllReadyH.cons rfl ?_ AllReadyH.nil)
          intro K hK
          rw [if_pos (by rfl)]
          go_simp
          refine (toDrum_any d1 _).mono ?_
          rintro e w9002 ⟨rfl, hb9002⟩
          have b9002 := step_below hb9002 b9001
          have B0_9002 := B0_9001.keep hb9002
          have B1_9002 := B1_9001.keep hb9002
          have q9001_9002 := own_keep q9001_9001 hb9002
          have tb9002 := tb9001.trans (hb9002.mono tb9001.size)
          have z10_9002 := z10_9001.keep hb9002
          have z11_9002 := z11_9001.keep hb9002
          refine hK.out _ _ ⟨(B0_9002.cell (i := 0) rfl), (B0_9002.cell (i := 1) rfl), (show Dr w9002 (w.heap.size + 1) 27 d1 from B1_9002).range⟩ (fun hS9002 => ?_)
          clear hK K
          try (simp only [Act.put, List.setIfInBounds_toArray, List.set_cons_zero, List.set_cons_succ])
          exact J2_ a0s9001 a1s9001 w9002 g9001 ⟨z10_9002, z11_9002, ge0s9001, ge1s9001, tb9002, own_base q9001_9002 (Nat.le_refl _), ((q9001_9002).lt _ rfl).2⟩
      · rintro a0s9002 a1s9002 w9002 g9002 ⟨z10_9002, z11_9002, ge0s9002, ge1s9002, tb9002, q9002_9002, gl9002⟩
        have hb9002 := tb9002
        have B0_9002 := B0_1.keep hb9002
        have B1_9002 := B1_1.keep hb9002
        have b9002 := step_below hb9002 b1
        show wpAnyH _ _ _ _ _ _ _ _ _
        refine wpAnyH_ready (rs := [6]) (by kernel_rfl) (by simp) (AllReadyH.cons rfl ?_ AllReadyH.nil)
        intro K hK
        rw [if_pos (by rfl)]
        go_simp
        refine (KS _ _ (HA.of_own q9002_9002) ).mono ?_
        rintro e w9003 ⟨C9003, e9003, rfl, own9003, hb9003⟩
        have b9003 := step_below hb9003 b9002
        have B0_9003 := B0_9002.keep hb9003
        have B1_9003 := B1_9002.keep hb9003
        have v9003_9003 := own9003
        have t9003 : Below w9003.heap.size w9003 w9003 := Below.refl _ _
        have tb9003 := tb9002.trans (hb9003.mono tb9002.size)
        have z10_9003 := z10_9002.keep hb9003
        have z11_9003 := z11_9002.keep hb9003
        have oo_9003 := own_base own9003 tb9002.size
        refine hK.out _ _ ⟨(B0_9003.cell (i := 0) rfl), (B0_9003.cell (i := 1) rfl), (show Dr w9003 (w.heap.size + 1) 27 d1 from B1_9003).range⟩ (fun hS9003 => ?_)
        clear hK K
        refine wpAnyH_take (i := 7) (v := .tuple #[.agg #[.int .i16 rs0, .slice C9003 r0.length e9003], .agg (da r1), .int .i64 r2]) rfl (by kernel_rfl) (by kernel_rfl) (by kernel_rfl) (fun _ _ _ h => h) (Or.inl ⟨by rfl, fun w' _ => by go_simp⟩) hS9003 ?_
        change wpAnyH _ _ _ _ _ _ _ (Act.put _ (some 28) _) _
        simp only [Act.put, List.setIfInBounds_toArray, List.set_cons_zero, List.set_cons_succ]
        refine wpAnyH_take (i := 8) (v := .agg #[.int .i16 rs0, .slice C9003 r0.length e9003]) rfl (by kernel_rfl) (by kernel_rfl) (by kernel_rfl) (fun _ _ _ h => h) (Or.inl ⟨by rfl, fun w' _ => by go_simp⟩) hS9003 ?_
        change wpAnyH _ _ _ _ _ _ _ (Act.put _ (some 36) _) _
        simp only [Act.put, List.setIfInBounds_toArray, List.set_cons_zero, List.set_cons_succ]
        refine wpAnyH_take (i := 9) (v := .agg (da r1)) rfl (by kernel_rfl) (by kernel_rfl) (by kernel_rfl) (fun _ _ _ h => h) (Or.inl ⟨by rfl, fun w' _ => by go_simp⟩) hS9003 ?_
        change wpAnyH _ _ _ _ _ _ _ (Act.put _ (some 37) _) _
        simp only [Act.put, List.setIfInBounds_toArray, List.set_cons_zero, List.set_cons_succ]
        refine wpAnyH_take (i := 10) (v := .int .i64 r2) rfl (by kernel_rfl) (by kernel_rfl) (by kernel_rfl) (fun _ _ _ h => h) (Or.inl ⟨by rfl, fun w' _ => by go_simp⟩) hS9003 ?_
        change wpAnyH _ _ _ _ _ _ _ (Act.put _ (some 38) _) _
        simp only [Act.put, List.setIfInBounds_toArray, List.set_cons_zero, List.set_cons_succ]
        try (simp only [Act.put, List.setIfInBounds_toArray, List.set_cons_zero, List.set_cons_succ])
        exact J3_ a0s9002 a1s9002 w9003 g9002 C9003 e9003 ⟨z10_9003, z11_9003, ge0s9002, ge1s9002, tb9003, oo_9003⟩
    · rintro a0s9003 a1s9003 w9003 g9003 C9003 e9003 ⟨z10_9003, z11_9003, ge0s9003, ge1s9003, tb9003, oo_9003⟩
      have hb9003 := tb9003
      have B0_9003 := B0_1.keep hb9003
      have B1_9003 := B1_1.keep hb9003
      have b9003 := step_below hb9003 b1
      show wpAnyH _ _ _ _ _ _ _ _ _
      refine wpAnyH_ready (rs := [13]) (by kernel_rfl) (by simp) (AllReadyH.cons rfl ?_ AllReadyH.nil)
      intro K hK
      rw [if_pos (by rfl)]
      refine wp_store_row 31 (.tmp 10) (.tmp 36) rfl (a0s9003) #[.int .i16 rs0, .slice C9003 r0.length e9003] rfl rfl 31 _ z10_9003 (infoF2 _ _) (sz22 _ _ _ _) (oneF _ _ _ _) ?_
      have hb9004 : Below w1.heap.size w9003 (w9003.setRow (a0s9003) #[.int .i16 rs0, .slice C9003 r0.length e9003]) := below_setRow (Below.refl _ _) ge0s9003
      have z10_9004 : Bk (w9003.setRow (a0s9003) #[.int .i16 rs0, .slice C9003 r0.length e9003]) (a0s9003) 31 #[.int .i16 rs0, .slice C9003 r0.length e9003] := setRow_heap _ _ _ _ _ _ z10_9003
      have z11_9004 : Bk (w9003.setRow (a0s9003) #[.int .i16 rs0, .slice C9003 r0.length e9003]) (a1s9003) 32 _ := (setRow_other _ _ _ _ (bk_ne z11_9003 z10_9003 (by decide))).trans z11_9003
      have oo_9004 := own_rowK oo_9003 z10_9003 (by decide) #[.int .i16 rs0, .slice C9003 r0.length e9003]
      have B0_9004 : Bk (w9003.setRow (a0s9003) #[.int .i16 rs0, .slice C9003 r0.length e9003]) (w.heap.size) 25 #[.int .i16 s0, .slice A0 l0.length c0] := (setRow_other _ _ _ _ (by have e1 := B0_1.lt; have e2 := ge0s9003; omega)).trans B0_9003
      have B1_9004 : Bk (w9003.setRow (a0s9003) #[.int .i16 rs0, .slice C9003 r0.length e9003]) (w.heap.size + 1) 27 (da d1) := (setRow_other _ _ _ _ (by have e1 := B1_1.lt; have e2 := ge0s9003; omega)).trans B1_9003
      have tb9004 := tb9003.trans hb9004
      refine hK.out _ _ ⟨(B0_9004.cell (i := 0) rfl), (B0_9004.cell (i := 1) rfl), (show Dr (w9003.setRow (a0s9003) #[.int .i16 rs0, .slice C9003 r0.length e9003]) (w.heap.size + 1) 27 d1 from B1_9004).range⟩ (fun hS9004 => ?_)
      clear hK K
      refine wpAnyH_ready (rs := [14]) (by kernel_rfl) (by simp) (AllReadyH.cons rfl ?_ AllReadyH.nil)
      intro K hK
      rw [if_pos (by rfl)]
      refine wp_store_row 32 (.tmp 11) (.tmp 37) rfl (a1s9003) (da r1) rfl rfl 32 _ z11_9004 (by rw [da_size]; exact info32) (by simp only [da_size]) (da_one _) ?_
      have hb9005 : Below w1.heap.size (w9003.setRow (a0s9003) #[.int .i16 rs0, .slice C9003 r0.length e9003]) ((w9003.setRow (a0s9003) #[.int .i16 rs0, .slice C9003 r0.length e9003]).setRow (a1s9003) (da r1)) := below_setRow (Below.refl _ _) ge1s9003
      have z11_9005 : Bk ((w9003.setRow (a0s9003) #[.int .i16 rs0, .slice C9003 r0.length e9003]).setRow (a1s9003) (da r1)) (a1s9003) 32 (da r1) := setRow_heap _ _ _ _ _ _ z11_9004
      have z10_9005 : Bk ((w9003.setRow (a0s9003) #[.int .i16 rs0, .slice C9003 r0.length e9003]).setRow (a1s9003) (da r1)) (a0s9003) 31 _ := (setRow_other _ _ _ _ (bk_ne z10_9004 z11_9004 (by decide))).trans z10_9004
      have oo_9005 := own_rowK oo_9004 z11_9004 (by decide) (da r1)
      have B0_9005 : Bk ((w9003.setRow (a0s9003) #[.int .i16 rs0, .slice C9003 r0.length e9003]).setRow (a1s9003) (da r1)) (w.heap.size) 25 #[.int .i16 s0, .slice A0 l0.length c0] := (setRow_other _ _ _ _ (by have e1 := B0_1.lt; have e2 := ge1s9003; omega)).trans B0_9004
      have B1_9005 : Bk ((w9003.setRow (a0s9003) #[.int .i16 rs0, .slice C9003 r0.length e9003]).setRow (a1s9003) (da r1)) (w.heap.size + 1) 27 (da d1) := (setRow_other _ _ _ _ (by have e1 := B1_1.lt; have e2 := ge1s9003; omega)).trans B1_9004
      have tb9005 := tb9004.trans hb9005
      refine hK.out _ _ ⟨(B0_9005.cell (i := 0) rfl), (B0_9005.cell (i := 1) rfl), (show Dr ((w9003.setRow (a0s9003) #[.int .i16 rs0, .slice C9003 r0.length e9003]).setRow (a1s9003) (da r1)) (w.heap.size + 1) 27 d1 from B1_9005).range⟩ (fun hS9005 => ?_)
      clear hK K
      refine wpAnyH_take (i := 15) (v := .int .i64 r2) rfl (by kernel_rfl) (by kernel_rfl) (by kernel_rfl) (fun _ _ _ h => h) (Or.inl ⟨by rfl, fun w' _ => by go_simp⟩) hS9005 ?_
      change wpAnyH _ _ _ _ _ _ _ (Act.put _ (some 12) _) _
      simp only [Act.put, List.setIfInBounds_toArray, List.set_cons_zero, List.set_cons_succ]
      refine wpAnyH_done (by kernel_rfl) ?_ _
      go_wp2_with fail
      go_meet
      exact ⟨_, _, C9003, e9003, _, rfl, rfl, rfl, rfl, z10_9005, z11_9005, ge0s9003, ge1s9003, oo_9005, tb9005⟩
  obtain ⟨rg0_2, rg1_2, C2, e2, w2, rfl, rfl, rfl, rfl, K0_2, K1_2, rge0_2, rge1_2, own2, hb2⟩ := hcut
  have b2 := step_below hb2 b1
  have B0_2 := B0_1.keep hb2
  have B1_2 := B1_1.keep hb2
  have t2 : Below w2.heap.size w2 w2 := Below.refl _ _
  have v2_2 := own2
  have R0x2_2 := K0_2
  have R1x2_2 := K1_2
  have pf39_ := B0_2.cell (i := 0) rfl
  have qf39_ := B0_2.cell (i := 1) rfl
  go_wp2_with fail
  clear pf39_ qf39_
  refine (toFrame_any s0 A0 c0 l0 _ (hA0.below b2) hn0).mono ?_
  rintro e w3 ⟨g3, rfl, hg3, own3, hb3⟩
  have b3 := step_below hb3 b2
  have B0_3 := B0_2.keep hb3
  have B1_3 := B1_2.keep hb3
  have R0x2_3 := R0x2_2.keep hb3
  have R1x2_3 := R1x2_2.keep hb3
  have v2_3 := own_keep v2_2 hb3
  have t3 := step_below hb3 t2
  have gl3 : g3 < w3.heap.size := (own3.lt g3 rfl).2
  have q3_3 := own3
  go_upto_region 7 with fail
  obtain ⟨w4, hX4⟩ : ∃ X, X = w3.alloc (.cells #[.int .i16 s0, .slice (some ⟨g3, 0, none⟩) l0.length l0.length] 31) := ⟨_, rfl⟩
  have hb4 : Below w3.heap.size w3 w4 := by rw [hX4]; exact (Below.refl _ _).alloc (Nat.le_refl _) _
  have K4 : Bk w4 w3.heap.size 31 #[.int .i16 s0, .slice (some ⟨g3, 0, none⟩) l0.length l0.length] := by rw [hX4]; exact Bk.new _ _ _ rfl
  rw [← hX4]
  clear hX4
  have b4 := step_below hb4 b3
  have B0_4 := B0_3.keep hb4
  have B1_4 := B1_3.keep hb4
  have R0x2_4 := R0x2_3.keep hb4
  have R1x2_4 := R1x2_3.keep hb4
  have v2_4 := own_keep v2_3 hb4
  have q3_4 := own_keep q3_3 hb4
  have t4 := step_below hb4 t3
  have Y0_4 := K4
  have yw0 : w3.heap.size < w4.heap.size := K4.lt
  go_upto_region 7 with fail
  go_cut [14, 15, 16] from 41 to 50 (fun a b c wx => ∃ (g0 g1 : Nat) (C : Option Addr) (e : Nat) (W : World), a = .pointer (some ⟨g0, 0, none⟩) ∧ b = .pointer (some ⟨g1, 0, none⟩) ∧ c = .int .i64 r2 ∧ W = wx ∧ Bk W g0 31 #[.int .i16 rs0, .slice C r0.length e] ∧ Bk W g1 32 (da r1) ∧ w4.heap.size ≤ g0 ∧ w4.heap.size ≤ g1 ∧ W.ownsRow w4.heap.size 49 2 (.slice C r0.length e) r0.length (hcells r0) ∧ Below w4.heap.size w4 W)
  case first =>
    have hz := zeroDrum
    have hb5 : Below w4.heap.size w4 w4.drew := (Below.refl _ _).drew
    have tb4 : Below w4.heap.size w4 w4 := Below.refl _ _
    have b5 := step_below hb5 b4
    have B0_5 := B0_4.keep hb5
    have B1_5 := B1_4.keep hb5
    have R0x2_5 := R0x2_4.keep hb5
    have R1x2_5 := R1x2_4.keep hb5
    have Y0_5 := Y0_4.keep hb5
    have v2_5 := own_keep v2_4 hb5
    have q3_5 := own_keep q3_4 hb5
    have t5 := step_below hb5 t4
    have tb5 := step_below hb5 tb4
    refine wp_region_held_drew (S := fun w' => w'.rangeAt (w.heap.size + 1) 0 (dv d1) ∧ w'.cell? ⟨w3.heap.size, 0, none⟩ = some (.int .i16 s0) ∧ w'.cell? ⟨w3.heap.size, 1, none⟩ = some (.slice (some ⟨g3, 0, none⟩) l0.length l0.length)) (by kernel_rfl) ⟨(show Dr w4.drew (w.heap.size + 1) 27 d1 from B1_5).range, (Y0_5.cell (i := 0) rfl), (Y0_5.cell (i := 1) rfl)⟩ fun hS5 => ?_
    generalize w4.drew = wd5 at *
    change wpAnyH _ _ _ _ _ _ #[false, false, false, false, false, false, false, false, false, false, false, false, false, false, false] _ _
    apply jnA (F := fun g0 g1 W C e => Bk W g0 31 #[.int .i16 0, .slice none 0 0] ∧ Bk W g1 32 (da fun _ => 0) ∧ w4.heap.size ≤ g0 ∧ w4.heap.size ≤ g1 ∧ Below w4.heap.size w4 W ∧ W.ownsRow w4.heap.size 49 2 (.slice C r0.length e) r0.length (hcells r0))
    · intro J2_
      apply jn (F := fun g0 g1 W => Bk W g0 31 #[.int .i16 0, .slice none 0 0] ∧ Bk W g1 32 (da fun _ => 0) ∧ w4.heap.size ≤ g0 ∧ w4.heap.size ≤ g1 ∧ Below w4.heap.size w4 W)
      · intro J1_
        apply jn (F := fun g0 g1 W => Bk W g0 31 #[.int .i16 0, .slice none 0 0] ∧ Bk W g1 32 (da fun _ => 0) ∧ w4.heap.size ≤ g0 ∧ w4.heap.size ≤ g1 ∧ Below w4.heap.size w4 W)
        · intro J0_
          refine wpAnyH_take (i := 0) (v := .agg #[.int .i16 s0, .slice (some ⟨g3, 0, none⟩) l0.length l0.length]) rfl (by kernel_rfl) (by kernel_rfl) (by kernel_rfl) (fun _ _ _ h => h) (Or.inl ⟨by rfl, fun w' h => ?_⟩) hS5 ?_
          · have c0 := h.2.1
            have c1 := h.2.2
            clear h
            go_simp
          simp only [Act.put, List.setIfInBounds_toArray, List.set_cons_zero, List.set_cons_succ]
          refine wpAnyH_take (i := 1) rfl (by kernel_rfl) (by kernel_rfl) (by kernel_rfl) (fun _ _ _ h => h) (yieldsIf_load_mid (by rfl) _ _ rfl (w.heap.size + 1) 0 rfl (dv d1) _ (fun _ h => h.1) Try.underlying27 rfl (infoLt d1)) hS5 ?_
          simp only [Act.put, List.setIfInBounds_toArray, List.set_cons_zero, List.set_cons_succ]
          refine wpAnyH_take (i := 3) (v := .int .i64 x2) rfl (by kernel_rfl) (by kernel_rfl) (by kernel_rfl) (fun _ _ _ h => h) (Or.inl ⟨by rfl, fun w' _ => by go_simp⟩) hS5 ?_
          change wpAnyH _ _ _ _ _ _ _ (Act.put _ (some 45) _) _
          simp only [Act.put, List.setIfInBounds_toArray, List.set_cons_zero, List.set_cons_succ]
          refine wpAnyH_take (i := 4) (v := .int .i64 x3) rfl (by kernel_rfl) (by kernel_rfl) (by kernel_rfl) (fun _ _ _ h => h) (Or.inl ⟨by rfl, fun w' _ => by go_simp⟩) hS5 ?_
          change wpAnyH _ _ _ _ _ _ _ (Act.put _ (some 46) _) _
          simp only [Act.put, List.setIfInBounds_toArray, List.set_cons_zero, List.set_cons_succ]
          refine wpAnyH_ready (rs := [2, 10, 11]) (by kernel_rfl) (by simp) (AllReadyH.cons rfl ?_ (AllReadyH.cons rfl ?_ (AllReadyH.cons rfl ?_ AllReadyH.nil)))
          · intro K hK
            rw [if_pos (by rfl)]
            go_simp
            refine (toDrum_any d1 _).mono ?_
            rintro e w6 ⟨rfl, hb6⟩
            have b6 := step_below hb6 b5
            have B1_6 := B1_5.keep hb6
            have Y0_6 := Y0_5.keep hb6
            have v2_6 := own_keep v2_5 hb6
            have q3_6 := own_keep q3_5 hb6
            have t6 := step_below hb6 t5
            have tb6 := tb5.trans (hb6.mono tb5.size)
            refine hK.out _ _ ⟨(show Dr w6 (w.heap.size + 1) 27 d1 from B1_6).range, (Y0_6.cell (i := 0) rfl), (Y0_6.cell (i := 1) rfl)⟩ (fun hS6 => ?_)
            clear hK K
            refine wpAnyH_ready (rs := [5, 10, 11]) (by kernel_rfl) (by simp) (AllReadyH.cons rfl ?_ (AllReadyH.cons rfl ?_ (AllReadyH.cons rfl ?_ AllReadyH.nil)))
            · intro K hK
              rw [if_pos (by rfl)]
              go_simp
              refine (KI _ _ (HA.of_own q3_6) ).mono ?_
              rintro e w7 ⟨C7, e7, rfl, own7, hb7⟩
              have b7 := step_below hb7 b6
              have B1_7 := B1_6.keep hb7
              have Y0_7 := Y0_6.keep hb7
              have v2_7 := own_keep v2_6 hb7
              have q3_7 := own_keep q3_6 hb7
              have t7 := step_below hb7 t6
              have r7_7 := own7
              have tb7 := tb6.trans (hb7.mono tb6.size)
              have oo_7 := own_base own7 tb6.size
              refine hK.out _ _ ⟨(show Dr w7 (w.heap.size + 1) 27 d1 from B1_7).range, (Y0_7.cell (i := 0) rfl), (Y0_7.cell (i := 1) rfl)⟩ (fun hS7 => ?_)
              clear hK K
              refine wpAnyH_take (i := 6) (v := .tuple #[.agg #[.int .i16 rs0, .slice C7 r0.length e7], .agg (da r1), .int .i64 r2]) rfl (by kernel_rfl) (by kernel_rfl) (by kernel_rfl) (fun _ _ _ h => h) (Or.inl ⟨by rfl, fun w' _ => by go_simp⟩) hS7 ?_
              change wpAnyH _ _ _ _ _ _ _ (Act.put _ (some 41) _) _
              simp only [Act.put, List.setIfInBounds_toArray, List.set_cons_zero, List.set_cons_succ]
              refine wpAnyH_take (i := 7) (v := .agg #[.int .i16 rs0, .slice C7 r0.length e7]) rfl (by kernel_rfl) (by kernel_rfl) (by kernel_rfl) (fun _ _ _ h => h) (Or.inl ⟨by rfl, fun w' _ => by go_simp⟩) hS7 ?_
              change wpAnyH _ _ _ _ _ _ _ (Act.put _ (some 48) _) _
              simp only [Act.put, List.setIfInBounds_toArray, List.set_cons_zero, List.set_cons_succ]
              refine wpAnyH_take (i := 8) (v := .agg (da r1)) rfl (by kernel_rfl) (by kernel_rfl) (by kernel_rfl) (fun _ _ _ h => h) (Or.inl ⟨by rfl, fun w' _ => by go_simp⟩) hS7 ?_
              change wpAnyH _ _ _ _ _ _ _ (Act.put _ (some 49) _) _
              simp only [Act.put, List.setIfInBounds_toArray, List.set_cons_zero, List.set_cons_succ]
              refine wpAnyH_take (i := 9) (v := .int .i64 r2) rfl (by kernel_rfl) (by kernel_rfl) (by kernel_rfl) (fun _ _ _ h => h) (Or.inl ⟨by rfl, fun w' _ => by go_simp⟩) hS7 ?_
              change wpAnyH _ _ _ _ _ _ _ (Act.put _ (some 50) _) _
              simp only [Act.put, List.setIfInBounds_toArray, List.set_cons_zero, List.set_cons_succ]
              refine wpAnyH_ready (rs := [10, 11]) (by kernel_rfl) (by simp) (AllReadyH.cons rfl ?_ (AllReadyH.cons rfl ?_ AllReadyH.nil))
              · obtain ⟨w8, hX8⟩ : ∃ X, X = w7.alloc (.cells #[.int .i16 0, .slice none 0 0] 31) := ⟨_, rfl⟩
                have hb8 : Below w7.heap.size w7 w8 := by rw [hX8]; exact (Below.refl _ _).alloc (Nat.le_refl _) _
                have z14_8 : Bk w8 w7.heap.size 31 #[.int .i16 0, .slice none 0 0] := by rw [hX8]; exact heap_new' _ _ _ rfl
                have ge8 : w4.heap.size ≤ w7.heap.size := tb7.size
                intro K hK
                rw [if_pos (by rfl)]
                go_simp
                rw [← hX8]
                clear hX8
                obtain ⟨a8_, ha8_⟩ : ∃ g, w7.heap.size = g := ⟨_, rfl⟩
                rw [ha8_] at z14_8
                replace ge8 := Nat.le_trans ge8 (Nat.le_of_eq ha8_)
                rw [ha8_]
                clear ha8_
                have b8 := step_below hb8 b7
                have B1_8 := B1_7.keep hb8
                have Y0_8 := Y0_7.keep hb8
                have v2_8 := own_keep v2_7 hb8
                have q3_8 := own_keep q3_7 hb8
                have r7_8 := own_keep r7_7 hb8
                have t8 := step_below hb8 t7
                have tb8 := tb7.trans (hb8.mono tb7.size)
                have oo_8 := own_keep oo_7 hb8
                refine hK.out _ _ ⟨(show Dr w8 (w.heap.size + 1) 27 d1 from B1_8).range, (Y0_8.cell (i := 0) rfl), (Y0_8.cell (i := 1) rfl)⟩ (fun hS8 => ?_)
                clear hK K
                refine wpAnyH_ready (rs := [11]) (by kernel_rfl) (by simp) (AllReadyH.cons rfl ?_ AllReadyH.nil)
                obtain ⟨w9, hX9⟩ : ∃ X, X = w8.alloc (.cells za 32) := ⟨_, rfl⟩
                have hb9 : Below w8.heap.size w8 w9 := by rw [hX9]; exact (Below.refl _ _).alloc (Nat.le_refl _) _
                have z15_9 : Bk w9 w8.heap.size 32 (da fun _ => 0) := by rw [hX9, za_eq]; exact heap_new' _ _ _ rfl
                have ge9 : w4.heap.size ≤ w8.heap.size := tb8.size
                intro K hK
                rw [if_pos (by rfl)]
                go_simp
                rw [← hX9]
                clear hX9
                obtain ⟨a9_, ha9_⟩ : ∃ g, w8.heap.size = g := ⟨_, rfl⟩
                rw [ha9_] at z15_9
                replace ge9 := Nat.le_trans ge9 (Nat.le_of_eq ha9_)
                rw [ha9_]
                clear ha9_
                have b9 := step_below hb9 b8
                have B1_9 := B1_8.keep hb9
                have Y0_9 := Y0_8.keep hb9
                have v2_9 := own_keep v2_8 hb9
                have q3_9 := own_keep q3_8 hb9
                have r7_9 := own_keep r7_8 hb9
                have t9 := step_below hb9 t8
                have tb9 := tb8.trans (hb9.mono tb8.size)
                have z14_9 := z14_8.keep hb9
                have oo_9 := own_keep oo_8 hb9
                refine hK.out _ _ ⟨(show Dr w9 (w.heap.size + 1) 27 d1 from B1_9).range, (Y0_9.cell (i := 0) rfl), (Y0_9.cell (i := 1) rfl)⟩ (fun hS9 => ?_)
                clear hK K
                try (simp only [Act.put, List.setIfInBounds_toArray, List.set_cons_zero, List.set_cons_succ])
                exact J2_ a8_ a9_ w9 C7 e7 ⟨z14_9, z15_9, ge8, ge9, tb9, oo_9⟩
              · obtain ⟨w8, hX8⟩ : ∃ X, X = w7.alloc (.cells za 32) := ⟨_, rfl⟩
                have hb8 : Below w7.heap.size w7 w8 := by rw [hX8]; exact (Below.refl _ _).alloc (Nat.le_refl _) _
                have z15_8 : Bk w8 w7.heap.size 32 (da fun _ => 0) := by rw [hX8, za_eq]; exact heap_new' _ _ _ rfl
                have ge8 : w4.heap.size ≤ w7.heap.size := tb7.size
                intro K hK
                rw [if_pos (by rfl)]
                go_simp
                rw [← hX8]
                clear hX8
                obtain ⟨a8_, ha8_⟩ : ∃ g, w7.heap.size = g := ⟨_, rfl⟩
                rw [ha8_] at z15_8
                replace ge8 := Nat.le_trans ge8 (Nat.le_of_eq ha8_)
                rw [ha8_]
                clear ha8_
                have b8 := step_below hb8 b7
                have B1_8 := B1_7.keep hb8
                have Y0_8 := Y0_7.keep hb8
                have v2_8 := own_keep v2_7 hb8
                have q3_8 := own_keep q3_7 hb8
                have r7_8 := own_keep r7_7 hb8
                have t8 := step_below hb8 t7
                have tb8 := tb7.trans (hb8.mono tb7.size)
                have oo_8 := own_keep oo_7 hb8
                refine hK.out _ _ ⟨(show Dr w8 (w.heap.size + 1) 27 d1 from B1_8).range, (Y0_8.cell (i := 0) rfl), (Y0_8.cell (i := 1) rfl)⟩ (fun hS8 => ?_)
                clear hK K
                refine wpAnyH_ready (rs := [10]) (by kernel_rfl) (by simp) (AllReadyH.cons rfl ?_ AllReadyH.nil)
                obtain ⟨w9, hX9⟩ : ∃ X, X = w8.alloc (.cells #[.int .i16 0, .slice none 0 0] 31) := ⟨_, rfl⟩
                have hb9 : Below w8.heap.size w8 w9 := by rw [hX9]; exact (Below.refl _ _).alloc (Nat.le_refl _) _
                have z14_9 : Bk w9 w8.heap.size 31 #[.int .i16 0, .slice none 0 0] := by rw [hX9]; exact heap_new' _ _ _ rfl
                have ge9 : w4.heap.size ≤ w8.heap.size := tb8.size
                intro K hK
                rw [if_pos (by rfl)]
                go_simp
                rw [← hX9]
                clear hX9
                obtain ⟨a9_, ha9_⟩ : ∃ g, w8.heap.size = g := ⟨_, rfl⟩
                rw [ha9_] at z14_9
                replace ge9 := Nat.le_trans ge9 (Nat.le_of_eq ha9_)
                rw [ha9_]
                clear ha9_
                have b9 := step_below hb9 b8
                have B1_9 := B1_8.keep hb9
                have Y0_9 := Y0_8.keep hb9
                have v2_9 := own_keep v2_8 hb9
                have q3_9 := own_keep q3_8 hb9
                have r7_9 := own_keep r7_8 hb9
                have t9 := step_below hb9 t8
                have tb9 := tb8.trans (hb9.mono tb8.size)
                have z15_9 := z15_8.keep hb9
                have oo_9 := own_keep oo_8 hb9
                refine hK.out _ _ ⟨(show Dr w9 (w.heap.size + 1) 27 d1 from B1_9).range, (Y0_9.cell (i := 0) rfl), (Y0_9.cell (i := 1) rfl)⟩ (fun hS9 => ?_)
                clear hK K
                try (simp only [Act.put, List.setIfInBounds_toArray, List.set_cons_zero, List.set_cons_succ])
                exact J2_ a9_ a8_ w9 C7 e7 ⟨z14_9, z15_9, ge9, ge8, tb9, oo_9⟩
            · obtain ⟨w7, hX7⟩ : ∃ X, X = w6.alloc (.cells #[.int .i16 0, .slice none 0 0] 31) := ⟨_, rfl⟩
              have hb7 : Below w6.heap.size w6 w7 := by rw [hX7]; exact (Below.refl _ _).alloc (Nat.le_refl _) _
              have z14_7 : Bk w7 w6.heap.size 31 #[.int .i16 0, .slice none 0 0] := by rw [hX7]; exact heap_new' _ _ _ rfl
              have ge7 : w4.heap.size ≤ w6.heap.size := tb6.size
              intro K hK
              rw [if_pos (by rfl)]
              go_simp
              rw [← hX7]
              clear hX7
              obtain ⟨a7_, ha7_⟩ : ∃ g, w6.heap.size = g := ⟨_, rfl⟩
              rw [ha7_] at z14_7
              replace ge7 := Nat.le_trans ge7 (Nat.le_of_eq ha7_)
              rw [ha7_]
              clear ha7_
              have b7 := step_below hb7 b6
              have B1_7 := B1_6.keep hb7
              have Y0_7 := Y0_6.keep hb7
              have v2_7 := own_keep v2_6 hb7
              have q3_7 := own_keep q3_6 hb7
              have t7 := step_below hb7 t6
              have tb7 := tb6.trans (hb7.mono tb6.size)
              refine hK.out _ _ ⟨(show Dr w7 (w.heap.size + 1) 27 d1 from B1_7).range, (Y0_7.cell (i := 0) rfl), (Y0_7.cell (i := 1) rfl)⟩ (fun hS7 => ?_)
              clear hK K
              refine wpAnyH_ready (rs := [5, 11]) (by kernel_rfl) (by simp) (AllReadyH.cons rfl ?_ (AllReadyH.cons rfl ?_ AllReadyH.nil))
              · intro K hK
                rw [if_pos (by rfl)]
                go_simp
                refine (KI _ _ (HA.of_own q3_7) ).mono ?_
                rintro e w8 ⟨C8, e8, rfl, own8, hb8⟩
                have b8 := step_below hb8 b7
                have B1_8 := B1_7.keep hb8
                have Y0_8 := Y0_7.keep hb8
                have v2_8 := own_keep v2_7 hb8
                have q3_8 := own_keep q3_7 hb8
                have t8 := step_below hb8 t7
                have r8_8 := own8
                have tb8 := tb7.trans (hb8.mono tb7.size)
                have z14_8 := z14_7.keep hb8
                have oo_8 := own_base own8 tb7.size
                refine hK.out _ _ ⟨(show Dr w8 (w.heap.size + 1) 27 d1 from B1_8).range, (Y0_8.cell (i := 0) rfl), (Y0_8.cell (i := 1) rfl)⟩ (fun hS8 => ?_)
                clear hK K
                refine wpAnyH_take (i := 6) (v := .tuple #[.agg #[.int .i16 rs0, .slice C8 r0.length e8], .agg (da r1), .int .i64 r2]) rfl (by kernel_rfl) (by kernel_rfl) (by kernel_rfl) (fun _ _ _ h => h) (Or.inl ⟨by rfl, fun w' _ => by go_simp⟩) hS8 ?_
                change wpAnyH _ _ _ _ _ _ _ (Act.put _ (some 41) _) _
                simp only [Act.put, List.setIfInBounds_toArray, List.set_cons_zero, List.set_cons_succ]
                refine wpAnyH_take (i := 7) (v := .agg #[.int .i16 rs0, .slice C8 r0.length e8]) rfl (by kernel_rfl) (by kernel_rfl) (by kernel_rfl) (fun _ _ _ h => h) (Or.inl ⟨by rfl, fun w' _ => by go_simp⟩) hS8 ?_
                change wpAnyH _ _ _ _ _ _ _ (Act.put _ (some 48) _) _
                simp only [Act.put, List.setIfInBounds_toArray, List.set_cons_zero, List.set_cons_succ]
                refine wpAnyH_take (i := 8) (v := .agg (da r1)) rfl (by kernel_rfl) (by kernel_rfl) (by kernel_rfl) (fun _ _ _ h => h) (Or.inl ⟨by rfl, fun w' _ => by go_simp⟩) hS8 ?_
                change wpAnyH _ _ _ _ _ _ _ (Act.put _ (some 49) _) _
                simp only [Act.put, List.setIfInBounds_toArray, List.set_cons_zero, List.set_cons_succ]
                refine wpAnyH_take (i := 9) (v := .int .i64 r2) rfl (by kernel_rfl) (by kernel_rfl) (by kernel_rfl) (fun _ _ _ h => h) (Or.inl ⟨by rfl, fun w' _ => by go_simp⟩) hS8 ?_
                change wpAnyH _ _ _ _ _ _ _ (Act.put _ (some 50) _) _
                simp only [Act.put, List.setIfInBounds_toArray, List.set_cons_zero, List.set_cons_succ]
                refine wpAnyH_ready (rs := [11]) (by kernel_rfl) (by simp) (AllReadyH.cons rfl ?_ AllReadyH.nil)
                obtain ⟨w9, hX9⟩ : ∃ X, X = w8.alloc (.cells za 32) := ⟨_, rfl⟩
                have hb9 : Below w8.heap.size w8 w9 := by rw [hX9]; exact (Below.refl _ _).alloc (Nat.le_refl _) _
                have z15_9 : Bk w9 w8.heap.size 32 (da fun _ => 0) := by rw [hX9, za_eq]; exact heap_new' _ _ _ rfl
                have ge9 : w4.heap.size ≤ w8.heap.size := tb8.size
                intro K hK
                rw [if_pos (by rfl)]
                go_simp
                rw [← hX9]
                clear hX9
                obtain ⟨a9_, ha9_⟩ : ∃ g, w8.heap.size = g := ⟨_, rfl⟩
                rw [ha9_] at z15_9
                replace ge9 := Nat.le_trans ge9 (Nat.le_of_eq ha9_)
                rw [ha9_]
                clear ha9_
                have b9 := step_below hb9 b8
                have B1_9 := B1_8.keep hb9
                have Y0_9 := Y0_8.keep hb9
                have v2_9 := own_keep v2_8 hb9
                have q3_9 := own_keep q3_8 hb9
                have r8_9 := own_keep r8_8 hb9
                have t9 := step_below hb9 t8
                have tb9 := tb8.trans (hb9.mono tb8.size)
                have z14_9 := z14_8.keep hb9
                have oo_9 := own_keep oo_8 hb9
                refine hK.out _ _ ⟨(show Dr w9 (w.heap.size + 1) 27 d1 from B1_9).range, (Y0_9.cell (i := 0) rfl), (Y0_9.cell (i := 1) rfl)⟩ (fun hS9 => ?_)
                clear hK K
                try (simp only [Act.put, List.setIfInBounds_toArray, List.set_cons_zero, List.set_cons_succ])
                exact J2_ a7_ a9_ w9 C8 e8 ⟨z14_9, z15_9, ge7, ge9, tb9, oo_9⟩
              · obtain ⟨w8, hX8⟩ : ∃ X, X = w7.alloc (.cells za 32) := ⟨_, rfl⟩
                have hb8 : Below w7.heap.size w7 w8 := by rw [hX8]; exact (Below.refl _ _).alloc (Nat.le_refl _) _
                have z15_8 : Bk w8 w7.heap.size 32 (da fun _ => 0) := by rw [hX8, za_eq]; exact heap_new' _ _ _ rfl
                have ge8 : w4.heap.size ≤ w7.heap.size := tb7.size
                intro K hK
                rw [if_pos (by rfl)]
                go_simp
                rw [← hX8]
                clear hX8
                obtain ⟨a8_, ha8_⟩ : ∃ g, w7.heap.size = g := ⟨_, rfl⟩
                rw [ha8_] at z15_8
                replace ge8 := Nat.le_trans ge8 (Nat.le_of_eq ha8_)
                rw [ha8_]
                clear ha8_
                have b8 := step_below hb8 b7
                have B1_8 := B1_7.keep hb8
                have Y0_8 := Y0_7.keep hb8
                have v2_8 := own_keep v2_7 hb8
                have q3_8 := own_keep q3_7 hb8
                have t8 := step_below hb8 t7
                have tb8 := tb7.trans (hb8.mono tb7.size)
                have z14_8 := z14_7.keep hb8
                refine hK.out _ _ ⟨(show Dr w8 (w.heap.size + 1) 27 d1 from B1_8).range, (Y0_8.cell (i := 0) rfl), (Y0_8.cell (i := 1) rfl)⟩ (fun hS8 => ?_)
                clear hK K
                try (simp only [Act.put, List.setIfInBounds_toArray, List.set_cons_zero, List.set_cons_succ])
                exact J1_ a7_ a8_ w8 ⟨z14_8, z15_8, ge7, ge8, tb8⟩
            · obtain ⟨w7, hX7⟩ : ∃ X, X = w6.alloc (.cells za 32) := ⟨_, rfl⟩
              have hb7 : Below w6.heap.size w6 w7 := by rw [hX7]; exact (Below.refl _ _).alloc (Nat.le_refl _) _
              have z15_7 : Bk w7 w6.heap.size 32 (da fun _ => 0) := by rw [hX7, za_eq]; exact heap_new' _ _ _ rfl
              have ge7 : w4.heap.size ≤ w6.heap.size := tb6.size
              intro K hK
              rw [if_pos (by rfl)]
              go_simp
              rw [← hX7]
              clear hX7
              obtain ⟨a7_, ha7_⟩ : ∃ g, w6.heap.size = g := ⟨_, rfl⟩
              rw [ha7_] at z15_7
              replace ge7 := Nat.le_trans ge7 (Nat.le_of_eq ha7_)
              rw [ha7_]
              clear ha7_
              have b7 := step_below hb7 b6
              have B1_7 := B1_6.keep hb7
              have Y0_7 := Y0_6.keep hb7
              have v2_7 := own_keep v2_6 hb7
              have q3_7 := own_keep q3_6 hb7
              have t7 := step_below hb7 t6
              have tb7 := tb6.trans (hb7.mono tb6.size)
              refine hK.out _ _ ⟨(show Dr w7 (w.heap.size + 1) 27 d1 from B1_7).range, (Y0_7.cell (i := 0) rfl), (Y0_7.cell (i := 1) rfl)⟩ (fun hS7 => ?_)
              clear hK K
              refine wpAnyH_ready (rs := [5, 10]) (by kernel_rfl) (by simp) (AllReadyH.cons rfl ?_ (AllReadyH.cons rfl ?_ AllReadyH.nil))
              · intro K hK
                rw [if_pos (by rfl)]
                go_simp
                refine (KI _ _ (HA.of_own q3_7) ).mono ?_
                rintro e w8 ⟨C8, e8, rfl, own8, hb8⟩
                have b8 := step_below hb8 b7
                have B1_8 := B1_7.keep hb8
                have Y0_8 := Y0_7.keep hb8
                have v2_8 := own_keep v2_7 hb8
                have q3_8 := own_keep q3_7 hb8
                have t8 := step_below hb8 t7
                have r8_8 := own8
                have tb8 := tb7.trans (hb8.mono tb7.size)
                have z15_8 := z15_7.keep hb8
                have oo_8 := own_base own8 tb7.size
                refine hK.out _ _ ⟨(show Dr w8 (w.heap.size + 1) 27 d1 from B1_8).range, (Y0_8.cell (i := 0) rfl), (Y0_8.cell (i := 1) rfl)⟩ (fun hS8 => ?_)
                clear hK K
                refine wpAnyH_take (i := 6) (v := .tuple #[.agg #[.int .i16 rs0, .slice C8 r0.length e8], .agg (da r1), .int .i64 r2]) rfl (by kernel_rfl) (by kernel_rfl) (by kernel_rfl) (fun _ _ _ h => h) (Or.inl ⟨by rfl, fun w' _ => by go_simp⟩) hS8 ?_
                change wpAnyH _ _ _ _ _ _ _ (Act.put _ (some 41) _) _
                simp only [Act.put, List.setIfInBounds_toArray, List.set_cons_zero, List.set_cons_succ]
                refine wpAnyH_take (i := 7) (v := .agg #[.int .i16 rs0, .slice C8 r0.length e8]) rfl (by kernel_rfl) (by kernel_rfl) (by kernel_rfl) (fun _ _ _ h => h) (Or.inl ⟨by rfl, fun w' _ => by go_simp⟩) hS8 ?_
                change wpAnyH _ _ _ _ _ _ _ (Act.put _ (some 48) _) _
                simp only [Act.put, List.setIfInBounds_toArray, List.set_cons_zero, List.set_cons_succ]
                refine wpAnyH_take (i := 8) (v := .agg (da r1)) rfl (by kernel_rfl) (by kernel_rfl) (by kernel_rfl) (fun _ _ _ h => h) (Or.inl ⟨by rfl, fun w' _ => by go_simp⟩) hS8 ?_
                change wpAnyH _ _ _ _ _ _ _ (Act.put _ (some 49) _) _
                simp only [Act.put, List.setIfInBounds_toArray, List.set_cons_zero, List.set_cons_succ]
                refine wpAnyH_take (i := 9) (v := .int .i64 r2) rfl (by kernel_rfl) (by kernel_rfl) (by kernel_rfl) (fun _ _ _ h => h) (Or.inl ⟨by rfl, fun w' _ => by go_simp⟩) hS8 ?_
                change wpAnyH _ _ _ _ _ _ _ (Act.put _ (some 50) _) _
                simp only [Act.put, List.setIfInBounds_toArray, List.set_cons_zero, List.set_cons_succ]
                refine wpAnyH_ready (rs := [10]) (by kernel_rfl) (by simp) (AllReadyH.cons rfl ?_ AllReadyH.nil)
                obtain ⟨w9, hX9⟩ : ∃ X, X = w8.alloc (.cells #[.int .i16 0, .slice none 0 0] 31) := ⟨_, rfl⟩
                have hb9 : Below w8.heap.size w8 w9 := by rw [hX9]; exact (Below.refl _ _).alloc (Nat.le_refl _) _
                have z14_9 : Bk w9 w8.heap.size 31 #[.int .i16 0, .slice none 0 0] := by rw [hX9]; exact heap_new' _ _ _ rfl
                have ge9 : w4.heap.size ≤ w8.heap.size := tb8.size
                intro K hK
                rw [if_pos (by rfl)]
                go_simp
                rw [← hX9]
                clear hX9
                obtain ⟨a9_, ha9_⟩ : ∃ g, w8.heap.size = g := ⟨_, rfl⟩
                rw [ha9_] at z14_9
                replace ge9 := Nat.le_trans ge9 (Nat.le_of_eq ha9_)
                rw [ha9_]
                clear ha9_
                have b9 := step_below hb9 b8
                have B1_9 := B1_8.keep hb9
                have Y0_9 := Y0_8.keep hb9
                have v2_9 := own_keep v2_8 hb9
                have q3_9 := own_keep q3_8 hb9
                have r8_9 := own_keep r8_8 hb9
                have t9 := step_below hb9 t8
                have tb9 := tb8.trans (hb9.mono tb8.size)
                have z15_9 := z15_8.keep hb9
                have oo_9 := own_keep oo_8 hb9
                refine hK.out _ _ ⟨(show Dr w9 (w.heap.size + 1) 27 d1 from B1_9).range, (Y0_9.cell (i := 0) rfl), (Y0_9.cell (i := 1) rfl)⟩ (fun hS9 => ?_)
                clear hK K
                try (simp only [Act.put, List.setIfInBounds_toArray, List.set_cons_zero, List.set_cons_succ])
                exact J2_ a9_ a7_ w9 C8 e8 ⟨z14_9, z15_9, ge9, ge7, tb9, oo_9⟩
              · obtain ⟨w8, hX8⟩ : ∃ X, X = w7.alloc (.cells #[.int .i16 0, .slice none 0 0] 31) := ⟨_, rfl⟩
                have hb8 : Below w7.heap.size w7 w8 := by rw [hX8]; exact (Below.refl _ _).alloc (Nat.le_refl _) _
                have z14_8 : Bk w8 w7.heap.size 31 #[.int .i16 0, .slice none 0 0] := by rw [hX8]; exact heap_new' _ _ _ rfl
                have ge8 : w4.heap.size ≤ w7.heap.size := tb7.size
                intro K hK
                rw [if_pos (by rfl)]
                go_simp
                rw [← hX8]
                clear hX8
                obtain ⟨a8_, ha8_⟩ : ∃ g, w7.heap.size = g := ⟨_, rfl⟩
                rw [ha8_] at z14_8
                replace ge8 := Nat.le_trans ge8 (Nat.le_of_eq ha8_)
                rw [ha8_]
                clear ha8_
                have b8 := step_below hb8 b7
                have B1_8 := B1_7.keep hb8
                have Y0_8 := Y0_7.keep hb8
                have v2_8 := own_keep v2_7 hb8
                have q3_8 := own_keep q3_7 hb8
                have t8 := step_below hb8 t7
                have tb8 := tb7.trans (hb8.mono tb7.size)
                have z15_8 := z15_7.keep hb8
                refine hK.out _ _ ⟨(show Dr w8 (w.heap.size + 1) 27 d1 from B1_8).range, (Y0_8.cell (i := 0) rfl), (Y0_8.cell (i := 1) rfl)⟩ (fun hS8 => ?_)
                clear hK K
                try (simp only [Act.put, List.setIfInBounds_toArray, List.set_cons_zero, List.set_cons_succ])
                exact J1_ a8_ a7_ w8 ⟨z14_8, z15_8, ge8, ge7, tb8⟩
          · obtain ⟨w6, hX6⟩ : ∃ X, X = wd5.alloc (.cells #[.int .i16 0, .slice none 0 0] 31) := ⟨_, rfl⟩
            have hb6 : Below wd5.heap.size wd5 w6 := by rw [hX6]; exact (Below.refl _ _).alloc (Nat.le_refl _) _
            have z14_6 : Bk w6 wd5.heap.size 31 #[.int .i16 0, .slice none 0 0] := by rw [hX6]; exact heap_new' _ _ _ rfl
            have ge6 : w4.heap.size ≤ wd5.heap.size := tb5.size
            intro K hK
            rw [if_pos (by rfl)]
            go_simp
            rw [← hX6]
            clear hX6
            obtain ⟨a6_, ha6_⟩ : ∃ g, wd5.heap.size = g := ⟨_, rfl⟩
            rw [ha6_] at z14_6
            replace ge6 := Nat.le_trans ge6 (Nat.le_of_eq ha6_)
            rw [ha6_]
            clear ha6_
            have b6 := step_below hb6 b5
            have B1_6 := B1_5.keep hb6
            have Y0_6 := Y0_5.keep hb6
            have v2_6 := own_keep v2_5 hb6
            have q3_6 := own_keep q3_5 hb6
            have t6 := step_below hb6 t5
            have tb6 := tb5.trans (hb6.mono tb5.size)
            refine hK.out _ _ ⟨(show Dr w6 (w.heap.size + 1) 27 d1 from B1_6).range, (Y0_6.cell (i := 0) rfl), (Y0_6.cell (i := 1) rfl)⟩ (fun hS6 => ?_)
            clear hK K
            refine wpAnyH_ready (rs := [2, 11]) (by kernel_rfl) (by simp) (AllReadyH.cons rfl ?_ (AllReadyH.cons rfl ?_ AllReadyH.nil))
            · intro K hK
              rw [if_pos (by rfl)]
              go_simp
              refine (toDrum_any d1 _).mono ?_
              rintro e w7 ⟨rfl, hb7⟩
              have b7 := step_below hb7 b6
              have B1_7 := B1_6.keep hb7
              have Y0_7 := Y0_6.keep hb7
              have v2_7 := own_keep v2_6 hb7
              have q3_7 := own_keep q3_6 hb7
              have t7 := step_below hb7 t6
              have tb7 := tb6.trans (hb7.mono tb6.size)
              have z14_7 := z14_6.keep hb7
              refine hK.out _ _ ⟨(show Dr w7 (w.heap.size + 1) 27 d1 from B1_7).range, (Y0_7.cell (i := 0) rfl), (Y0_7.cell (i := 1) rfl)⟩ (fun hS7 => ?_)
              clear hK K
              refine wpAnyH_ready (rs := [5, 11]) (by kernel_rfl) (by simp) (AllReadyH.cons rfl ?_ (AllReadyH.cons rfl ?_ AllReadyH.nil))
              · intro K hK
                rw [if_pos (by rfl)]
                go_simp
                refine (KI _ _ (HA.of_own q3_7) ).mono ?_
                rintro e w8 ⟨C8, e8, rfl, own8, hb8⟩
                have b8 := step_below hb8 b7
                have B1_8 := B1_7.keep hb8
                have Y0_8 := Y0_7.keep hb8
                have v2_8 := own_keep v2_7 hb8
                have q3_8 := own_keep q3_7 hb8
                have t8 := step_below hb8 t7
                have r8_8 := own8
                have tb8 := tb7.trans (hb8.mono tb7.size)
                have z14_8 := z14_7.keep hb8
                have oo_8 := own_base own8 tb7.size
                refine hK.out _ _ ⟨(show Dr w8 (w.heap.size + 1) 27 d1 from B1_8).range, (Y0_8.cell (i := 0) rfl), (Y0_8.cell (i := 1) rfl)⟩ (fun hS8 => ?_)
                clear hK K
                refine wpAnyH_take (i := 6) (v := .tuple #[.agg #[.int .i16 rs0, .slice C8 r0.length e8], .agg (da r1), .int .i64 r2]) rfl (by kernel_rfl) (by kernel_rfl) (by kernel_rfl) (fun _ _ _ h => h) (Or.inl ⟨by rfl, fun w' _ => by go_simp⟩) hS8 ?_
                change wpAnyH _ _ _ _ _ _ _ (Act.put _ (some 41) _) _
                simp only [Act.put, List.setIfInBounds_toArray, List.set_cons_zero, List.set_cons_succ]
                refine wpAnyH_take (i := 7) (v := .agg #[.int .i16 rs0, .slice C8 r0.length e8]) rfl (by kernel_rfl) (by kernel_rfl) (by kernel_rfl) (fun _ _ _ h => h) (Or.inl ⟨by rfl, fun w' _ => by go_simp⟩) hS8 ?_
                change wpAnyH _ _ _ _ _ _ _ (Act.put _ (some 48) _) _
                simp only [Act.put, List.setIfInBounds_toArray, List.set_cons_zero, List.set_cons_succ]
                refine wpAnyH_take (i := 8) (v := .agg (da r1)) rfl (by kernel_rfl) (by kernel_rfl) (by kernel_rfl) (fun _ _ _ h => h) (Or.inl ⟨by rfl, fun w' _ => by go_simp⟩) hS8 ?_
                change wpAnyH _ _ _ _ _ _ _ (Act.put _ (some 49) _) _
                simp only [Act.put, List.setIfInBounds_toArray, List.set_cons_zero, List.set_cons_succ]
                refine wpAnyH_take (i := 9) (v := .int .i64 r2) rfl (by kernel_rfl) (by kernel_rfl) (by kernel_rfl) (fun _ _ _ h => h) (Or.inl ⟨by rfl, fun w' _ => by go_simp⟩) hS8 ?_
                change wpAnyH _ _ _ _ _ _ _ (Act.put _ (some 50) _) _
                simp only [Act.put, List.setIfInBounds_toArray, List.set_cons_zero, List.set_cons_succ]
                refine wpAnyH_ready (rs := [11]) (by kernel_rfl) (by simp) (AllReadyH.cons rfl ?_ AllReadyH.nil)
                obtain ⟨w9, hX9⟩ : ∃ X, X = w8.alloc (.cells za 32) := ⟨_, rfl⟩
                have hb9 : Below w8.heap.size w8 w9 := by rw [hX9]; exact (Below.refl _ _).alloc (Nat.le_refl _) _
                have z15_9 : Bk w9 w8.heap.size 32 (da fun _ => 0) := by rw [hX9, za_eq]; exact heap_new' _ _ _ rfl
                have ge9 : w4.heap.size ≤ w8.heap.size := tb8.size
                intro K hK
                rw [if_pos (by rfl)]
                go_simp
                rw [← hX9]
                clear hX9
                obtain ⟨a9_, ha9_⟩ : ∃ g, w8.heap.size = g := ⟨_, rfl⟩
                rw [ha9_] at z15_9
                replace ge9 := Nat.le_trans ge9 (Nat.le_of_eq ha9_)
                rw [ha9_]
                clear ha9_
                have b9 := step_below hb9 b8
                have B1_9 := B1_8.keep hb9
                have Y0_9 := Y0_8.keep hb9
                have v2_9 := own_keep v2_8 hb9
                have q3_9 := own_keep q3_8 hb9
                have r8_9 := own_keep r8_8 hb9
                have t9 := step_below hb9 t8
                have tb9 := tb8.trans (hb9.mono tb8.size)
                have z14_9 := z14_8.keep hb9
                have oo_9 := own_keep oo_8 hb9
                refine hK.out _ _ ⟨(show Dr w9 (w.heap.size + 1) 27 d1 from B1_9).range, (Y0_9.cell (i := 0) rfl), (Y0_9.cell (i := 1) rfl)⟩ (fun hS9 => ?_)
                clear hK K
                try (simp only [Act.put, List.setIfInBounds_toArray, List.set_cons_zero, List.set_cons_succ])
                exact J2_ a6_ a9_ w9 C8 e8 ⟨z14_9, z15_9, ge6, ge9, tb9, oo_9⟩
              · obtain ⟨w8, hX8⟩ : ∃ X, X = w7.alloc (.cells za 32) := ⟨_, rfl⟩
                have hb8 : Below w7.heap.size w7 w8 := by rw [hX8]; exact (Below.refl _ _).alloc (Nat.le_refl _) _
                have z15_8 : Bk w8 w7.heap.size 32 (da fun _ => 0) := by rw [hX8, za_eq]; exact heap_new' _ _ _ rfl
                have ge8 : w4.heap.size ≤ w7.heap.size := tb7.size
                intro K hK
                rw [if_pos (by rfl)]
                go_simp
                rw [← hX8]
                clear hX8
                obtain ⟨a8_, ha8_⟩ : ∃ g, w7.heap.size = g := ⟨_, rfl⟩
                rw [ha8_] at z15_8
                replace ge8 := Nat.le_trans ge8 (Nat.le_of_eq ha8_)
                rw [ha8_]
                clear ha8_
                have b8 := step_below hb8 b7
                have B1_8 := B1_7.keep hb8
                have Y0_8 := Y0_7.keep hb8
                have v2_8 := own_keep v2_7 hb8
                have q3_8 := own_keep q3_7 hb8
                have t8 := step_below hb8 t7
                have tb8 := tb7.trans (hb8.mono tb7.size)
                have z14_8 := z14_7.keep hb8
                refine hK.out _ _ ⟨(show Dr w8 (w.heap.size + 1) 27 d1 from B1_8).range, (Y0_8.cell (i := 0) rfl), (Y0_8.cell (i := 1) rfl)⟩ (fun hS8 => ?_)
                clear hK K
                try (simp only [Act.put, List.setIfInBounds_toArray, List.set_cons_zero, List.set_cons_succ])
                exact J1_ a6_ a8_ w8 ⟨z14_8, z15_8, ge6, ge8, tb8⟩
            · obtain ⟨w7, hX7⟩ : ∃ X, X = w6.alloc (.cells za 32) := ⟨_, rfl⟩
              have hb7 : Below w6.heap.size w6 w7 := by rw [hX7]; exact (Below.refl _ _).alloc (Nat.le_refl _) _
              have z15_7 : Bk w7 w6.heap.size 32 (da fun _ => 0) := by rw [hX7, za_eq]; exact heap_new' _ _ _ rfl
              have ge7 : w4.heap.size ≤ w6.heap.size := tb6.size
              intro K hK
              rw [if_pos (by rfl)]
              go_simp
              rw [← hX7]
              clear hX7
              obtain ⟨a7_, ha7_⟩ : ∃ g, w6.heap.size = g := ⟨_, rfl⟩
              rw [ha7_] at z15_7
              replace ge7 := Nat.le_trans ge7 (Nat.le_of_eq ha7_)
              rw [ha7_]
              clear ha7_
              have b7 := step_below hb7 b6
              have B1_7 := B1_6.keep hb7
              have Y0_7 := Y0_6.keep hb7
              have v2_7 := own_keep v2_6 hb7
              have q3_7 := own_keep q3_6 hb7
              have t7 := step_below hb7 t6
              have tb7 := tb6.trans (hb7.mono tb6.size)
              have z14_7 := z14_6.keep hb7
              refine hK.out _ _ ⟨(show Dr w7 (w.heap.size + 1) 27 d1 from B1_7).range, (Y0_7.cell (i := 0) rfl), (Y0_7.cell (i := 1) rfl)⟩ (fun hS7 => ?_)
              clear hK K
              try (simp only [Act.put, List.setIfInBounds_toArray, List.set_cons_zero, List.set_cons_succ])
              exact J0_ a6_ a7_ w7 ⟨z14_7, z15_7, ge6, ge7, tb7⟩
          · obtain ⟨w6, hX6⟩ : ∃ X, X = wd5.alloc (.cells za 32) := ⟨_, rfl⟩
            have hb6 : Below wd5.heap.size wd5 w6 := by rw [hX6]; exact (Below.refl _ _).alloc (Nat.le_refl _) _
            have z15_6 : Bk w6 wd5.heap.size 32 (da fun _ => 0) := by rw [hX6, za_eq]; exact heap_new' _ _ _ rfl
            have ge6 : w4.heap.size ≤ wd5.heap.size := tb5.size
            intro K hK
            rw [if_pos (by rfl)]
            go_simp
            rw [← hX6]
            clear hX6
            obtain ⟨a6_, ha6_⟩ : ∃ g, wd5.heap.size = g := ⟨_, rfl⟩
            rw [ha6_] at z15_6
            replace ge6 := Nat.le_trans ge6 (Nat.le_of_eq ha6_)
            rw [ha6_]
            clear ha6_
            have b6 := step_below hb6 b5
            have B1_6 := B1_5.keep hb6
            have Y0_6 := Y0_5.keep hb6
            have v2_6 := own_keep v2_5 hb6
            have q3_6 := own_keep q3_5 hb6
            have t6 := step_below hb6 t5
            have tb6 := tb5.trans (hb6.mono tb5.size)
            refine hK.out _ _ ⟨(show Dr w6 (w.heap.size + 1) 27 d1 from B1_6).range, (Y0_6.cell (i := 0) rfl), (Y0_6.cell (i := 1) rfl)⟩ (fun hS6 => ?_)
            clear hK K
            refine wpAnyH_ready (rs := [2, 10]) (by kernel_rfl) (by simp) (AllReadyH.cons rfl ?_ (AllReadyH.cons rfl ?_ AllReadyH.nil))
            · intro K hK
              rw [if_pos (by rfl)]
              go_simp
              refine (toDrum_any d1 _).mono ?_
              rintro e w7 ⟨rfl, hb7⟩
              have b7 := step_below hb7 b6
              have B1_7 := B1_6.keep hb7
              have Y0_7 := Y0_6.keep hb7
              have v2_7 := own_keep v2_6 hb7
              have q3_7 := own_keep q3_6 hb7
              have t7 := step_below hb7 t6
              have tb7 := tb6.trans (hb7.mono tb6.size)
              have z15_7 := z15_6.keep hb7
              refine hK.out _ _ ⟨(show Dr w7 (w.heap.size + 1) 27 d1 from B1_7).range, (Y0_7.cell (i := 0) rfl), (Y0_7.cell (i := 1) rfl)⟩ (fun hS7 => ?_)
              clear hK K
              refine wpAnyH_ready (rs := [5, 10]) (by kernel_rfl) (by simp) (AllReadyH.cons rfl ?_ (AllReadyH.cons rfl ?_ AllReadyH.nil))
              · intro K hK
                rw [if_pos (by rfl)]
                go_simp
                refine (KI _ _ (HA.of_own q3_7) ).mono ?_
                rintro e w8 ⟨C8, e8, rfl, own8, hb8⟩
                have b8 := step_below hb8 b7
                have B1_8 := B1_7.keep hb8
                have Y0_8 := Y0_7.keep hb8
                have v2_8 := own_keep v2_7 hb8
                have q3_8 := own_keep q3_7 hb8
                have t8 := step_below hb8 t7
                have r8_8 := own8
                have tb8 := tb7.trans (hb8.mono tb7.size)
                have z15_8 := z15_7.keep hb8
                have oo_8 := own_base own8 tb7.size
                refine hK.out _ _ ⟨(show Dr w8 (w.heap.size + 1) 27 d1 from B1_8).range, (Y0_8.cell (i := 0) rfl), (Y0_8.cell (i := 1) rfl)⟩ (fun hS8 => ?_)
                clear hK K
                refine wpAnyH_take (i := 6) (v := .tuple #[.agg #[.int .i16 rs0, .slice C8 r0.length e8], .agg (da r1), .int .i64 r2]) rfl (by kernel_rfl) (by kernel_rfl) (by kernel_rfl) (fun _ _ _ h => h) (Or.inl ⟨by rfl, fun w' _ => by go_simp⟩) hS8 ?_
                change wpAnyH _ _ _ _ _ _ _ (Act.put _ (some 41) _) _
                simp only [Act.put, List.setIfInBounds_toArray, List.set_cons_zero, List.set_cons_succ]
                refine wpAnyH_take (i := 7) (v := .agg #[.int .i16 rs0, .slice C8 r0.length e8]) rfl (by kernel_rfl) (by kernel_rfl) (by kernel_rfl) (fun _ _ _ h => h) (Or.inl ⟨by rfl, fun w' _ => by go_simp⟩) hS8 ?_
                change wpAnyH _ _ _ _ _ _ _ (Act.put _ (some 48) _) _
                simp only [Act.put, List.setIfInBounds_toArray, List.set_cons_zero, List.set_cons_succ]
                refine wpAnyH_take (i := 8) (v := .agg (da r1)) rfl (by kernel_rfl) (by kernel_rfl) (by kernel_rfl) (fun _ _ _ h => h) (Or.inl ⟨by rfl, fun w' _ => by go_simp⟩) hS8 ?_
                change wpAnyH _ _ _ _ _ _ _ (Act.put _ (some 49) _) _
                simp only [Act.put, List.setIfInBounds_toArray, List.set_cons_zero, List.set_cons_succ]
                refine wpAnyH_take (i := 9) (v := .int .i64 r2) rfl (by kernel_rfl) (by kernel_rfl) (by kernel_rfl) (fun _ _ _ h => h) (Or.inl ⟨by rfl, fun w' _ => by go_simp⟩) hS8 ?_
                change wpAnyH _ _ _ _ _ _ _ (Act.put _ (some 50) _) _
                simp only [Act.put, List.setIfInBounds_toArray, List.set_cons_zero, List.set_cons_succ]
                refine wpAnyH_ready (rs := [10]) (by kernel_rfl) (by simp) (AllReadyH.cons rfl ?_ AllReadyH.nil)
                obtain ⟨w9, hX9⟩ : ∃ X, X = w8.alloc (.cells #[.int .i16 0, .slice none 0 0] 31) := ⟨_, rfl⟩
                have hb9 : Below w8.heap.size w8 w9 := by rw [hX9]; exact (Below.refl _ _).alloc (Nat.le_refl _) _
                have z14_9 : Bk w9 w8.heap.size 31 #[.int .i16 0, .slice none 0 0] := by rw [hX9]; exact heap_new' _ _ _ rfl
                have ge9 : w4.heap.size ≤ w8.heap.size := tb8.size
                intro K hK
                rw [if_pos (by rfl)]
                go_simp
                rw [← hX9]
                clear hX9
                obtain ⟨a9_, ha9_⟩ : ∃ g, w8.heap.size = g := ⟨_, rfl⟩
                rw [ha9_] at z14_9
                replace ge9 := Nat.le_trans ge9 (Nat.le_of_eq ha9_)
                rw [ha9_]
                clear ha9_
                have b9 := step_below hb9 b8
                have B1_9 := B1_8.keep hb9
                have Y0_9 := Y0_8.keep hb9
                have v2_9 := own_keep v2_8 hb9
                have q3_9 := own_keep q3_8 hb9
                have r8_9 := own_keep r8_8 hb9
                have t9 := step_below hb9 t8
                have tb9 := tb8.trans (hb9.mono tb8.size)
                have z15_9 := z15_8.keep hb9
                have oo_9 := own_keep oo_8 hb9
                refine hK.out _ _ ⟨(show Dr w9 (w.heap.size + 1) 27 d1 from B1_9).range, (Y0_9.cell (i := 0) rfl), (Y0_9.cell (i := 1) rfl)⟩ (fun hS9 => ?_)
                clear hK K
                try (simp only [Act.put, List.setIfInBounds_toArray, List.set_cons_zero, List.set_cons_succ])
                exact J2_ a9_ a6_ w9 C8 e8 ⟨z14_9, z15_9, ge9, ge6, tb9, oo_9⟩
              · obtain ⟨w8, hX8⟩ : ∃ X, X = w7.alloc (.cells #[.int .i16 0, .slice none 0 0] 31) := ⟨_, rfl⟩
                have hb8 : Below w7.heap.size w7 w8 := by rw [hX8]; exact (Below.refl _ _).alloc (Nat.le_refl _) _
                have z14_8 : Bk w8 w7.heap.size 31 #[.int .i16 0, .slice none 0 0] := by rw [hX8]; exact heap_new' _ _ _ rfl
                have ge8 : w4.heap.size ≤ w7.heap.size := tb7.size
                intro K hK
                rw [if_pos (by rfl)]
                go_simp
                rw [← hX8]
                clear hX8
                obtain ⟨a8_, ha8_⟩ : ∃ g, w7.heap.size = g := ⟨_, rfl⟩
                rw [ha8_] at z14_8
                replace ge8 := Nat.le_trans ge8 (Nat.le_of_eq ha8_)
                rw [ha8_]
                clear ha8_
                have b8 := step_below hb8 b7
                have B1_8 := B1_7.keep hb8
                have Y0_8 := Y0_7.keep hb8
                have v2_8 := own_keep v2_7 hb8
                have q3_8 := own_keep q3_7 hb8
                have t8 := step_below hb8 t7
                have tb8 := tb7.trans (hb8.mono tb7.size)
                have z15_8 := z15_7.keep hb8
                refine hK.out _ _ ⟨(show Dr w8 (w.heap.size + 1) 27 d1 from B1_8).range, (Y0_8.cell (i := 0) rfl), (Y0_8.cell (i := 1) rfl)⟩ (fun hS8 => ?_)
                clear hK K
                try (simp only [Act.put, List.setIfInBounds_toArray, List.set_cons_zero, List.set_cons_succ])
                exact J1_ a8_ a6_ w8 ⟨z14_8, z15_8, ge8, ge6, tb8⟩
            · obtain ⟨w7, hX7⟩ : ∃ X, X = w6.alloc (.cells #[.int .i16 0, .slice none 0 0] 31) := ⟨_, rfl⟩
              have hb7 : Below w6.heap.size w6 w7 := by rw [hX7]; exact (Below.refl _ _).alloc (Nat.le_refl _) _
              have z14_7 : Bk w7 w6.heap.size 31 #[.int .i16 0, .slice none 0 0] := by rw [hX7]; exact heap_new' _ _ _ rfl
              have ge7 : w4.heap.size ≤ w6.heap.size := tb6.size
              intro K hK
              rw [if_pos (by rfl)]
              go_simp
              rw [← hX7]
              clear hX7
              obtain ⟨a7_, ha7_⟩ : ∃ g, w6.heap.size = g := ⟨_, rfl⟩
              rw [ha7_] at z14_7
              replace ge7 := Nat.le_trans ge7 (Nat.le_of_eq ha7_)
              rw [ha7_]
              clear ha7_
              have b7 := step_below hb7 b6
              have B1_7 := B1_6.keep hb7
              have Y0_7 := Y0_6.keep hb7
              have v2_7 := own_keep v2_6 hb7
              have q3_7 := own_keep q3_6 hb7
              have t7 := step_below hb7 t6
              have tb7 := tb6.trans (hb7.mono tb6.size)
              have z15_7 := z15_6.keep hb7
              refine hK.out _ _ ⟨(show Dr w7 (w.heap.size + 1) 27 d1 from B1_7).range, (Y0_7.cell (i := 0) rfl), (Y0_7.cell (i := 1) rfl)⟩ (fun hS7 => ?_)
              clear hK K
              try (simp only [Act.put, List.setIfInBounds_toArray, List.set_cons_zero, List.set_cons_succ])
              exact J0_ a7_ a6_ w7 ⟨z14_7, z15_7, ge7, ge6, tb7⟩
        · rintro a0s9000 a1s9000 w9000 ⟨z14_9000, z15_9000, ge0s9000, ge1s9000, tb9000⟩
          have hb9000 := tb9000
          have B1_9000 := B1_4.keep hb9000
          have Y0_9000 := Y0_4.keep hb9000
          have v2_9000 := own_keep v2_4 hb9000
          have q3_9000 := own_keep q3_4 hb9000
          have t9000 := step_below hb9000 t4
          have b9000 := step_below hb9000 b4
          show wpAnyH _ _ _ _ _ _ _ _ _
          refine wpAnyH_ready (rs := [2]) (by kernel_rfl) (by simp) (AllReadyH.cons rfl ?_ AllReadyH.nil)
          intro K hK
          rw [if_pos (by rfl)]
          go_simp
          refine (toDrum_any d1 _).mono ?_
          rintro e w9001 ⟨rfl, hb9001⟩
          have b9001 := step_below hb9001 b9000
          have B1_9001 := B1_9000.keep hb9001
          have Y0_9001 := Y0_9000.keep hb9001
          have v2_9001 := own_keep v2_9000 hb9001
          have q3_9001 := own_keep q3_9000 hb9001
          have t9001 := step_below hb9001 t9000
          have tb9001 := tb9000.trans (hb9001.mono tb9000.size)
          have z14_9001 := z14_9000.keep hb9001
          have z15_9001 := z15_9000.keep hb9001
          refine hK.out _ _ ⟨(show Dr w9001 (w.heap.size + 1) 27 d1 from B1_9001).range, (Y0_9001.cell (i := 0) rfl), (Y0_9001.cell (i := 1) rfl)⟩ (fun hS9001 => ?_)
          clear hK K
          try (simp only [Act.put, List.setIfInBounds_toArray, List.set_cons_zero, List.set_cons_succ])
          exact J1_ a0s9000 a1s9000 w9001 ⟨z14_9001, z15_9001, ge0s9000, ge1s9000, tb9001⟩
      · rintro a0s9001 a1s9001 w9001 ⟨z14_9001, z15_9001, ge0s9001, ge1s9001, tb9001⟩
        have hb9001 := tb9001
        have B1_9001 := B1_4.keep hb9001
        have Y0_9001 := Y0_4.keep hb9001
        have v2_9001 := own_keep v2_4 hb9001
        have q3_9001 := own_keep q3_4 hb9001
        have t9001 := step_below hb9001 t4
        have b9001 := step_below hb9001 b4
        show wpAnyH _ _ _ _ _ _ _ _ _
        refine wpAnyH_ready (rs := [5]) (by kernel_rfl) (by simp) (AllReadyH.cons rfl ?_ AllReadyH.nil)
        intro K hK
        rw [if_pos (by rfl)]
        go_simp
        refine (KI _ _ (HA.of_own q3_9001) ).mono ?_
        rintro e w9002 ⟨C9002, e9002, rfl, own9002, hb9002⟩
        have b9002 := step_below hb9002 b9001
        have B1_9002 := B1_9001.keep hb9002
        have Y0_9002 := Y0_9001.keep hb9002
        have v2_9002 := own_keep v2_9001 hb9002
        have q3_9002 := own_keep q3_9001 hb9002
        have t9002 := step_below hb9002 t9001
        have r9002_9002 := own9002
        have tb9002 := tb9001.trans (hb9002.mono tb9001.size)
        have z14_9002 := z14_9001.keep hb9002
        have z15_9002 := z15_9001.keep hb9002
        have oo_9002 := own_base own9002 tb9001.size
        refine hK.out _ _ ⟨(show Dr w9002 (w.heap.size + 1) 27 d1 from B1_9002).range, (Y0_9002.cell (i := 0) rfl), (Y0_9002.cell (i := 1) rfl)⟩ (fun hS9002 => ?_)
        clear hK K
        refine wpAnyH_take (i := 6) (v := .tuple #[.agg #[.int .i16 rs0, .slice C9002 r0.length e9002], .agg (da r1), .int .i64 r2]) rfl (by kernel_rfl) (by kernel_rfl) (by kernel_rfl) (fun _ _ _ h => h) (Or.inl ⟨by rfl, fun w' _ => by go_simp⟩) hS9002 ?_
        change wpAnyH _ _ _ _ _ _ _ (Act.put _ (some 41) _) _
        simp only [Act.put, List.setIfInBounds_toArray, List.set_cons_zero, List.set_cons_succ]
        refine wpAnyH_take (i := 7) (v := .agg #[.int .i16 rs0, .slice C9002 r0.length e9002]) rfl (by kernel_rfl) (by kernel_rfl) (by kernel_rfl) (fun _ _ _ h => h) (Or.inl ⟨by rfl, fun w' _ => by go_simp⟩) hS9002 ?_
        change wpAnyH _ _ _ _ _ _ _ (Act.put _ (some 48) _) _
        simp only [Act.put, List.setIfInBounds_toArray, List.set_cons_zero, List.set_cons_succ]
        refine wpAnyH_take (i := 8) (v := .agg (da r1)) rfl (by kernel_rfl) (by kernel_rfl) (by kernel_rfl) (fun _ _ _ h => h) (Or.inl ⟨by rfl, fun w' _ => by go_simp⟩) hS9002 ?_
        change wpAnyH _ _ _ _ _ _ _ (Act.put _ (some 49) _) _
        simp only [Act.put, List.setIfInBounds_toArray, List.set_cons_zero, List.set_cons_succ]
        refine wpAnyH_take (i := 9) (v := .int .i64 r2) rfl (by kernel_rfl) (by kernel_rfl) (by kernel_rfl) (fun _ _ _ h => h) (Or.inl ⟨by rfl, fun w' _ => by go_simp⟩) hS9002 ?_
        change wpAnyH _ _ _ _ _ _ _ (Act.put _ (some 50) _) _
        simp only [Act.put, List.setIfInBounds_toArray, List.set_cons_zero, List.set_cons_succ]
        try (simp only [Act.put, List.setIfInBounds_toArray, List.set_cons_zero, List.set_cons_succ])
        exact J2_ a0s9001 a1s9001 w9002 C9002 e9002 ⟨z14_9002, z15_9002, ge0s9001, ge1s9001, tb9002, oo_9002⟩
    · rintro a0s9002 a1s9002 w9002 C9002 e9002 ⟨z14_9002, z15_9002, ge0s9002, ge1s9002, tb9002, oo_9002⟩
      have hb9002 := tb9002
      have B1_9002 := B1_4.keep hb9002
      have Y0_9002 := Y0_4.keep hb9002
      have v2_9002 := own_keep v2_4 hb9002
      have q3_9002 := own_keep q3_4 hb9002
      have t9002 := step_below hb9002 t4
      have b9002 := step_below hb9002 b4
      show wpAnyH _ _ _ _ _ _ _ _ _
      refine wpAnyH_ready (rs := [12]) (by kernel_rfl) (by simp) (AllReadyH.cons rfl ?_ AllReadyH.nil)
      intro K hK
      rw [if_pos (by rfl)]
      refine wp_store_row 31 (.tmp 14) (.tmp 48) rfl (a0s9002) #[.int .i16 rs0, .slice C9002 r0.length e9002] rfl rfl 31 _ z14_9002 (infoF2 _ _) (sz22 _ _ _ _) (oneF _ _ _ _) ?_
      have hb9003 : Below w4.heap.size w9002 (w9002.setRow (a0s9002) #[.int .i16 rs0, .slice C9002 r0.length e9002]) := below_setRow (Below.refl _ _) ge0s9002
      have z14_9003 : Bk (w9002.setRow (a0s9002) #[.int .i16 rs0, .slice C9002 r0.length e9002]) (a0s9002) 31 #[.int .i16 rs0, .slice C9002 r0.length e9002] := setRow_heap _ _ _ _ _ _ z14_9002
      have z15_9003 : Bk (w9002.setRow (a0s9002) #[.int .i16 rs0, .slice C9002 r0.length e9002]) (a1s9002) 32 _ := (setRow_other _ _ _ _ (bk_ne z15_9002 z14_9002 (by decide))).trans z15_9002
      have oo_9003 := own_rowK oo_9002 z14_9002 (by decide) #[.int .i16 rs0, .slice C9002 r0.length e9002]
      have B1_9003 : Bk (w9002.setRow (a0s9002) #[.int .i16 rs0, .slice C9002 r0.length e9002]) (w.heap.size + 1) 27 (da d1) := (setRow_other _ _ _ _ (by have e1 := B1_4.lt; have e2 := ge0s9002; omega)).trans B1_9002
      have Y0_9003 : Bk (w9002.setRow (a0s9002) #[.int .i16 rs0, .slice C9002 r0.length e9002]) (w3.heap.size) 31 #[.int .i16 s0, .slice (some ⟨g3, 0, none⟩) l0.length l0.length] := (setRow_other _ _ _ _ (by have e1 := Y0_4.lt; have e2 := ge0s9002; omega)).trans Y0_9002
      have tb9003 := tb9002.trans hb9003
      refine hK.out _ _ ⟨(show Dr (w9002.setRow (a0s9002) #[.int .i16 rs0, .slice C9002 r0.length e9002]) (w.heap.size + 1) 27 d1 from B1_9003).range, (Y0_9003.cell (i := 0) rfl), (Y0_9003.cell (i := 1) rfl)⟩ (fun hS9003 => ?_)
      clear hK K
      refine wpAnyH_ready (rs := [13]) (by kernel_rfl) (by simp) (AllReadyH.cons rfl ?_ AllReadyH.nil)
      intro K hK
      rw [if_pos (by rfl)]
      refine wp_store_row 32 (.tmp 15) (.tmp 49) rfl (a1s9002) (da r1) rfl rfl 32 _ z15_9003 (by rw [da_size]; exact info32) (by simp only [da_size]) (da_one _) ?_
      have hb9004 : Below w4.heap.size (w9002.setRow (a0s9002) #[.int .i16 rs0, .slice C9002 r0.length e9002]) ((w9002.setRow (a0s9002) #[.int .i16 rs0, .slice C9002 r0.length e9002]).setRow (a1s9002) (da r1)) := below_setRow (Below.refl _ _) ge1s9002
      have z15_9004 : Bk ((w9002.setRow (a0s9002) #[.int .i16 rs0, .slice C9002 r0.length e9002]).setRow (a1s9002) (da r1)) (a1s9002) 32 (da r1) := setRow_heap _ _ _ _ _ _ z15_9003
      have z14_9004 : Bk ((w9002.setRow (a0s9002) #[.int .i16 rs0, .slice C9002 r0.length e9002]).setRow (a1s9002) (da r1)) (a0s9002) 31 _ := (setRow_other _ _ _ _ (bk_ne z14_9003 z15_9003 (by decide))).trans z14_9003
      have oo_9004 := own_rowK oo_9003 z15_9003 (by decide) (da r1)
      have B1_9004 : Bk ((w9002.setRow (a0s9002) #[.int .i16 rs0, .slice C9002 r0.length e9002]).setRow (a1s9002) (da r1)) (w.heap.size + 1) 27 (da d1) := (setRow_other _ _ _ _ (by have e1 := B1_4.lt; have e2 := ge1s9002; omega)).trans B1_9003
      have Y0_9004 : Bk ((w9002.setRow (a0s9002) #[.int .i16 rs0, .slice C9002 r0.length e9002]).setRow (a1s9002) (da r1)) (w3.heap.size) 31 #[.int .i16 s0, .slice (some ⟨g3, 0, none⟩) l0.length l0.length] := (setRow_other _ _ _ _ (by have e1 := Y0_4.lt; have e2 := ge1s9002; omega)).trans Y0_9003
      have tb9004 := tb9003.trans hb9004
      refine hK.out _ _ ⟨(show Dr ((w9002.setRow (a0s9002) #[.int .i16 rs0, .slice C9002 r0.length e9002]).setRow (a1s9002) (da r1)) (w.heap.size + 1) 27 d1 from B1_9004).range, (Y0_9004.cell (i := 0) rfl), (Y0_9004.cell (i := 1) rfl)⟩ (fun hS9004 => ?_)
      clear hK K
      refine wpAnyH_take (i := 14) (v := .int .i64 r2) rfl (by kernel_rfl) (by kernel_rfl) (by kernel_rfl) (fun _ _ _ h => h) (Or.inl ⟨by rfl, fun w' _ => by go_simp⟩) hS9004 ?_
      change wpAnyH _ _ _ _ _ _ _ (Act.put _ (some 16) _) _
      simp only [Act.put, List.setIfInBounds_toArray, List.set_cons_zero, List.set_cons_succ]
      refine wpAnyH_done (by kernel_rfl) ?_ _
      go_wp2_with fail
      go_meet
      exact ⟨_, _, C9002, e9002, _, rfl, rfl, rfl, rfl, z14_9004, z15_9004, ge0s9002, ge1s9002, oo_9004, tb9004⟩
  obtain ⟨rg0_5, rg1_5, C5, e5, w5, rfl, rfl, rfl, rfl, K0_5, K1_5, rge0_5, rge1_5, own5, hb5⟩ := hcut
  have b5 := step_below hb5 b4
  have B0_5 := B0_4.keep hb5
  have B1_5 := B1_4.keep hb5
  have R0x2_5 := R0x2_4.keep hb5
  have R1x2_5 := R1x2_4.keep hb5
  have Y0_5 := Y0_4.keep hb5
  have v2_5 := own_keep v2_4 hb5
  have q3_5 := own_keep q3_4 hb5
  have t5 := step_below hb5 t4
  have r5_5 := own5
  have R0x5_5 := K0_5
  have R1x5_5 := K1_5
  have pf51_ := R0x5_5.cell (i := 0) rfl
  have qf51_ := R0x5_5.cell (i := 1) rfl
  have pf52_ := R0x2_5.cell (i := 0) rfl
  have qf52_ := R0x2_5.cell (i := 1) rfl
  go_wp2_with fail
  clear pf51_ qf51_ pf52_ qf52_
  refine (eqFrame_any rs0 _ _ _ _ r0 _ (HA.of_own r5_5) (HA.of_own v2_5) hrl0).mono ?_
  rintro e w6 ⟨rfl, hb6⟩
  have b6 := step_below hb6 b5
  have B0_6 := B0_5.keep hb6
  have B1_6 := B1_5.keep hb6
  have R0x2_6 := R0x2_5.keep hb6
  have R1x2_6 := R1x2_5.keep hb6
  have Y0_6 := Y0_5.keep hb6
  have R0x5_6 := R0x5_5.keep hb6
  have R1x5_6 := R1x5_5.keep hb6
  have v2_6 := own_keep v2_5 hb6
  have q3_6 := own_keep q3_5 hb6
  have r5_6 := own_keep r5_5 hb6
  have t6 := step_below hb6 t5
  have HG56_ := hide (show w6.heap[rg1_5]? = some (.cells (da r1) 32 (0, 0)) from R1x5_6)
  have HG57_ := hide (show w6.heap[rg1_2]? = some (.cells (da r1) 32 (0, 0)) from R1x2_6)
  go_wp2_with (first | (with_reducible refine wpList_load_rowG (by kernel_rfl) 32 (.tmp 15) rfl (rg1_5) rfl 32 (da r1) (0, 0) _ HG56_.out Try.underlying32 rfl (by rw [da_size]; exact info32) ?_) | (with_reducible refine wpList_load_rowG (by kernel_rfl) 32 (.tmp 11) rfl (rg1_2) rfl 32 (da r1) (0, 0) _ HG57_.out Try.underlying32 rfl (by rw [da_size]; exact info32) ?_))
  clear HG56_ HG57_
  refine (eqDrum_any r1 _).mono ?_
  rintro e w7 ⟨rfl, hb7⟩
  have b7 := step_below hb7 b6
  have B0_7 := B0_6.keep hb7
  have B1_7 := B1_6.keep hb7
  have R0x2_7 := R0x2_6.keep hb7
  have R1x2_7 := R1x2_6.keep hb7
  have Y0_7 := Y0_6.keep hb7
  have R0x5_7 := R0x5_6.keep hb7
  have R1x5_7 := R1x5_6.keep hb7
  have v2_7 := own_keep v2_6 hb7
  have q3_7 := own_keep q3_6 hb7
  have r5_7 := own_keep r5_6 hb7
  have t7 := step_below hb7 t6
  go_wp2_with fail
  have hb8 : Below w7.heap.size w7 w7.drew := (Below.refl _ _).drew
  have b8 := step_below hb8 b7
  have B0_8 := B0_7.keep hb8
  have B1_8 := B1_7.keep hb8
  have R0x2_8 := R0x2_7.keep hb8
  have R1x2_8 := R1x2_7.keep hb8
  have Y0_8 := Y0_7.keep hb8
  have R0x5_8 := R0x5_7.keep hb8
  have R1x5_8 := R1x5_7.keep hb8
  have v2_8 := own_keep v2_7 hb8
  have q3_8 := own_keep q3_7 hb8
  have r5_8 := own_keep r5_7 hb8
  have t8 := step_below hb8 t7
  refine wp_region_held_drew (S := fun w' => w'.cell? ⟨w3.heap.size, 0, none⟩ = some (.int .i16 s0) ∧ w'.cell? ⟨w3.heap.size, 1, none⟩ = some (.slice (some ⟨g3, 0, none⟩) l0.length l0.length) ∧ w'.cell? ⟨w.heap.size, 0, none⟩ = some (.int .i16 s0) ∧ w'.cell? ⟨w.heap.size, 1, none⟩ = some (.slice A0 l0.length c0)) (by kernel_rfl) ⟨(Y0_8.cell (i := 0) rfl), (Y0_8.cell (i := 1) rfl), (B0_8.cell (i := 0) rfl), (B0_8.cell (i := 1) rfl)⟩ fun hS8 => ?_
  refine wpAnyH_take (i := 0) (v := .agg #[.int .i16 s0, .slice (some ⟨g3, 0, none⟩) l0.length l0.length]) rfl (by kernel_rfl) (by kernel_rfl) (by kernel_rfl) (fun _ _ _ h => h) (Or.inl ⟨by rfl, fun w' h => ?_⟩) hS8 ?_
  · have c0 := h.1
    have c1 := h.2.1
    clear h
    go_simp
  simp only [Act.put, List.setIfInBounds_toArray, List.set_cons_zero, List.set_cons_succ]
  refine wpAnyH_take (i := 1) (v := .agg #[.int .i16 s0, .slice A0 l0.length c0]) rfl (by kernel_rfl) (by kernel_rfl) (by kernel_rfl) (fun _ _ _ h => h) (Or.inl ⟨by rfl, fun w' h => ?_⟩) hS8 ?_
  · have c0 := h.2.2.1
    have c1 := h.2.2.2
    clear h
    go_simp
  simp only [Act.put, List.setIfInBounds_toArray, List.set_cons_zero, List.set_cons_succ]
  refine wpAnyH_ready (rs := [2]) (by kernel_rfl) (by simp) (AllReadyH.cons rfl ?_ AllReadyH.nil)
  intro K hK
  rw [if_pos (by rfl)]
  go_simp
  refine (toFrame_any s0 A0 c0 l0 _ (hA0.below b8) hn0).mono ?_
  rintro e w9 ⟨g9, rfl, hg9, own9, hb9⟩
  have b9 := step_below hb9 b8
  have B0_9 := B0_8.keep hb9
  have B1_9 := B1_8.keep hb9
  have R0x2_9 := R0x2_8.keep hb9
  have R1x2_9 := R1x2_8.keep hb9
  have Y0_9 := Y0_8.keep hb9
  have R0x5_9 := R0x5_8.keep hb9
  have R1x5_9 := R1x5_8.keep hb9
  have v2_9 := own_keep v2_8 hb9
  have q3_9 := own_keep q3_8 hb9
  have r5_9 := own_keep r5_8 hb9
  have t9 := step_below hb9 t8
  have gl9 : g9 < w9.heap.size := (own9.lt g9 rfl).2
  have q9_9 := own9
  refine hK.out _ _ ⟨(Y0_9.cell (i := 0) rfl), (Y0_9.cell (i := 1) rfl), (B0_9.cell (i := 0) rfl), (B0_9.cell (i := 1) rfl)⟩ (fun hS9 => ?_)
  clear hK K
  refine wpAnyH_ready (rs := [3]) (by kernel_rfl) (by simp) (AllReadyH.cons rfl ?_ AllReadyH.nil)
  intro K hK
  rw [if_pos (by rfl)]
  go_simp
  refine (eqFrame_any s0 _ _ _ _ l0 _ (HA.of_own q3_9) (HA.of_own q9_9) hn0).mono ?_
  rintro e w10 ⟨rfl, hb10⟩
  have b10 := step_below hb10 b9
  have B0_10 := B0_9.keep hb10
  have B1_10 := B1_9.keep hb10
  have R0x2_10 := R0x2_9.keep hb10
  have R1x2_10 := R1x2_9.keep hb10
  have Y0_10 := Y0_9.keep hb10
  have R0x5_10 := R0x5_9.keep hb10
  have R1x5_10 := R1x5_9.keep hb10
  have v2_10 := own_keep v2_9 hb10
  have q3_10 := own_keep q3_9 hb10
  have r5_10 := own_keep r5_9 hb10
  have t10 := step_below hb10 t9
  refine hK.out _ _ ⟨(Y0_10.cell (i := 0) rfl), (Y0_10.cell (i := 1) rfl), (B0_10.cell (i := 0) rfl), (B0_10.cell (i := 1) rfl)⟩ (fun hS10 => ?_)
  clear hK K
  refine wpAnyH_take (i := 4) (v := .bool false) rfl (by kernel_rfl) (by kernel_rfl) (by kernel_rfl) (fun _ _ _ h => h) (Or.inl ⟨by rfl, fun w' _ => by go_simp⟩) hS10 ?_
  change wpAnyH _ _ _ _ _ _ _ (Act.put _ (some 70) _) _
  simp only [Act.put, List.setIfInBounds_toArray, List.set_cons_zero, List.set_cons_succ]
  refine wpAnyH_done (by kernel_rfl) ?_ _
  have pf71_ := Y0_10.cell (i := 0) rfl
  have qf71_ := Y0_10.cell (i := 1) rfl
  go_wp2_with fail
  clear pf71_ qf71_
  refine (markFrame_from s0 _ _ l0 _ (1) _ q3_10 hn0 ⟨by omega, by omega⟩).mono ?_
  rintro e w11 ⟨rfl, mo11, hgr11⟩
  have hbs11 := hgr11.size
  have t11 : Below w2.heap.size w2 w11 := t10.grown hgr11 t10.size (fun j hj => by cases hj; exact Nat.le_trans t2.size hg3)
  have b11 : Below w.heap.size w w11 := b2.trans (t11.mono b2.size)
  have B0_11 := B0_2.keep t11
  have B1_11 := B1_2.keep t11
  have R0x2_11 := R0x2_2.keep t11
  have R1x2_11 := R1x2_2.keep t11
  have R0x5_11 := R0x5_10.grown hgr11 (own_neK q3_10 R0x5_10 (by decide))
  have R1x5_11 := R1x5_10.grown hgr11 (own_neK q3_10 R1x5_10 (by decide))
  have Y0_11 := Y0_10.grown hgr11 (fun e => by have e' : g3 = w3.heap.size := Option.some.inj e; have gg := gl3; have gh := hg3; have h3_ := hb3.size; have h4_ := hb4.size; omega)
  have v2_11 := own_keep v2_2 t11
  have r5_11 := r5_10.kept hgr11 (Or.inr (fun e => by have h1 := r5_10.lt g3 (by rw [e]; rfl); have gg := gl3; have h4_ := hb4.size; omega))
  have hneg11 : decide (1 + 2 * (l0.length : Int) < 0) = false := by simp; omega
  have pf77_ := R0x5_11.cell (i := 0) rfl
  have qf77_ := R0x5_11.cell (i := 1) rfl
  have pf78_ := R0x2_11.cell (i := 0) rfl
  have qf78_ := R0x2_11.cell (i := 1) rfl
  go_wp2_with fail
  clear pf77_ qf77_ pf78_ qf78_
  refine (eqFrame_any rs0 _ _ _ _ r0 _ (HA.of_own r5_11) (HA.of_own v2_11) hrl0).mono ?_
  rintro e w12 ⟨rfl, hb12⟩
  have b12 := step_below hb12 b11
  have B0_12 := B0_11.keep hb12
  have B1_12 := B1_11.keep hb12
  have R0x2_12 := R0x2_11.keep hb12
  have R1x2_12 := R1x2_11.keep hb12
  have Y0_12 := Y0_11.keep hb12
  have R0x5_12 := R0x5_11.keep hb12
  have R1x5_12 := R1x5_11.keep hb12
  have v2_12 := own_keep v2_11 hb12
  have r5_12 := own_keep r5_11 hb12
  have t12 := step_below hb12 t11
  have HG83_ := hide (show w12.heap[rg1_5]? = some (.cells (da r1) 32 (0, 0)) from R1x5_12)
  have HG84_ := hide (show w12.heap[rg1_2]? = some (.cells (da r1) 32 (0, 0)) from R1x2_12)
  go_wp2_with (first | (with_reducible refine wpList_load_rowG (by kernel_rfl) 32 (.tmp 15) rfl (rg1_5) rfl 32 (da r1) (0, 0) _ HG83_.out Try.underlying32 rfl (by rw [da_size]; exact info32) ?_) | (with_reducible refine wpList_load_rowG (by kernel_rfl) 32 (.tmp 11) rfl (rg1_2) rfl 32 (da r1) (0, 0) _ HG84_.out Try.underlying32 rfl (by rw [da_size]; exact info32) ?_))
  clear HG83_ HG84_
  refine (eqDrum_any r1 _).mono ?_
  rintro e w13 ⟨rfl, hb13⟩
  have b13 := step_below hb13 b12
  have B0_13 := B0_12.keep hb13
  have B1_13 := B1_12.keep hb13
  have R0x2_13 := R0x2_12.keep hb13
  have R1x2_13 := R1x2_12.keep hb13
  have Y0_13 := Y0_12.keep hb13
  have R0x5_13 := R0x5_12.keep hb13
  have R1x5_13 := R1x5_12.keep hb13
  have v2_13 := own_keep v2_12 hb13
  have r5_13 := own_keep r5_12 hb13
  have t13 := step_below hb13 t12
  have pf93_ := R0x5_13.cell (i := 0) rfl
  have qf93_ := R0x5_13.cell (i := 1) rfl
  go_wp2_with fail
  clear pf93_ qf93_
  refine (markFrame_from rs0 _ _ r0 _ (1) _ r5_13 hrl0 ⟨by omega, by omega⟩).mono ?_
  rintro e w14 ⟨rfl, mo14, hgr14⟩
  have hbs14 := hgr14.size
  have t14 : Below w2.heap.size w2 w14 := t13.grown hgr14 t13.size (fun j hj => Nat.le_trans t4.size ((r5_13).lt j hj).1)
  have b14 : Below w.heap.size w w14 := b2.trans (t14.mono b2.size)
  have B0_14 := B0_2.keep t14
  have B1_14 := B1_2.keep t14
  have R0x2_14 := R0x2_2.keep t14
  have R1x2_14 := R1x2_2.keep t14
  have R0x5_14 := R0x5_13.grown hgr14 (own_neK r5_13 R0x5_13 (by decide))
  have R1x5_14 := R1x5_13.grown hgr14 (own_neK r5_13 R1x5_13 (by decide))
  have v2_14 := own_keep v2_2 t14
  have k14_14 := mo14
  have hneg14 : decide (1 + 2 * (r0.length : Int) < 0) = false := by simp; omega
  have hneq14 : ((1 + 2 * (r0.length : Int)) != (1 + 2 * (r0.length : Int))) = false := by simp
  have pf96_ := R0x5_14.cell (i := 0) rfl
  have qf96_ := R0x5_14.cell (i := 1) rfl
  go_wp2_with fail
  clear pf96_ qf96_
  refine (heldFrame_from rs0 _ _ r0.length (1) _ (mkH_of_own k14_14) hrl0 ⟨by omega, by omega⟩).mono ?_
  rintro e w15 ⟨rfl, hb15⟩
  have b15 := step_below hb15 b14
  have B0_15 := B0_14.keep hb15
  have B1_15 := B1_14.keep hb15
  have R0x2_15 := R0x2_14.keep hb15
  have R1x2_15 := R1x2_14.keep hb15
  have R0x5_15 := R0x5_14.keep hb15
  have R1x5_15 := R1x5_14.keep hb15
  have v2_15 := own_keep v2_14 hb15
  have k14_15 := own_keep k14_14 hb15
  have t15 := step_below hb15 t14
  go_upto_region 24 with fail
  go_cut [20, 21, 22] from 104 to 114 (fun a b c wx => ∃ (g0 g1 : Nat) (C : Option Addr) (e : Nat) (W : World), a = .pointer (some ⟨g0, 0, none⟩) ∧ b = .pointer (some ⟨g1, 0, none⟩) ∧ c = .int .i64 r2 ∧ W = wx ∧ Bk W g0 31 #[.int .i16 rs0, .slice C r0.length e] ∧ Bk W g1 32 (da r1) ∧ w15.heap.size ≤ g0 ∧ w15.heap.size ≤ g1 ∧ W.ownsRow w15.heap.size 49 2 (.slice C r0.length e) r0.length (hcells r0) ∧ Below w15.heap.size w15 W)
  case first =>
    have hz := zeroDrum
    have hb16 : Below w15.heap.size w15 w15.drew := (Below.refl _ _).drew
    have tb15 : Below w15.heap.size w15 w15 := Below.refl _ _
    have b16 := step_below hb16 b15
    have B0_16 := B0_15.keep hb16
    have B1_16 := B1_15.keep hb16
    have R0x2_16 := R0x2_15.keep hb16
    have R1x2_16 := R1x2_15.keep hb16
    have R0x5_16 := R0x5_15.keep hb16
    have R1x5_16 := R1x5_15.keep hb16
    have v2_16 := own_keep v2_15 hb16
    have k14_16 := own_keep k14_15 hb16
    have t16 := step_below hb16 t15
    have tb16 := step_below hb16 tb15
    refine wp_region_held_drew (S := fun w' => w'.cell? ⟨w.heap.size, 0, none⟩ = some (.int .i16 s0) ∧ w'.cell? ⟨w.heap.size, 1, none⟩ = some (.slice A0 l0.length c0) ∧ w'.rangeAt (w.heap.size + 1) 0 (dv d1)) (by kernel_rfl) ⟨(B0_16.cell (i := 0) rfl), (B0_16.cell (i := 1) rfl), (show Dr w15.drew (w.heap.size + 1) 27 d1 from B1_16).range⟩ fun hS16 => ?_
    generalize w15.drew = wd16 at *
    change wpAnyH _ _ _ _ _ _ #[false, false, false, false, false, false, false, false, false, false, false, false, false, false, false, false] _ _
    apply jnFA (F := fun g0 g1 W ga C e => Bk W g0 31 #[.int .i16 0, .slice none 0 0] ∧ Bk W g1 32 (da fun _ => 0) ∧ w15.heap.size ≤ g0 ∧ w15.heap.size ≤ g1 ∧ Below w15.heap.size w15 W ∧ W.ownsRow w15.heap.size 49 2 (.slice C r0.length e) r0.length (hcells r0))
    · intro J3_
      apply jnF (F := fun g0 g1 W ga => Bk W g0 31 #[.int .i16 0, .slice none 0 0] ∧ Bk W g1 32 (da fun _ => 0) ∧ w15.heap.size ≤ g0 ∧ w15.heap.size ≤ g1 ∧ Below w15.heap.size w15 W ∧ W.ownsRow w15.heap.size 49 2 (.slice (some ⟨ga, 0, none⟩) l0.length l0.length) l0.length (hcells l0) ∧ ga < W.heap.size)
      · intro J2_
        apply jnF (F := fun g0 g1 W ga => Bk W g0 31 #[.int .i16 0, .slice none 0 0] ∧ Bk W g1 32 (da fun _ => 0) ∧ w15.heap.size ≤ g0 ∧ w15.heap.size ≤ g1 ∧ Below w15.heap.size w15 W ∧ W.ownsRow w15.heap.size 49 2 (.slice (some ⟨ga, 0, none⟩) l0.length l0.length) l0.length (hcells l0) ∧ ga < W.heap.size)
        · intro J1_
          apply jn (F := fun g0 g1 W => Bk W g0 31 #[.int .i16 0, .slice none 0 0] ∧ Bk W g1 32 (da fun _ => 0) ∧ w15.heap.size ≤ g0 ∧ w15.heap.size ≤ g1 ∧ Below w15.heap.size w15 W)
          · intro J0_
            refine wpAnyH_take (i := 0) (v := .agg #[.int .i16 s0, .slice A0 l0.length c0]) rfl (by kernel_rfl) (by kernel_rfl) (by kernel_rfl) (fun _ _ _ h => h) (Or.inl ⟨by rfl, fun w' h => ?_⟩) hS16 ?_
            · have c0 := h.1
              have c1 := h.2.1
              clear h
              go_simp
            simp only [Act.put, List.setIfInBounds_toArray, List.set_cons_zero, List.set_cons_succ]
            refine wpAnyH_take (i := 2) rfl (by kernel_rfl) (by kernel_rfl) (by kernel_rfl) (fun _ _ _ h => h) (yieldsIf_load_mid (by rfl) _ _ rfl (w.heap.size + 1) 0 rfl (dv d1) _ (fun _ h => h.2.2) Try.underlying27 rfl (infoLt d1)) hS16 ?_
            simp only [Act.put, List.setIfInBounds_toArray, List.set_cons_zero, List.set_cons_succ]
            refine wpAnyH_take (i := 4) (v := .int .i64 x2) rfl (by kernel_rfl) (by kernel_rfl) (by kernel_rfl) (fun _ _ _ h => h) (Or.inl ⟨by rfl, fun w' _ => by go_simp⟩) hS16 ?_
            change wpAnyH _ _ _ _ _ _ _ (Act.put _ (some 109) _) _
            simp only [Act.put, List.setIfInBounds_toArray, List.set_cons_zero, List.set_cons_succ]
            refine wpAnyH_take (i := 5) (v := .int .i64 x3) rfl (by kernel_rfl) (by kernel_rfl) (by kernel_rfl) (fun _ _ _ h => h) (Or.inl ⟨by rfl, fun w' _ => by go_simp⟩) hS16 ?_
            change wpAnyH _ _ _ _ _ _ _ (Act.put _ (some 110) _) _
            simp only [Act.put, List.setIfInBounds_toArray, List.set_cons_zero, List.set_cons_succ]
            refine wpAnyH_ready (rs := [1, 11, 12]) (by kernel_rfl) (by simp) (AllReadyH.cons rfl ?_ (AllReadyH.cons rfl ?_ (AllReadyH.cons rfl ?_ AllReadyH.nil)))
            · intro K hK
              rw [if_pos (by rfl)]
              go_simp
              refine (toFrame_any s0 A0 c0 l0 _ (hA0.below b16) hn0).mono ?_
              rintro e w17 ⟨g17, rfl, hg17, own17, hb17⟩
              have b17 := step_below hb17 b16
              have B0_17 := B0_16.keep hb17
              have B1_17 := B1_16.keep hb17
              have v2_17 := own_keep v2_16 hb17
              have k14_17 := own_keep k14_16 hb17
              have t17 := step_below hb17 t16
              have gl17 : g17 < w17.heap.size := (own17.lt g17 rfl).2
              have q17_17 := own17
              have tb17 := tb16.trans (hb17.mono tb16.size)
              refine hK.out _ _ ⟨(B0_17.cell (i := 0) rfl), (B0_17.cell (i := 1) rfl), (show Dr w17 (w.heap.size + 1) 27 d1 from B1_17).range⟩ (fun hS17 => ?_)
              clear hK K
              refine wpAnyH_ready (rs := [3, 11, 12]) (by kernel_rfl) (by simp) (AllReadyH.cons rfl ?_ (AllReadyH.cons rfl ?_ (AllReadyH.cons rfl ?_ AllReadyH.nil)))
              · intro K hK
                rw [if_pos (by rfl)]
                go_simp
                refine (toDrum_any d1 _).mono ?_
                rintro e w18 ⟨rfl, hb18⟩
                have b18 := step_below hb18 b17
                have B0_18 := B0_17.keep hb18
                have B1_18 := B1_17.keep hb18
                have v2_18 := own_keep v2_17 hb18
                have k14_18 := own_keep k14_17 hb18
                have q17_18 := own_keep q17_17 hb18
                have t18 := step_below hb18 t17
                have tb18 := tb17.trans (hb18.mono tb17.size)
                refine hK.out _ _ ⟨(B0_18.cell (i := 0) rfl), (B0_18.cell (i := 1) rfl), (show Dr w18 (w.heap.size + 1) 27 d1 from B1_18).range⟩ (fun hS18 => ?_)
                clear hK K
                refine wpAnyH_ready (rs := [6, 11, 12]) (by kernel_rfl) (by simp) (AllReadyH.cons rfl ?_ (AllReadyH.cons rfl ?_ (AllReadyH.cons rfl ?_ AllReadyH.nil)))
                · intro K hK
                  rw [if_pos (by rfl)]
                  go_simp
                  refine (KI _ _ (HA.of_own q17_18) ).mono ?_
                  rintro e w19 ⟨C19, e19, rfl, own19, hb19⟩
                  have b19 := step_below hb19 b18
                  have B0_19 := B0_18.keep hb19
                  have B1_19 := B1_18.keep hb19
                  have v2_19 := own_keep v2_18 hb19
                  have k14_19 := own_keep k14_18 hb19
                  have q17_19 := own_keep q17_18 hb19
                  have t19 := step_below hb19 t18
                  have r19_19 := own19
                  have tb19 := tb18.trans (hb19.mono tb18.size)
                  have oo_19 := own_base own19 tb18.size
                  refine hK.out _ _ ⟨(B0_19.cell (i := 0) rfl), (B0_19.cell (i := 1) rfl), (show Dr w19 (w.heap.size + 1) 27 d1 from B1_19).range⟩ (fun hS19 => ?_)
                  clear hK K
                  refine wpAnyH_take (i := 7) (v := .tuple #[.agg #[.int .i16 rs0, .slice C19 r0.length e19], .agg (da r1), .int .i64 r2]) rfl (by kernel_rfl) (by kernel_rfl) (by kernel_rfl) (fun _ _ _ h => h) (Or.inl ⟨by rfl, fun w' _ => by go_simp⟩) hS19 ?_
                  change wpAnyH _ _ _ _ _ _ _ (Act.put _ (some 104) _) _
                  simp only [Act.put, List.setIfInBounds_toArray, List.set_cons_zero, List.set_cons_succ]
                  refine wpAnyH_take (i := 8) (v := .agg #[.int .i16 rs0, .slice C19 r0.length e19]) rfl (by kernel_rfl) (by kernel_rfl) (by kernel_rfl) (fun _ _ _ h => h) (Or.inl ⟨by rfl, fun w' _ => by go_simp⟩) hS19 ?_
                  change wpAnyH _ _ _ _ _ _ _ (Act.put _ (some 112) _) _
                  simp only [Act.put, List.setIfInBounds_toArray, List.set_cons_zero, List.set_cons_succ]
                  refine wpAnyH_take (i := 9) (v := .agg (da r1)) rfl (by kernel_rfl) (by kernel_rfl) (by kernel_rfl) (fun _ _ _ h => h) (Or.inl ⟨by rfl, fun w' _ => by go_simp⟩) hS19 ?_
                  change wpAnyH _ _ _ _ _ _ _ (Act.put _ (some 113) _) _
                  simp only [Act.put, List.setIfInBounds_toArray, List.set_cons_zero, List.set_cons_succ]
                  refine wpAnyH_take (i := 10) (v := .int .i64 r2) rfl (by kernel_rfl) (by kernel_rfl) (by kernel_rfl) (fun _ _ _ h => h) (Or.inl ⟨by rfl, fun w' _ => by go_simp⟩) hS19 ?_
                  change wpAnyH _ _ _ _ _ _ _ (Act.put _ (some 114) _) _
                  simp only [Act.put, List.setIfInBounds_toArray, List.set_cons_zero, List.set_cons_succ]
                  refine wpAnyH_ready (rs := [11, 12]) (by kernel_rfl) (by simp) (AllReadyH.cons rfl ?_ (AllReadyH.cons rfl ?_ AllReadyH.nil))
                  · obtain ⟨w20, hX20⟩ : ∃ X, X = w19.alloc (.cells #[.int .i16 0, .slice none 0 0] 31) := ⟨_, rfl⟩
                    have hb20 : Below w19.heap.size w19 w20 := by rw [hX20]; exact (Below.refl _ _).alloc (Nat.le_refl _) _
                    have z20_20 : Bk w20 w19.heap.size 31 #[.int .i16 0, .slice none 0 0] := by rw [hX20]; exact heap_new' _ _ _ rfl
                    have ge20 : w15.heap.size ≤ w19.heap.size := tb19.size
                    intro K hK
                    rw [if_pos (by rfl)]
                    go_simp
                    rw [← hX20]
                    clear hX20
                    obtain ⟨a20_, ha20_⟩ : ∃ g, w19.heap.size = g := ⟨_, rfl⟩
                    rw [ha20_] at z20_20
                    replace ge20 := Nat.le_trans ge20 (Nat.le_of_eq ha20_)
                    rw [ha20_]
                    clear ha20_
                    have b20 := step_below hb20 b19
                    have B0_20 := B0_19.keep hb20
                    have B1_20 := B1_19.keep hb20
                    have v2_20 := own_keep v2_19 hb20
                    have k14_20 := own_keep k14_19 hb20
                    have q17_20 := own_keep q17_19 hb20
                    have r19_20 := own_keep r19_19 hb20
                    have t20 := step_below hb20 t19
                    have tb20 := tb19.trans (hb20.mono tb19.size)
                    have oo_20 := own_keep oo_19 hb20
                    refine hK.out _ _ ⟨(B0_20.cell (i := 0) rfl), (B0_20.cell (i := 1) rfl), (show Dr w20 (w.heap.size + 1) 27 d1 from B1_20).range⟩ (fun hS20 => ?_)
                    clear hK K
                    refine wpAnyH_ready (rs := [12]) (by kernel_rfl) (by simp) (AllReadyH.cons rfl ?_ AllReadyH.nil)
                    obtain ⟨w21, hX21⟩ : ∃ X, X = w20.alloc (.cells za 32) := ⟨_, rfl⟩
                    have hb21 : Below w20.heap.size w20 w21 := by rw [hX21]; exact (Below.refl _ _).alloc (Nat.le_refl _) _
                    have z21_21 : Bk w21 w20.heap.size 32 (da fun _ => 0) := by rw [hX21, za_eq]; exact heap_new' _ _ _ rfl
                    have ge21 : w15.heap.size ≤ w20.heap.size := tb20.size
                    intro K hK
                    rw [if_pos (by rfl)]
                    go_simp
                    rw [← hX21]
                    clear hX21
                    obtain ⟨a21_, ha21_⟩ : ∃ g, w20.heap.size = g := ⟨_, rfl⟩
                    rw [ha21_] at z21_21
                    replace ge21 := Nat.le_trans ge21 (Nat.le_of_eq ha21_)
                    rw [ha21_]
                    clear ha21_
                    have b21 := step_below hb21 b20
                    have B0_21 := B0_20.keep hb21
                    have B1_21 := B1_20.keep hb21
                    have v2_21 := own_keep v2_20 hb21
                    have k14_21 := own_keep k14_20 hb21
                    have q17_21 := own_keep q17_20 hb21
                    have r19_21 := own_keep r19_20 hb21
                    have t21 := step_below hb21 t20
                    have tb21 := tb20.trans (hb21.mono tb20.size)
                    have z20_21 := z20_20.keep hb21
                    have oo_21 := own_keep oo_20 hb21
                    refine hK.out _ _ ⟨(B0_21.cell (i := 0) rfl), (B0_21.cell (i := 1) rfl), (show Dr w21 (w.heap.size + 1) 27 d1 from B1_21).range⟩ (fun hS21 => ?_)
                    clear hK K
                    try (simp only [Act.put, List.setIfInBounds_toArray, List.set_cons_zero, List.set_cons_succ])
                    exact J3_ a20_ a21_ w21 g17 C19 e19 ⟨z20_21, z21_21, ge20, ge21, tb21, oo_21⟩
                  · obtain ⟨w20, hX20⟩ : ∃ X, X = w19.alloc (.cells za 32) := ⟨_, rfl⟩
                    have hb20 : Below w19.heap.size w19 w20 := by rw [hX20]; exact (Below.refl _ _).alloc (Nat.le_refl _) _
                    have z21_20 : Bk w20 w19.heap.size 32 (da fun _ => 0) := by rw [hX20, za_eq]; exact heap_new' _ _ _ rfl
                    have ge20 : w15.heap.size ≤ w19.heap.size := tb19.size
                    intro K hK
                    rw [if_pos (by rfl)]
                    go_simp
                    rw [← hX20]
                    clear hX20
                    obtain ⟨a20_, ha20_⟩ : ∃ g, w19.heap.size = g := ⟨_, rfl⟩
                    rw [ha20_] at z21_20
                    replace ge20 := Nat.le_trans ge20 (Nat.le_of_eq ha20_)
                    rw [ha20_]
                    clear ha20_
                    have b20 := step_below hb20 b19
                    have B0_20 := B0_19.keep hb20
                    have B1_20 := B1_19.keep hb20
                    have v2_20 := own_keep v2_19 hb20
                    have k14_20 := own_keep k14_19 hb20
                    have q17_20 := own_keep q17_19 hb20
                    have r19_20 := own_keep r19_19 hb20
                    have t20 := step_below hb20 t19
                    have tb20 := tb19.trans (hb20.mono tb19.size)
                    have oo_20 := own_keep oo_19 hb20
                    refine hK.out _ _ ⟨(B0_20.cell (i := 0) rfl), (B0_20.cell (i := 1) rfl), (show Dr w20 (w.heap.size + 1) 27 d1 from B1_20).range⟩ (fun hS20 => ?_)
                    clear hK K
                    refine wpAnyH_ready (rs := [11]) (by kernel_rfl) (by simp) (AllReadyH.cons rfl ?_ AllReadyH.nil)
                    obtain ⟨w21, hX21⟩ : ∃ X, X = w20.alloc (.cells #[.int .i16 0, .slice none 0 0] 31) := ⟨_, rfl⟩
                    have hb21 : Below w20.heap.size w20 w21 := by rw [hX21]; exact (Below.refl _ _).alloc (Nat.le_refl _) _
                    have z20_21 : Bk w21 w20.heap.size 31 #[.int .i16 0, .slice none 0 0] := by rw [hX21]; exact heap_new' _ _ _ rfl
                    have ge21 : w15.heap.size ≤ w20.heap.size := tb20.size
                    intro K hK
                    rw [if_pos (by rfl)]
                    go_simp
                    rw [← hX21]
                    clear hX21
                    obtain ⟨a21_, ha21_⟩ : ∃ g, w20.heap.size = g := ⟨_, rfl⟩
                    rw [ha21_] at z20_21
                    replace ge21 := Nat.le_trans ge21 (Nat.le_of_eq ha21_)
                    rw [ha21_]
                    clear ha21_
                    have b21 := step_below hb21 b20
                    have B0_21 := B0_20.keep hb21
                    have B1_21 := B1_20.keep hb21
                    have v2_21 := own_keep v2_20 hb21
                    have k14_21 := own_keep k14_20 hb21
                    have q17_21 := own_keep q17_20 hb21
                    have r19_21 := own_keep r19_20 hb21
                    have t21 := step_below hb21 t20
                    have tb21 := tb20.trans (hb21.mono tb20.size)
                    have z21_21 := z21_20.keep hb21
                    have oo_21 := own_keep oo_20 hb21
                    refine hK.out _ _ ⟨(B0_21.cell (i := 0) rfl), (B0_21.cell (i := 1) rfl), (show Dr w21 (w.heap.size + 1) 27 d1 from B1_21).range⟩ (fun hS21 => ?_)
                    clear hK K
                    try (simp only [Act.put, List.setIfInBounds_toArray, List.set_cons_zero, List.set_cons_succ])
                    exact J3_ a21_ a20_ w21 g17 C19 e19 ⟨z20_21, z21_21, ge21, ge20, tb21, oo_21⟩
                · obtain ⟨w19, hX19⟩ : ∃ X, X = w18.alloc (.cells #[.int .i16 0, .slice none 0 0] 31) := ⟨_, rfl⟩
                  have hb19 : Below w18.heap.size w18 w19 := by rw [hX19]; exact (Below.refl _ _).alloc (Nat.le_refl _) _
                  have z20_19 : Bk w19 w18.heap.size 31 #[.int .i16 0, .slice none 0 0] := by rw [hX19]; exact heap_new' _ _ _ rfl
                  have ge19 : w15.heap.size ≤ w18.heap.size := tb18.size
                  intro K hK
                  rw [if_pos (by rfl)]
                  go_simp
                  rw [← hX19]
                  clear hX19
                  obtain ⟨a19_, ha19_⟩ : ∃ g, w18.heap.size = g := ⟨_, rfl⟩
                  rw [ha19_] at z20_19
                  replace ge19 := Nat.le_trans ge19 (Nat.le_of_eq ha19_)
                  rw [ha19_]
                  clear ha19_
                  have b19 := step_below hb19 b18
                  have B0_19 := B0_18.keep hb19
                  have B1_19 := B1_18.keep hb19
                  have v2_19 := own_keep v2_18 hb19
                  have k14_19 := own_keep k14_18 hb19
                  have q17_19 := own_keep q17_18 hb19
                  have t19 := step_below hb19 t18
                  have tb19 := tb18.trans (hb19.mono tb18.size)
                  refine hK.out _ _ ⟨(B0_19.cell (i := 0) rfl), (B0_19.cell (i := 1) rfl), (show Dr w19 (w.heap.size + 1) 27 d1 from B1_19).range⟩ (fun hS19 => ?_)
                  clear hK K
                  refine wpAnyH_ready (rs := [6, 12]) (by kernel_rfl) (by simp) (AllReadyH.cons rfl ?_ (AllReadyH.cons rfl ?_ AllReadyH.nil))
                  · intro K hK
                    rw [if_pos (by rfl)]
                    go_simp
                    refine (KI _ _ (HA.of_own q17_19) ).mono ?_
                    rintro e w20 ⟨C20, e20, rfl, own20, hb20⟩
                    have b20 := step_below hb20 b19
                    have B0_20 := B0_19.keep hb20
                    have B1_20 := B1_19.keep hb20
                    have v2_20 := own_keep v2_19 hb20
                    have k14_20 := own_keep k14_19 hb20
                    have q17_20 := own_keep q17_19 hb20
                    have t20 := step_below hb20 t19
                    have r20_20 := own20
                    have tb20 := tb19.trans (hb20.mono tb19.size)
                    have z20_20 := z20_19.keep hb20
                    have oo_20 := own_base own20 tb19.size
                    refine hK.out _ _ ⟨(B0_20.cell (i := 0) rfl), (B0_20.cell (i := 1) rfl), (show Dr w20 (w.heap.size + 1) 27 d1 from B1_20).range⟩ (fun hS20 => ?_)
                    clear hK K
                    refine wpAnyH_take (i := 7) (v := .tuple #[.agg #[.int .i16 rs0, .slice C20 r0.length e20], .agg (da r1), .int .i64 r2]) rfl (by kernel_rfl) (by kernel_rfl) (by kernel_rfl) (fun _ _ _ h => h) (Or.inl ⟨by rfl, fun w' _ => by go_simp⟩) hS20 ?_
                    change wpAnyH _ _ _ _ _ _ _ (Act.put _ (some 104) _) _
                    simp only [Act.put, List.setIfInBounds_toArray, List.set_cons_zero, List.set_cons_succ]
                    refine wpAnyH_take (i := 8) (v := .agg #[.int .i16 rs0, .slice C20 r0.length e20]) rfl (by kernel_rfl) (by kernel_rfl) (by kernel_rfl) (fun _ _ _ h => h) (Or.inl ⟨by rfl, fun w' _ => by go_simp⟩) hS20 ?_
                    change wpAnyH _ _ _ _ _ _ _ (Act.put _ (some 112) _) _
                    simp only [Act.put, List.setIfInBounds_toArray, List.set_cons_zero, List.set_cons_succ]
                    refine wpAnyH_take (i := 9) (v := .agg (da r1)) rfl (by kernel_rfl) (by kernel_rfl) (by kernel_rfl) (fun _ _ _ h => h) (Or.inl ⟨by rfl, fun w' _ => by go_simp⟩) hS20 ?_
                    change wpAnyH _ _ _ _ _ _ _ (Act.put _ (some 113) _) _
                    simp only [Act.put, List.setIfInBounds_toArray, List.set_cons_zero, List.set_cons_succ]
                    refine wpAnyH_take (i := 10) (v := .int .i64 r2) rfl (by kernel_rfl) (by kernel_rfl) (by kernel_rfl) (fun _ _ _ h => h) (Or.inl ⟨by rfl, fun w' _ => by go_simp⟩) hS20 ?_
                    change wpAnyH _ _ _ _ _ _ _ (Act.put _ (some 114) _) _
                    simp only [Act.put, List.setIfInBounds_toArray, List.set_cons_zero, List.set_cons_succ]
                    refine wpAnyH_ready (rs := [12]) (by kernel_rfl) (by simp) (AllReadyH.cons rfl ?_ AllReadyH.nil)
                    obtain ⟨w21, hX21⟩ : ∃ X, X = w20.alloc (.cells za 32) := ⟨_, rfl⟩
                    have hb21 : Below w20.heap.size w20 w21 := by rw [hX21]; exact (Below.refl _ _).alloc (Nat.le_refl _) _
                    have z21_21 : Bk w21 w20.heap.size 32 (da fun _ => 0) := by rw [hX21, za_eq]; exact heap_new' _ _ _ rfl
                    have ge21 : w15.heap.size ≤ w20.heap.size := tb20.size
                    intro K hK
                    rw [if_pos (by rfl)]
                    go_simp
                    rw [← hX21]
                    clear hX21
                    obtain ⟨a21_, ha21_⟩ : ∃ g, w20.heap.size = g := ⟨_, rfl⟩
                    rw [ha21_] at z21_21
                    replace ge21 := Nat.le_trans ge21 (Nat.le_of_eq ha21_)
                    rw [ha21_]
                    clear ha21_
                    have b21 := step_below hb21 b20
                    have B0_21 := B0_20.keep hb21
                    have B1_21 := B1_20.keep hb21
                    have v2_21 := own_keep v2_20 hb21
                    have k14_21 := own_keep k14_20 hb21
                    have q17_21 := own_keep q17_20 hb21
                    have r20_21 := own_keep r20_20 hb21
                    have t21 := step_below hb21 t20
                    have tb21 := tb20.trans (hb21.mono tb20.size)
                    have z20_21 := z20_20.keep hb21
                    have oo_21 := own_keep oo_20 hb21
                    refine hK.out _ _ ⟨(B0_21.cell (i := 0) rfl), (B0_21.cell (i := 1) rfl), (show Dr w21 (w.heap.size + 1) 27 d1 from B1_21).range⟩ (fun hS21 => ?_)
                    clear hK K
                    try (simp only [Act.put, List.setIfInBounds_toArray, List.set_cons_zero, List.set_cons_succ])
                    exact J3_ a19_ a21_ w21 g17 C20 e20 ⟨z20_21, z21_21, ge19, ge21, tb21, oo_21⟩
                  · obtain ⟨w20, hX20⟩ : ∃ X, X = w19.alloc (.cells za 32) := ⟨_, rfl⟩
                    have hb20 : Below w19.heap.size w19 w20 := by rw [hX20]; exact (Below.refl _ _).alloc (Nat.le_refl _) _
                    have z21_20 : Bk w20 w19.heap.size 32 (da fun _ => 0) := by rw [hX20, za_eq]; exact heap_new' _ _ _ rfl
                    have ge20 : w15.heap.size ≤ w19.heap.size := tb19.size
                    intro K hK
                    rw [if_pos (by rfl)]
                    go_simp
                    rw [← hX20]
                    clear hX20
                    obtain ⟨a20_, ha20_⟩ : ∃ g, w19.heap.size = g := ⟨_, rfl⟩
                    rw [ha20_] at z21_20
                    replace ge20 := Nat.le_trans ge20 (Nat.le_of_eq ha20_)
                    rw [ha20_]
                    clear ha20_
                    have b20 := step_below hb20 b19
                    have B0_20 := B0_19.keep hb20
                    have B1_20 := B1_19.keep hb20
                    have v2_20 := own_keep v2_19 hb20
                    have k14_20 := own_keep k14_19 hb20
                    have q17_20 := own_keep q17_19 hb20
                    have t20 := step_below hb20 t19
                    have tb20 := tb19.trans (hb20.mono tb19.size)
                    have z20_20 := z20_19.keep hb20
                    refine hK.out _ _ ⟨(B0_20.cell (i := 0) rfl), (B0_20.cell (i := 1) rfl), (show Dr w20 (w.heap.size + 1) 27 d1 from B1_20).range⟩ (fun hS20 => ?_)
                    clear hK K
                    try (simp only [Act.put, List.setIfInBounds_toArray, List.set_cons_zero, List.set_cons_succ])
                    exact J2_ a19_ a20_ w20 g17 ⟨z20_20, z21_20, ge19, ge20, tb20, own_base q17_20 (Nat.le_trans tb16.size hg17), ((q17_20).lt _ rfl).2⟩
                · obtain ⟨w19, hX19⟩ : ∃ X, X = w18.alloc (.cells za 32) := ⟨_, rfl⟩
                  have hb19 : Below w18.heap.size w18 w19 := by rw [hX19]; exact (Below.refl _ _).alloc (Nat.le_refl _) _
                  have z21_19 : Bk w19 w18.heap.size 32 (da fun _ => 0) := by rw [hX19, za_eq]; exact heap_new' _ _ _ rfl
                  have ge19 : w15.heap.size ≤ w18.heap.size := tb18.size
                  intro K hK
                  rw [if_pos (by rfl)]
                  go_simp
                  rw [← hX19]
                  clear hX19
                  obtain ⟨a19_, ha19_⟩ : ∃ g, w18.heap.size = g := ⟨_, rfl⟩
                  rw [ha19_] at z21_19
                  replace ge19 := Nat.le_trans ge19 (Nat.le_of_eq ha19_)
                  rw [ha19_]
                  clear ha19_
                  have b19 := step_below hb19 b18
                  have B0_19 := B0_18.keep hb19
                  have B1_19 := B1_18.keep hb19
                  have v2_19 := own_keep v2_18 hb19
                  have k14_19 := own_keep k14_18 hb19
                  have q17_19 := own_keep q17_18 hb19
                  have t19 := step_below hb19 t18
                  have tb19 := tb18.trans (hb19.mono tb18.size)
                  refine hK.out _ _ ⟨(B0_19.cell (i := 0) rfl), (B0_19.cell (i := 1) rfl), (show Dr w19 (w.heap.size + 1) 27 d1 from B1_19).range⟩ (fun hS19 => ?_)
                  clear hK K
                  refine wpAnyH_ready (rs := [6, 11]) (by kernel_rfl) (by simp) (AllReadyH.cons rfl ?_ (AllReadyH.cons rfl ?_ AllReadyH.nil))
                  · intro K hK
                    rw [if_pos (by rfl)]
                    go_simp
                    refine (KI _ _ (HA.of_own q17_19) ).mono ?_
                    rintro e w20 ⟨C20, e20, rfl, own20, hb20⟩
                    have b20 := step_below hb20 b19
                    have B0_20 := B0_19.keep hb20
                    have B1_20 := B1_19.keep hb20
                    have v2_20 := own_keep v2_19 hb20
                    have k14_20 := own_keep k14_19 hb20
                    have q17_20 := own_keep q17_19 hb20
                    have t20 := step_below hb20 t19
                    have r20_20 := own20
                    have tb20 := tb19.trans (hb20.mono tb19.size)
                    have z21_20 := z21_19.keep hb20
                    have oo_20 := own_base own20 tb19.size
                    refine hK.out _ _ ⟨(B0_20.cell (i := 0) rfl), (B0_20.cell (i := 1) rfl), (show Dr w20 (w.heap.size + 1) 27 d1 from B1_20).range⟩ (fun hS20 => ?_)
                    clear hK K
                    refine wpAnyH_take (i := 7) (v := .tuple #[.agg #[.int .i16 rs0, .slice C20 r0.length e20], .agg (da r1), .int .i64 r2]) rfl (by kernel_rfl) (by kernel_rfl) (by kernel_rfl) (fun _ _ _ h => h) (Or.inl ⟨by rfl, fun w' _ => by go_simp⟩) hS20 ?_
                    change wpAnyH _ _ _ _ _ _ _ (Act.put _ (some 104) _) _
                    simp only [Act.put, List.setIfInBounds_toArray, List.set_cons_zero, List.set_cons_succ]
                    refine wpAnyH_take (i := 8) (v := .agg #[.int .i16 rs0, .slice C20 r0.length e20]) rfl (by kernel_rfl) (by kernel_rfl) (by kernel_rfl) (fun _ _ _ h => h) (Or.inl ⟨by rfl, fun w' _ => by go_simp⟩) hS20 ?_
                    change wpAnyH _ _ _ _ _ _ _ (Act.put _ (some 112) _) _
                    simp only [Act.put, List.setIfInBounds_toArray, List.set_cons_zero, List.set_cons_succ]
                    refine wpAnyH_take (i := 9) (v := .agg (da r1)) rfl (by kernel_rfl) (by kernel_rfl) (by kernel_rfl) (fun _ _ _ h => h) (Or.inl ⟨by rfl, fun w' _ => by go_simp⟩) hS20 ?_
                    change wpAnyH _ _ _ _ _ _ _ (Act.put _ (some 113) _) _
                    simp only [Act.put, List.setIfInBounds_toArray, List.set_cons_zero, List.set_cons_succ]
                    refine wpAnyH_take (i := 10) (v := .int .i64 r2) rfl (by kernel_rfl) (by kernel_rfl) (by kernel_rfl) (fun _ _ _ h => h) (Or.inl ⟨by rfl, fun w' _ => by go_simp⟩) hS20 ?_
                    change wpAnyH _ _ _ _ _ _ _ (Act.put _ (some 114) _) _
                    simp only [Act.put, List.setIfInBounds_toArray, List.set_cons_zero, List.set_cons_succ]
                    refine wpAnyH_ready (rs := [11]) (by kernel_rfl) (by simp) (AllReadyH.cons rfl ?_ AllReadyH.nil)
                    obtain ⟨w21, hX21⟩ : ∃ X, X = w20.alloc (.cells #[.int .i16 0, .slice none 0 0] 31) := ⟨_, rfl⟩
                    have hb21 : Below w20.heap.size w20 w21 := by rw [hX21]; exact (Below.refl _ _).alloc (Nat.le_refl _) _
                    have z20_21 : Bk w21 w20.heap.size 31 #[.int .i16 0, .slice none 0 0] := by rw [hX21]; exact heap_new' _ _ _ rfl
                    have ge21 : w15.heap.size ≤ w20.heap.size := tb20.size
                    intro K hK
                    rw [if_pos (by rfl)]
                    go_simp
                    rw [← hX21]
                    clear hX21
                    obtain ⟨a21_, ha21_⟩ : ∃ g, w20.heap.size = g := ⟨_, rfl⟩
                    rw [ha21_] at z20_21
                    replace ge21 := Nat.le_trans ge21 (Nat.le_of_eq ha21_)
                    rw [ha21_]
                    clear ha21_
                    have b21 := step_below hb21 b20
                    have B0_21 := B0_20.keep hb21
                    have B1_21 := B1_20.keep hb21
                    have v2_21 := own_keep v2_20 hb21
                    have k14_21 := own_keep k14_20 hb21
                    have q17_21 := own_keep q17_20 hb21
                    have r20_21 := own_keep r20_20 hb21
                    have t21 := step_below hb21 t20
                    have tb21 := tb20.trans (hb21.mono tb20.size)
                    have z21_21 := z21_20.keep hb21
                    have oo_21 := own_keep oo_20 hb21
                    refine hK.out _ _ ⟨(B0_21.cell (i := 0) rfl), (B0_21.cell (i := 1) rfl), (show Dr w21 (w.heap.size + 1) 27 d1 from B1_21).range⟩ (fun hS21 => ?_)
                    clear hK K
                    try (simp only [Act.put, List.setIfInBounds_toArray, List.set_cons_zero, List.set_cons_succ])
                    exact J3_ a21_ a19_ w21 g17 C20 e20 ⟨z20_21, z21_21, ge21, ge19, tb21, oo_21⟩
                  · obtain ⟨w20, hX20⟩ : ∃ X, X = w19.alloc (.cells #[.int .i16 0, .slice none 0 0] 31) := ⟨_, rfl⟩
                    have hb20 : Below w19.heap.size w19 w20 := by rw [hX20]; exact (Below.refl _ _).alloc (Nat.le_refl _) _
                    have z20_20 : Bk w20 w19.heap.size 31 #[.int .i16 0, .slice none 0 0] := by rw [hX20]; exact heap_new' _ _ _ rfl
                    have ge20 : w15.heap.size ≤ w19.heap.size := tb19.size
                    intro K hK
                    rw [if_pos (by rfl)]
                    go_simp
                    rw [← hX20]
                    clear hX20
                    obtain ⟨a20_, ha20_⟩ : ∃ g, w19.heap.size = g := ⟨_, rfl⟩
                    rw [ha20_] at z20_20
                    replace ge20 := Nat.le_trans ge20 (Nat.le_of_eq ha20_)
                    rw [ha20_]
                    clear ha20_
                    have b20 := step_below hb20 b19
                    have B0_20 := B0_19.keep hb20
                    have B1_20 := B1_19.keep hb20
                    have v2_20 := own_keep v2_19 hb20
                    have k14_20 := own_keep k14_19 hb20
                    have q17_20 := own_keep q17_19 hb20
                    have t20 := step_below hb20 t19
                    have tb20 := tb19.trans (hb20.mono tb19.size)
                    have z21_20 := z21_19.keep hb20
                    refine hK.out _ _ ⟨(B0_20.cell (i := 0) rfl), (B0_20.cell (i := 1) rfl), (show Dr w20 (w.heap.size + 1) 27 d1 from B1_20).range⟩ (fun hS20 => ?_)
                    clear hK K
                    try (simp only [Act.put, List.setIfInBounds_toArray, List.set_cons_zero, List.set_cons_succ])
                    exact J2_ a20_ a19_ w20 g17 ⟨z20_20, z21_20, ge20, ge19, tb20, own_base q17_20 (Nat.le_trans tb16.size hg17), ((q17_20).lt _ rfl).2⟩
              · obtain ⟨w18, hX18⟩ : ∃ X, X = w17.alloc (.cells #[.int .i16 0, .slice none 0 0] 31) := ⟨_, rfl⟩
                have hb18 : Below w17.heap.size w17 w18 := by rw [hX18]; exact (Below.refl _ _).alloc (Nat.le_refl _) _
                have z20_18 : Bk w18 w17.heap.size 31 #[.int .i16 0, .slice none 0 0] := by rw [hX18]; exact heap_new' _ _ _ rfl
                have ge18 : w15.heap.size ≤ w17.heap.size := tb17.size
                intro K hK
                rw [if_pos (by rfl)]
                go_simp
                rw [← hX18]
                clear hX18
                obtain ⟨a18_, ha18_⟩ : ∃ g, w17.heap.size = g := ⟨_, rfl⟩
                rw [ha18_] at z20_18
                replace ge18 := Nat.le_trans ge18 (Nat.le_of_eq ha18_)
                rw [ha18_]
                clear ha18_
                have b18 := step_below hb18 b17
                have B0_18 := B0_17.keep hb18
                have B1_18 := B1_17.keep hb18
                have v2_18 := own_keep v2_17 hb18
                have k14_18 := own_keep k14_17 hb18
                have q17_18 := own_keep q17_17 hb18
                have t18 := step_below hb18 t17
                have tb18 := tb17.trans (hb18.mono tb17.size)
                refine hK.out _ _ ⟨(B0_18.cell (i := 0) rfl), (B0_18.cell (i := 1) rfl), (show Dr w18 (w.heap.size + 1) 27 d1 from B1_18).range⟩ (fun hS18 => ?_)
                clear hK K
                refine wpAnyH_ready (rs := [3, 12]) (by kernel_rfl) (by simp) (AllReadyH.cons rfl ?_ (AllReadyH.cons rfl ?_ AllReadyH.nil))
                · intro K hK
                  rw [if_pos (by rfl)]
                  go_simp
                  refine (toDrum_any d1 _).mono ?_
                  rintro e w19 ⟨rfl, hb19⟩
                  have b19 := step_below hb19 b18
                  have B0_19 := B0_18.keep hb19
                  have B1_19 := B1_18.keep hb19
                  have v2_19 := own_keep v2_18 hb19
                  have k14_19 := own_keep k14_18 hb19
                  have q17_19 := own_keep q17_18 hb19
                  have t19 := step_below hb19 t18
                  have tb19 := tb18.trans (hb19.mono tb18.size)
                  have z20_19 := z20_18.keep hb19
                  refine hK.out _ _ ⟨(B0_19.cell (i := 0) rfl), (B0_19.cell (i := 1) rfl), (show Dr w19 (w.heap.size + 1) 27 d1 from B1_19).range⟩ (fun hS19 => ?_)
                  clear hK K
                  refine wpAnyH_ready (rs := [6, 12]) (by kernel_rfl) (by simp) (AllReadyH.cons rfl ?_ (AllReadyH.cons rfl ?_ AllReadyH.nil))
                  · intro K hK
                    rw [if_pos (by rfl)]
                    go_simp
                    refine (KI _ _ (HA.of_own q17_19) ).mono ?_
                    rintro e w20 ⟨C20, e20, rfl, own20, hb20⟩
                    have b20 := step_below hb20 b19
                    have B0_20 := B0_19.keep hb20
                    have B1_20 := B1_19.keep hb20
                    have v2_20 := own_keep v2_19 hb20
                    have k14_20 := own_keep k14_19 hb20
                    have q17_20 := own_keep q17_19 hb20
                    have t20 := step_below hb20 t19
                    have r20_20 := own20
                    have tb20 := tb19.trans (hb20.mono tb19.size)
                    have z20_20 := z20_19.keep hb20
                    have oo_20 := own_base own20 tb19.size
                    refine hK.out _ _ ⟨(B0_20.cell (i := 0) rfl), (B0_20.cell (i := 1) rfl), (show Dr w20 (w.heap.size + 1) 27 d1 from B1_20).range⟩ (fun hS20 => ?_)
                    clear hK K
                    refine wpAnyH_take (i := 7) (v := .tuple #[.agg #[.int .i16 rs0, .slice C20 r0.length e20], .agg (da r1), .int .i64 r2]) rfl (by kernel_rfl) (by kernel_rfl) (by kernel_rfl) (fun _ _ _ h => h) (Or.inl ⟨by rfl, fun w' _ => by go_simp⟩) hS20 ?_
                    change wpAnyH _ _ _ _ _ _ _ (Act.put _ (some 104) _) _
                    simp only [Act.put, List.setIfInBounds_toArray, List.set_cons_zero, List.set_cons_succ]
                    refine wpAnyH_take (i := 8) (v := .agg #[.int .i16 rs0, .slice C20 r0.length e20]) rfl (by kernel_rfl) (by kernel_rfl) (by kernel_rfl) (fun _ _ _ h => h) (Or.inl ⟨by rfl, fun w' _ => by go_simp⟩) hS20 ?_
                    change wpAnyH _ _ _ _ _ _ _ (Act.put _ (some 112) _) _
                    simp only [Act.put, List.setIfInBounds_toArray, List.set_cons_zero, List.set_cons_succ]
                    refine wpAnyH_take (i := 9) (v := .agg (da r1)) rfl (by kernel_rfl) (by kernel_rfl) (by kernel_rfl) (fun _ _ _ h => h) (Or.inl ⟨by rfl, fun w' _ => by go_simp⟩) hS20 ?_
                    change wpAnyH _ _ _ _ _ _ _ (Act.put _ (some 113) _) _
                    simp only [Act.put, List.setIfInBounds_toArray, List.set_cons_zero, List.set_cons_succ]
                    refine wpAnyH_take (i := 10) (v := .int .i64 r2) rfl (by kernel_rfl) (by kernel_rfl) (by kernel_rfl) (fun _ _ _ h => h) (Or.inl ⟨by rfl, fun w' _ => by go_simp⟩) hS20 ?_
                    change wpAnyH _ _ _ _ _ _ _ (Act.put _ (some 114) _) _
                    simp only [Act.put, List.setIfInBounds_toArray, List.set_cons_zero, List.set_cons_succ]
                    refine wpAnyH_ready (rs := [12]) (by kernel_rfl) (by simp) (AllReadyH.cons rfl ?_ AllReadyH.nil)
                    obtain ⟨w21, hX21⟩ : ∃ X, X = w20.alloc (.cells za 32) := ⟨_, rfl⟩
                    have hb21 : Below w20.heap.size w20 w21 := by rw [hX21]; exact (Below.refl _ _).alloc (Nat.le_refl _) _
                    have z21_21 : Bk w21 w20.heap.size 32 (da fun _ => 0) := by rw [hX21, za_eq]; exact heap_new' _ _ _ rfl
                    have ge21 : w15.heap.size ≤ w20.heap.size := tb20.size
                    intro K hK
                    rw [if_pos (by rfl)]
                    go_simp
                    rw [← hX21]
                    clear hX21
                    obtain ⟨a21_, ha21_⟩ : ∃ g, w20.heap.size = g := ⟨_, rfl⟩
                    rw [ha21_] at z21_21
                    replace ge21 := Nat.le_trans ge21 (Nat.le_of_eq ha21_)
                    rw [ha21_]
                    clear ha21_
                    have b21 := step_below hb21 b20
                    have B0_21 := B0_20.keep hb21
                    have B1_21 := B1_20.keep hb21
                    have v2_21 := own_keep v2_20 hb21
                    have k14_21 := own_keep k14_20 hb21
                    have q17_21 := own_keep q17_20 hb21
                    have r20_21 := own_keep r20_20 hb21
                    have t21 := step_below hb21 t20
                    have tb21 := tb20.trans (hb21.mono tb20.size)
                    have z20_21 := z20_20.keep hb21
                    have oo_21 := own_keep oo_20 hb21
                    refine hK.out _ _ ⟨(B0_21.cell (i := 0) rfl), (B0_21.cell (i := 1) rfl), (show Dr w21 (w.heap.size + 1) 27 d1 from B1_21).range⟩ (fun hS21 => ?_)
                    clear hK K
                    try (simp only [Act.put, List.setIfInBounds_toArray, List.set_cons_zero, List.set_cons_succ])
                    exact J3_ a18_ a21_ w21 g17 C20 e20 ⟨z20_21, z21_21, ge18, ge21, tb21, oo_21⟩
                  · obtain ⟨w20, hX20⟩ : ∃ X, X = w19.alloc (.cells za 32) := ⟨_, rfl⟩
                    have hb20 : Below w19.heap.size w19 w20 := by rw [hX20]; exact (Below.refl _ _).alloc (Nat.le_refl _) _
                    have z21_20 : Bk w20 w19.heap.size 32 (da fun _ => 0) := by rw [hX20, za_eq]; exact heap_new' _ _ _ rfl
                    have ge20 : w15.heap.size ≤ w19.heap.size := tb19.size
                    intro K hK
                    rw [if_pos (by rfl)]
                    go_simp
                    rw [← hX20]
                    clear hX20
                    obtain ⟨a20_, ha20_⟩ : ∃ g, w19.heap.size = g := ⟨_, rfl⟩
                    rw [ha20_] at z21_20
                    replace ge20 := Nat.le_trans ge20 (Nat.le_of_eq ha20_)
                    rw [ha20_]
                    clear ha20_
                    have b20 := step_below hb20 b19
                    have B0_20 := B0_19.keep hb20
                    have B1_20 := B1_19.keep hb20
                    have v2_20 := own_keep v2_19 hb20
                    have k14_20 := own_keep k14_19 hb20
                    have q17_20 := own_keep q17_19 hb20
                    have t20 := step_below hb20 t19
                    have tb20 := tb19.trans (hb20.mono tb19.size)
                    have z20_20 := z20_19.keep hb20
                    refine hK.out _ _ ⟨(B0_20.cell (i := 0) rfl), (B0_20.cell (i := 1) rfl), (show Dr w20 (w.heap.size + 1) 27 d1 from B1_20).range⟩ (fun hS20 => ?_)
                    clear hK K
                    try (simp only [Act.put, List.setIfInBounds_toArray, List.set_cons_zero, List.set_cons_succ])
                    exact J2_ a18_ a20_ w20 g17 ⟨z20_20, z21_20, ge18, ge20, tb20, own_base q17_20 (Nat.le_trans tb16.size hg17), ((q17_20).lt _ rfl).2⟩
                · obtain ⟨w19, hX19⟩ : ∃ X, X = w18.alloc (.cells za 32) := ⟨_, rfl⟩
                  have hb19 : Below w18.heap.size w18 w19 := by rw [hX19]; exact (Below.refl _ _).alloc (Nat.le_refl _) _
                  have z21_19 : Bk w19 w18.heap.size 32 (da fun _ => 0) := by rw [hX19, za_eq]; exact heap_new' _ _ _ rfl
                  have ge19 : w15.heap.size ≤ w18.heap.size := tb18.size
                  intro K hK
                  rw [if_pos (by rfl)]
                  go_simp
                  rw [← hX19]
                  clear hX19
                  obtain ⟨a19_, ha19_⟩ : ∃ g, w18.heap.size = g := ⟨_, rfl⟩
                  rw [ha19_] at z21_19
                  replace ge19 := Nat.le_trans ge19 (Nat.le_of_eq ha19_)
                  rw [ha19_]
                  clear ha19_
                  have b19 := step_below hb19 b18
                  have B0_19 := B0_18.keep hb19
                  have B1_19 := B1_18.keep hb19
                  have v2_19 := own_keep v2_18 hb19
                  have k14_19 := own_keep k14_18 hb19
                  have q17_19 := own_keep q17_18 hb19
                  have t19 := step_below hb19 t18
                  have tb19 := tb18.trans (hb19.mono tb18.size)
                  have z20_19 := z20_18.keep hb19
                  refine hK.out _ _ ⟨(B0_19.cell (i := 0) rfl), (B0_19.cell (i := 1) rfl), (show Dr w19 (w.heap.size + 1) 27 d1 from B1_19).range⟩ (fun hS19 => ?_)
                  clear hK K
                  try (simp only [Act.put, List.setIfInBounds_toArray, List.set_cons_zero, List.set_cons_succ])
                  exact J1_ a18_ a19_ w19 g17 ⟨z20_19, z21_19, ge18, ge19, tb19, own_base q17_19 (Nat.le_trans tb16.size hg17), ((q17_19).lt _ rfl).2⟩
              · obtain ⟨w18, hX18⟩ : ∃ X, X = w17.alloc (.cells za 32) := ⟨_, rfl⟩
                have hb18 : Below w17.heap.size w17 w18 := by rw [hX18]; exact (Below.refl _ _).alloc (Nat.le_refl _) _
                have z21_18 : Bk w18 w17.heap.size 32 (da fun _ => 0) := by rw [hX18, za_eq]; exact heap_new' _ _ _ rfl
                have ge18 : w15.heap.size ≤ w17.heap.size := tb17.size
                intro K hK
                rw [if_pos (by rfl)]
                go_simp
                rw [← hX18]
                clear hX18
                obtain ⟨a18_, ha18_⟩ : ∃ g, w17.heap.size = g := ⟨_, rfl⟩
                rw [ha18_] at z21_18
                replace ge18 := Nat.le_trans ge18 (Nat.le_of_eq ha18_)
                rw [ha18_]
                clear ha18_
                have b18 := step_below hb18 b17
                have B0_18 := B0_17.keep hb18
                have B1_18 := B1_17.keep hb18
                have v2_18 := own_keep v2_17 hb18
                have k14_18 := own_keep k14_17 hb18
                have q17_18 := own_keep q17_17 hb18
                have t18 := step_below hb18 t17
                have tb18 := tb17.trans (hb18.mono tb17.size)
                refine hK.out _ _ ⟨(B0_18.cell (i := 0) rfl), (B0_18.cell (i := 1) rfl), (show Dr w18 (w.heap.size + 1) 27 d1 from B1_18).range⟩ (fun hS18 => ?_)
                clear hK K
                refine wpAnyH_ready (rs := [3, 11]) (by kernel_rfl) (by simp) (AllReadyH.cons rfl ?_ (AllReadyH.cons rfl ?_ AllReadyH.nil))
                · intro K hK
                  rw [if_pos (by rfl)]
                  go_simp
                  refine (toDrum_any d1 _).mono ?_
                  rintro e w19 ⟨rfl, hb19⟩
                  have b19 := step_below hb19 b18
                  have B0_19 := B0_18.keep hb19
                  have B1_19 := B1_18.keep hb19
                  have v2_19 := own_keep v2_18 hb19
                  have k14_19 := own_keep k14_18 hb19
                  have q17_19 := own_keep q17_18 hb19
                  have t19 := step_below hb19 t18
                  have tb19 := tb18.trans (hb19.mono tb18.size)
                  have z21_19 := z21_18.keep hb19
                  refine hK.out _ _ ⟨(B0_19.cell (i := 0) rfl), (B0_19.cell (i := 1) rfl), (show Dr w19 (w.heap.size + 1) 27 d1 from B1_19).range⟩ (fun hS19 => ?_)
                  clear hK K
                  refine wpAnyH_ready (rs := [6, 11]) (by kernel_rfl) (by simp) (AllReadyH.cons rfl ?_ (AllReadyH.cons rfl ?_ AllReadyH.nil))
                  · intro K hK
                    rw [if_pos (by rfl)]
                    go_simp
                    refine (KI _ _ (HA.of_own q17_19) ).mono ?_
                    rintro e w20 ⟨C20, e20, rfl, own20, hb20⟩
                    have b20 := step_below hb20 b19
                    have B0_20 := B0_19.keep hb20
                    have B1_20 := B1_19.keep hb20
                    have v2_20 := own_keep v2_19 hb20
                    have k14_20 := own_keep k14_19 hb20
                    have q17_20 := own_keep q17_19 hb20
                    have t20 := step_below hb20 t19
                    have r20_20 := own20
                    have tb20 := tb19.trans (hb20.mono tb19.size)
                    have z21_20 := z21_19.keep hb20
                    have oo_20 := own_base own20 tb19.size
                    refine hK.out _ _ ⟨(B0_20.cell (i := 0) rfl), (B0_20.cell (i := 1) rfl), (show Dr w20 (w.heap.size + 1) 27 d1 from B1_20).range⟩ (fun hS20 => ?_)
                    clear hK K
                    refine wpAnyH_take (i := 7) (v := .tuple #[.agg #[.int .i16 rs0, .slice C20 r0.length e20], .agg (da r1), .int .i64 r2]) rfl (by kernel_rfl) (by kernel_rfl) (by kernel_rfl) (fun _ _ _ h => h) (Or.inl ⟨by rfl, fun w' _ => by go_simp⟩) hS20 ?_
                    change wpAnyH _ _ _ _ _ _ _ (Act.put _ (some 104) _) _
                    simp only [Act.put, List.setIfInBounds_toArray, List.set_cons_zero, List.set_cons_succ]
                    refine wpAnyH_take (i := 8) (v := .agg #[.int .i16 rs0, .slice C20 r0.length e20]) rfl (by kernel_rfl) (by kernel_rfl) (by kernel_rfl) (fun _ _ _ h => h) (Or.inl ⟨by rfl, fun w' _ => by go_simp⟩) hS20 ?_
                    change wpAnyH _ _ _ _ _ _ _ (Act.put _ (some 112) _) _
                    simp only [Act.put, List.setIfInBounds_toArray, List.set_cons_zero, List.set_cons_succ]
                    refine wpAnyH_take (i := 9) (v := .agg (da r1)) rfl (by kernel_rfl) (by kernel_rfl) (by kernel_rfl) (fun _ _ _ h => h) (Or.inl ⟨by rfl, fun w' _ => by go_simp⟩) hS20 ?_
                    change wpAnyH _ _ _ _ _ _ _ (Act.put _ (some 113) _) _
                    simp only [Act.put, List.setIfInBounds_toArray, List.set_cons_zero, List.set_cons_succ]
                    refine wpAnyH_take (i := 10) (v := .int .i64 r2) rfl (by kernel_rfl) (by kernel_rfl) (by kernel_rfl) (fun _ _ _ h => h) (Or.inl ⟨by rfl, fun w' _ => by go_simp⟩) hS20 ?_
                    change wpAnyH _ _ _ _ _ _ _ (Act.put _ (some 114) _) _
                    simp only [Act.put, List.setIfInBounds_toArray, List.set_cons_zero, List.set_cons_succ]
                    refine wpAnyH_ready (rs := [11]) (by kernel_rfl) (by simp) (AllReadyH.cons rfl ?_ AllReadyH.nil)
                    obtain ⟨w21, hX21⟩ : ∃ X, X = w20.alloc (.cells #[.int .i16 0, .slice none 0 0] 31) := ⟨_, rfl⟩
                    have hb21 : Below w20.heap.size w20 w21 := by rw [hX21]; exact (Below.refl _ _).alloc (Nat.le_refl _) _
                    have z20_21 : Bk w21 w20.heap.size 31 #[.int .i16 0, .slice none 0 0] := by rw [hX21]; exact heap_new' _ _ _ rfl
                    have ge21 : w15.heap.size ≤ w20.heap.size := tb20.size
                    intro K hK
                    rw [if_pos (by rfl)]
                    go_simp
                    rw [← hX21]
                    clear hX21
                    obtain ⟨a21_, ha21_⟩ : ∃ g, w20.heap.size = g := ⟨_, rfl⟩
                    rw [ha21_] at z20_21
                    replace ge21 := Nat.le_trans ge21 (Nat.le_of_eq ha21_)
                    rw [ha21_]
                    clear ha21_
                    have b21 := step_below hb21 b20
                    have B0_21 := B0_20.keep hb21
                    have B1_21 := B1_20.keep hb21
                    have v2_21 := own_keep v2_20 hb21
                    have k14_21 := own_keep k14_20 hb21
                    have q17_21 := own_keep q17_20 hb21
                    have r20_21 := own_keep r20_20 hb21
                    have t21 := step_below hb21 t20
                    have tb21 := tb20.trans (hb21.mono tb20.size)
                    have z21_21 := z21_20.keep hb21
                    have oo_21 := own_keep oo_20 hb21
                    refine hK.out _ _ ⟨(B0_21.cell (i := 0) rfl), (B0_21.cell (i := 1) rfl), (show Dr w21 (w.heap.size + 1) 27 d1 from B1_21).range⟩ (fun hS21 => ?_)
                    clear hK K
                    try (simp only [Act.put, List.setIfInBounds_toArray, List.set_cons_zero, List.set_cons_succ])
                    exact J3_ a21_ a18_ w21 g17 C20 e20 ⟨z20_21, z21_21, ge21, ge18, tb21, oo_21⟩
                  · obtain ⟨w20, hX20⟩ : ∃ X, X = w19.alloc (.cells #[.int .i16 0, .slice none 0 0] 31) := ⟨_, rfl⟩
                    have hb20 : Below w19.heap.size w19 w20 := by rw [hX20]; exact (Below.refl _ _).alloc (Nat.le_refl _) _
                    have z20_20 : Bk w20 w19.heap.size 31 #[.int .i16 0, .slice none 0 0] := by rw [hX20]; exact heap_new' _ _ _ rfl
                    have ge20 : w15.heap.size ≤ w19.heap.size := tb19.size
                    intro K hK
                    rw [if_pos (by rfl)]
                    go_simp
                    rw [← hX20]
                    clear hX20
                    obtain ⟨a20_, ha20_⟩ : ∃ g, w19.heap.size = g := ⟨_, rfl⟩
                    rw [ha20_] at z20_20
                    replace ge20 := Nat.le_trans ge20 (Nat.le_of_eq ha20_)
                    rw [ha20_]
                    clear ha20_
                    have b20 := step_below hb20 b19
                    have B0_20 := B0_19.keep hb20
                    have B1_20 := B1_19.keep hb20
                    have v2_20 := own_keep v2_19 hb20
                    have k14_20 := own_keep k14_19 hb20
                    have q17_20 := own_keep q17_19 hb20
                    have t20 := step_below hb20 t19
                    have tb20 := tb19.trans (hb20.mono tb19.size)
                    have z21_20 := z21_19.keep hb20
                    refine hK.out _ _ ⟨(B0_20.cell (i := 0) rfl), (B0_20.cell (i := 1) rfl), (show Dr w20 (w.heap.size + 1) 27 d1 from B1_20).range⟩ (fun hS20 => ?_)
                    clear hK K
                    try (simp only [Act.put, List.setIfInBounds_toArray, List.set_cons_zero, List.set_cons_succ])
                    exact J2_ a20_ a18_ w20 g17 ⟨z20_20, z21_20, ge20, ge18, tb20, own_base q17_20 (Nat.le_trans tb16.size hg17), ((q17_20).lt _ rfl).2⟩
                · obtain ⟨w19, hX19⟩ : ∃ X, X = w18.alloc (.cells #[.int .i16 0, .slice none 0 0] 31) := ⟨_, rfl⟩
                  have hb19 : Below w18.heap.size w18 w19 := by rw [hX19]; exact (Below.refl _ _).alloc (Nat.le_refl _) _
                  have z20_19 : Bk w19 w18.heap.size 31 #[.int .i16 0, .slice none 0 0] := by rw [hX19]; exact heap_new' _ _ _ rfl
                  have ge19 : w15.heap.size ≤ w18.heap.size := tb18.size
                  intro K hK
                  rw [if_pos (by rfl)]
                  go_simp
                  rw [← hX19]
                  clear hX19
                  obtain ⟨a19_, ha19_⟩ : ∃ g, w18.heap.size = g := ⟨_, rfl⟩
                  rw [ha19_] at z20_19
                  replace ge19 := Nat.le_trans ge19 (Nat.le_of_eq ha19_)
                  rw [ha19_]
                  clear ha19_
                  have b19 := step_below hb19 b18
                  have B0_19 := B0_18.keep hb19
                  have B1_19 := B1_18.keep hb19
                  have v2_19 := own_keep v2_18 hb19
                  have k14_19 := own_keep k14_18 hb19
                  have q17_19 := own_keep q17_18 hb19
                  have t19 := step_below hb19 t18
                  have tb19 := tb18.trans (hb19.mono tb18.size)
                  have z21_19 := z21_18.keep hb19
                  refine hK.out _ _ ⟨(B0_19.cell (i := 0) rfl), (B0_19.cell (i := 1) rfl), (show Dr w19 (w.heap.size + 1) 27 d1 from B1_19).range⟩ (fun hS19 => ?_)
                  clear hK K
                  try (simp only [Act.put, List.setIfInBounds_toArray, List.set_cons_zero, List.set_cons_succ])
                  exact J1_ a19_ a18_ w19 g17 ⟨z20_19, z21_19, ge19, ge18, tb19, own_base q17_19 (Nat.le_trans tb16.size hg17), ((q17_19).lt _ rfl).2⟩
            · obtain ⟨w17, hX17⟩ : ∃ X, X = wd16.alloc (.cells #[.int .i16 0, .slice none 0 0] 31) := ⟨_, rfl⟩
              have hb17 : Below wd16.heap.size wd16 w17 := by rw [hX17]; exact (Below.refl _ _).alloc (Nat.le_refl _) _
              have z20_17 : Bk w17 wd16.heap.size 31 #[.int .i16 0, .slice none 0 0] := by rw [hX17]; exact heap_new' _ _ _ rfl
              have ge17 : w15.heap.size ≤ wd16.heap.size := tb16.size
              intro K hK
              rw [if_pos (by rfl)]
              go_simp
              rw [← hX17]
              clear hX17
              obtain ⟨a17_, ha17_⟩ : ∃ g, wd16.heap.size = g := ⟨_, rfl⟩
              rw [ha17_] at z20_17
              replace ge17 := Nat.le_trans ge17 (Nat.le_of_eq ha17_)
              rw [ha17_]
              clear ha17_
              have b17 := step_below hb17 b16
              have B0_17 := B0_16.keep hb17
              have B1_17 := B1_16.keep hb17
              have v2_17 := own_keep v2_16 hb17
              have k14_17 := own_keep k14_16 hb17
              have t17 := step_below hb17 t16
              have tb17 := tb16.trans (hb17.mono tb16.size)
              refine hK.out _ _ ⟨(B0_17.cell (i := 0) rfl), (B0_17.cell (i := 1) rfl), (show Dr w17 (w.heap.size + 1) 27 d1 from B1_17).range⟩ (fun hS17 => ?_)
              clear hK K
              refine wpAnyH_ready (rs := [1, 12]) (by kernel_rfl) (by simp) (AllReadyH.cons rfl ?_ (AllReadyH.cons rfl ?_ AllReadyH.nil))
              · intro K hK
                rw [if_pos (by rfl)]
                go_simp
                refine (toFrame_any s0 A0 c0 l0 _ (hA0.below b17) hn0).mono ?_
                rintro e w18 ⟨g18, rfl, hg18, own18, hb18⟩
                have b18 := step_below hb18 b17
                have B0_18 := B0_17.keep hb18
                have B1_18 := B1_17.keep hb18
                have v2_18 := own_keep v2_17 hb18
                have k14_18 := own_keep k14_17 hb18
                have t18 := step_below hb18 t17
                have gl18 : g18 < w18.heap.size := (own18.lt g18 rfl).2
                have q18_18 := own18
                have tb18 := tb17.trans (hb18.mono tb17.size)
                have z20_18 := z20_17.keep hb18
                refine hK.out _ _ ⟨(B0_18.cell (i := 0) rfl), (B0_18.cell (i := 1) rfl), (show Dr w18 (w.heap.size + 1) 27 d1 from B1_18).range⟩ (fun hS18 => ?_)
                clear hK K
                refine wpAnyH_ready (rs := [3, 12]) (by kernel_rfl) (by simp) (AllReadyH.cons rfl ?_ (AllReadyH.cons rfl ?_ AllReadyH.nil))
                · intro K hK
                  rw [if_pos (by rfl)]
                  go_simp
                  refine (toDrum_any d1 _).mono ?_
                  rintro e w19 ⟨rfl, hb19⟩
                  have b19 := step_below hb19 b18
                  have B0_19 := B0_18.keep hb19
                  have B1_19 := B1_18.keep hb19
                  have v2_19 := own_keep v2_18 hb19
                  have k14_19 := own_keep k14_18 hb19
                  have q18_19 := own_keep q18_18 hb19
                  have t19 := step_below hb19 t18
                  have tb19 := tb18.trans (hb19.mono tb18.size)
                  have z20_19 := z20_18.keep hb19
                  refine hK.out _ _ ⟨(B0_19.cell (i := 0) rfl), (B0_19.cell (i := 1) rfl), (show Dr w19 (w.heap.size + 1) 27 d1 from B1_19).range⟩ (fun hS19 => ?_)
                  clear hK K
                  refine wpAnyH_ready (rs := [6, 12]) (by kernel_rfl) (by simp) (AllReadyH.cons rfl ?_ (AllReadyH.cons rfl ?_ AllReadyH.nil))
                  · intro K hK
                    rw [if_pos (by rfl)]
                    go_simp
                    refine (KI _ _ (HA.of_own q18_19) ).mono ?_
                    rintro e w20 ⟨C20, e20, rfl, own20, hb20⟩
                    have b20 := step_below hb20 b19
                    have B0_20 := B0_19.keep hb20
                    have B1_20 := B1_19.keep hb20
                    have v2_20 := own_keep v2_19 hb20
                    have k14_20 := own_keep k14_19 hb20
                    have q18_20 := own_keep q18_19 hb20
                    have t20 := step_below hb20 t19
                    have r20_20 := own20
                    have tb20 := tb19.trans (hb20.mono tb19.size)
                    have z20_20 := z20_19.keep hb20
                    have oo_20 := own_base own20 tb19.size
                    refine hK.out _ _ ⟨(B0_20.cell (i := 0) rfl), (B0_20.cell (i := 1) rfl), (show Dr w20 (w.heap.size + 1) 27 d1 from B1_20).range⟩ (fun hS20 => ?_)
                    clear hK K
                    refine wpAnyH_take (i := 7) (v := .tuple #[.agg #[.int .i16 rs0, .slice C20 r0.length e20], .agg (da r1), .int .i64 r2]) rfl (by kernel_rfl) (by kernel_rfl) (by kernel_rfl) (fun _ _ _ h => h) (Or.inl ⟨by rfl, fun w' _ => by go_simp⟩) hS20 ?_
                    change wpAnyH _ _ _ _ _ _ _ (Act.put _ (some 104) _) _
                    simp only [Act.put, List.setIfInBounds_toArray, List.set_cons_zero, List.set_cons_succ]
                    refine wpAnyH_take (i := 8) (v := .agg #[.int .i16 rs0, .slice C20 r0.length e20]) rfl (by kernel_rfl) (by kernel_rfl) (by kernel_rfl) (fun _ _ _ h => h) (Or.inl ⟨by rfl, fun w' _ => by go_simp⟩) hS20 ?_
                    change wpAnyH _ _ _ _ _ _ _ (Act.put _ (some 112) _) _
                    simp only [Act.put, List.setIfInBounds_toArray, List.set_cons_zero, List.set_cons_succ]
                    refine wpAnyH_take (i := 9) (v := .agg (da r1)) rfl (by kernel_rfl) (by kernel_rfl) (by kernel_rfl) (fun _ _ _ h => h) (Or.inl ⟨by rfl, fun w' _ => by go_simp⟩) hS20 ?_
                    change wpAnyH _ _ _ _ _ _ _ (Act.put _ (some 113) _) _
                    simp only [Act.put, List.setIfInBounds_toArray, List.set_cons_zero, List.set_cons_succ]
                    refine wpAnyH_take (i := 10) (v := .int .i64 r2) rfl (by kernel_rfl) (by kernel_rfl) (by kernel_rfl) (fun _ _ _ h => h) (Or.inl ⟨by rfl, fun w' _ => by go_simp⟩) hS20 ?_
                    change wpAnyH _ _ _ _ _ _ _ (Act.put _ (some 114) _) _
                    simp only [Act.put, List.setIfInBounds_toArray, List.set_cons_zero, List.set_cons_succ]
                    refine wpAnyH_ready (rs := [12]) (by kernel_rfl) (by simp) (AllReadyH.cons rfl ?_ AllReadyH.nil)
                    obtain ⟨w21, hX21⟩ : ∃ X, X = w20.alloc (.cells za 32) := ⟨_, rfl⟩
                    have hb21 : Below w20.heap.size w20 w21 := by rw [hX21]; exact (Below.refl _ _).alloc (Nat.le_refl _) _
                    have z21_21 : Bk w21 w20.heap.size 32 (da fun _ => 0) := by rw [hX21, za_eq]; exact heap_new' _ _ _ rfl
                    have ge21 : w15.heap.size ≤ w20.heap.size := tb20.size
                    intro K hK
                    rw [if_pos (by rfl)]
                    go_simp
                    rw [← hX21]
                    clear hX21
                    obtain ⟨a21_, ha21_⟩ : ∃ g, w20.heap.size = g := ⟨_, rfl⟩
                    rw [ha21_] at z21_21
                    replace ge21 := Nat.le_trans ge21 (Nat.le_of_eq ha21_)
                    rw [ha21_]
                    clear ha21_
                    have b21 := step_below hb21 b20
                    have B0_21 := B0_20.keep hb21
                    have B1_21 := B1_20.keep hb21
                    have v2_21 := own_keep v2_20 hb21
                    have k14_21 := own_keep k14_20 hb21
                    have q18_21 := own_keep q18_20 hb21
                    have r20_21 := own_keep r20_20 hb21
                    have t21 := step_below hb21 t20
                    have tb21 := tb20.trans (hb21.mono tb20.size)
                    have z20_21 := z20_20.keep hb21
                    have oo_21 := own_keep oo_20 hb21
                    refine hK.out _ _ ⟨(B0_21.cell (i := 0) rfl), (B0_21.cell (i := 1) rfl), (show Dr w21 (w.heap.size + 1) 27 d1 from B1_21).range⟩ (fun hS21 => ?_)
                    clear hK K
                    try (simp only [Act.put, List.setIfInBounds_toArray, List.set_cons_zero, List.set_cons_succ])
                    exact J3_ a17_ a21_ w21 g18 C20 e20 ⟨z20_21, z21_21, ge17, ge21, tb21, oo_21⟩
                  · obtain ⟨w20, hX20⟩ : ∃ X, X = w19.alloc (.cells za 32) := ⟨_, rfl⟩
                    have hb20 : Below w19.heap.size w19 w20 := by rw [hX20]; exact (Below.refl _ _).alloc (Nat.le_refl _) _
                    have z21_20 : Bk w20 w19.heap.size 32 (da fun _ => 0) := by rw [hX20, za_eq]; exact heap_new' _ _ _ rfl
                    have ge20 : w15.heap.size ≤ w19.heap.size := tb19.size
                    intro K hK
                    rw [if_pos (by rfl)]
                    go_simp
                    rw [← hX20]
                    clear hX20
                    obtain ⟨a20_, ha20_⟩ : ∃ g, w19.heap.size = g := ⟨_, rfl⟩
                    rw [ha20_] at z21_20
                    replace ge20 := Nat.le_trans ge20 (Nat.le_of_eq ha20_)
                    rw [ha20_]
                    clear ha20_
                    have b20 := step_below hb20 b19
                    have B0_20 := B0_19.keep hb20
                    have B1_20 := B1_19.keep hb20
                    have v2_20 := own_keep v2_19 hb20
                    have k14_20 := own_keep k14_19 hb20
                    have q18_20 := own_keep q18_19 hb20
                    have t20 := step_below hb20 t19
                    have tb20 := tb19.trans (hb20.mono tb19.size)
                    have z20_20 := z20_19.keep hb20
                    refine hK.out _ _ ⟨(B0_20.cell (i := 0) rfl), (B0_20.cell (i := 1) rfl), (show Dr w20 (w.heap.size + 1) 27 d1 from B1_20).range⟩ (fun hS20 => ?_)
                    clear hK K
                    try (simp only [Act.put, List.setIfInBounds_toArray, List.set_cons_zero, List.set_cons_succ])
                    exact J2_ a17_ a20_ w20 g18 ⟨z20_20, z21_20, ge17, ge20, tb20, own_base q18_20 (Nat.le_trans tb17.size hg18), ((q18_20).lt _ rfl).2⟩
                · obtain ⟨w19, hX19⟩ : ∃ X, X = w18.alloc (.cells za 32) := ⟨_, rfl⟩
                  have hb19 : Below w18.heap.size w18 w19 := by rw [hX19]; exact (Below.refl _ _).alloc (Nat.le_refl _) _
                  have z21_19 : Bk w19 w18.heap.size 32 (da fun _ => 0) := by rw [hX19, za_eq]; exact heap_new' _ _ _ rfl
                  have ge19 : w15.heap.size ≤ w18.heap.size := tb18.size
                  intro K hK
                  rw [if_pos (by rfl)]
                  go_simp
                  rw [← hX19]
                  clear hX19
                  obtain ⟨a19_, ha19_⟩ : ∃ g, w18.heap.size = g := ⟨_, rfl⟩
                  rw [ha19_] at z21_19
                  replace ge19 := Nat.le_trans ge19 (Nat.le_of_eq ha19_)
                  rw [ha19_]
                  clear ha19_
                  have b19 := step_below hb19 b18
                  have B0_19 := B0_18.keep hb19
                  have B1_19 := B1_18.keep hb19
                  have v2_19 := own_keep v2_18 hb19
                  have k14_19 := own_keep k14_18 hb19
                  have q18_19 := own_keep q18_18 hb19
                  have t19 := step_below hb19 t18
                  have tb19 := tb18.trans (hb19.mono tb18.size)
                  have z20_19 := z20_18.keep hb19
                  refine hK.out _ _ ⟨(B0_19.cell (i := 0) rfl), (B0_19.cell (i := 1) rfl), (show Dr w19 (w.heap.size + 1) 27 d1 from B1_19).range⟩ (fun hS19 => ?_)
                  clear hK K
                  try (simp only [Act.put, List.setIfInBounds_toArray, List.set_cons_zero, List.set_cons_succ])
                  exact J1_ a17_ a19_ w19 g18 ⟨z20_19, z21_19, ge17, ge19, tb19, own_base q18_19 (Nat.le_trans tb17.size hg18), ((q18_19).lt _ rfl).2⟩
              · obtain ⟨w18, hX18⟩ : ∃ X, X = w17.alloc (.cells za 32) := ⟨_, rfl⟩
                have hb18 : Below w17.heap.size w17 w18 := by rw [hX18]; exact (Below.refl _ _).alloc (Nat.le_refl _) _
                have z21_18 : Bk w18 w17.heap.size 32 (da fun _ => 0) := by rw [hX18, za_eq]; exact heap_new' _ _ _ rfl
                have ge18 : w15.heap.size ≤ w17.heap.size := tb17.size
                intro K hK
                rw [if_pos (by rfl)]
                go_simp
                rw [← hX18]
                clear hX18
                obtain ⟨a18_, ha18_⟩ : ∃ g, w17.heap.size = g := ⟨_, rfl⟩
                rw [ha18_] at z21_18
                replace ge18 := Nat.le_trans ge18 (Nat.le_of_eq ha18_)
                rw [ha18_]
                clear ha18_
                have b18 := step_below hb18 b17
                have B0_18 := B0_17.keep hb18
                have B1_18 := B1_17.keep hb18
                have v2_18 := own_keep v2_17 hb18
                have k14_18 := own_keep k14_17 hb18
                have t18 := step_below hb18 t17
                have tb18 := tb17.trans (hb18.mono tb17.size)
                have z20_18 := z20_17.keep hb18
                refine hK.out _ _ ⟨(B0_18.cell (i := 0) rfl), (B0_18.cell (i := 1) rfl), (show Dr w18 (w.heap.size + 1) 27 d1 from B1_18).range⟩ (fun hS18 => ?_)
                clear hK K
                try (simp only [Act.put, List.setIfInBounds_toArray, List.set_cons_zero, List.set_cons_succ])
                exact J0_ a17_ a18_ w18 ⟨z20_18, z21_18, ge17, ge18, tb18⟩
            · obtain ⟨w17, hX17⟩ : ∃ X, X = wd16.alloc (.cells za 32) := ⟨_, rfl⟩
              have hb17 : Below wd16.heap.size wd16 w17 := by rw [hX17]; exact (Below.refl _ _).alloc (Nat.le_refl _) _
              have z21_17 : Bk w17 wd16.heap.size 32 (da fun _ => 0) := by rw [hX17, za_eq]; exact heap_new' _ _ _ rfl
              have ge17 : w15.heap.size ≤ wd16.heap.size := tb16.size
              intro K hK
              rw [if_pos (by rfl)]
              go_simp
              rw [← hX17]
              clear hX17
              obtain ⟨a17_, ha17_⟩ : ∃ g, wd16.heap.size = g := ⟨_, rfl⟩
              rw [ha17_] at z21_17
              replace ge17 := Nat.le_trans ge17 (Nat.le_of_eq ha17_)
              rw [ha17_]
              clear ha17_
              have b17 := step_below hb17 b16
              have B0_17 := B0_16.keep hb17
              have B1_17 := B1_16.keep hb17
              have v2_17 := own_keep v2_16 hb17
              have k14_17 := own_keep k14_16 hb17
              have t17 := step_below hb17 t16
              have tb17 := tb16.trans (hb17.mono tb16.size)
              refine hK.out _ _ ⟨(B0_17.cell (i := 0) rfl), (B0_17.cell (i := 1) rfl), (show Dr w17 (w.heap.size + 1) 27 d1 from B1_17).range⟩ (fun hS17 => ?_)
              clear hK K
              refine wpAnyH_ready (rs := [1, 11]) (by kernel_rfl) (by simp) (AllReadyH.cons rfl ?_ (AllReadyH.cons rfl ?_ AllReadyH.nil))
              · intro K hK
                rw [if_pos (by rfl)]
                go_simp
                refine (toFrame_any s0 A0 c0 l0 _ (hA0.below b17) hn0).mono ?_
                rintro e w18 ⟨g18, rfl, hg18, own18, hb18⟩
                have b18 := step_below hb18 b17
                have B0_18 := B0_17.keep hb18
                have B1_18 := B1_17.keep hb18
                have v2_18 := own_keep v2_17 hb18
                have k14_18 := own_keep k14_17 hb18
                have t18 := step_below hb18 t17
                have gl18 : g18 < w18.heap.size := (own18.lt g18 rfl).2
                have q18_18 := own18
                have tb18 := tb17.trans (hb18.mono tb17.size)
                have z21_18 := z21_17.keep hb18
                refine hK.out _ _ ⟨(B0_18.cell (i := 0) rfl), (B0_18.cell (i := 1) rfl), (show Dr w18 (w.heap.size + 1) 27 d1 from B1_18).range⟩ (fun hS18 => ?_)
                clear hK K
                refine wpAnyH_ready (rs := [3, 11]) (by kernel_rfl) (by simp) (AllReadyH.cons rfl ?_ (AllReadyH.cons rfl ?_ AllReadyH.nil))
                · intro K hK
                  rw [if_pos (by rfl)]
                  go_simp
                  refine (toDrum_any d1 _).mono ?_
                  rintro e w19 ⟨rfl, hb19⟩
                  have b19 := step_below hb19 b18
                  have B0_19 := B0_18.keep hb19
                  have B1_19 := B1_18.keep hb19
                  have v2_19 := own_keep v2_18 hb19
                  have k14_19 := own_keep k14_18 hb19
                  have q18_19 := own_keep q18_18 hb19
                  have t19 := step_below hb19 t18
                  have tb19 := tb18.trans (hb19.mono tb18.size)
                  have z21_19 := z21_18.keep hb19
                  refine hK.out _ _ ⟨(B0_19.cell (i := 0) rfl), (B0_19.cell (i := 1) rfl), (show Dr w19 (w.heap.size + 1) 27 d1 from B1_19).range⟩ (fun hS19 => ?_)
                  clear hK K
                  refine wpAnyH_ready (rs := [6, 11]) (by kernel_rfl) (by simp) (AllReadyH.cons rfl ?_ (AllReadyH.cons rfl ?_ AllReadyH.nil))
                  · intro K hK
                    rw [if_pos (by rfl)]
                    go_simp
                    refine (KI _ _ (HA.of_own q18_19) ).mono ?_
                    rintro e w20 ⟨C20, e20, rfl, own20, hb20⟩
                    have b20 := step_below hb20 b19
                    have B0_20 := B0_19.keep hb20
                    have B1_20 := B1_19.keep hb20
                    have v2_20 := own_keep v2_19 hb20
                    have k14_20 := own_keep k14_19 hb20
                    have q18_20 := own_keep q18_19 hb20
                    have t20 := step_below hb20 t19
                    have r20_20 := own20
                    have tb20 := tb19.trans (hb20.mono tb19.size)
                    have z21_20 := z21_19.keep hb20
                    have oo_20 := own_base own20 tb19.size
                    refine hK.out _ _ ⟨(B0_20.cell (i := 0) rfl), (B0_20.cell (i := 1) rfl), (show Dr w20 (w.heap.size + 1) 27 d1 from B1_20).range⟩ (fun hS20 => ?_)
                    clear hK K
                    refine wpAnyH_take (i := 7) (v := .tuple #[.agg #[.int .i16 rs0, .slice C20 r0.length e20], .agg (da r1), .int .i64 r2]) rfl (by kernel_rfl) (by kernel_rfl) (by kernel_rfl) (fun _ _ _ h => h) (Or.inl ⟨by rfl, fun w' _ => by go_simp⟩) hS20 ?_
                    change wpAnyH _ _ _ _ _ _ _ (Act.put _ (some 104) _) _
                    simp only [Act.put, List.setIfInBounds_toArray, List.set_cons_zero, List.set_cons_succ]
                    refine wpAnyH_take (i := 8) (v := .agg #[.int .i16 rs0, .slice C20 r0.length e20]) rfl (by kernel_rfl) (by kernel_rfl) (by kernel_rfl) (fun _ _ _ h => h) (Or.inl ⟨by rfl, fun w' _ => by go_simp⟩) hS20 ?_
                    change wpAnyH _ _ _ _ _ _ _ (Act.put _ (some 112) _) _
                    simp only [Act.put, List.setIfInBounds_toArray, List.set_cons_zero, List.set_cons_succ]
                    refine wpAnyH_take (i := 9) (v := .agg (da r1)) rfl (by kernel_rfl) (by kernel_rfl) (by kernel_rfl) (fun _ _ _ h => h) (Or.inl ⟨by rfl, fun w' _ => by go_simp⟩) hS20 ?_
                    change wpAnyH _ _ _ _ _ _ _ (Act.put _ (some 113) _) _
                    simp only [Act.put, List.setIfInBounds_toArray, List.set_cons_zero, List.set_cons_succ]
                    refine wpAnyH_take (i := 10) (v := .int .i64 r2) rfl (by kernel_rfl) (by kernel_rfl) (by kernel_rfl) (fun _ _ _ h => h) (Or.inl ⟨by rfl, fun w' _ => by go_simp⟩) hS20 ?_
                    change wpAnyH _ _ _ _ _ _ _ (Act.put _ (some 114) _) _
                    simp only [Act.put, List.setIfInBounds_toArray, List.set_cons_zero, List.set_cons_succ]
                    refine wpAnyH_ready (rs := [11]) (by kernel_rfl) (by simp) (AllReadyH.cons rfl ?_ AllReadyH.nil)
                    obtain ⟨w21, hX21⟩ : ∃ X, X = w20.alloc (.cells #[.int .i16 0, .slice none 0 0] 31) := ⟨_, rfl⟩
                    have hb21 : Below w20.heap.size w20 w21 := by rw [hX21]; exact (Below.refl _ _).alloc (Nat.le_refl _) _
                    have z20_21 : Bk w21 w20.heap.size 31 #[.int .i16 0, .slice none 0 0] := by rw [hX21]; exact heap_new' _ _ _ rfl
                    have ge21 : w15.heap.size ≤ w20.heap.size := tb20.size
                    intro K hK
                    rw [if_pos (by rfl)]
                    go_simp
                    rw [← hX21]
                    clear hX21
                    obtain ⟨a21_, ha21_⟩ : ∃ g, w20.heap.size = g := ⟨_, rfl⟩
                    rw [ha21_] at z20_21
                    replace ge21 := Nat.le_trans ge21 (Nat.le_of_eq ha21_)
                    rw [ha21_]
                    clear ha21_
                    have b21 := step_below hb21 b20
                    have B0_21 := B0_20.keep hb21
                    have B1_21 := B1_20.keep hb21
                    have v2_21 := own_keep v2_20 hb21
                    have k14_21 := own_keep k14_20 hb21
                    have q18_21 := own_keep q18_20 hb21
                    have r20_21 := own_keep r20_20 hb21
                    have t21 := step_below hb21 t20
                    have tb21 := tb20.trans (hb21.mono tb20.size)
                    have z21_21 := z21_20.keep hb21
                    have oo_21 := own_keep oo_20 hb21
                    refine hK.out _ _ ⟨(B0_21.cell (i := 0) rfl), (B0_21.cell (i := 1) rfl), (show Dr w21 (w.heap.size + 1) 27 d1 from B1_21).range⟩ (fun hS21 => ?_)
                    clear hK K
                    try (simp only [Act.put, List.setIfInBounds_toArray, List.set_cons_zero, List.set_cons_succ])
                    exact J3_ a21_ a17_ w21 g18 C20 e20 ⟨z20_21, z21_21, ge21, ge17, tb21, oo_21⟩
                  · obtain ⟨w20, hX20⟩ : ∃ X, X = w19.alloc (.cells #[.int .i16 0, .slice none 0 0] 31) := ⟨_, rfl⟩
                    have hb20 : Below w19.heap.size w19 w20 := by rw [hX20]; exact (Below.refl _ _).alloc (Nat.le_refl _) _
                    have z20_20 : Bk w20 w19.heap.size 31 #[.int .i16 0, .slice none 0 0] := by rw [hX20]; exact heap_new' _ _ _ rfl
                    have ge20 : w15.heap.size ≤ w19.heap.size := tb19.size
                    intro K hK
                    rw [if_pos (by rfl)]
                    go_simp
                    rw [← hX20]
                    clear hX20
                    obtain ⟨a20_, ha20_⟩ : ∃ g, w19.heap.size = g := ⟨_, rfl⟩
                    rw [ha20_] at z20_20
                    replace ge20 := Nat.le_trans ge20 (Nat.le_of_eq ha20_)
                    rw [ha20_]
                    clear ha20_
                    have b20 := step_below hb20 b19
                    have B0_20 := B0_19.keep hb20
                    have B1_20 := B1_19.keep hb20
                    have v2_20 := own_keep v2_19 hb20
                    have k14_20 := own_keep k14_19 hb20
                    have q18_20 := own_keep q18_19 hb20
                    have t20 := step_below hb20 t19
                    have tb20 := tb19.trans (hb20.mono tb19.size)
                    have z21_20 := z21_19.keep hb20
                    refine hK.out _ _ ⟨(B0_20.cell (i := 0) rfl), (B0_20.cell (i := 1) rfl), (show Dr w20 (w.heap.size + 1) 27 d1 from B1_20).range⟩ (fun hS20 => ?_)
                    clear hK K
                    try (simp only [Act.put, List.setIfInBounds_toArray, List.set_cons_zero, List.set_cons_succ])
                    exact J2_ a20_ a17_ w20 g18 ⟨z20_20, z21_20, ge20, ge17, tb20, own_base q18_20 (Nat.le_trans tb17.size hg18), ((q18_20).lt _ rfl).2⟩
                · obtain ⟨w19, hX19⟩ : ∃ X, X = w18.alloc (.cells #[.int .i16 0, .slice none 0 0] 31) := ⟨_, rfl⟩
                  have hb19 : Below w18.heap.size w18 w19 := by rw [hX19]; exact (Below.refl _ _).alloc (Nat.le_refl _) _
                  have z20_19 : Bk w19 w18.heap.size 31 #[.int .i16 0, .slice none 0 0] := by rw [hX19]; exact heap_new' _ _ _ rfl
                  have ge19 : w15.heap.size ≤ w18.heap.size := tb18.size
                  intro K hK
                  rw [if_pos (by rfl)]
                  go_simp
                  rw [← hX19]
                  clear hX19
                  obtain ⟨a19_, ha19_⟩ : ∃ g, w18.heap.size = g := ⟨_, rfl⟩
                  rw [ha19_] at z20_19
                  replace ge19 := Nat.le_trans ge19 (Nat.le_of_eq ha19_)
                  rw [ha19_]
                  clear ha19_
                  have b19 := step_below hb19 b18
                  have B0_19 := B0_18.keep hb19
                  have B1_19 := B1_18.keep hb19
                  have v2_19 := own_keep v2_18 hb19
                  have k14_19 := own_keep k14_18 hb19
                  have q18_19 := own_keep q18_18 hb19
                  have t19 := step_below hb19 t18
                  have tb19 := tb18.trans (hb19.mono tb18.size)
                  have z21_19 := z21_18.keep hb19
                  refine hK.out _ _ ⟨(B0_19.cell (i := 0) rfl), (B0_19.cell (i := 1) rfl), (show Dr w19 (w.heap.size + 1) 27 d1 from B1_19).range⟩ (fun hS19 => ?_)
                  clear hK K
                  try (simp only [Act.put, List.setIfInBounds_toArray, List.set_cons_zero, List.set_cons_succ])
                  exact J1_ a19_ a17_ w19 g18 ⟨z20_19, z21_19, ge19, ge17, tb19, own_base q18_19 (Nat.le_trans tb17.size hg18), ((q18_19).lt _ rfl).2⟩
              · obtain ⟨w18, hX18⟩ : ∃ X, X = w17.alloc (.cells #[.int .i16 0, .slice none 0 0] 31) := ⟨_, rfl⟩
                have hb18 : Below w17.heap.size w17 w18 := by rw [hX18]; exact (Below.refl _ _).alloc (Nat.le_refl _) _
                have z20_18 : Bk w18 w17.heap.size 31 #[.int .i16 0, .slice none 0 0] := by rw [hX18]; exact heap_new' _ _ _ rfl
                have ge18 : w15.heap.size ≤ w17.heap.size := tb17.size
                intro K hK
                rw [if_pos (by rfl)]
                go_simp
                rw [← hX18]
                clear hX18
                obtain ⟨a18_, ha18_⟩ : ∃ g, w17.heap.size = g := ⟨_, rfl⟩
                rw [ha18_] at z20_18
                replace ge18 := Nat.le_trans ge18 (Nat.le_of_eq ha18_)
                rw [ha18_]
                clear ha18_
                have b18 := step_below hb18 b17
                have B0_18 := B0_17.keep hb18
                have B1_18 := B1_17.keep hb18
                have v2_18 := own_keep v2_17 hb18
                have k14_18 := own_keep k14_17 hb18
                have t18 := step_below hb18 t17
                have tb18 := tb17.trans (hb18.mono tb17.size)
                have z21_18 := z21_17.keep hb18
                refine hK.out _ _ ⟨(B0_18.cell (i := 0) rfl), (B0_18.cell (i := 1) rfl), (show Dr w18 (w.heap.size + 1) 27 d1 from B1_18).range⟩ (fun hS18 => ?_)
                clear hK K
                try (simp only [Act.put, List.setIfInBounds_toArray, List.set_cons_zero, List.set_cons_succ])
                exact J0_ a18_ a17_ w18 ⟨z20_18, z21_18, ge18, ge17, tb18⟩
          · rintro a0s9000 a1s9000 w9000 ⟨z20_9000, z21_9000, ge0s9000, ge1s9000, tb9000⟩
            have hb9000 := tb9000
            have B0_9000 := B0_15.keep hb9000
            have B1_9000 := B1_15.keep hb9000
            have v2_9000 := own_keep v2_15 hb9000
            have k14_9000 := own_keep k14_15 hb9000
            have t9000 := step_below hb9000 t15
            have b9000 := step_below hb9000 b15
            show wpAnyH _ _ _ _ _ _ _ _ _
            refine wpAnyH_ready (rs := [1]) (by kernel_rfl) (by simp) (AllReadyH.cons rfl ?_ AllReadyH.nil)
            intro K hK
            rw [if_pos (by rfl)]
            go_simp
            refine (toFrame_any s0 A0 c0 l0 _ (hA0.below b9000) hn0).mono ?_
            rintro e w9001 ⟨g9001, rfl, hg9001, own9001, hb9001⟩
            have b9001 := step_below hb9001 b9000
            have B0_9001 := B0_9000.keep hb9001
            have B1_9001 := B1_9000.keep hb9001
            have v2_9001 := own_keep v2_9000 hb9001
            have k14_9001 := own_keep k14_9000 hb9001
            have t9001 := step_below hb9001 t9000
            have gl9001 : g9001 < w9001.heap.size := (own9001.lt g9001 rfl).2
            have q9001_9001 := own9001
            have tb9001 := tb9000.trans (hb9001.mono tb9000.size)
            have z20_9001 := z20_9000.keep hb9001
            have z21_9001 := z21_9000.keep hb9001
            refine hK.out _ _ ⟨(B0_9001.cell (i := 0) rfl), (B0_9001.cell (i := 1) rfl), (show Dr w9001 (w.heap.size + 1) 27 d1 from B1_9001).range⟩ (fun hS9001 => ?_)
            clear hK K
            try (simp only [Act.put, List.setIfInBounds_toArray, List.set_cons_zero, List.set_cons_succ])
            exact J1_ a0s9000 a1s9000 w9001 g9001 ⟨z20_9001, z21_9001, ge0s9000, ge1s9000, tb9001, own_base q9001_9001 (Nat.le_trans tb9000.size hg9001), ((q9001_9001).lt _ rfl).2⟩
        · rintro a0s9001 a1s9001 w9001 g9001 ⟨z20_9001, z21_9001, ge0s9001, ge1s9001, tb9001, q9001_9001, gl9001⟩
          have hb9001 := tb9001
          have B0_9001 := B0_15.keep hb9001
          have B1_9001 := B1_15.keep hb9001
          have v2_9001 := own_keep v2_15 hb9001
          have k14_9001 := own_keep k14_15 hb9001
          have t9001 := step_below hb9001 t15
          have b9001 := step_below hb9001 b15
          show wpAnyH _ _ _ _ _ _ _ _ _
          refine wpAnyH_ready (rs := [3]) (by kernel_rfl) (by simp) (AllReadyH.cons rfl ?_ AllReadyH.nil)
          intro K hK
          rw [if_pos (by rfl)]
          go_simp
          refine (toDrum_any d1 _).mono ?_
          rintro e w9002 ⟨rfl, hb9002⟩
          have b9002 := step_below hb9002 b9001
          have B0_9002 := B0_9001.keep hb9002
          have B1_9002 := B1_9001.keep hb9002
          have v2_9002 := own_keep v2_9001 hb9002
          have k14_9002 := own_keep k14_9001 hb9002
          have q9001_9002 := own_keep q9001_9001 hb9002
          have t9002 := step_below hb9002 t9001
          have tb9002 := tb9001.trans (hb9002.mono tb9001.size)
          have z20_9002 := z20_9001.keep hb9002
          have z21_9002 := z21_9001.keep hb9002
          refine hK.out _ _ ⟨(B0_9002.cell (i := 0) rfl), (B0_9002.cell (i := 1) rfl), (show Dr w9002 (w.heap.size + 1) 27 d1 from B1_9002).range⟩ (fun hS9002 => ?_)
          clear hK K
          try (simp only [Act.put, List.setIfInBounds_toArray, List.set_cons_zero, List.set_cons_succ])
          exact J2_ a0s9001 a1s9001 w9002 g9001 ⟨z20_9002, z21_9002, ge0s9001, ge1s9001, tb9002, own_base q9001_9002 (Nat.le_refl _), ((q9001_9002).lt _ rfl).2⟩
      · rintro a0s9002 a1s9002 w9002 g9002 ⟨z20_9002, z21_9002, ge0s9002, ge1s9002, tb9002, q9002_9002, gl9002⟩
        have hb9002 := tb9002
        have B0_9002 := B0_15.keep hb9002
        have B1_9002 := B1_15.keep hb9002
        have v2_9002 := own_keep v2_15 hb9002
        have k14_9002 := own_keep k14_15 hb9002
        have t9002 := step_below hb9002 t15
        have b9002 := step_below hb9002 b15
        show wpAnyH _ _ _ _ _ _ _ _ _
        refine wpAnyH_ready (rs := [6]) (by kernel_rfl) (by simp) (AllReadyH.cons rfl ?_ AllReadyH.nil)
        intro K hK
        rw [if_pos (by rfl)]
        go_simp
        refine (KI _ _ (HA.of_own q9002_9002) ).mono ?_
        rintro e w9003 ⟨C9003, e9003, rfl, own9003, hb9003⟩
        have b9003 := step_below hb9003 b9002
        have B0_9003 := B0_9002.keep hb9003
        have B1_9003 := B1_9002.keep hb9003
        have v2_9003 := own_keep v2_9002 hb9003
        have k14_9003 := own_keep k14_9002 hb9003
        have q9002_9003 := own_keep q9002_9002 hb9003
        have t9003 := step_below hb9003 t9002
        have r9003_9003 := own9003
        have tb9003 := tb9002.trans (hb9003.mono tb9002.size)
        have z20_9003 := z20_9002.keep hb9003
        have z21_9003 := z21_9002.keep hb9003
        have oo_9003 := own_base own9003 tb9002.size
        refine hK.out _ _ ⟨(B0_9003.cell (i := 0) rfl), (B0_9003.cell (i := 1) rfl), (show Dr w9003 (w.heap.size + 1) 27 d1 from B1_9003).range⟩ (fun hS9003 => ?_)
        clear hK K
        refine wpAnyH_take (i := 7) (v := .tuple #[.agg #[.int .i16 rs0, .slice C9003 r0.length e9003], .agg (da r1), .int .i64 r2]) rfl (by kernel_rfl) (by kernel_rfl) (by kernel_rfl) (fun _ _ _ h => h) (Or.inl ⟨by rfl, fun w' _ => by go_simp⟩) hS9003 ?_
        change wpAnyH _ _ _ _ _ _ _ (Act.put _ (some 104) _) _
        simp only [Act.put, List.setIfInBounds_toArray, List.set_cons_zero, List.set_cons_succ]
        refine wpAnyH_take (i := 8) (v := .agg #[.int .i16 rs0, .slice C9003 r0.length e9003]) rfl (by kernel_rfl) (by kernel_rfl) (by kernel_rfl) (fun _ _ _ h => h) (Or.inl ⟨by rfl, fun w' _ => by go_simp⟩) hS9003 ?_
        change wpAnyH _ _ _ _ _ _ _ (Act.put _ (some 112) _) _
        simp only [Act.put, List.setIfInBounds_toArray, List.set_cons_zero, List.set_cons_succ]
        refine wpAnyH_take (i := 9) (v := .agg (da r1)) rfl (by kernel_rfl) (by kernel_rfl) (by kernel_rfl) (fun _ _ _ h => h) (Or.inl ⟨by rfl, fun w' _ => by go_simp⟩) hS9003 ?_
        change wpAnyH _ _ _ _ _ _ _ (Act.put _ (some 113) _) _
        simp only [Act.put, List.setIfInBounds_toArray, List.set_cons_zero, List.set_cons_succ]
        refine wpAnyH_take (i := 10) (v := .int .i64 r2) rfl (by kernel_rfl) (by kernel_rfl) (by kernel_rfl) (fun _ _ _ h => h) (Or.inl ⟨by rfl, fun w' _ => by go_simp⟩) hS9003 ?_
        change wpAnyH _ _ _ _ _ _ _ (Act.put _ (some 114) _) _
        simp only [Act.put, List.setIfInBounds_toArray, List.set_cons_zero, List.set_cons_succ]
        try (simp only [Act.put, List.setIfInBounds_toArray, List.set_cons_zero, List.set_cons_succ])
        exact J3_ a0s9002 a1s9002 w9003 g9002 C9003 e9003 ⟨z20_9003, z21_9003, ge0s9002, ge1s9002, tb9003, oo_9003⟩
    · rintro a0s9003 a1s9003 w9003 g9003 C9003 e9003 ⟨z20_9003, z21_9003, ge0s9003, ge1s9003, tb9003, oo_9003⟩
      have hb9003 := tb9003
      have B0_9003 := B0_15.keep hb9003
      have B1_9003 := B1_15.keep hb9003
      have v2_9003 := own_keep v2_15 hb9003
      have k14_9003 := own_keep k14_15 hb9003
      have t9003 := step_below hb9003 t15
      have b9003 := step_below hb9003 b15
      show wpAnyH _ _ _ _ _ _ _ _ _
      refine wpAnyH_ready (rs := [13]) (by kernel_rfl) (by simp) (AllReadyH.cons rfl ?_ AllReadyH.nil)
      intro K hK
      rw [if_pos (by rfl)]
      refine wp_store_row 31 (.tmp 20) (.tmp 112) rfl (a0s9003) #[.int .i16 rs0, .slice C9003 r0.length e9003] rfl rfl 31 _ z20_9003 (infoF2 _ _) (sz22 _ _ _ _) (oneF _ _ _ _) ?_
      have hb9004 : Below w15.heap.size w9003 (w9003.setRow (a0s9003) #[.int .i16 rs0, .slice C9003 r0.length e9003]) := below_setRow (Below.refl _ _) ge0s9003
      have z20_9004 : Bk (w9003.setRow (a0s9003) #[.int .i16 rs0, .slice C9003 r0.length e9003]) (a0s9003) 31 #[.int .i16 rs0, .slice C9003 r0.length e9003] := setRow_heap _ _ _ _ _ _ z20_9003
      have z21_9004 : Bk (w9003.setRow (a0s9003) #[.int .i16 rs0, .slice C9003 r0.length e9003]) (a1s9003) 32 _ := (setRow_other _ _ _ _ (bk_ne z21_9003 z20_9003 (by decide))).trans z21_9003
      have oo_9004 := own_rowK oo_9003 z20_9003 (by decide) #[.int .i16 rs0, .slice C9003 r0.length e9003]
      have B0_9004 : Bk (w9003.setRow (a0s9003) #[.int .i16 rs0, .slice C9003 r0.length e9003]) (w.heap.size) 25 #[.int .i16 s0, .slice A0 l0.length c0] := (setRow_other _ _ _ _ (by have e1 := B0_15.lt; have e2 := ge0s9003; omega)).trans B0_9003
      have B1_9004 : Bk (w9003.setRow (a0s9003) #[.int .i16 rs0, .slice C9003 r0.length e9003]) (w.heap.size + 1) 27 (da d1) := (setRow_other _ _ _ _ (by have e1 := B1_15.lt; have e2 := ge0s9003; omega)).trans B1_9003
      have tb9004 := tb9003.trans hb9004
      refine hK.out _ _ ⟨(B0_9004.cell (i := 0) rfl), (B0_9004.cell (i := 1) rfl), (show Dr (w9003.setRow (a0s9003) #[.int .i16 rs0, .slice C9003 r0.length e9003]) (w.heap.size + 1) 27 d1 from B1_9004).range⟩ (fun hS9004 => ?_)
      clear hK K
      refine wpAnyH_ready (rs := [14]) (by kernel_rfl) (by simp) (AllReadyH.cons rfl ?_ AllReadyH.nil)
      intro K hK
      rw [if_pos (by rfl)]
      refine wp_store_row 32 (.tmp 21) (.tmp 113) rfl (a1s9003) (da r1) rfl rfl 32 _ z21_9004 (by rw [da_size]; exact info32) (by simp only [da_size]) (da_one _) ?_
      have hb9005 : Below w15.heap.size (w9003.setRow (a0s9003) #[.int .i16 rs0, .slice C9003 r0.length e9003]) ((w9003.setRow (a0s9003) #[.int .i16 rs0, .slice C9003 r0.length e9003]).setRow (a1s9003) (da r1)) := below_setRow (Below.refl _ _) ge1s9003
      have z21_9005 : Bk ((w9003.setRow (a0s9003) #[.int .i16 rs0, .slice C9003 r0.length e9003]).setRow (a1s9003) (da r1)) (a1s9003) 32 (da r1) := setRow_heap _ _ _ _ _ _ z21_9004
      have z20_9005 : Bk ((w9003.setRow (a0s9003) #[.int .i16 rs0, .slice C9003 r0.length e9003]).setRow (a1s9003) (da r1)) (a0s9003) 31 _ := (setRow_other _ _ _ _ (bk_ne z20_9004 z21_9004 (by decide))).trans z20_9004
      have oo_9005 := own_rowK oo_9004 z21_9004 (by decide) (da r1)
      have B0_9005 : Bk ((w9003.setRow (a0s9003) #[.int .i16 rs0, .slice C9003 r0.length e9003]).setRow (a1s9003) (da r1)) (w.heap.size) 25 #[.int .i16 s0, .slice A0 l0.length c0] := (setRow_other _ _ _ _ (by have e1 := B0_15.lt; have e2 := ge1s9003; omega)).trans B0_9004
      have B1_9005 : Bk ((w9003.setRow (a0s9003) #[.int .i16 rs0, .slice C9003 r0.length e9003]).setRow (a1s9003) (da r1)) (w.heap.size + 1) 27 (da d1) := (setRow_other _ _ _ _ (by have e1 := B1_15.lt; have e2 := ge1s9003; omega)).trans B1_9004
      have tb9005 := tb9004.trans hb9005
      refine hK.out _ _ ⟨(B0_9005.cell (i := 0) rfl), (B0_9005.cell (i := 1) rfl), (show Dr ((w9003.setRow (a0s9003) #[.int .i16 rs0, .slice C9003 r0.length e9003]).setRow (a1s9003) (da r1)) (w.heap.size + 1) 27 d1 from B1_9005).range⟩ (fun hS9005 => ?_)
      clear hK K
      refine wpAnyH_take (i := 15) (v := .int .i64 r2) rfl (by kernel_rfl) (by kernel_rfl) (by kernel_rfl) (fun _ _ _ h => h) (Or.inl ⟨by rfl, fun w' _ => by go_simp⟩) hS9005 ?_
      change wpAnyH _ _ _ _ _ _ _ (Act.put _ (some 22) _) _
      simp only [Act.put, List.setIfInBounds_toArray, List.set_cons_zero, List.set_cons_succ]
      refine wpAnyH_done (by kernel_rfl) ?_ _
      go_wp2_with fail
      go_meet
      exact ⟨_, _, C9003, e9003, _, rfl, rfl, rfl, rfl, z20_9005, z21_9005, ge0s9003, ge1s9003, oo_9005, tb9005⟩
  obtain ⟨rg0_16, rg1_16, C16, e16, w16, rfl, rfl, rfl, rfl, K0_16, K1_16, rge0_16, rge1_16, own16, hb16⟩ := hcut
  have b16 := step_below hb16 b15
  have B0_16 := B0_15.keep hb16
  have B1_16 := B1_15.keep hb16
  have R0x2_16 := R0x2_15.keep hb16
  have R1x2_16 := R1x2_15.keep hb16
  have R0x5_16 := R0x5_15.keep hb16
  have R1x5_16 := R1x5_15.keep hb16
  have v2_16 := own_keep v2_15 hb16
  have k14_16 := own_keep k14_15 hb16
  have t16 := step_below hb16 t15
  have r16_16 := own16
  have R0x16_16 := K0_16
  have R1x16_16 := K1_16
  have pf115_ := R0x16_16.cell (i := 0) rfl
  have qf115_ := R0x16_16.cell (i := 1) rfl
  have pf116_ := R0x2_16.cell (i := 0) rfl
  have qf116_ := R0x2_16.cell (i := 1) rfl
  go_wp2_with fail
  clear pf115_ qf115_ pf116_ qf116_
  refine (eqFrame_any rs0 _ _ _ _ r0 _ (HA.of_own r16_16) (HA.of_own v2_16) hrl0).mono ?_
  rintro e w17 ⟨rfl, hb17⟩
  have b17 := step_below hb17 b16
  have B0_17 := B0_16.keep hb17
  have B1_17 := B1_16.keep hb17
  have R0x2_17 := R0x2_16.keep hb17
  have R1x2_17 := R1x2_16.keep hb17
  have R0x5_17 := R0x5_16.keep hb17
  have R1x5_17 := R1x5_16.keep hb17
  have R0x16_17 := R0x16_16.keep hb17
  have R1x16_17 := R1x16_16.keep hb17
  have v2_17 := own_keep v2_16 hb17
  have k14_17 := own_keep k14_16 hb17
  have t17 := step_below hb17 t16
  have HG120_ := hide (show w17.heap[rg1_16]? = some (.cells (da r1) 32 (0, 0)) from R1x16_17)
  have HG121_ := hide (show w17.heap[rg1_2]? = some (.cells (da r1) 32 (0, 0)) from R1x2_17)
  go_wp2_with (first | (with_reducible refine wpList_load_rowG (by kernel_rfl) 32 (.tmp 21) rfl (rg1_16) rfl 32 (da r1) (0, 0) _ HG120_.out Try.underlying32 rfl (by rw [da_size]; exact info32) ?_) | (with_reducible refine wpList_load_rowG (by kernel_rfl) 32 (.tmp 11) rfl (rg1_2) rfl 32 (da r1) (0, 0) _ HG121_.out Try.underlying32 rfl (by rw [da_size]; exact info32) ?_))
  clear HG120_ HG121_
  refine (eqDrum_any r1 _).mono ?_
  rintro e w18 ⟨rfl, hb18⟩
  have b18 := step_below hb18 b17
  have B0_18 := B0_17.keep hb18
  have B1_18 := B1_17.keep hb18
  have R0x2_18 := R0x2_17.keep hb18
  have R1x2_18 := R1x2_17.keep hb18
  have R0x5_18 := R0x5_17.keep hb18
  have R1x5_18 := R1x5_17.keep hb18
  have R0x16_18 := R0x16_17.keep hb18
  have R1x16_18 := R1x16_17.keep hb18
  have v2_18 := own_keep v2_17 hb18
  have k14_18 := own_keep k14_17 hb18
  have t18 := step_below hb18 t17
  have pf130_ := R0x5_18.cell (i := 0) rfl
  have qf130_ := R0x5_18.cell (i := 1) rfl
  go_wp2_with fail
  clear pf130_ qf130_
  refine (heldFrame_from rs0 _ _ r0.length (1) _ (mkH_of_own k14_18) hrl0 ⟨by omega, by omega⟩).mono ?_
  rintro e w19 ⟨rfl, hb19⟩
  have b19 := step_below hb19 b18
  have B0_19 := B0_18.keep hb19
  have B1_19 := B1_18.keep hb19
  have R0x2_19 := R0x2_18.keep hb19
  have R1x2_19 := R1x2_18.keep hb19
  have R0x5_19 := R0x5_18.keep hb19
  have R1x5_19 := R1x5_18.keep hb19
  have R0x16_19 := R0x16_18.keep hb19
  have R1x16_19 := R1x16_18.keep hb19
  have v2_19 := own_keep v2_18 hb19
  have k14_19 := own_keep k14_18 hb19
  have t19 := step_below hb19 t18
  go_wp2
  go_ret
  exact ⟨rfl, b19⟩
theorem lawSwapTracks_any (s0 : Int) (A0 : Option Addr) (c0 : Nat) (l0 : List (Int × Int)) (d1 : Nat → Int) (x2 : Int) (x3 : Int) (w : World) (hA0 : HA w A0 l0) (hwf0 : HWF l0) (hs0 : -32768 ≤ s0 ∧ s0 ≤ 32767) (hd1 : DWF d1) (hm0 : l0.length ≤ maxLen) (_hx2 : -9223372036854775808 ≤ x2 ∧ x2 ≤ 9223372036854775807) (_hx3 : -9223372036854775808 ≤ x3 ∧ x3 ≤ 9223372036854775807) :
    Calls Try.prog 3 #[.agg #[.int .i16 s0, .slice A0 l0.length c0], .agg (da d1), .int .i64 x2, .int .i64 x3] w (Says true w) := by
  rcases Nat.lt_or_ge 1048576 (l0.length) with h0 | h0
  · exact lawSwapTracks_big0 s0 A0 c0 l0 d1 x2 x3 w  h0 hm0
  exact lawSwapTracks_small s0 A0 c0 l0 d1 x2 x3 w hA0 hwf0 hs0 hd1 h0 hm0 
end Go.Proofs.Ytehcghaficbhiaa
