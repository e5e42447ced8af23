import Derived.Test.YtncdgjaadlpncaaDoorLwf
import Derived.Test.YtncdgjaadlpncaaDoorAlo
import Derived.Deep.RegionHeld3
import Derived.Deep.CutRange
namespace Go.Proofs.YtncdgjaadlpncaaDoor
open Go.RowKit

set_option maxRecDepth 20000 in
set_option maxHeartbeats 1000000 in
theorem lawApplyMoves_big0 (s0 : Int) (A0 : Option Addr) (c0 : Nat) (l0 : List (Int × Int)) (d1 : Nat → Int) (A2 : Option Addr) (n2 c2 : Nat) (zs2 : List Int) (A3 : Option Addr) (n3 c3 : Nat) (zs3 : List Int) (w : World)  (hbg : 1048576 < l0.length) (hm0 : l0.length ≤ maxLen) (hm2 : n2 ≤ maxLen) (hm3 : n3 ≤ maxLen) :
    Calls Tryd.prog 3 #[.agg #[.int .i16 s0, .slice A0 l0.length c0], .agg (da d1), .slice A2 n2 c2, .slice A3 n3 c3] w (Says true w) := by
  obtain ⟨X0, hX0⟩ : ∃ X, X = ((w.alloc (.cells #[.int .i16 s0, .slice A0 l0.length c0] 25)).alloc (.cells (da d1) 27)) := ⟨_, rfl⟩
  have b0 : Below w.heap.size w X0 := by rw [hX0]; exact (((Below.refl _ _).alloc (Nat.le_refl _) _).alloc (by simp) _)
  have B0_0 : Bk X0 (w.heap.size) 25 #[.int .i16 s0, .slice A0 l0.length c0] := by rw [hX0]; exact Bk.new _ _ _ rfl |>.old _
  have bw0 : w.heap.size < X0.heap.size := B0_0.lt
  have B1_0 : Bk X0 (w.heap.size + 1) 27 (da d1) := by rw [hX0]; exact Bk.new _ _ _ (by simp)
  have bw1 : w.heap.size + 1 < X0.heap.size := B1_0.lt
  go_enter Tryd.func3, Tryd.ntmps3
  go_upto_region 1 with fail
  rw [← hX0]
  clear hX0
  have pf17_ := B0_0.cell (i := 0) rfl
  have qf17_ := B0_0.cell (i := 1) rfl
  go_wp2_with fail
  clear pf17_ qf17_
  refine (szFrame_at_big s0 A0 l0.length c0 (1048576) (by omega) (by omega) hm0 (by omega) _).mono ?_
  rintro e w1 ⟨rfl, hb1⟩
  have b1 := step_below hb1 b0
  go_wp2
  go_ret
  exact ⟨rfl, b1⟩
set_option maxRecDepth 20000 in
set_option maxHeartbeats 1000000 in
theorem lawApplyMoves_big1 (s0 : Int) (A0 : Option Addr) (c0 : Nat) (l0 : List (Int × Int)) (d1 : Nat → Int) (A2 : Option Addr) (n2 c2 : Nat) (zs2 : List Int) (A3 : Option Addr) (n3 c3 : Nat) (zs3 : List Int) (w : World) (hc0 : l0.length ≤ 1048576) (hbg : 1048576 < l0.length + n2) (hm0 : l0.length ≤ maxLen) (hm2 : n2 ≤ maxLen) (hm3 : n3 ≤ maxLen) :
    Calls Tryd.prog 3 #[.agg #[.int .i16 s0, .slice A0 l0.length c0], .agg (da d1), .slice A2 n2 c2, .slice A3 n3 c3] w (Says true w) := by
  obtain ⟨X0, hX0⟩ : ∃ X, X = ((w.alloc (.cells #[.int .i16 s0, .slice A0 l0.length c0] 25)).alloc (.cells (da d1) 27)) := ⟨_, rfl⟩
  have b0 : Below w.heap.size w X0 := by rw [hX0]; exact (((Below.refl _ _).alloc (Nat.le_refl _) _).alloc (by simp) _)
  have B0_0 : Bk X0 (w.heap.size) 25 #[.int .i16 s0, .slice A0 l0.length c0] := by rw [hX0]; exact Bk.new _ _ _ rfl |>.old _
  have bw0 : w.heap.size < X0.heap.size := B0_0.lt
  have B1_0 : Bk X0 (w.heap.size + 1) 27 (da d1) := by rw [hX0]; exact Bk.new _ _ _ (by simp)
  have bw1 : w.heap.size + 1 < X0.heap.size := B1_0.lt
  go_enter Tryd.func3, Tryd.ntmps3
  go_upto_region 1 with fail
  rw [← hX0]
  clear hX0
  have pf17_ := B0_0.cell (i := 0) rfl
  have qf17_ := B0_0.cell (i := 1) rfl
  go_wp2_with fail
  clear pf17_ qf17_
  refine (szFrame_at_small s0 A0 l0.length c0 (1048576) (by omega) (by omega) hm0 (by omega) _).mono ?_
  rintro e w1 ⟨rfl, hb1⟩
  have b1 := step_below hb1 b0
  have B0_1 := B0_0.keep hb1
  have B1_1 := B1_0.keep hb1
  go_wp2_with fail
  refine (szInt64A2S_big A2 n2 c2 (1048576 - (l0.length : Int)) (by omega) (by omega) hm2 (by omega) _).mono ?_
  rintro e w2 ⟨rfl, rfl⟩
  go_wp2
  go_ret
  exact ⟨rfl, b1⟩
set_option maxRecDepth 20000 in
set_option maxHeartbeats 1000000 in
theorem lawApplyMoves_big2 (s0 : Int) (A0 : Option Addr) (c0 : Nat) (l0 : List (Int × Int)) (d1 : Nat → Int) (A2 : Option Addr) (n2 c2 : Nat) (zs2 : List Int) (A3 : Option Addr) (n3 c3 : Nat) (zs3 : List Int) (w : World) (hc0 : l0.length ≤ 1048576) (hc1 : l0.length + n2 ≤ 1048576) (hbg : 1048576 < l0.length + n2 + n3) (hm0 : l0.length ≤ maxLen) (hm2 : n2 ≤ maxLen) (hm3 : n3 ≤ maxLen) :
    Calls Tryd.prog 3 #[.agg #[.int .i16 s0, .slice A0 l0.length c0], .agg (da d1), .slice A2 n2 c2, .slice A3 n3 c3] w (Says true w) := by
  obtain ⟨X0, hX0⟩ : ∃ X, X = ((w.alloc (.cells #[.int .i16 s0, .slice A0 l0.length c0] 25)).alloc (.cells (da d1) 27)) := ⟨_, rfl⟩
  have b0 : Below w.heap.size w X0 := by rw [hX0]; exact (((Below.refl _ _).alloc (Nat.le_refl _) _).alloc (by simp) _)
  have B0_0 : Bk X0 (w.heap.size) 25 #[.int .i16 s0, .slice A0 l0.length c0] := by rw [hX0]; exact Bk.new _ _ _ rfl |>.old _
  have bw0 : w.heap.size < X0.heap.size := B0_0.lt
  have B1_0 : Bk X0 (w.heap.size + 1) 27 (da d1) := by rw [hX0]; exact Bk.new _ _ _ (by simp)
  have bw1 : w.heap.size + 1 < X0.heap.size := B1_0.lt
  go_enter Tryd.func3, Tryd.ntmps3
  go_upto_region 1 with fail
  rw [← hX0]
  clear hX0
  have pf17_ := B0_0.cell (i := 0) rfl
  have qf17_ := B0_0.cell (i := 1) rfl
  go_wp2_with fail
  clear pf17_ qf17_
  refine (szFrame_at_small s0 A0 l0.length c0 (1048576) (by omega) (by omega) hm0 (by omega) _).mono ?_
  rintro e w1 ⟨rfl, hb1⟩
  have b1 := step_below hb1 b0
  have B0_1 := B0_0.keep hb1
  have B1_1 := B1_0.keep hb1
  go_wp2_with fail
  refine (szInt64A2S_small A2 n2 c2 (1048576 - (l0.length : Int)) (by omega) (by omega) hm2 (by omega) _).mono ?_
  rintro e w2' ⟨rfl, rfl⟩
  go_wp2_with fail
  refine (szInt64A2S_big A3 n3 c3 (1048576 - (l0.length : Int) - (n2 : Int)) (by omega) (by omega) hm3 (by omega) _).mono ?_
  rintro e w2 ⟨rfl, rfl⟩
  go_wp2
  go_ret
  exact ⟨rfl, b1⟩
set_option maxRecDepth 20000 in
set_option maxHeartbeats 4000000 in
theorem lawApplyMoves_small (s0 : Int) (A0 : Option Addr) (c0 : Nat) (l0 : List (Int × Int)) (d1 : Nat → Int) (A2 : Option Addr) (n2 c2 : Nat) (zs2 : List Int) (A3 : Option Addr) (n3 c3 : Nat) (zs3 : List Int) (w : World) (hA0 : HA w A0 l0) (hwf0 : HWF l0) (hs0 : -32768 ≤ s0 ∧ s0 ≤ 32767) (hd1 : DWF d1) (hA2 : SO w A2 n2 zs2) (hz2 : zs2.length = n2 * 2) (hA3 : SO w A3 n3 zs3) (hz3 : zs3.length = n3 * 2) (hE : ErrW w) (hc0 : l0.length ≤ 1048576) (hc1 : l0.length + n2 ≤ 1048576) (hc2 : l0.length + n2 + n3 ≤ 1048576) (hm0 : l0.length ≤ maxLen) (hm2 : n2 ≤ maxLen) (hm3 : n3 ≤ maxLen) :
    Calls Tryd.prog 3 #[.agg #[.int .i16 s0, .slice A0 l0.length c0], .agg (da d1), .slice A2 n2 c2, .slice A3 n3 c3] w (Says true w) := by
  have hn0 : l0.length ≤ 1048576 := by omega
  have hn2 : n2 ≤ 1048576 := by omega
  have hn3 : n3 ≤ 1048576 := by omega
  obtain ⟨r0, hr0⟩ : ∃ r : Nat → Int, r = (amX s0 l0 d1 zs2 n2 zs3 n3).1 := ⟨_, rfl⟩
  obtain ⟨r1, hr1⟩ : ∃ r : Int, r = (amX s0 l0 d1 zs2 n2 zs3 n3).2 := ⟨_, rfl⟩
  have KS : ∀ (E0 : Option Addr) (E2 : Option Addr) (E3 : Option Addr) (W : World), HA W E0 l0 → SA W W.heap.size E2 n2 zs2 → SA W W.heap.size E3 n3 zs3 → ErrW W → Calls Tryd.prog 8 #[.agg #[.int .i16 s0, .slice E0 l0.length l0.length], .agg (da d1), .slice E2 n2 n2, .slice E3 n3 n3] W (fun e w' => e = .returned (.tuple #[.agg (da r0), .int .i64 r1]) ∧ Below W.heap.size W w') := fun E0 E2 E3 W h0 h2 h3 hE' => by rw [hr0, hr1]; exact specApplyMoves_any s0 E0 l0.length l0 d1 E2 n2 n2 zs2 E3 n3 n3 zs3 W h0 hn0 hwf0 hs0 hd1 h2 hn2 h3 hn3
  have KI : ∀ (E0 : Option Addr) (E2 : Option Addr) (E3 : Option Addr) (W : World), HA W E0 l0 → SA W W.heap.size E2 n2 zs2 → SA W W.heap.size E3 n3 zs3 → ErrW W → Calls Tryd.prog 12 #[.agg #[.int .i16 s0, .slice E0 l0.length l0.length], .agg (da d1), .slice E2 n2 n2, .slice E3 n3 n3] W (fun e w' => e = .returned (.tuple #[.agg (da r0), .int .i64 r1]) ∧ Below W.heap.size W w') := fun E0 E2 E3 W h0 h2 h3 hE' => by rw [hr0, hr1]; exact implApplyMoves_e s0 E0 l0.length l0 d1 E2 n2 n2 zs2 E3 n3 n3 zs3 W h0 hn0 hwf0 hs0 hd1 h2 hn2 h3 hn3 hE'
  clear hr0 hr1
  obtain ⟨X0, hX0⟩ : ∃ X, X = ((w.alloc (.cells #[.int .i16 s0, .slice A0 l0.length c0] 25)).alloc (.cells (da d1) 27)) := ⟨_, rfl⟩
  have b0 : Below w.heap.size w X0 := by rw [hX0]; exact (((Below.refl _ _).alloc (Nat.le_refl _) _).alloc (by simp) _)
  have B0_0 : Bk X0 (w.heap.size) 25 #[.int .i16 s0, .slice A0 l0.length c0] := by rw [hX0]; exact Bk.new _ _ _ rfl |>.old _
  have bw0 : w.heap.size < X0.heap.size := B0_0.lt
  have B1_0 : Bk X0 (w.heap.size + 1) 27 (da d1) := by rw [hX0]; exact Bk.new _ _ _ (by simp)
  have bw1 : w.heap.size + 1 < X0.heap.size := B1_0.lt
  go_enter Tryd.func3, Tryd.ntmps3
  go_upto_region 1 with fail
  rw [← hX0]
  clear hX0
  have pf17_ := B0_0.cell (i := 0) rfl
  have qf17_ := B0_0.cell (i := 1) rfl
  go_wp2_with fail
  clear pf17_ qf17_
  refine (szFrame_at_small s0 A0 l0.length c0 (1048576) (by omega) (by omega) hm0 (by omega) _).mono ?_
  rintro e w1 ⟨rfl, hb1⟩
  have b1 := step_below hb1 b0
  have B0_1 := B0_0.keep hb1
  have B1_1 := B1_0.keep hb1
  go_wp2_with fail
  refine (szInt64A2S_small A2 n2 c2 (1048576 - (l0.length : Int)) (by omega) (by omega) hm2 (by omega) _).mono ?_
  rintro e w2' ⟨rfl, rfl⟩
  go_wp2_with fail
  refine (szInt64A2S_small A3 n3 c3 (1048576 - (l0.length : Int) - (n2 : Int)) (by omega) (by omega) hm3 (by omega) _).mono ?_
  rintro e w2' ⟨rfl, rfl⟩
  go_upto_region 11 with fail
  go_cut [10, 11] from 32 to 43 (fun a b wx => ∃ (g : Nat) (W : World), a = .pointer (some ⟨g, 0, none⟩) ∧ b = .int .i64 r1 ∧ W = wx ∧ Dr W g 31 r0 ∧ w1.heap.size ≤ g ∧ Below w1.heap.size w1 W)
  case first =>
    have hz := zeroDrum
    have hza : za.size = (da r0).size := by rw [da_size]; rfl
    have hb2 : Below w1.heap.size w1 w1.drew := (Below.refl _ _).drew
    have tb1 : Below w1.heap.size w1 w1 := Below.refl _ _
    have b2 := step_below hb2 b1
    have B0_2 := B0_1.keep hb2
    have B1_2 := B1_1.keep hb2
    have tb2 := step_below hb2 tb1
    refine wp_region_held_drew (S := fun w' => w'.cell? ⟨w.heap.size, 0, none⟩ = some (.int .i16 s0) ∧ w'.cell? ⟨w.heap.size, 1, none⟩ = some (.slice A0 l0.length c0) ∧ w'.rangeAt (w.heap.size + 1) 0 (dv d1)) (by kernel_rfl) ⟨(B0_2.cell (i := 0) rfl), (B0_2.cell (i := 1) rfl), (show Dr w1.drew (w.heap.size + 1) 27 d1 from B1_2).range⟩ fun hS2 => ?_
    refine wpAnyH_take (i := 0) (v := .agg #[.int .i16 s0, .slice A0 l0.length c0]) rfl (by kernel_rfl) (by kernel_rfl) (by kernel_rfl) (fun _ _ _ h => h) (Or.inl ⟨by rfl, fun w' h => ?_⟩) hS2 ?_
    · have c0 := h.1
      have c1 := h.2.1
      clear h
      go_simp
    simp only [Act.put, List.setIfInBounds_toArray, List.set_cons_zero, List.set_cons_succ]
    refine wpAnyH_take (i := 2) rfl (by kernel_rfl) (by kernel_rfl) (by kernel_rfl) (fun _ _ _ h => h) (yieldsIf_load_mid (by rfl) _ _ rfl (w.heap.size + 1) 0 rfl (dv d1) _ (fun _ h => h.2.2) Tryd.underlying27 rfl (infoLt d1)) hS2 ?_
    simp only [Act.put, List.setIfInBounds_toArray, List.set_cons_zero, List.set_cons_succ]
    refine wpAnyH_take (i := 4) (v := .slice A2 n2 c2) rfl (by kernel_rfl) (by kernel_rfl) (by kernel_rfl) (fun _ _ _ h => h) (Or.inl ⟨by rfl, fun w' _ => by go_simp⟩) hS2 ?_
    change wpAnyH _ _ _ _ _ _ _ (Act.put _ (some 37) _) _
    simp only [Act.put, List.setIfInBounds_toArray, List.set_cons_zero, List.set_cons_succ]
    refine wpAnyH_take (i := 6) (v := .slice A3 n3 c3) rfl (by kernel_rfl) (by kernel_rfl) (by kernel_rfl) (fun _ _ _ h => h) (Or.inl ⟨by rfl, fun w' _ => by go_simp⟩) hS2 ?_
    change wpAnyH _ _ _ _ _ _ _ (Act.put _ (some 39) _) _
    simp only [Act.put, List.setIfInBounds_toArray, List.set_cons_zero, List.set_cons_succ]
    refine wpAnyH_ready (rs := [1, 12]) (by kernel_rfl) (by simp) (AllReadyH.cons rfl ?_ (AllReadyH.cons rfl ?_ AllReadyH.nil))
    · intro K hK
      rw [if_pos (by rfl)]
      go_simp
      refine (toFrame_any s0 A0 c0 l0 _ (hA0.below b2) hn0).mono ?_
      rintro e w3 ⟨g3, rfl, hg3, own3, hb3⟩
      have b3 := step_below hb3 b2
      have B0_3 := B0_2.keep hb3
      have B1_3 := B1_2.keep hb3
      have gl3 : g3 < w3.heap.size := (own3.lt g3 rfl).2
      have q3_3 := own3
      have tb3 := tb2.trans (hb3.mono tb2.size)
      refine hK.out _ _ ⟨(B0_3.cell (i := 0) rfl), (B0_3.cell (i := 1) rfl), (show Dr w3 (w.heap.size + 1) 27 d1 from B1_3).range⟩ (fun hS3 => ?_)
      clear hK K
      refine wpAnyH_ready (rs := [3, 12]) (by kernel_rfl) (by simp) (AllReadyH.cons rfl ?_ (AllReadyH.cons rfl ?_ AllReadyH.nil))
      · intro K hK
        rw [if_pos (by rfl)]
        go_simp
        refine (toDrum_any d1 _).mono ?_
        rintro e w4 ⟨rfl, hb4⟩
        have b4 := step_below hb4 b3
        have B0_4 := B0_3.keep hb4
        have B1_4 := B1_3.keep hb4
        have q3_4 := own_keep q3_3 hb4
        have tb4 := tb3.trans (hb4.mono tb3.size)
        refine hK.out _ _ ⟨(B0_4.cell (i := 0) rfl), (B0_4.cell (i := 1) rfl), (show Dr w4 (w.heap.size + 1) 27 d1 from B1_4).range⟩ (fun hS4 => ?_)
        clear hK K
        refine wpAnyH_ready (rs := [5, 12]) (by kernel_rfl) (by simp) (AllReadyH.cons rfl ?_ (AllReadyH.cons rfl ?_ AllReadyH.nil))
        · intro K hK
          rw [if_pos (by rfl)]
          go_simp
          refine (toInt64A2S_ex A2 n2 c2 zs2 _ (hA2.below b4) hz2 hn2).mono ?_
          rintro e w5 ⟨g5, rfl, hg5, own5, hb5⟩
          have b5 := step_below hb5 b4
          have B0_5 := B0_4.keep hb5
          have B1_5 := B1_4.keep hb5
          have q3_5 := own_keep q3_4 hb5
          have gl5 : g5 < w5.heap.size := (own5.lt g5 rfl).2
          have q5_5 := own5
          have tb5 := tb4.trans (hb5.mono tb4.size)
          refine hK.out _ _ ⟨(B0_5.cell (i := 0) rfl), (B0_5.cell (i := 1) rfl), (show Dr w5 (w.heap.size + 1) 27 d1 from B1_5).range⟩ (fun hS5 => ?_)
          clear hK K
          refine wpAnyH_ready (rs := [7, 12]) (by kernel_rfl) (by simp) (AllReadyH.cons rfl ?_ (AllReadyH.cons rfl ?_ AllReadyH.nil))
          · intro K hK
            rw [if_pos (by rfl)]
            go_simp
            refine (toInt64A2S_ex A3 n3 c3 zs3 _ (hA3.below b5) hz3 hn3).mono ?_
            rintro e w6 ⟨g6, rfl, hg6, own6, hb6⟩
            have b6 := step_below hb6 b5
            have B0_6 := B0_5.keep hb6
            have B1_6 := B1_5.keep hb6
            have q3_6 := own_keep q3_5 hb6
            have q5_6 := own_keep q5_5 hb6
            have gl6 : g6 < w6.heap.size := (own6.lt g6 rfl).2
            have q6_6 := own6
            have tb6 := tb5.trans (hb6.mono tb5.size)
            refine hK.out _ _ ⟨(B0_6.cell (i := 0) rfl), (B0_6.cell (i := 1) rfl), (show Dr w6 (w.heap.size + 1) 27 d1 from B1_6).range⟩ (fun hS6 => ?_)
            clear hK K
            refine wpAnyH_ready (rs := [8, 12]) (by kernel_rfl) (by simp) (AllReadyH.cons rfl ?_ (AllReadyH.cons rfl ?_ AllReadyH.nil))
            · intro K hK
              rw [if_pos (by rfl)]
              go_simp
              refine (KS _ _ _ _ (HA.of_own q3_6) (SA.of_own hz2 q5_6) (SA.of_own hz3 q6_6) (hE.keep b6)).mono ?_
              rintro e w7 ⟨rfl, hb7⟩
              have b7 := step_below hb7 b6
              have B0_7 := B0_6.keep hb7
              have B1_7 := B1_6.keep hb7
              have t7 : Below w7.heap.size w7 w7 := Below.refl _ _
              have tb7 := tb6.trans (hb7.mono tb6.size)
              refine hK.out _ _ ⟨(B0_7.cell (i := 0) rfl), (B0_7.cell (i := 1) rfl), (show Dr w7 (w.heap.size + 1) 27 d1 from B1_7).range⟩ (fun hS7 => ?_)
              clear hK K
              refine wpAnyH_take (i := 9) (v := .tuple #[.agg (da r0), .int .i64 r1]) rfl (by kernel_rfl) (by kernel_rfl) (by kernel_rfl) (fun _ _ _ h => h) (Or.inl ⟨by rfl, fun w' _ => by go_simp⟩) hS7 ?_
              change wpAnyH _ _ _ _ _ _ _ (Act.put _ (some 32) _) _
              simp only [Act.put, List.setIfInBounds_toArray, List.set_cons_zero, List.set_cons_succ]
              refine wpAnyH_take (i := 10) (v := .agg (da r0)) rfl (by kernel_rfl) (by kernel_rfl) (by kernel_rfl) (fun _ _ _ h => h) (Or.inl ⟨by rfl, fun w' _ => by go_simp⟩) hS7 ?_
              change wpAnyH _ _ _ _ _ _ _ (Act.put _ (some 42) _) _
              simp only [Act.put, List.setIfInBounds_toArray, List.set_cons_zero, List.set_cons_succ]
              refine wpAnyH_take (i := 11) (v := .int .i64 r1) rfl (by kernel_rfl) (by kernel_rfl) (by kernel_rfl) (fun _ _ _ h => h) (Or.inl ⟨by rfl, fun w' _ => by go_simp⟩) hS7 ?_
              change wpAnyH _ _ _ _ _ _ _ (Act.put _ (some 43) _) _
              simp only [Act.put, List.setIfInBounds_toArray, List.set_cons_zero, List.set_cons_succ]
              refine wpAnyH_ready (rs := [12]) (by kernel_rfl) (by simp) (AllReadyH.cons rfl ?_ AllReadyH.nil)
              obtain ⟨w8, hX8⟩ : ∃ X, X = w7.alloc (.cells za 31) := ⟨_, rfl⟩
              have hb8 : Below w7.heap.size w7 w8 := by rw [hX8]; exact (Below.refl _ _).alloc (Nat.le_refl _) _
              have za8 : Dr w8 w7.heap.size 31 (fun _ => 0) := by rw [hX8, za_eq]; exact heap_new' _ _ _ rfl
              have ge8 : w1.heap.size ≤ w7.heap.size := tb7.size
              intro K hK
              rw [if_pos (by rfl)]
              go_simp
              rw [← hX8]
              clear hX8
              have b8 := step_below hb8 b7
              have B0_8 := B0_7.keep hb8
              have B1_8 := B1_7.keep hb8
              have t8 := step_below hb8 t7
              have tb8 := tb7.trans (hb8.mono tb7.size)
              refine hK.out _ _ ⟨(B0_8.cell (i := 0) rfl), (B0_8.cell (i := 1) rfl), (show Dr w8 (w.heap.size + 1) 27 d1 from B1_8).range⟩ (fun hS8 => ?_)
              clear hK K
              refine wpAnyH_ready (rs := [13]) (by kernel_rfl) (by simp) (AllReadyH.cons rfl ?_ AllReadyH.nil)
              intro K hK
              rw [if_pos (by rfl)]
              refine wp_store_row 31 (.tmp 10) (.tmp 42) rfl (w7.heap.size) (da r0) rfl rfl 31 _ za8 (by rw [da_size]; exact info31) (by simp only [da_size]) (da_one _) ?_
              have hb9 : Below w1.heap.size w8 (w8.setRow (w7.heap.size) (da r0)) := below_setRow (Below.refl _ _) ge8
              have DD : Dr (w8.setRow (w7.heap.size) (da r0)) (w7.heap.size) 31 r0 := setRow_heap _ _ _ _ _ _ za8
              have B0_9 : Bk (w8.setRow (w7.heap.size) (da r0)) (w.heap.size) 25 #[.int .i16 s0, .slice A0 l0.length c0] := (setRow_other _ _ _ _ (by have e1 := B0_1.lt; have e2 := ge8; omega)).trans B0_8
              have B1_9 : Bk (w8.setRow (w7.heap.size) (da r0)) (w.heap.size + 1) 27 (da d1) := (setRow_other _ _ _ _ (by have e1 := B1_1.lt; have e2 := ge8; omega)).trans B1_8
              have tb9 := tb8.trans hb9
              refine hK.out _ _ ⟨(B0_9.cell (i := 0) rfl), (B0_9.cell (i := 1) rfl), (show Dr (w8.setRow (w7.heap.size) (da r0)) (w.heap.size + 1) 27 d1 from B1_9).range⟩ (fun hS9 => ?_)
              clear hK K
              refine wpAnyH_take (i := 14) (v := .int .i64 r1) rfl (by kernel_rfl) (by kernel_rfl) (by kernel_rfl) (fun _ _ _ h => h) (Or.inl ⟨by rfl, fun w' _ => by go_simp⟩) hS9 ?_
              change wpAnyH _ _ _ _ _ _ _ (Act.put _ (some 11) _) _
              simp only [Act.put, List.setIfInBounds_toArray, List.set_cons_zero, List.set_cons_succ]
              refine wpAnyH_done (by kernel_rfl) ?_ _
              go_wp2_with fail
              go_meet
              exact ⟨_, _, rfl, rfl, rfl, DD, ge8, tb9⟩
            · obtain ⟨w7, hX7⟩ : ∃ X, X = w6.alloc (.cells za 31) := ⟨_, rfl⟩
              have hb7 : Below w6.heap.size w6 w7 := by rw [hX7]; exact (Below.refl _ _).alloc (Nat.le_refl _) _
              have za7 : Dr w7 w6.heap.size 31 (fun _ => 0) := by rw [hX7, za_eq]; exact heap_new' _ _ _ rfl
              have ge7 : w1.heap.size ≤ w6.heap.size := tb6.size
              intro K hK
              rw [if_pos (by rfl)]
              go_simp
              rw [← hX7]
              clear hX7
              have b7 := step_below hb7 b6
              have B0_7 := B0_6.keep hb7
              have B1_7 := B1_6.keep hb7
              have q3_7 := own_keep q3_6 hb7
              have q5_7 := own_keep q5_6 hb7
              have q6_7 := own_keep q6_6 hb7
              have tb7 := tb6.trans (hb7.mono tb6.size)
              refine hK.out _ _ ⟨(B0_7.cell (i := 0) rfl), (B0_7.cell (i := 1) rfl), (show Dr w7 (w.heap.size + 1) 27 d1 from B1_7).range⟩ (fun hS7 => ?_)
              clear hK K
              refine wpAnyH_ready (rs := [8]) (by kernel_rfl) (by simp) (AllReadyH.cons rfl ?_ AllReadyH.nil)
              intro K hK
              rw [if_pos (by rfl)]
              go_simp
              refine (KS _ _ _ _ (HA.of_own q3_7) (SA.of_own hz2 q5_7) (SA.of_own hz3 q6_7) (hE.keep b7)).mono ?_
              rintro e w8 ⟨rfl, hb8⟩
              have b8 := step_below hb8 b7
              have B0_8 := B0_7.keep hb8
              have B1_8 := B1_7.keep hb8
              have t8 : Below w8.heap.size w8 w8 := Below.refl _ _
              have tb8 := tb7.trans (hb8.mono tb7.size)
              have za8 := za7.keep hb8
              refine hK.out _ _ ⟨(B0_8.cell (i := 0) rfl), (B0_8.cell (i := 1) rfl), (show Dr w8 (w.heap.size + 1) 27 d1 from B1_8).range⟩ (fun hS8 => ?_)
              clear hK K
              refine wpAnyH_take (i := 9) (v := .tuple #[.agg (da r0), .int .i64 r1]) rfl (by kernel_rfl) (by kernel_rfl) (by kernel_rfl) (fun _ _ _ h => h) (Or.inl ⟨by rfl, fun w' _ => by go_simp⟩) hS8 ?_
              change wpAnyH _ _ _ _ _ _ _ (Act.put _ (some 32) _) _
              simp only [Act.put, List.setIfInBounds_toArray, List.set_cons_zero, List.set_cons_succ]
              refine wpAnyH_take (i := 10) (v := .agg (da r0)) rfl (by kernel_rfl) (by kernel_rfl) (by kernel_rfl) (fun _ _ _ h => h) (Or.inl ⟨by rfl, fun w' _ => by go_simp⟩) hS8 ?_
              change wpAnyH _ _ _ _ _ _ _ (Act.put _ (some 42) _) _
              simp only [Act.put, List.setIfInBounds_toArray, List.set_cons_zero, List.set_cons_succ]
              refine wpAnyH_take (i := 11) (v := .int .i64 r1) rfl (by kernel_rfl) (by kernel_rfl) (by kernel_rfl) (fun _ _ _ h => h) (Or.inl ⟨by rfl, fun w' _ => by go_simp⟩) hS8 ?_
              change wpAnyH _ _ _ _ _ _ _ (Act.put _ (some 43) _) _
              simp only [Act.put, List.setIfInBounds_toArray, List.set_cons_zero, List.set_cons_succ]
              refine wpAnyH_ready (rs := [13]) (by kernel_rfl) (by simp) (AllReadyH.cons rfl ?_ AllReadyH.nil)
              intro K hK
              rw [if_pos (by rfl)]
              refine wp_store_row 31 (.tmp 10) (.tmp 42) rfl (w6.heap.size) (da r0) rfl rfl 31 _ za8 (by rw [da_size]; exact info31) (by simp only [da_size]) (da_one _) ?_
              have hb9 : Below w1.heap.size w8 (w8.setRow (w6.heap.size) (da r0)) := below_setRow (Below.refl _ _) ge7
              have DD : Dr (w8.setRow (w6.heap.size) (da r0)) (w6.heap.size) 31 r0 := setRow_heap _ _ _ _ _ _ za8
              have B0_9 : Bk (w8.setRow (w6.heap.size) (da r0)) (w.heap.size) 25 #[.int .i16 s0, .slice A0 l0.length c0] := (setRow_other _ _ _ _ (by have e1 := B0_1.lt; have e2 := ge7; omega)).trans B0_8
              have B1_9 : Bk (w8.setRow (w6.heap.size) (da r0)) (w.heap.size + 1) 27 (da d1) := (setRow_other _ _ _ _ (by have e1 := B1_1.lt; have e2 := ge7; omega)).trans B1_8
              have tb9 := tb8.trans hb9
              refine hK.out _ _ ⟨(B0_9.cell (i := 0) rfl), (B0_9.cell (i := 1) rfl), (show Dr (w8.setRow (w6.heap.size) (da r0)) (w.heap.size + 1) 27 d1 from B1_9).range⟩ (fun hS9 => ?_)
              clear hK K
              refine wpAnyH_take (i := 14) (v := .int .i64 r1) rfl (by kernel_rfl) (by kernel_rfl) (by kernel_rfl) (fun _ _ _ h => h) (Or.inl ⟨by rfl, fun w' _ => by go_simp⟩) hS9 ?_
              change wpAnyH _ _ _ _ _ _ _ (Act.put _ (some 11) _) _
              simp only [Act.put, List.setIfInBounds_toArray, List.set_cons_zero, List.set_cons_succ]
              refine wpAnyH_done (by kernel_rfl) ?_ _
              go_wp2_with fail
              go_meet
              exact ⟨_, _, rfl, rfl, rfl, DD, ge7, tb9⟩
          · obtain ⟨w6, hX6⟩ : ∃ X, X = w5.alloc (.cells za 31) := ⟨_, rfl⟩
            have hb6 : Below w5.heap.size w5 w6 := by rw [hX6]; exact (Below.refl _ _).alloc (Nat.le_refl _) _
            have za6 : Dr w6 w5.heap.size 31 (fun _ => 0) := by rw [hX6, za_eq]; exact heap_new' _ _ _ rfl
            have ge6 : w1.heap.size ≤ w5.heap.size := tb5.size
            intro K hK
            rw [if_pos (by rfl)]
            go_simp
            rw [← hX6]
            clear hX6
            have b6 := step_below hb6 b5
            have B0_6 := B0_5.keep hb6
            have B1_6 := B1_5.keep hb6
            have q3_6 := own_keep q3_5 hb6
            have q5_6 := own_keep q5_5 hb6
            have tb6 := tb5.trans (hb6.mono tb5.size)
            refine hK.out _ _ ⟨(B0_6.cell (i := 0) rfl), (B0_6.cell (i := 1) rfl), (show Dr w6 (w.heap.size + 1) 27 d1 from B1_6).range⟩ (fun hS6 => ?_)
            clear hK K
            refine wpAnyH_ready (rs := [7]) (by kernel_rfl) (by simp) (AllReadyH.cons rfl ?_ AllReadyH.nil)
            intro K hK
            rw [if_pos (by rfl)]
            go_simp
            refine (toInt64A2S_ex A3 n3 c3 zs3 _ (hA3.below b6) hz3 hn3).mono ?_
            rintro e w7 ⟨g7, rfl, hg7, own7, hb7⟩
            have b7 := step_below hb7 b6
            have B0_7 := B0_6.keep hb7
            have B1_7 := B1_6.keep hb7
            have q3_7 := own_keep q3_6 hb7
            have q5_7 := own_keep q5_6 hb7
            have gl7 : g7 < w7.heap.size := (own7.lt g7 rfl).2
            have q7_7 := own7
            have tb7 := tb6.trans (hb7.mono tb6.size)
            have za7 := za6.keep hb7
            refine hK.out _ _ ⟨(B0_7.cell (i := 0) rfl), (B0_7.cell (i := 1) rfl), (show Dr w7 (w.heap.size + 1) 27 d1 from B1_7).range⟩ (fun hS7 => ?_)
            clear hK K
            refine wpAnyH_ready (rs := [8]) (by kernel_rfl) (by simp) (AllReadyH.cons rfl ?_ AllReadyH.nil)
            intro K hK
            rw [if_pos (by rfl)]
            go_simp
            refine (KS _ _ _ _ (HA.of_own q3_7) (SA.of_own hz2 q5_7) (SA.of_own hz3 q7_7) (hE.keep b7)).mono ?_
            rintro e w8 ⟨rfl, hb8⟩
            have b8 := step_below hb8 b7
            have B0_8 := B0_7.keep hb8
            have B1_8 := B1_7.keep hb8
            have t8 : Below w8.heap.size w8 w8 := Below.refl _ _
            have tb8 := tb7.trans (hb8.mono tb7.size)
            have za8 := za7.keep hb8
            refine hK.out _ _ ⟨(B0_8.cell (i := 0) rfl), (B0_8.cell (i := 1) rfl), (show Dr w8 (w.heap.size + 1) 27 d1 from B1_8).range⟩ (fun hS8 => ?_)
            clear hK K
            refine wpAnyH_take (i := 9) (v := .tuple #[.agg (da r0), .int .i64 r1]) rfl (by kernel_rfl) (by kernel_rfl) (by kernel_rfl) (fun _ _ _ h => h) (Or.inl ⟨by rfl, fun w' _ => by go_simp⟩) hS8 ?_
            change wpAnyH _ _ _ _ _ _ _ (Act.put _ (some 32) _) _
            simp only [Act.put, List.setIfInBounds_toArray, List.set_cons_zero, List.set_cons_succ]
            refine wpAnyH_take (i := 10) (v := .agg (da r0)) rfl (by kernel_rfl) (by kernel_rfl) (by kernel_rfl) (fun _ _ _ h => h) (Or.inl ⟨by rfl, fun w' _ => by go_simp⟩) hS8 ?_
            change wpAnyH _ _ _ _ _ _ _ (Act.put _ (some 42) _) _
            simp only [Act.put, List.setIfInBounds_toArray, List.set_cons_zero, List.set_cons_succ]
            refine wpAnyH_take (i := 11) (v := .int .i64 r1) rfl (by kernel_rfl) (by kernel_rfl) (by kernel_rfl) (fun _ _ _ h => h) (Or.inl ⟨by rfl, fun w' _ => by go_simp⟩) hS8 ?_
            change wpAnyH _ _ _ _ _ _ _ (Act.put _ (some 43) _) _
            simp only [Act.put, List.setIfInBounds_toArray, List.set_cons_zero, List.set_cons_succ]
            refine wpAnyH_ready (rs := [13]) (by kernel_rfl) (by simp) (AllReadyH.cons rfl ?_ AllReadyH.nil)
            intro K hK
            rw [if_pos (by rfl)]
            refine wp_store_row 31 (.tmp 10) (.tmp 42) rfl (w5.heap.size) (da r0) rfl rfl 31 _ za8 (by rw [da_size]; exact info31) (by simp only [da_size]) (da_one _) ?_
            have hb9 : Below w1.heap.size w8 (w8.setRow (w5.heap.size) (da r0)) := below_setRow (Below.refl _ _) ge6
            have DD : Dr (w8.setRow (w5.heap.size) (da r0)) (w5.heap.size) 31 r0 := setRow_heap _ _ _ _ _ _ za8
            have B0_9 : Bk (w8.setRow (w5.heap.size) (da r0)) (w.heap.size) 25 #[.int .i16 s0, .slice A0 l0.length c0] := (setRow_other _ _ _ _ (by have e1 := B0_1.lt; have e2 := ge6; omega)).trans B0_8
            have B1_9 : Bk (w8.setRow (w5.heap.size) (da r0)) (w.heap.size + 1) 27 (da d1) := (setRow_other _ _ _ _ (by have e1 := B1_1.lt; have e2 := ge6; omega)).trans B1_8
            have tb9 := tb8.trans hb9
            refine hK.out _ _ ⟨(B0_9.cell (i := 0) rfl), (B0_9.cell (i := 1) rfl), (show Dr (w8.setRow (w5.heap.size) (da r0)) (w.heap.size + 1) 27 d1 from B1_9).range⟩ (fun hS9 => ?_)
            clear hK K
            refine wpAnyH_take (i := 14) (v := .int .i64 r1) rfl (by kernel_rfl) (by kernel_rfl) (by kernel_rfl) (fun _ _ _ h => h) (Or.inl ⟨by rfl, fun w' _ => by go_simp⟩) hS9 ?_
            change wpAnyH _ _ _ _ _ _ _ (Act.put _ (some 11) _) _
            simp only [Act.put, List.setIfInBounds_toArray, List.set_cons_zero, List.set_cons_succ]
            refine wpAnyH_done (by kernel_rfl) ?_ _
            go_wp2_with fail
            go_meet
            exact ⟨_, _, rfl, rfl, rfl, DD, ge6, tb9⟩
        · obtain ⟨w5, hX5⟩ : ∃ X, X = w4.alloc (.cells za 31) := ⟨_, rfl⟩
          have hb5 : Below w4.heap.size w4 w5 := by rw [hX5]; exact (Below.refl _ _).alloc (Nat.le_refl _) _
          have za5 : Dr w5 w4.heap.size 31 (fun _ => 0) := by rw [hX5, za_eq]; exact heap_new' _ _ _ rfl
          have ge5 : w1.heap.size ≤ w4.heap.size := tb4.size
          intro K hK
          rw [if_pos (by rfl)]
          go_simp
          rw [← hX5]
          clear hX5
          have b5 := step_below hb5 b4
          have B0_5 := B0_4.keep hb5
          have B1_5 := B1_4.keep hb5
          have q3_5 := own_keep q3_4 hb5
          have tb5 := tb4.trans (hb5.mono tb4.size)
          refine hK.out _ _ ⟨(B0_5.cell (i := 0) rfl), (B0_5.cell (i := 1) rfl), (show Dr w5 (w.heap.size + 1) 27 d1 from B1_5).range⟩ (fun hS5 => ?_)
          clear hK K
          refine wpAnyH_ready (rs := [5]) (by kernel_rfl) (by simp) (AllReadyH.cons rfl ?_ AllReadyH.nil)
          intro K hK
          rw [if_pos (by rfl)]
          go_simp
          refine (toInt64A2S_ex A2 n2 c2 zs2 _ (hA2.below b5) hz2 hn2).mono ?_
          rintro e w6 ⟨g6, rfl, hg6, own6, hb6⟩
          have b6 := step_below hb6 b5
          have B0_6 := B0_5.keep hb6
          have B1_6 := B1_5.keep hb6
          have q3_6 := own_keep q3_5 hb6
          have gl6 : g6 < w6.heap.size := (own6.lt g6 rfl).2
          have q6_6 := own6
          have tb6 := tb5.trans (hb6.mono tb5.size)
          have za6 := za5.keep hb6
          refine hK.out _ _ ⟨(B0_6.cell (i := 0) rfl), (B0_6.cell (i := 1) rfl), (show Dr w6 (w.heap.size + 1) 27 d1 from B1_6).range⟩ (fun hS6 => ?_)
          clear hK K
          refine wpAnyH_ready (rs := [7]) (by kernel_rfl) (by simp) (AllReadyH.cons rfl ?_ AllReadyH.nil)
          intro K hK
          rw [if_pos (by rfl)]
          go_simp
          refine (toInt64A2S_ex A3 n3 c3 zs3 _ (hA3.below b6) hz3 hn3).mono ?_
          rintro e w7 ⟨g7, rfl, hg7, own7, hb7⟩
          have b7 := step_below hb7 b6
          have B0_7 := B0_6.keep hb7
          have B1_7 := B1_6.keep hb7
          have q3_7 := own_keep q3_6 hb7
          have q6_7 := own_keep q6_6 hb7
          have gl7 : g7 < w7.heap.size := (own7.lt g7 rfl).2
          have q7_7 := own7
          have tb7 := tb6.trans (hb7.mono tb6.size)
          have za7 := za6.keep hb7
          refine hK.out _ _ ⟨(B0_7.cell (i := 0) rfl), (B0_7.cell (i := 1) rfl), (show Dr w7 (w.heap.size + 1) 27 d1 from B1_7).range⟩ (fun hS7 => ?_)
          clear hK K
          refine wpAnyH_ready (rs := [8]) (by kernel_rfl) (by simp) (AllReadyH.cons rfl ?_ AllReadyH.nil)
          intro K hK
          rw [if_pos (by rfl)]
          go_simp
          refine (KS _ _ _ _ (HA.of_own q3_7) (SA.of_own hz2 q6_7) (SA.of_own hz3 q7_7) (hE.keep b7)).mono ?_
          rintro e w8 ⟨rfl, hb8⟩
          have b8 := step_below hb8 b7
          have B0_8 := B0_7.keep hb8
          have B1_8 := B1_7.keep hb8
          have t8 : Below w8.heap.size w8 w8 := Below.refl _ _
          have tb8 := tb7.trans (hb8.mono tb7.size)
          have za8 := za7.keep hb8
          refine hK.out _ _ ⟨(B0_8.cell (i := 0) rfl), (B0_8.cell (i := 1) rfl), (show Dr w8 (w.heap.size + 1) 27 d1 from B1_8).range⟩ (fun hS8 => ?_)
          clear hK K
          refine wpAnyH_take (i := 9) (v := .tuple #[.agg (da r0), .int .i64 r1]) rfl (by kernel_rfl) (by kernel_rfl) (by kernel_rfl) (fun _ _ _ h => h) (Or.inl ⟨by rfl, fun w' _ => by go_simp⟩) hS8 ?_
          change wpAnyH _ _ _ _ _ _ _ (Act.put _ (some 32) _) _
          simp only [Act.put, List.setIfInBounds_toArray, List.set_cons_zero, List.set_cons_succ]
          refine wpAnyH_take (i := 10) (v := .agg (da r0)) rfl (by kernel_rfl) (by kernel_rfl) (by kernel_rfl) (fun _ _ _ h => h) (Or.inl ⟨by rfl, fun w' _ => by go_simp⟩) hS8 ?_
          change wpAnyH _ _ _ _ _ _ _ (Act.put _ (some 42) _) _
          simp only [Act.put, List.setIfInBounds_toArray, List.set_cons_zero, List.set_cons_succ]
          refine wpAnyH_take (i := 11) (v := .int .i64 r1) rfl (by kernel_rfl) (by kernel_rfl) (by kernel_rfl) (fun _ _ _ h => h) (Or.inl ⟨by rfl, fun w' _ => by go_simp⟩) hS8 ?_
          change wpAnyH _ _ _ _ _ _ _ (Act.put _ (some 43) _) _
          simp only [Act.put, List.setIfInBounds_toArray, List.set_cons_zero, List.set_cons_succ]
          refine wpAnyH_ready (rs := [13]) (by kernel_rfl) (by simp) (AllReadyH.cons rfl ?_ AllReadyH.nil)
          intro K hK
          rw [if_pos (by rfl)]
          refine wp_store_row 31 (.tmp 10) (.tmp 42) rfl (w4.heap.size) (da r0) rfl rfl 31 _ za8 (by rw [da_size]; exact info31) (by simp only [da_size]) (da_one _) ?_
          have hb9 : Below w1.heap.size w8 (w8.setRow (w4.heap.size) (da r0)) := below_setRow (Below.refl _ _) ge5
          have DD : Dr (w8.setRow (w4.heap.size) (da r0)) (w4.heap.size) 31 r0 := setRow_heap _ _ _ _ _ _ za8
          have B0_9 : Bk (w8.setRow (w4.heap.size) (da r0)) (w.heap.size) 25 #[.int .i16 s0, .slice A0 l0.length c0] := (setRow_other _ _ _ _ (by have e1 := B0_1.lt; have e2 := ge5; omega)).trans B0_8
          have B1_9 : Bk (w8.setRow (w4.heap.size) (da r0)) (w.heap.size + 1) 27 (da d1) := (setRow_other _ _ _ _ (by have e1 := B1_1.lt; have e2 := ge5; omega)).trans B1_8
          have tb9 := tb8.trans hb9
          refine hK.out _ _ ⟨(B0_9.cell (i := 0) rfl), (B0_9.cell (i := 1) rfl), (show Dr (w8.setRow (w4.heap.size) (da r0)) (w.heap.size + 1) 27 d1 from B1_9).range⟩ (fun hS9 => ?_)
          clear hK K
          refine wpAnyH_take (i := 14) (v := .int .i64 r1) rfl (by kernel_rfl) (by kernel_rfl) (by kernel_rfl) (fun _ _ _ h => h) (Or.inl ⟨by rfl, fun w' _ => by go_simp⟩) hS9 ?_
          change wpAnyH _ _ _ _ _ _ _ (Act.put _ (some 11) _) _
          simp only [Act.put, List.setIfInBounds_toArray, List.set_cons_zero, List.set_cons_succ]
          refine wpAnyH_done (by kernel_rfl) ?_ _
          go_wp2_with fail
          go_meet
          exact ⟨_, _, rfl, rfl, rfl, DD, ge5, tb9⟩
      · obtain ⟨w4, hX4⟩ : ∃ X, X = w3.alloc (.cells za 31) := ⟨_, rfl⟩
        have hb4 : Below w3.heap.size w3 w4 := by rw [hX4]; exact (Below.refl _ _).alloc (Nat.le_refl _) _
        have za4 : Dr w4 w3.heap.size 31 (fun _ => 0) := by rw [hX4, za_eq]; exact heap_new' _ _ _ rfl
        have ge4 : w1.heap.size ≤ w3.heap.size := tb3.size
        intro K hK
        rw [if_pos (by rfl)]
        go_simp
        rw [← hX4]
        clear hX4
        have b4 := step_below hb4 b3
        have B0_4 := B0_3.keep hb4
        have B1_4 := B1_3.keep hb4
        have q3_4 := own_keep q3_3 hb4
        have tb4 := tb3.trans (hb4.mono tb3.size)
        refine hK.out _ _ ⟨(B0_4.cell (i := 0) rfl), (B0_4.cell (i := 1) rfl), (show Dr w4 (w.heap.size + 1) 27 d1 from B1_4).range⟩ (fun hS4 => ?_)
        clear hK K
        refine wpAnyH_ready (rs := [3]) (by kernel_rfl) (by simp) (AllReadyH.cons rfl ?_ AllReadyH.nil)
        intro K hK
        rw [if_pos (by rfl)]
        go_simp
        refine (toDrum_any d1 _).mono ?_
        rintro e w5 ⟨rfl, hb5⟩
        have b5 := step_below hb5 b4
        have B0_5 := B0_4.keep hb5
        have B1_5 := B1_4.keep hb5
        have q3_5 := own_keep q3_4 hb5
        have tb5 := tb4.trans (hb5.mono tb4.size)
        have za5 := za4.keep hb5
        refine hK.out _ _ ⟨(B0_5.cell (i := 0) rfl), (B0_5.cell (i := 1) rfl), (show Dr w5 (w.heap.size + 1) 27 d1 from B1_5).range⟩ (fun hS5 => ?_)
        clear hK K
        refine wpAnyH_ready (rs := [5]) (by kernel_rfl) (by simp) (AllReadyH.cons rfl ?_ AllReadyH.nil)
        intro K hK
        rw [if_pos (by rfl)]
        go_simp
        refine (toInt64A2S_ex A2 n2 c2 zs2 _ (hA2.below b5) hz2 hn2).mono ?_
        rintro e w6 ⟨g6, rfl, hg6, own6, hb6⟩
        have b6 := step_below hb6 b5
        have B0_6 := B0_5.keep hb6
        have B1_6 := B1_5.keep hb6
        have q3_6 := own_keep q3_5 hb6
        have gl6 : g6 < w6.heap.size := (own6.lt g6 rfl).2
        have q6_6 := own6
        have tb6 := tb5.trans (hb6.mono tb5.size)
        have za6 := za5.keep hb6
        refine hK.out _ _ ⟨(B0_6.cell (i := 0) rfl), (B0_6.cell (i := 1) rfl), (show Dr w6 (w.heap.size + 1) 27 d1 from B1_6).range⟩ (fun hS6 => ?_)
        clear hK K
        refine wpAnyH_ready (rs := [7]) (by kernel_rfl) (by simp) (AllReadyH.cons rfl ?_ AllReadyH.nil)
        intro K hK
        rw [if_pos (by rfl)]
        go_simp
        refine (toInt64A2S_ex A3 n3 c3 zs3 _ (hA3.below b6) hz3 hn3).mono ?_
        rintro e w7 ⟨g7, rfl, hg7, own7, hb7⟩
        have b7 := step_below hb7 b6
        have B0_7 := B0_6.keep hb7
        have B1_7 := B1_6.keep hb7
        have q3_7 := own_keep q3_6 hb7
        have q6_7 := own_keep q6_6 hb7
        have gl7 : g7 < w7.heap.size := (own7.lt g7 rfl).2
        have q7_7 := own7
        have tb7 := tb6.trans (hb7.mono tb6.size)
        have za7 := za6.keep hb7
        refine hK.out _ _ ⟨(B0_7.cell (i := 0) rfl), (B0_7.cell (i := 1) rfl), (show Dr w7 (w.heap.size + 1) 27 d1 from B1_7).range⟩ (fun hS7 => ?_)
        clear hK K
        refine wpAnyH_ready (rs := [8]) (by kernel_rfl) (by simp) (AllReadyH.cons rfl ?_ AllReadyH.nil)
        intro K hK
        rw [if_pos (by rfl)]
        go_simp
        refine (KS _ _ _ _ (HA.of_own q3_7) (SA.of_own hz2 q6_7) (SA.of_own hz3 q7_7) (hE.keep b7)).mono ?_
        rintro e w8 ⟨rfl, hb8⟩
        have b8 := step_below hb8 b7
        have B0_8 := B0_7.keep hb8
        have B1_8 := B1_7.keep hb8
        have t8 : Below w8.heap.size w8 w8 := Below.refl _ _
        have tb8 := tb7.trans (hb8.mono tb7.size)
        have za8 := za7.keep hb8
        refine hK.out _ _ ⟨(B0_8.cell (i := 0) rfl), (B0_8.cell (i := 1) rfl), (show Dr w8 (w.heap.size + 1) 27 d1 from B1_8).range⟩ (fun hS8 => ?_)
        clear hK K
        refine wpAnyH_take (i := 9) (v := .tuple #[.agg (da r0), .int .i64 r1]) rfl (by kernel_rfl) (by kernel_rfl) (by kernel_rfl) (fun _ _ _ h => h) (Or.inl ⟨by rfl, fun w' _ => by go_simp⟩) hS8 ?_
        change wpAnyH _ _ _ _ _ _ _ (Act.put _ (some 32) _) _
        simp only [Act.put, List.setIfInBounds_toArray, List.set_cons_zero, List.set_cons_succ]
        refine wpAnyH_take (i := 10) (v := .agg (da r0)) rfl (by kernel_rfl) (by kernel_rfl) (by kernel_rfl) (fun _ _ _ h => h) (Or.inl ⟨by rfl, fun w' _ => by go_simp⟩) hS8 ?_
        change wpAnyH _ _ _ _ _ _ _ (Act.put _ (some 42) _) _
        simp only [Act.put, List.setIfInBounds_toArray, List.set_cons_zero, List.set_cons_succ]
        refine wpAnyH_take (i := 11) (v := .int .i64 r1) rfl (by kernel_rfl) (by kernel_rfl) (by kernel_rfl) (fun _ _ _ h => h) (Or.inl ⟨by rfl, fun w' _ => by go_simp⟩) hS8 ?_
        change wpAnyH _ _ _ _ _ _ _ (Act.put _ (some 43) _) _
        simp only [Act.put, List.setIfInBounds_toArray, List.set_cons_zero, List.set_cons_succ]
        refine wpAnyH_ready (rs := [13]) (by kernel_rfl) (by simp) (AllReadyH.cons rfl ?_ AllReadyH.nil)
        intro K hK
        rw [if_pos (by rfl)]
        refine wp_store_row 31 (.tmp 10) (.tmp 42) rfl (w3.heap.size) (da r0) rfl rfl 31 _ za8 (by rw [da_size]; exact info31) (by simp only [da_size]) (da_one _) ?_
        have hb9 : Below w1.heap.size w8 (w8.setRow (w3.heap.size) (da r0)) := below_setRow (Below.refl _ _) ge4
        have DD : Dr (w8.setRow (w3.heap.size) (da r0)) (w3.heap.size) 31 r0 := setRow_heap _ _ _ _ _ _ za8
        have B0_9 : Bk (w8.setRow (w3.heap.size) (da r0)) (w.heap.size) 25 #[.int .i16 s0, .slice A0 l0.length c0] := (setRow_other _ _ _ _ (by have e1 := B0_1.lt; have e2 := ge4; omega)).trans B0_8
        have B1_9 : Bk (w8.setRow (w3.heap.size) (da r0)) (w.heap.size + 1) 27 (da d1) := (setRow_other _ _ _ _ (by have e1 := B1_1.lt; have e2 := ge4; omega)).trans B1_8
        have tb9 := tb8.trans hb9
        refine hK.out _ _ ⟨(B0_9.cell (i := 0) rfl), (B0_9.cell (i := 1) rfl), (show Dr (w8.setRow (w3.heap.size) (da r0)) (w.heap.size + 1) 27 d1 from B1_9).range⟩ (fun hS9 => ?_)
        clear hK K
        refine wpAnyH_take (i := 14) (v := .int .i64 r1) rfl (by kernel_rfl) (by kernel_rfl) (by kernel_rfl) (fun _ _ _ h => h) (Or.inl ⟨by rfl, fun w' _ => by go_simp⟩) hS9 ?_
        change wpAnyH _ _ _ _ _ _ _ (Act.put _ (some 11) _) _
        simp only [Act.put, List.setIfInBounds_toArray, List.set_cons_zero, List.set_cons_succ]
        refine wpAnyH_done (by kernel_rfl) ?_ _
        go_wp2_with fail
        go_meet
        exact ⟨_, _, rfl, rfl, rfl, DD, ge4, tb9⟩
    · obtain ⟨w3, hX3⟩ : ∃ X, X = (w1.alloc (.cells za 31)).drew := ⟨_, rfl⟩
      have hb3 : Below w1.drew.heap.size w1.drew w3 := by rw [hX3]; exact (Below.refl _ _).alloc (Nat.le_refl _) _
      have za3 : Dr w3 w1.heap.size 31 (fun _ => 0) := by rw [hX3, za_eq]; exact heap_new' _ _ _ rfl
      have ge3 : w1.heap.size ≤ w1.heap.size := tb2.size
      intro K hK
      rw [if_pos (by rfl)]
      go_simp
      rw [← hX3]
      clear hX3
      have b3 := step_below hb3 b2
      have B0_3 := B0_2.keep hb3
      have B1_3 := B1_2.keep hb3
      have tb3 := tb2.trans (hb3.mono tb2.size)
      refine hK.out _ _ ⟨(B0_3.cell (i := 0) rfl), (B0_3.cell (i := 1) rfl), (show Dr w3 (w.heap.size + 1) 27 d1 from B1_3).range⟩ (fun hS3 => ?_)
      clear hK K
      refine wpAnyH_ready (rs := [1]) (by kernel_rfl) (by simp) (AllReadyH.cons rfl ?_ AllReadyH.nil)
      intro K hK
      rw [if_pos (by rfl)]
      go_simp
      refine (toFrame_any s0 A0 c0 l0 _ (hA0.below b3) hn0).mono ?_
      rintro e w4 ⟨g4, rfl, hg4, own4, hb4⟩
      have b4 := step_below hb4 b3
      have B0_4 := B0_3.keep hb4
      have B1_4 := B1_3.keep hb4
      have gl4 : g4 < w4.heap.size := (own4.lt g4 rfl).2
      have q4_4 := own4
      have tb4 := tb3.trans (hb4.mono tb3.size)
      have za4 := za3.keep hb4
      refine hK.out _ _ ⟨(B0_4.cell (i := 0) rfl), (B0_4.cell (i := 1) rfl), (show Dr w4 (w.heap.size + 1) 27 d1 from B1_4).range⟩ (fun hS4 => ?_)
      clear hK K
      refine wpAnyH_ready (rs := [3]) (by kernel_rfl) (by simp) (AllReadyH.cons rfl ?_ AllReadyH.nil)
      intro K hK
      rw [if_pos (by rfl)]
      go_simp
      refine (toDrum_any d1 _).mono ?_
      rintro e w5 ⟨rfl, hb5⟩
      have b5 := step_below hb5 b4
      have B0_5 := B0_4.keep hb5
      have B1_5 := B1_4.keep hb5
      have q4_5 := own_keep q4_4 hb5
      have tb5 := tb4.trans (hb5.mono tb4.size)
      have za5 := za4.keep hb5
      refine hK.out _ _ ⟨(B0_5.cell (i := 0) rfl), (B0_5.cell (i := 1) rfl), (show Dr w5 (w.heap.size + 1) 27 d1 from B1_5).range⟩ (fun hS5 => ?_)
      clear hK K
      refine wpAnyH_ready (rs := [5]) (by kernel_rfl) (by simp) (AllReadyH.cons rfl ?_ AllReadyH.nil)
      intro K hK
      rw [if_pos (by rfl)]
      go_simp
      refine (toInt64A2S_ex A2 n2 c2 zs2 _ (hA2.below b5) hz2 hn2).mono ?_
      rintro e w6 ⟨g6, rfl, hg6, own6, hb6⟩
      have b6 := step_below hb6 b5
      have B0_6 := B0_5.keep hb6
      have B1_6 := B1_5.keep hb6
      have q4_6 := own_keep q4_5 hb6
      have gl6 : g6 < w6.heap.size := (own6.lt g6 rfl).2
      have q6_6 := own6
      have tb6 := tb5.trans (hb6.mono tb5.size)
      have za6 := za5.keep hb6
      refine hK.out _ _ ⟨(B0_6.cell (i := 0) rfl), (B0_6.cell (i := 1) rfl), (show Dr w6 (w.heap.size + 1) 27 d1 from B1_6).range⟩ (fun hS6 => ?_)
      clear hK K
      refine wpAnyH_ready (rs := [7]) (by kernel_rfl) (by simp) (AllReadyH.cons rfl ?_ AllReadyH.nil)
      intro K hK
      rw [if_pos (by rfl)]
      go_simp
      refine (toInt64A2S_ex A3 n3 c3 zs3 _ (hA3.below b6) hz3 hn3).mono ?_
      rintro e w7 ⟨g7, rfl, hg7, own7, hb7⟩
      have b7 := step_below hb7 b6
      have B0_7 := B0_6.keep hb7
      have B1_7 := B1_6.keep hb7
      have q4_7 := own_keep q4_6 hb7
      have q6_7 := own_keep q6_6 hb7
      have gl7 : g7 < w7.heap.size := (own7.lt g7 rfl).2
      have q7_7 := own7
      have tb7 := tb6.trans (hb7.mono tb6.size)
      have za7 := za6.keep hb7
      refine hK.out _ _ ⟨(B0_7.cell (i := 0) rfl), (B0_7.cell (i := 1) rfl), (show Dr w7 (w.heap.size + 1) 27 d1 from B1_7).range⟩ (fun hS7 => ?_)
      clear hK K
      refine wpAnyH_ready (rs := [8]) (by kernel_rfl) (by simp) (AllReadyH.cons rfl ?_ AllReadyH.nil)
      intro K hK
      rw [if_pos (by rfl)]
      go_simp
      refine (KS _ _ _ _ (HA.of_own q4_7) (SA.of_own hz2 q6_7) (SA.of_own hz3 q7_7) (hE.keep b7)).mono ?_
      rintro e w8 ⟨rfl, hb8⟩
      have b8 := step_below hb8 b7
      have B0_8 := B0_7.keep hb8
      have B1_8 := B1_7.keep hb8
      have t8 : Below w8.heap.size w8 w8 := Below.refl _ _
      have tb8 := tb7.trans (hb8.mono tb7.size)
      have za8 := za7.keep hb8
      refine hK.out _ _ ⟨(B0_8.cell (i := 0) rfl), (B0_8.cell (i := 1) rfl), (show Dr w8 (w.heap.size + 1) 27 d1 from B1_8).range⟩ (fun hS8 => ?_)
      clear hK K
      refine wpAnyH_take (i := 9) (v := .tuple #[.agg (da r0), .int .i64 r1]) rfl (by kernel_rfl) (by kernel_rfl) (by kernel_rfl) (fun _ _ _ h => h) (Or.inl ⟨by rfl, fun w' _ => by go_simp⟩) hS8 ?_
      change wpAnyH _ _ _ _ _ _ _ (Act.put _ (some 32) _) _
      simp only [Act.put, List.setIfInBounds_toArray, List.set_cons_zero, List.set_cons_succ]
      refine wpAnyH_take (i := 10) (v := .agg (da r0)) rfl (by kernel_rfl) (by kernel_rfl) (by kernel_rfl) (fun _ _ _ h => h) (Or.inl ⟨by rfl, fun w' _ => by go_simp⟩) hS8 ?_
      change wpAnyH _ _ _ _ _ _ _ (Act.put _ (some 42) _) _
      simp only [Act.put, List.setIfInBounds_toArray, List.set_cons_zero, List.set_cons_succ]
      refine wpAnyH_take (i := 11) (v := .int .i64 r1) rfl (by kernel_rfl) (by kernel_rfl) (by kernel_rfl) (fun _ _ _ h => h) (Or.inl ⟨by rfl, fun w' _ => by go_simp⟩) hS8 ?_
      change wpAnyH _ _ _ _ _ _ _ (Act.put _ (some 43) _) _
      simp only [Act.put, List.setIfInBounds_toArray, List.set_cons_zero, List.set_cons_succ]
      refine wpAnyH_ready (rs := [13]) (by kernel_rfl) (by simp) (AllReadyH.cons rfl ?_ AllReadyH.nil)
      intro K hK
      rw [if_pos (by rfl)]
      refine wp_store_row 31 (.tmp 10) (.tmp 42) rfl (w1.heap.size) (da r0) rfl rfl 31 _ za8 (by rw [da_size]; exact info31) (by simp only [da_size]) (da_one _) ?_
      have hb9 : Below w1.heap.size w8 (w8.setRow (w1.heap.size) (da r0)) := below_setRow (Below.refl _ _) ge3
      have DD : Dr (w8.setRow (w1.heap.size) (da r0)) (w1.heap.size) 31 r0 := setRow_heap _ _ _ _ _ _ za8
      have B0_9 : Bk (w8.setRow (w1.heap.size) (da r0)) (w.heap.size) 25 #[.int .i16 s0, .slice A0 l0.length c0] := (setRow_other _ _ _ _ (by have e1 := B0_1.lt; have e2 := ge3; omega)).trans B0_8
      have B1_9 : Bk (w8.setRow (w1.heap.size) (da r0)) (w.heap.size + 1) 27 (da d1) := (setRow_other _ _ _ _ (by have e1 := B1_1.lt; have e2 := ge3; omega)).trans B1_8
      have tb9 := tb8.trans hb9
      refine hK.out _ _ ⟨(B0_9.cell (i := 0) rfl), (B0_9.cell (i := 1) rfl), (show Dr (w8.setRow (w1.heap.size) (da r0)) (w.heap.size + 1) 27 d1 from B1_9).range⟩ (fun hS9 => ?_)
      clear hK K
      refine wpAnyH_take (i := 14) (v := .int .i64 r1) rfl (by kernel_rfl) (by kernel_rfl) (by kernel_rfl) (fun _ _ _ h => h) (Or.inl ⟨by rfl, fun w' _ => by go_simp⟩) hS9 ?_
      change wpAnyH _ _ _ _ _ _ _ (Act.put _ (some 11) _) _
      simp only [Act.put, List.setIfInBounds_toArray, List.set_cons_zero, List.set_cons_succ]
      refine wpAnyH_done (by kernel_rfl) ?_ _
      go_wp2_with fail
      go_meet
      exact ⟨_, _, rfl, rfl, rfl, DD, ge3, tb9⟩
  obtain ⟨rg2, w2, rfl, rfl, rfl, K2, rge2, hb2⟩ := hcut
  have b2 := step_below hb2 b1
  have B0_2 := B0_1.keep hb2
  have B1_2 := B1_1.keep hb2
  have t2 : Below w2.heap.size w2 w2 := Below.refl _ _
  have R2_2 : Bk w2 rg2 31 (da r0) := K2
  have pf44_ := B0_2.cell (i := 0) rfl
  have qf44_ := B0_2.cell (i := 1) rfl
  go_wp2_with fail
  clear pf44_ qf44_
  refine (toFrame_any s0 A0 c0 l0 _ (hA0.below b2) hn0).mono ?_
  rintro e w3 ⟨g3, rfl, hg3, own3, hb3⟩
  have b3 := step_below hb3 b2
  have B0_3 := B0_2.keep hb3
  have B1_3 := B1_2.keep hb3
  have R2_3 := R2_2.keep hb3
  have t3 := step_below hb3 t2
  have gl3 : g3 < w3.heap.size := (own3.lt g3 rfl).2
  have q3_3 := own3
  go_upto_region 13 with fail
  obtain ⟨w4, hX4⟩ : ∃ X, X = w3.alloc (.cells #[.int .i16 s0, .slice (some ⟨g3, 0, none⟩) l0.length l0.length] 36) := ⟨_, rfl⟩
  have hb4 : Below w3.heap.size w3 w4 := by rw [hX4]; exact (Below.refl _ _).alloc (Nat.le_refl _) _
  have K4 : Bk w4 w3.heap.size 36 #[.int .i16 s0, .slice (some ⟨g3, 0, none⟩) l0.length l0.length] := by rw [hX4]; exact Bk.new _ _ _ rfl
  rw [← hX4]
  clear hX4
  have b4 := step_below hb4 b3
  have B0_4 := B0_3.keep hb4
  have B1_4 := B1_3.keep hb4
  have R2_4 := R2_3.keep hb4
  have q3_4 := own_keep q3_3 hb4
  have t4 := step_below hb4 t3
  have Y0_4 := K4
  have yw0 : w3.heap.size < w4.heap.size := K4.lt
  go_wp2_with fail
  refine (toInt64A2S_ex A2 n2 c2 zs2 _ (hA2.below b4) hz2 hn2).mono ?_
  rintro e w5 ⟨g5, rfl, hg5, own5, hb5⟩
  have b5 := step_below hb5 b4
  have B0_5 := B0_4.keep hb5
  have B1_5 := B1_4.keep hb5
  have R2_5 := R2_4.keep hb5
  have Y0_5 := Y0_4.keep hb5
  have q3_5 := own_keep q3_4 hb5
  have t5 := step_below hb5 t4
  have gl5 : g5 < w5.heap.size := (own5.lt g5 rfl).2
  have q5_5 := own5
  go_wp2_with fail
  refine (toInt64A2S_ex A3 n3 c3 zs3 _ (hA3.below b5) hz3 hn3).mono ?_
  rintro e w6 ⟨g6, rfl, hg6, own6, hb6⟩
  have b6 := step_below hb6 b5
  have B0_6 := B0_5.keep hb6
  have B1_6 := B1_5.keep hb6
  have R2_6 := R2_5.keep hb6
  have Y0_6 := Y0_5.keep hb6
  have q3_6 := own_keep q3_5 hb6
  have q5_6 := own_keep q5_5 hb6
  have t6 := step_below hb6 t5
  have gl6 : g6 < w6.heap.size := (own6.lt g6 rfl).2
  have q6_6 := own6
  go_upto_region 15 with fail
  go_cut [15, 16] from 50 to 58 (fun a b wx => ∃ (g : Nat) (W : World), a = .pointer (some ⟨g, 0, none⟩) ∧ b = .int .i64 r1 ∧ W = wx ∧ Dr W g 31 r0 ∧ w6.heap.size ≤ g ∧ Below w6.heap.size w6 W)
  case first =>
    have hz := zeroDrum
    have hza : za.size = (da r0).size := by rw [da_size]; rfl
    have hb7 : Below w6.heap.size w6 w6.drew := (Below.refl _ _).drew
    have tb6 : Below w6.heap.size w6 w6 := Below.refl _ _
    have b7 := step_below hb7 b6
    have B0_7 := B0_6.keep hb7
    have B1_7 := B1_6.keep hb7
    have R2_7 := R2_6.keep hb7
    have Y0_7 := Y0_6.keep hb7
    have q3_7 := own_keep q3_6 hb7
    have q5_7 := own_keep q5_6 hb7
    have q6_7 := own_keep q6_6 hb7
    have t7 := step_below hb7 t6
    have tb7 := step_below hb7 tb6
    refine wp_region_held_drew (S := fun w' => w'.rangeAt (w.heap.size + 1) 0 (dv d1) ∧ w'.cell? ⟨w3.heap.size, 0, none⟩ = some (.int .i16 s0) ∧ w'.cell? ⟨w3.heap.size, 1, none⟩ = some (.slice (some ⟨g3, 0, none⟩) l0.length l0.length)) (by kernel_rfl) ⟨(show Dr w6.drew (w.heap.size + 1) 27 d1 from B1_7).range, (Y0_7.cell (i := 0) rfl), (Y0_7.cell (i := 1) rfl)⟩ fun hS7 => ?_
    refine wpAnyH_take (i := 0) (v := .agg #[.int .i16 s0, .slice (some ⟨g3, 0, none⟩) l0.length l0.length]) rfl (by kernel_rfl) (by kernel_rfl) (by kernel_rfl) (fun _ _ _ h => h) (Or.inl ⟨by rfl, fun w' h => ?_⟩) hS7 ?_
    · have c0 := h.2.1
      have c1 := h.2.2
      clear h
      go_simp
    simp only [Act.put, List.setIfInBounds_toArray, List.set_cons_zero, List.set_cons_succ]
    refine wpAnyH_take (i := 1) rfl (by kernel_rfl) (by kernel_rfl) (by kernel_rfl) (fun _ _ _ h => h) (yieldsIf_load_mid (by rfl) _ _ rfl (w.heap.size + 1) 0 rfl (dv d1) _ (fun _ h => h.1) Tryd.underlying27 rfl (infoLt d1)) hS7 ?_
    simp only [Act.put, List.setIfInBounds_toArray, List.set_cons_zero, List.set_cons_succ]
    refine wpAnyH_take (i := 3) (v := .slice (some ⟨g5, 0, none⟩) n2 n2) rfl (by kernel_rfl) (by kernel_rfl) (by kernel_rfl) (fun _ _ _ h => h) (Or.inl ⟨by rfl, fun w' _ => by go_simp⟩) hS7 ?_
    change wpAnyH _ _ _ _ _ _ _ (Act.put _ (some 54) _) _
    simp only [Act.put, List.setIfInBounds_toArray, List.set_cons_zero, List.set_cons_succ]
    refine wpAnyH_take (i := 4) (v := .slice (some ⟨g6, 0, none⟩) n3 n3) rfl (by kernel_rfl) (by kernel_rfl) (by kernel_rfl) (fun _ _ _ h => h) (Or.inl ⟨by rfl, fun w' _ => by go_simp⟩) hS7 ?_
    change wpAnyH _ _ _ _ _ _ _ (Act.put _ (some 55) _) _
    simp only [Act.put, List.setIfInBounds_toArray, List.set_cons_zero, List.set_cons_succ]
    refine wpAnyH_ready (rs := [2, 9]) (by kernel_rfl) (by simp) (AllReadyH.cons rfl ?_ (AllReadyH.cons rfl ?_ AllReadyH.nil))
    · intro K hK
      rw [if_pos (by rfl)]
      go_simp
      refine (toDrum_any d1 _).mono ?_
      rintro e w8 ⟨rfl, hb8⟩
      have b8 := step_below hb8 b7
      have B0_8 := B0_7.keep hb8
      have B1_8 := B1_7.keep hb8
      have R2_8 := R2_7.keep hb8
      have Y0_8 := Y0_7.keep hb8
      have q3_8 := own_keep q3_7 hb8
      have q5_8 := own_keep q5_7 hb8
      have q6_8 := own_keep q6_7 hb8
      have t8 := step_below hb8 t7
      have tb8 := tb7.trans (hb8.mono tb7.size)
      refine hK.out _ _ ⟨(show Dr w8 (w.heap.size + 1) 27 d1 from B1_8).range, (Y0_8.cell (i := 0) rfl), (Y0_8.cell (i := 1) rfl)⟩ (fun hS8 => ?_)
      clear hK K
      refine wpAnyH_ready (rs := [5, 9]) (by kernel_rfl) (by simp) (AllReadyH.cons rfl ?_ (AllReadyH.cons rfl ?_ AllReadyH.nil))
      · intro K hK
        rw [if_pos (by rfl)]
        go_simp
        refine (KI _ _ _ _ (HA.of_own q3_8) (SA.of_own hz2 q5_8) (SA.of_own hz3 q6_8) (hE.keep b8)).mono ?_
        rintro e w9 ⟨rfl, hb9⟩
        have b9 := step_below hb9 b8
        have B0_9 := B0_8.keep hb9
        have B1_9 := B1_8.keep hb9
        have R2_9 := R2_8.keep hb9
        have Y0_9 := Y0_8.keep hb9
        have q3_9 := own_keep q3_8 hb9
        have q5_9 := own_keep q5_8 hb9
        have q6_9 := own_keep q6_8 hb9
        have t9 := step_below hb9 t8
        have tb9 := tb8.trans (hb9.mono tb8.size)
        refine hK.out _ _ ⟨(show Dr w9 (w.heap.size + 1) 27 d1 from B1_9).range, (Y0_9.cell (i := 0) rfl), (Y0_9.cell (i := 1) rfl)⟩ (fun hS9 => ?_)
        clear hK K
        refine wpAnyH_take (i := 6) (v := .tuple #[.agg (da r0), .int .i64 r1]) rfl (by kernel_rfl) (by kernel_rfl) (by kernel_rfl) (fun _ _ _ h => h) (Or.inl ⟨by rfl, fun w' _ => by go_simp⟩) hS9 ?_
        change wpAnyH _ _ _ _ _ _ _ (Act.put _ (some 50) _) _
        simp only [Act.put, List.setIfInBounds_toArray, List.set_cons_zero, List.set_cons_succ]
        refine wpAnyH_take (i := 7) (v := .agg (da r0)) rfl (by kernel_rfl) (by kernel_rfl) (by kernel_rfl) (fun _ _ _ h => h) (Or.inl ⟨by rfl, fun w' _ => by go_simp⟩) hS9 ?_
        change wpAnyH _ _ _ _ _ _ _ (Act.put _ (some 57) _) _
        simp only [Act.put, List.setIfInBounds_toArray, List.set_cons_zero, List.set_cons_succ]
        refine wpAnyH_take (i := 8) (v := .int .i64 r1) rfl (by kernel_rfl) (by kernel_rfl) (by kernel_rfl) (fun _ _ _ h => h) (Or.inl ⟨by rfl, fun w' _ => by go_simp⟩) hS9 ?_
        change wpAnyH _ _ _ _ _ _ _ (Act.put _ (some 58) _) _
        simp only [Act.put, List.setIfInBounds_toArray, List.set_cons_zero, List.set_cons_succ]
        refine wpAnyH_ready (rs := [9]) (by kernel_rfl) (by simp) (AllReadyH.cons rfl ?_ AllReadyH.nil)
        obtain ⟨w10, hX10⟩ : ∃ X, X = w9.alloc (.cells za 31) := ⟨_, rfl⟩
        have hb10 : Below w9.heap.size w9 w10 := by rw [hX10]; exact (Below.refl _ _).alloc (Nat.le_refl _) _
        have za10 : Dr w10 w9.heap.size 31 (fun _ => 0) := by rw [hX10, za_eq]; exact heap_new' _ _ _ rfl
        have ge10 : w6.heap.size ≤ w9.heap.size := tb9.size
        intro K hK
        rw [if_pos (by rfl)]
        go_simp
        rw [← hX10]
        clear hX10
        have b10 := step_below hb10 b9
        have B0_10 := B0_9.keep hb10
        have B1_10 := B1_9.keep hb10
        have R2_10 := R2_9.keep hb10
        have Y0_10 := Y0_9.keep hb10
        have q3_10 := own_keep q3_9 hb10
        have q5_10 := own_keep q5_9 hb10
        have q6_10 := own_keep q6_9 hb10
        have t10 := step_below hb10 t9
        have tb10 := tb9.trans (hb10.mono tb9.size)
        refine hK.out _ _ ⟨(show Dr w10 (w.heap.size + 1) 27 d1 from B1_10).range, (Y0_10.cell (i := 0) rfl), (Y0_10.cell (i := 1) rfl)⟩ (fun hS10 => ?_)
        clear hK K
        refine wpAnyH_ready (rs := [10]) (by kernel_rfl) (by simp) (AllReadyH.cons rfl ?_ AllReadyH.nil)
        intro K hK
        rw [if_pos (by rfl)]
        refine wp_store_row 31 (.tmp 15) (.tmp 57) rfl (w9.heap.size) (da r0) rfl rfl 31 _ za10 (by rw [da_size]; exact info31) (by simp only [da_size]) (da_one _) ?_
        have hb11 : Below w6.heap.size w10 (w10.setRow (w9.heap.size) (da r0)) := below_setRow (Below.refl _ _) ge10
        have DD : Dr (w10.setRow (w9.heap.size) (da r0)) (w9.heap.size) 31 r0 := setRow_heap _ _ _ _ _ _ za10
        have B1_11 : Bk (w10.setRow (w9.heap.size) (da r0)) (w.heap.size + 1) 27 (da d1) := (setRow_other _ _ _ _ (by have e1 := B1_6.lt; have e2 := ge10; omega)).trans B1_10
        have Y0_11 : Bk (w10.setRow (w9.heap.size) (da r0)) (w3.heap.size) 36 #[.int .i16 s0, .slice (some ⟨g3, 0, none⟩) l0.length l0.length] := (setRow_other _ _ _ _ (by have e1 := Y0_6.lt; have e2 := ge10; omega)).trans Y0_10
        have tb11 := tb10.trans hb11
        refine hK.out _ _ ⟨(show Dr (w10.setRow (w9.heap.size) (da r0)) (w.heap.size + 1) 27 d1 from B1_11).range, (Y0_11.cell (i := 0) rfl), (Y0_11.cell (i := 1) rfl)⟩ (fun hS11 => ?_)
        clear hK K
        refine wpAnyH_take (i := 11) (v := .int .i64 r1) rfl (by kernel_rfl) (by kernel_rfl) (by kernel_rfl) (fun _ _ _ h => h) (Or.inl ⟨by rfl, fun w' _ => by go_simp⟩) hS11 ?_
        change wpAnyH _ _ _ _ _ _ _ (Act.put _ (some 16) _) _
        simp only [Act.put, List.setIfInBounds_toArray, List.set_cons_zero, List.set_cons_succ]
        refine wpAnyH_done (by kernel_rfl) ?_ _
        go_wp2_with fail
        go_meet
        exact ⟨_, _, rfl, rfl, rfl, DD, ge10, tb11⟩
      · obtain ⟨w9, hX9⟩ : ∃ X, X = w8.alloc (.cells za 31) := ⟨_, rfl⟩
        have hb9 : Below w8.heap.size w8 w9 := by rw [hX9]; exact (Below.refl _ _).alloc (Nat.le_refl _) _
        have za9 : Dr w9 w8.heap.size 31 (fun _ => 0) := by rw [hX9, za_eq]; exact heap_new' _ _ _ rfl
        have ge9 : w6.heap.size ≤ w8.heap.size := tb8.size
        intro K hK
        rw [if_pos (by rfl)]
        go_simp
        rw [← hX9]
        clear hX9
        have b9 := step_below hb9 b8
        have B0_9 := B0_8.keep hb9
        have B1_9 := B1_8.keep hb9
        have R2_9 := R2_8.keep hb9
        have Y0_9 := Y0_8.keep hb9
        have q3_9 := own_keep q3_8 hb9
        have q5_9 := own_keep q5_8 hb9
        have q6_9 := own_keep q6_8 hb9
        have t9 := step_below hb9 t8
        have tb9 := tb8.trans (hb9.mono tb8.size)
        refine hK.out _ _ ⟨(show Dr w9 (w.heap.size + 1) 27 d1 from B1_9).range, (Y0_9.cell (i := 0) rfl), (Y0_9.cell (i := 1) rfl)⟩ (fun hS9 => ?_)
        clear hK K
        refine wpAnyH_ready (rs := [5]) (by kernel_rfl) (by simp) (AllReadyH.cons rfl ?_ AllReadyH.nil)
        intro K hK
        rw [if_pos (by rfl)]
        go_simp
        refine (KI _ _ _ _ (HA.of_own q3_9) (SA.of_own hz2 q5_9) (SA.of_own hz3 q6_9) (hE.keep b9)).mono ?_
        rintro e w10 ⟨rfl, hb10⟩
        have b10 := step_below hb10 b9
        have B0_10 := B0_9.keep hb10
        have B1_10 := B1_9.keep hb10
        have R2_10 := R2_9.keep hb10
        have Y0_10 := Y0_9.keep hb10
        have q3_10 := own_keep q3_9 hb10
        have q5_10 := own_keep q5_9 hb10
        have q6_10 := own_keep q6_9 hb10
        have t10 := step_below hb10 t9
        have tb10 := tb9.trans (hb10.mono tb9.size)
        have za10 := za9.keep hb10
        refine hK.out _ _ ⟨(show Dr w10 (w.heap.size + 1) 27 d1 from B1_10).range, (Y0_10.cell (i := 0) rfl), (Y0_10.cell (i := 1) rfl)⟩ (fun hS10 => ?_)
        clear hK K
        refine wpAnyH_take (i := 6) (v := .tuple #[.agg (da r0), .int .i64 r1]) rfl (by kernel_rfl) (by kernel_rfl) (by kernel_rfl) (fun _ _ _ h => h) (Or.inl ⟨by rfl, fun w' _ => by go_simp⟩) hS10 ?_
        change wpAnyH _ _ _ _ _ _ _ (Act.put _ (some 50) _) _
        simp only [Act.put, List.setIfInBounds_toArray, List.set_cons_zero, List.set_cons_succ]
        refine wpAnyH_take (i := 7) (v := .agg (da r0)) rfl (by kernel_rfl) (by kernel_rfl) (by kernel_rfl) (fun _ _ _ h => h) (Or.inl ⟨by rfl, fun w' _ => by go_simp⟩) hS10 ?_
        change wpAnyH _ _ _ _ _ _ _ (Act.put _ (some 57) _) _
        simp only [Act.put, List.setIfInBounds_toArray, List.set_cons_zero, List.set_cons_succ]
        refine wpAnyH_take (i := 8) (v := .int .i64 r1) rfl (by kernel_rfl) (by kernel_rfl) (by kernel_rfl) (fun _ _ _ h => h) (Or.inl ⟨by rfl, fun w' _ => by go_simp⟩) hS10 ?_
        change wpAnyH _ _ _ _ _ _ _ (Act.put _ (some 58) _) _
        simp only [Act.put, List.setIfInBounds_toArray, List.set_cons_zero, List.set_cons_succ]
        refine wpAnyH_ready (rs := [10]) (by kernel_rfl) (by simp) (AllReadyH.cons rfl ?_ AllReadyH.nil)
        intro K hK
        rw [if_pos (by rfl)]
        refine wp_store_row 31 (.tmp 15) (.tmp 57) rfl (w8.heap.size) (da r0) rfl rfl 31 _ za10 (by rw [da_size]; exact info31) (by simp only [da_size]) (da_one _) ?_
        have hb11 : Below w6.heap.size w10 (w10.setRow (w8.heap.size) (da r0)) := below_setRow (Below.refl _ _) ge9
        have DD : Dr (w10.setRow (w8.heap.size) (da r0)) (w8.heap.size) 31 r0 := setRow_heap _ _ _ _ _ _ za10
        have B1_11 : Bk (w10.setRow (w8.heap.size) (da r0)) (w.heap.size + 1) 27 (da d1) := (setRow_other _ _ _ _ (by have e1 := B1_6.lt; have e2 := ge9; omega)).trans B1_10
        have Y0_11 : Bk (w10.setRow (w8.heap.size) (da r0)) (w3.heap.size) 36 #[.int .i16 s0, .slice (some ⟨g3, 0, none⟩) l0.length l0.length] := (setRow_other _ _ _ _ (by have e1 := Y0_6.lt; have e2 := ge9; omega)).trans Y0_10
        have tb11 := tb10.trans hb11
        refine hK.out _ _ ⟨(show Dr (w10.setRow (w8.heap.size) (da r0)) (w.heap.size + 1) 27 d1 from B1_11).range, (Y0_11.cell (i := 0) rfl), (Y0_11.cell (i := 1) rfl)⟩ (fun hS11 => ?_)
        clear hK K
        refine wpAnyH_take (i := 11) (v := .int .i64 r1) rfl (by kernel_rfl) (by kernel_rfl) (by kernel_rfl) (fun _ _ _ h => h) (Or.inl ⟨by rfl, fun w' _ => by go_simp⟩) hS11 ?_
        change wpAnyH _ _ _ _ _ _ _ (Act.put _ (some 16) _) _
        simp only [Act.put, List.setIfInBounds_toArray, List.set_cons_zero, List.set_cons_succ]
        refine wpAnyH_done (by kernel_rfl) ?_ _
        go_wp2_with fail
        go_meet
        exact ⟨_, _, rfl, rfl, rfl, DD, ge9, tb11⟩
    · obtain ⟨w8, hX8⟩ : ∃ X, X = (w6.alloc (.cells za 31)).drew := ⟨_, rfl⟩
      have hb8 : Below w6.drew.heap.size w6.drew w8 := by rw [hX8]; exact (Below.refl _ _).alloc (Nat.le_refl _) _
      have za8 : Dr w8 w6.heap.size 31 (fun _ => 0) := by rw [hX8, za_eq]; exact heap_new' _ _ _ rfl
      have ge8 : w6.heap.size ≤ w6.heap.size := tb7.size
      intro K hK
      rw [if_pos (by rfl)]
      go_simp
      rw [← hX8]
      clear hX8
      have b8 := step_below hb8 b7
      have B0_8 := B0_7.keep hb8
      have B1_8 := B1_7.keep hb8
      have R2_8 := R2_7.keep hb8
      have Y0_8 := Y0_7.keep hb8
      have q3_8 := own_keep q3_7 hb8
      have q5_8 := own_keep q5_7 hb8
      have q6_8 := own_keep q6_7 hb8
      have t8 := step_below hb8 t7
      have tb8 := tb7.trans (hb8.mono tb7.size)
      refine hK.out _ _ ⟨(show Dr w8 (w.heap.size + 1) 27 d1 from B1_8).range, (Y0_8.cell (i := 0) rfl), (Y0_8.cell (i := 1) rfl)⟩ (fun hS8 => ?_)
      clear hK K
      refine wpAnyH_ready (rs := [2]) (by kernel_rfl) (by simp) (AllReadyH.cons rfl ?_ AllReadyH.nil)
      intro K hK
      rw [if_pos (by rfl)]
      go_simp
      refine (toDrum_any d1 _).mono ?_
      rintro e w9 ⟨rfl, hb9⟩
      have b9 := step_below hb9 b8
      have B0_9 := B0_8.keep hb9
      have B1_9 := B1_8.keep hb9
      have R2_9 := R2_8.keep hb9
      have Y0_9 := Y0_8.keep hb9
      have q3_9 := own_keep q3_8 hb9
      have q5_9 := own_keep q5_8 hb9
      have q6_9 := own_keep q6_8 hb9
      have t9 := step_below hb9 t8
      have tb9 := tb8.trans (hb9.mono tb8.size)
      have za9 := za8.keep hb9
      refine hK.out _ _ ⟨(show Dr w9 (w.heap.size + 1) 27 d1 from B1_9).range, (Y0_9.cell (i := 0) rfl), (Y0_9.cell (i := 1) rfl)⟩ (fun hS9 => ?_)
      clear hK K
      refine wpAnyH_ready (rs := [5]) (by kernel_rfl) (by simp) (AllReadyH.cons rfl ?_ AllReadyH.nil)
      intro K hK
      rw [if_pos (by rfl)]
      go_simp
      refine (KI _ _ _ _ (HA.of_own q3_9) (SA.of_own hz2 q5_9) (SA.of_own hz3 q6_9) (hE.keep b9)).mono ?_
      rintro e w10 ⟨rfl, hb10⟩
      have b10 := step_below hb10 b9
      have B0_10 := B0_9.keep hb10
      have B1_10 := B1_9.keep hb10
      have R2_10 := R2_9.keep hb10
      have Y0_10 := Y0_9.keep hb10
      have q3_10 := own_keep q3_9 hb10
      have q5_10 := own_keep q5_9 hb10
      have q6_10 := own_keep q6_9 hb10
      have t10 := step_below hb10 t9
      have tb10 := tb9.trans (hb10.mono tb9.size)
      have za10 := za9.keep hb10
      refine hK.out _ _ ⟨(show Dr w10 (w.heap.size + 1) 27 d1 from B1_10).range, (Y0_10.cell (i := 0) rfl), (Y0_10.cell (i := 1) rfl)⟩ (fun hS10 => ?_)
      clear hK K
      refine wpAnyH_take (i := 6) (v := .tuple #[.agg (da r0), .int .i64 r1]) rfl (by kernel_rfl) (by kernel_rfl) (by kernel_rfl) (fun _ _ _ h => h) (Or.inl ⟨by rfl, fun w' _ => by go_simp⟩) hS10 ?_
      change wpAnyH _ _ _ _ _ _ _ (Act.put _ (some 50) _) _
      simp only [Act.put, List.setIfInBounds_toArray, List.set_cons_zero, List.set_cons_succ]
      refine wpAnyH_take (i := 7) (v := .agg (da r0)) rfl (by kernel_rfl) (by kernel_rfl) (by kernel_rfl) (fun _ _ _ h => h) (Or.inl ⟨by rfl, fun w' _ => by go_simp⟩) hS10 ?_
      change wpAnyH _ _ _ _ _ _ _ (Act.put _ (some 57) _) _
      simp only [Act.put, List.setIfInBounds_toArray, List.set_cons_zero, List.set_cons_succ]
      refine wpAnyH_take (i := 8) (v := .int .i64 r1) rfl (by kernel_rfl) (by kernel_rfl) (by kernel_rfl) (fun _ _ _ h => h) (Or.inl ⟨by rfl, fun w' _ => by go_simp⟩) hS10 ?_
      change wpAnyH _ _ _ _ _ _ _ (Act.put _ (some 58) _) _
      simp only [Act.put, List.setIfInBounds_toArray, List.set_cons_zero, List.set_cons_succ]
      refine wpAnyH_ready (rs := [10]) (by kernel_rfl) (by simp) (AllReadyH.cons rfl ?_ AllReadyH.nil)
      intro K hK
      rw [if_pos (by rfl)]
      refine wp_store_row 31 (.tmp 15) (.tmp 57) rfl (w6.heap.size) (da r0) rfl rfl 31 _ za10 (by rw [da_size]; exact info31) (by simp only [da_size]) (da_one _) ?_
      have hb11 : Below w6.heap.size w10 (w10.setRow (w6.heap.size) (da r0)) := below_setRow (Below.refl _ _) ge8
      have DD : Dr (w10.setRow (w6.heap.size) (da r0)) (w6.heap.size) 31 r0 := setRow_heap _ _ _ _ _ _ za10
      have B1_11 : Bk (w10.setRow (w6.heap.size) (da r0)) (w.heap.size + 1) 27 (da d1) := (setRow_other _ _ _ _ (by have e1 := B1_6.lt; have e2 := ge8; omega)).trans B1_10
      have Y0_11 : Bk (w10.setRow (w6.heap.size) (da r0)) (w3.heap.size) 36 #[.int .i16 s0, .slice (some ⟨g3, 0, none⟩) l0.length l0.length] := (setRow_other _ _ _ _ (by have e1 := Y0_6.lt; have e2 := ge8; omega)).trans Y0_10
      have tb11 := tb10.trans hb11
      refine hK.out _ _ ⟨(show Dr (w10.setRow (w6.heap.size) (da r0)) (w.heap.size + 1) 27 d1 from B1_11).range, (Y0_11.cell (i := 0) rfl), (Y0_11.cell (i := 1) rfl)⟩ (fun hS11 => ?_)
      clear hK K
      refine wpAnyH_take (i := 11) (v := .int .i64 r1) rfl (by kernel_rfl) (by kernel_rfl) (by kernel_rfl) (fun _ _ _ h => h) (Or.inl ⟨by rfl, fun w' _ => by go_simp⟩) hS11 ?_
      change wpAnyH _ _ _ _ _ _ _ (Act.put _ (some 16) _) _
      simp only [Act.put, List.setIfInBounds_toArray, List.set_cons_zero, List.set_cons_succ]
      refine wpAnyH_done (by kernel_rfl) ?_ _
      go_wp2_with fail
      go_meet
      exact ⟨_, _, rfl, rfl, rfl, DD, ge8, tb11⟩
  obtain ⟨rg7, w7, rfl, rfl, rfl, K7, rge7, hb7⟩ := hcut
  have b7 := step_below hb7 b6
  have B0_7 := B0_6.keep hb7
  have B1_7 := B1_6.keep hb7
  have R2_7 := R2_6.keep hb7
  have Y0_7 := Y0_6.keep hb7
  have q3_7 := own_keep q3_6 hb7
  have q5_7 := own_keep q5_6 hb7
  have q6_7 := own_keep q6_6 hb7
  have t7 := step_below hb7 t6
  have R7_7 : Bk w7 rg7 31 (da r0) := K7
  have HD59_ := hide (show Dr w7 (rg7) 31 r0 from R7_7).range
  have HD60_ := hide (show Dr w7 (rg2) 31 r0 from R2_7).range
  go_wp2_with (first | (with_reducible refine wpList_load_da rfl 31 (.tmp 15) rfl (rg7) 0 rfl r0 _ HD59_.out Tryd.underlying31 rfl (dInfo r0) ?_) | (with_reducible refine wpList_load_da rfl 31 (.tmp 10) rfl (rg2) 0 rfl r0 _ HD60_.out Tryd.underlying31 rfl (dInfo r0) ?_))
  clear HD59_ HD60_
  refine (eqDrum_any r0 _).mono ?_
  rintro e w8 ⟨rfl, hb8⟩
  have b8 := step_below hb8 b7
  have B0_8 := B0_7.keep hb8
  have B1_8 := B1_7.keep hb8
  have R2_8 := R2_7.keep hb8
  have Y0_8 := Y0_7.keep hb8
  have R7_8 := R7_7.keep hb8
  have q3_8 := own_keep q3_7 hb8
  have q5_8 := own_keep q5_7 hb8
  have q6_8 := own_keep q6_7 hb8
  have t8 := step_below hb8 t7
  go_wp2_with fail
  have hb9 : Below w8.heap.size w8 w8.drew := (Below.refl _ _).drew
  have b9 := step_below hb9 b8
  have B0_9 := B0_8.keep hb9
  have B1_9 := B1_8.keep hb9
  have R2_9 := R2_8.keep hb9
  have Y0_9 := Y0_8.keep hb9
  have R7_9 := R7_8.keep hb9
  have q3_9 := own_keep q3_8 hb9
  have q5_9 := own_keep q5_8 hb9
  have q6_9 := own_keep q6_8 hb9
  have t9 := step_below hb9 t8
  refine wp_region_held_drew (S := fun w' => w'.cell? ⟨w3.heap.size, 0, none⟩ = some (.int .i16 s0) ∧ w'.cell? ⟨w3.heap.size, 1, none⟩ = some (.slice (some ⟨g3, 0, none⟩) l0.length l0.length) ∧ w'.cell? ⟨w.heap.size, 0, none⟩ = some (.int .i16 s0) ∧ w'.cell? ⟨w.heap.size, 1, none⟩ = some (.slice A0 l0.length c0)) (by kernel_rfl) ⟨(Y0_9.cell (i := 0) rfl), (Y0_9.cell (i := 1) rfl), (B0_9.cell (i := 0) rfl), (B0_9.cell (i := 1) rfl)⟩ fun hS9 => ?_
  refine wpAnyH_take (i := 0) (v := .agg #[.int .i16 s0, .slice (some ⟨g3, 0, none⟩) l0.length l0.length]) rfl (by kernel_rfl) (by kernel_rfl) (by kernel_rfl) (fun _ _ _ h => h) (Or.inl ⟨by rfl, fun w' h => ?_⟩) hS9 ?_
  · have c0 := h.1
    have c1 := h.2.1
    clear h
    go_simp
  simp only [Act.put, List.setIfInBounds_toArray, List.set_cons_zero, List.set_cons_succ]
  refine wpAnyH_take (i := 1) (v := .agg #[.int .i16 s0, .slice A0 l0.length c0]) rfl (by kernel_rfl) (by kernel_rfl) (by kernel_rfl) (fun _ _ _ h => h) (Or.inl ⟨by rfl, fun w' h => ?_⟩) hS9 ?_
  · have c0 := h.2.2.1
    have c1 := h.2.2.2
    clear h
    go_simp
  simp only [Act.put, List.setIfInBounds_toArray, List.set_cons_zero, List.set_cons_succ]
  refine wpAnyH_ready (rs := [2]) (by kernel_rfl) (by simp) (AllReadyH.cons rfl ?_ AllReadyH.nil)
  intro K hK
  rw [if_pos (by rfl)]
  go_simp
  refine (toFrame_any s0 A0 c0 l0 _ (hA0.below b9) hn0).mono ?_
  rintro e w10 ⟨g10, rfl, hg10, own10, hb10⟩
  have b10 := step_below hb10 b9
  have B0_10 := B0_9.keep hb10
  have B1_10 := B1_9.keep hb10
  have R2_10 := R2_9.keep hb10
  have Y0_10 := Y0_9.keep hb10
  have R7_10 := R7_9.keep hb10
  have q3_10 := own_keep q3_9 hb10
  have q5_10 := own_keep q5_9 hb10
  have q6_10 := own_keep q6_9 hb10
  have t10 := step_below hb10 t9
  have gl10 : g10 < w10.heap.size := (own10.lt g10 rfl).2
  have q10_10 := own10
  refine hK.out _ _ ⟨(Y0_10.cell (i := 0) rfl), (Y0_10.cell (i := 1) rfl), (B0_10.cell (i := 0) rfl), (B0_10.cell (i := 1) rfl)⟩ (fun hS10 => ?_)
  clear hK K
  refine wpAnyH_ready (rs := [3]) (by kernel_rfl) (by simp) (AllReadyH.cons rfl ?_ AllReadyH.nil)
  intro K hK
  rw [if_pos (by rfl)]
  go_simp
  refine (eqFrame_any s0 _ _ _ _ l0 _ (HA.of_own q3_10) (HA.of_own q10_10) hn0).mono ?_
  rintro e w11 ⟨rfl, hb11⟩
  have b11 := step_below hb11 b10
  have B0_11 := B0_10.keep hb11
  have B1_11 := B1_10.keep hb11
  have R2_11 := R2_10.keep hb11
  have Y0_11 := Y0_10.keep hb11
  have R7_11 := R7_10.keep hb11
  have q3_11 := own_keep q3_10 hb11
  have q5_11 := own_keep q5_10 hb11
  have q6_11 := own_keep q6_10 hb11
  have t11 := step_below hb11 t10
  refine hK.out _ _ ⟨(Y0_11.cell (i := 0) rfl), (Y0_11.cell (i := 1) rfl), (B0_11.cell (i := 0) rfl), (B0_11.cell (i := 1) rfl)⟩ (fun hS11 => ?_)
  clear hK K
  refine wpAnyH_take (i := 4) (v := .bool false) rfl (by kernel_rfl) (by kernel_rfl) (by kernel_rfl) (fun _ _ _ h => h) (Or.inl ⟨by rfl, fun w' _ => by go_simp⟩) hS11 ?_
  change wpAnyH _ _ _ _ _ _ _ (Act.put _ (some 72) _) _
  simp only [Act.put, List.setIfInBounds_toArray, List.set_cons_zero, List.set_cons_succ]
  refine wpAnyH_done (by kernel_rfl) ?_ _
  go_wp2_with fail
  refine (toInt64A2S_ex A2 n2 c2 zs2 _ (hA2.below b11) hz2 hn2).mono ?_
  rintro e w12 ⟨g12, rfl, hg12, own12, hb12⟩
  have b12 := step_below hb12 b11
  have B0_12 := B0_11.keep hb12
  have B1_12 := B1_11.keep hb12
  have R2_12 := R2_11.keep hb12
  have Y0_12 := Y0_11.keep hb12
  have R7_12 := R7_11.keep hb12
  have q3_12 := own_keep q3_11 hb12
  have q5_12 := own_keep q5_11 hb12
  have q6_12 := own_keep q6_11 hb12
  have t12 := step_below hb12 t11
  have gl12 : g12 < w12.heap.size := (own12.lt g12 rfl).2
  have q12_12 := own12
  go_wp2_with fail
  refine (eqInt64A2S_any _ _ _ _ n2 zs2 _ _ (SA.of_own hz2 q5_12) (SA.of_own hz2 q12_12) (Nat.le_refl _) hn2).mono ?_
  rintro e w13 ⟨rfl, hb13⟩
  have b13 := step_below hb13 b12
  have B0_13 := B0_12.keep hb13
  have B1_13 := B1_12.keep hb13
  have R2_13 := R2_12.keep hb13
  have Y0_13 := Y0_12.keep hb13
  have R7_13 := R7_12.keep hb13
  have q3_13 := own_keep q3_12 hb13
  have q5_13 := own_keep q5_12 hb13
  have q6_13 := own_keep q6_12 hb13
  have t13 := step_below hb13 t12
  go_wp2_with fail
  refine (toInt64A2S_ex A3 n3 c3 zs3 _ (hA3.below b13) hz3 hn3).mono ?_
  rintro e w14 ⟨g14, rfl, hg14, own14, hb14⟩
  have b14 := step_below hb14 b13
  have B0_14 := B0_13.keep hb14
  have B1_14 := B1_13.keep hb14
  have R2_14 := R2_13.keep hb14
  have Y0_14 := Y0_13.keep hb14
  have R7_14 := R7_13.keep hb14
  have q3_14 := own_keep q3_13 hb14
  have q5_14 := own_keep q5_13 hb14
  have q6_14 := own_keep q6_13 hb14
  have t14 := step_below hb14 t13
  have gl14 : g14 < w14.heap.size := (own14.lt g14 rfl).2
  have q14_14 := own14
  go_wp2_with fail
  refine (eqInt64A2S_any _ _ _ _ n3 zs3 _ _ (SA.of_own hz3 q6_14) (SA.of_own hz3 q14_14) (Nat.le_refl _) hn3).mono ?_
  rintro e w15 ⟨rfl, hb15⟩
  have b15 := step_below hb15 b14
  have B0_15 := B0_14.keep hb15
  have B1_15 := B1_14.keep hb15
  have R2_15 := R2_14.keep hb15
  have Y0_15 := Y0_14.keep hb15
  have R7_15 := R7_14.keep hb15
  have q3_15 := own_keep q3_14 hb15
  have q5_15 := own_keep q5_14 hb15
  have q6_15 := own_keep q6_14 hb15
  have t15 := step_below hb15 t14
  go_wp2
  go_ret
  exact ⟨rfl, b15⟩
theorem lawApplyMoves_any (s0 : Int) (A0 : Option Addr) (c0 : Nat) (l0 : List (Int × Int)) (d1 : Nat → Int) (A2 : Option Addr) (n2 c2 : Nat) (zs2 : List Int) (A3 : Option Addr) (n3 c3 : Nat) (zs3 : List Int) (w : World) (hA0 : HA w A0 l0) (hwf0 : HWF l0) (hs0 : -32768 ≤ s0 ∧ s0 ≤ 32767) (hd1 : DWF d1) (hA2 : SO w A2 n2 zs2) (hz2 : zs2.length = n2 * 2) (hA3 : SO w A3 n3 zs3) (hz3 : zs3.length = n3 * 2) (hE : ErrW w) (hm0 : l0.length ≤ maxLen) (hm2 : n2 ≤ maxLen) (hm3 : n3 ≤ maxLen)  :
    Calls Tryd.prog 3 #[.agg #[.int .i16 s0, .slice A0 l0.length c0], .agg (da d1), .slice A2 n2 c2, .slice A3 n3 c3] w (Says true w) := by
  rcases Nat.lt_or_ge 1048576 (l0.length) with h0 | h0
  · exact lawApplyMoves_big0 s0 A0 c0 l0 d1 A2 n2 c2 zs2 A3 n3 c3 zs3 w  h0 hm0 hm2 hm3
  rcases Nat.lt_or_ge 1048576 (l0.length + n2) with h1 | h1
  · exact lawApplyMoves_big1 s0 A0 c0 l0 d1 A2 n2 c2 zs2 A3 n3 c3 zs3 w h0 h1 hm0 hm2 hm3
  rcases Nat.lt_or_ge 1048576 (l0.length + n2 + n3) with h2 | h2
  · exact lawApplyMoves_big2 s0 A0 c0 l0 d1 A2 n2 c2 zs2 A3 n3 c3 zs3 w h0 h1 h2 hm0 hm2 hm3
  exact lawApplyMoves_small s0 A0 c0 l0 d1 A2 n2 c2 zs2 A3 n3 c3 zs3 w hA0 hwf0 hs0 hd1 hA2 hz2 hA3 hz3 hE h0 h1 h2 hm0 hm2 hm3 
end Go.Proofs.YtncdgjaadlpncaaDoor
