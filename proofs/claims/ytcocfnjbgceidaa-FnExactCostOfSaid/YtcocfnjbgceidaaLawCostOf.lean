import Derived.Test.YtcocfnjbgceidaaCof1
import Derived.Test.YtcocfnjbgceidaaRw
import Derived.Deep.RegionHeld3
import Derived.Deep.CutRange
namespace Go.Proofs.Ytcocfnjbgceidaa
open Go.RowKit

set_option maxRecDepth 20000 in
set_option maxHeartbeats 1000000 in
theorem lawCostOf_big0 (x0_0 : Int) (x0_1 : Int) (x0_2 : Int) (A1 : Option Addr) (c1 : Nat) (l1 : List (Bool × Int × Int × Int)) (w : World)  (hbg : 1048576 < l1.length) (hm1 : l1.length ≤ maxLen) :
    Calls Try.prog 5 #[.agg #[.int .i16 x0_0, .int .i16 x0_1, .int .i16 x0_2], .slice A1 l1.length c1] w (Says true w) := by
  obtain ⟨X0, hX0⟩ : ∃ X, X = (w.alloc (.cells #[.int .i16 x0_0, .int .i16 x0_1, .int .i16 x0_2] 24)) := ⟨_, rfl⟩
  have b0 : Below w.heap.size w X0 := by rw [hX0]; exact ((Below.refl _ _).alloc (Nat.le_refl _) _)
  have B0_0 : Bk X0 (w.heap.size) 24 #[.int .i16 x0_0, .int .i16 x0_1, .int .i16 x0_2] := by rw [hX0]; exact Bk.new _ _ _ rfl
  have bw0 : w.heap.size < X0.heap.size := B0_0.lt
  go_enter Try.func5, Try.ntmps5
  go_upto_region 1 with fail
  rw [← hX0]
  clear hX0
  go_wp2_with fail
  refine (szChoiceS_big A1 l1.length c1 (1048576) (by omega) (by omega) hm1 (by omega) _).mono ?_
  rintro e w1 ⟨rfl, rfl⟩
  go_wp2
  go_ret
  exact ⟨rfl, b0⟩
set_option maxRecDepth 20000 in
set_option maxHeartbeats 4000000 in
theorem lawCostOf_small (x0_0 : Int) (x0_1 : Int) (x0_2 : Int) (A1 : Option Addr) (c1 : Nat) (l1 : List (Bool × Int × Int × Int)) (w : World) (hv0 : CoWF x0_0 x0_1 x0_2) (hA1 : ChA w A1 l1) (hwf1 : ChWF l1) (hc0 : l1.length ≤ 1048576) (hm1 : l1.length ≤ maxLen) :
    Calls Try.prog 5 #[.agg #[.int .i16 x0_0, .int .i16 x0_1, .int .i16 x0_2], .slice A1 l1.length c1] w (Says true w) := by
  have hn1 : l1.length ≤ 1048576 := by omega
  obtain ⟨r0, hr0⟩ : ∃ r : Int, r = cocV x0_0 x0_1 x0_2 l1 := ⟨_, rfl⟩
  obtain ⟨r1, hr1⟩ : ∃ r : Int, r = cocC x0_0 x0_1 x0_2 l1 := ⟨_, rfl⟩
  have KS : ∀ (E1 : Option Addr) (W : World), ChA W E1 l1 → Calls Try.prog 18 #[.agg #[.int .i16 x0_0, .int .i16 x0_1, .int .i16 x0_2], .slice E1 l1.length l1.length] W (fun e w' => e = .returned (.tuple #[.int .i64 r0, .int .i64 r1]) ∧ Below W.heap.size W w') := fun E1 W h1 => by rw [hr0, hr1]; exact specCostOf_any x0_0 x0_1 x0_2 E1 l1.length l1 W hv0 h1 hn1 hwf1
  have KI : ∀ (E1 : Option Addr) (W : World), ChA W E1 l1 → Calls Try.prog 20 #[.agg #[.int .i16 x0_0, .int .i16 x0_1, .int .i16 x0_2], .slice E1 l1.length l1.length] W (fun e w' => e = .returned (.tuple #[.int .i64 r0, .int .i64 r1]) ∧ Below W.heap.size W w') := fun E1 W h1 => by rw [hr0, hr1]; exact implCostOf_any x0_0 x0_1 x0_2 E1 l1.length l1 W hv0 h1 hn1 hwf1
  clear hr0 hr1
  obtain ⟨X0, hX0⟩ : ∃ X, X = (w.alloc (.cells #[.int .i16 x0_0, .int .i16 x0_1, .int .i16 x0_2] 24)) := ⟨_, rfl⟩
  have b0 : Below w.heap.size w X0 := by rw [hX0]; exact ((Below.refl _ _).alloc (Nat.le_refl _) _)
  have B0_0 : Bk X0 (w.heap.size) 24 #[.int .i16 x0_0, .int .i16 x0_1, .int .i16 x0_2] := by rw [hX0]; exact Bk.new _ _ _ rfl
  have bw0 : w.heap.size < X0.heap.size := B0_0.lt
  go_enter Try.func5, Try.ntmps5
  go_upto_region 1 with fail
  rw [← hX0]
  clear hX0
  go_wp2_with fail
  refine (szChoiceS_small A1 l1.length c1 (1048576) (by omega) (by omega) hm1 (by omega) _).mono ?_
  rintro e w1' ⟨rfl, rfl⟩
  have pf17_0 := B0_0.cell (i := 0) rfl
  have pf17_1 := B0_0.cell (i := 1) rfl
  have pf17_2 := B0_0.cell (i := 2) rfl
  go_wp2_with fail
  clear pf17_0 pf17_1 pf17_2
  refine (toCosts_any x0_0 x0_1 x0_2 _).mono ?_
  rintro e w1 ⟨rfl, hb1⟩
  have b1 := step_below hb1 b0
  have B0_1 := B0_0.keep hb1
  go_wp2_with fail
  refine (toChoiceS_ex A1 c1 l1 _ (hA1.below b1) hn1).mono ?_
  rintro e w2 ⟨g2, rfl, hg2, own2, hb2⟩
  have b2 := step_below hb2 b1
  have B0_2 := B0_1.keep hb2
  have gl2 : g2 < w2.heap.size := (own2.lt g2 rfl).2
  have q2_2 := own2
  go_wp2_with fail
  refine (KS _ _ (ChA.of_own q2_2) ).mono ?_
  rintro e w3 ⟨rfl, hb3⟩
  have b3 := step_below hb3 b2
  have B0_3 := B0_2.keep hb3
  have t3 : Below w3.heap.size w3 w3 := Below.refl _ _
  go_wp2_with fail
  refine (toChoiceS_ex A1 c1 l1 _ (hA1.below b3) hn1).mono ?_
  rintro e w4 ⟨g4, rfl, hg4, own4, hb4⟩
  have b4 := step_below hb4 b3
  have B0_4 := B0_3.keep hb4
  have t4 := step_below hb4 t3
  have gl4 : g4 < w4.heap.size := (own4.lt g4 rfl).2
  have q4_4 := own4
  have pf27_0 := B0_4.cell (i := 0) rfl
  have pf27_1 := B0_4.cell (i := 1) rfl
  have pf27_2 := B0_4.cell (i := 2) rfl
  go_wp2_with fail
  clear pf27_0 pf27_1 pf27_2
  refine (toCosts_any x0_0 x0_1 x0_2 _).mono ?_
  rintro e w5 ⟨rfl, hb5⟩
  have b5 := step_below hb5 b4
  have B0_5 := B0_4.keep hb5
  have q4_5 := own_keep q4_4 hb5
  have t5 := step_below hb5 t4
  go_wp2_with fail
  refine (KI _ _ (ChA.of_own q4_5) ).mono ?_
  rintro e w6 ⟨rfl, hb6⟩
  have b6 := step_below hb6 b5
  have B0_6 := B0_5.keep hb6
  have q4_6 := own_keep q4_5 hb6
  have t6 := step_below hb6 t5
  go_wp2_with fail
  refine (toChoiceS_ex A1 c1 l1 _ (hA1.below b6) hn1).mono ?_
  rintro e w7 ⟨g7, rfl, hg7, own7, hb7⟩
  have b7 := step_below hb7 b6
  have B0_7 := B0_6.keep hb7
  have q4_7 := own_keep q4_6 hb7
  have t7 := step_below hb7 t6
  have gl7 : g7 < w7.heap.size := (own7.lt g7 rfl).2
  have q7_7 := own7
  go_wp2_with fail
  refine (eqChoiceS_self _ _ _ _ l1 _ (ChA.of_own q4_7) (ChA.of_own q7_7) hn1).mono ?_
  rintro e w8 ⟨rfl, hb8⟩
  have b8 := step_below hb8 b7
  have B0_8 := B0_7.keep hb8
  have q4_8 := own_keep q4_7 hb8
  have t8 := step_below hb8 t7
  go_wp2
  go_ret
  exact ⟨rfl, b8⟩
theorem lawCostOf_any (x0_0 : Int) (x0_1 : Int) (x0_2 : Int) (A1 : Option Addr) (c1 : Nat) (l1 : List (Bool × Int × Int × Int)) (w : World) (hv0 : CoWF x0_0 x0_1 x0_2) (hA1 : ChA w A1 l1) (hwf1 : ChWF l1) (hm1 : l1.length ≤ maxLen)  :
    Calls Try.prog 5 #[.agg #[.int .i16 x0_0, .int .i16 x0_1, .int .i16 x0_2], .slice A1 l1.length c1] w (Says true w) := by
  rcases Nat.lt_or_ge 1048576 (l1.length) with h0 | h0
  · exact lawCostOf_big0 x0_0 x0_1 x0_2 A1 c1 l1 w  h0 hm1
  exact lawCostOf_small x0_0 x0_1 x0_2 A1 c1 l1 w hv0 hA1 hwf1 h0 hm1 
end Go.Proofs.Ytcocfnjbgceidaa
