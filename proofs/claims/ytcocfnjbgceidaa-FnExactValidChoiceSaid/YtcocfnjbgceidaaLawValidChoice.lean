import Derived.Test.YtcocfnjbgceidaaChv
import Derived.Test.YtcocfnjbgceidaaRw
import Derived.Deep.RegionHeld3
import Derived.Deep.CutRange
namespace Go.Proofs.Ytcocfnjbgceidaa
open Go.RowKit

set_option maxRecDepth 20000 in
set_option maxHeartbeats 4000000 in
theorem lawValidChoice_small (x0_0 : Bool) (x0_1 : Int) (x0_2 : Int) (x0_3 : Int) (w : World) (hv0 : XcWF x0_0 x0_1 x0_2 x0_3)   :
    Calls Try.prog 4 #[.agg #[.bool x0_0, .int .i8 x0_1, .int .i8 x0_2, .int .i8 x0_3]] w (Says true w) := by
  obtain ⟨r0, hr0⟩ : ∃ r : Bool, r = xcB x0_0 x0_1 x0_2 x0_3 := ⟨_, rfl⟩
  have KS : ∀ (W : World), Calls Try.prog 14 #[.agg #[.bool x0_0, .int .i8 x0_1, .int .i8 x0_2, .int .i8 x0_3]] W (fun e w' => e = .returned (.bool r0) ∧ Below W.heap.size W w') := fun W => by rw [hr0]; exact specValidChoice_any x0_0 x0_1 x0_2 x0_3 W hv0
  have KI : ∀ (W : World), Calls Try.prog 16 #[.agg #[.bool x0_0, .int .i8 x0_1, .int .i8 x0_2, .int .i8 x0_3]] W (fun e w' => e = .returned (.bool r0) ∧ Below W.heap.size W w') := fun W => by rw [hr0]; exact implValidChoice_any x0_0 x0_1 x0_2 x0_3 W hv0
  clear hr0
  obtain ⟨X0, hX0⟩ : ∃ X, X = (w.alloc (.cells #[.bool x0_0, .int .i8 x0_1, .int .i8 x0_2, .int .i8 x0_3] 31)) := ⟨_, rfl⟩
  have b0 : Below w.heap.size w X0 := by rw [hX0]; exact ((Below.refl _ _).alloc (Nat.le_refl _) _)
  have B0_0 : Bk X0 (w.heap.size) 31 #[.bool x0_0, .int .i8 x0_1, .int .i8 x0_2, .int .i8 x0_3] := by rw [hX0]; exact Bk.new _ _ _ rfl
  have bw0 : w.heap.size < X0.heap.size := B0_0.lt
  go_enter Try.func4, Try.ntmps4
  go_upto_region 1 with fail
  rw [← hX0]
  clear hX0
  have pf5_0 := B0_0.cell (i := 0) rfl
  have pf5_1 := B0_0.cell (i := 1) rfl
  have pf5_2 := B0_0.cell (i := 2) rfl
  have pf5_3 := B0_0.cell (i := 3) rfl
  go_wp2_with fail
  clear pf5_0 pf5_1 pf5_2 pf5_3
  refine (toChoice_any x0_0 x0_1 x0_2 x0_3 _).mono ?_
  rintro e w1 ⟨rfl, hb1⟩
  have b1 := step_below hb1 b0
  have B0_1 := B0_0.keep hb1
  go_wp2_with fail
  refine (KS _  ).mono ?_
  rintro e w2 ⟨rfl, hb2⟩
  have b2 := step_below hb2 b1
  have B0_2 := B0_1.keep hb2
  have t2 : Below w2.heap.size w2 w2 := Below.refl _ _
  have pf8_0 := B0_2.cell (i := 0) rfl
  have pf8_1 := B0_2.cell (i := 1) rfl
  have pf8_2 := B0_2.cell (i := 2) rfl
  have pf8_3 := B0_2.cell (i := 3) rfl
  go_wp2_with fail
  clear pf8_0 pf8_1 pf8_2 pf8_3
  refine (toChoice_any x0_0 x0_1 x0_2 x0_3 _).mono ?_
  rintro e w3 ⟨rfl, hb3⟩
  have b3 := step_below hb3 b2
  have B0_3 := B0_2.keep hb3
  have t3 := step_below hb3 t2
  go_wp2_with fail
  refine (KI _  ).mono ?_
  rintro e w4 ⟨rfl, hb4⟩
  have b4 := step_below hb4 b3
  have B0_4 := B0_3.keep hb4
  have t4 := step_below hb4 t3
  go_wp2
  go_ret
  exact ⟨rfl, b4⟩
theorem lawValidChoice_any (x0_0 : Bool) (x0_1 : Int) (x0_2 : Int) (x0_3 : Int) (w : World) (hv0 : XcWF x0_0 x0_1 x0_2 x0_3)   :
    Calls Try.prog 4 #[.agg #[.bool x0_0, .int .i8 x0_1, .int .i8 x0_2, .int .i8 x0_3]] w (Says true w) := by
  exact lawValidChoice_small x0_0 x0_1 x0_2 x0_3 w hv0   
end Go.Proofs.Ytcocfnjbgceidaa
