import Derived.Test.YtbneonmnjpiggaaDoorQti
namespace Go.Proofs.YtbneonmnjpiggaaDoor
open Go.RowKit
set_option maxRecDepth 20000 in
set_option maxHeartbeats 2000000 in
theorem lawQuarterText_any (x : Int) (w : World) (hT : MinW w) (_hx : -9223372036854775808 ≤ x ∧ x ≤ 9223372036854775807) :
    Calls Tryd.prog 3 #[.int .i64 x] w fun e w' => e = .returned (.bool true) ∧ Below w.heap.size w w' := by
  have KS := specQuarterText_any x w
  have KI := fun W (hW : MinW W) => implQuarterText_any x W hW
  obtain ⟨z, hz⟩ : ∃ z, qtV x = z := ⟨_, rfl⟩
  rw [hz] at KS KI
  clear hz
  go_enter Tryd.func3, Tryd.ntmps3
  go_wp2_with fail
  refine KS.mono ?_
  rintro e w1 ⟨rfl, hb⟩
  have hT1 := hT.below hb
  go_wp2_with fail
  refine (KI w1 hT1).mono ?_
  rintro e w2 ⟨rfl, hb2⟩
  go_wp2
  go_ret
  exact ⟨rfl, step_below hb2 hb⟩
end Go.Proofs.YtbneonmnjpiggaaDoor
