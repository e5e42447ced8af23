import Derived.Test.YtbneonmnjpiggaaDoorRqt
namespace Go.Proofs.YtbneonmnjpiggaaDoor
open Go.RowKit
set_option maxRecDepth 20000 in
set_option maxHeartbeats 2000000 in
theorem lawReadQuarter_any (T : ByteArray) (w : World) (hT : MinW w) (_hl : T.size ≤ maxLen) :
    Calls Tryd.prog 4 #[.string T] w fun e w' => e = .returned (.bool true) ∧ Below w.heap.size w w' := by
  have KS := specReadQuarter_any T w
  have KI := fun W (hW : MinW W) => implReadQuarter_any T W hW
  obtain ⟨a, ha⟩ : ∃ a, a = (rqV T).1 := ⟨_, rfl⟩
  obtain ⟨b, hb⟩ : ∃ b, b = (rqV T).2 := ⟨_, rfl⟩
  rw [← ha, ← hb] at KS
  simp only [← ha, ← hb] at KI
  clear ha hb
  go_enter Tryd.func4, Tryd.ntmps4
  go_wp2_with fail
  · go_ret
    exact ⟨rfl, Below.refl _ _⟩
  refine KS.mono ?_
  rintro e w1 ⟨rfl, hb⟩
  have hT1 := hT.below hb
  go_wp2_with fail
  refine (KI w1 hT1).mono ?_
  rintro e w2 ⟨rfl, hb2⟩
  go_wp2
  go_ret
  exact ⟨rfl, step_below hb2 hb⟩
end Go.Proofs.YtbneonmnjpiggaaDoor
