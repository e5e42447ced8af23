import Derived.Test.YtfoofggaieniaaaDoorCts5
namespace Go.Proofs.YtfoofggaieniaaaDoor
open Go.RowKit
theorem csA_of {l : List (Int × Int × Bool)} (h : csA l = true) : ∀ j, j < l.length → cxB (cgS l j) (cgT l j) = true := by
  simpa [csA] using h
set_option maxRecDepth 20000 in
set_option maxHeartbeats 4000000 in
theorem specChangesText_any (A : Option Addr) (c : Nat) (l : List (Int × Int × Bool)) (w : World) (hA : CgA w A l) (hn : l.length ≤ 1048576) (hwf : CgWF l) :
    Calls Tryd.prog 5 #[.slice A l.length c] w fun e w' => e = .returned (.string (csV l)) ∧ Below w.heap.size w w' := by
  have KP := l05Plain_any A c l w hA hn hwf
  by_cases h : l.length ≤ 2400 ∧ csA l = true
  · have HV := hide (show csV l = ⟨(csJ l l.length).toArray⟩ by rw [csV, if_pos h])
    have KT := fun W (hW : CgA W A l) => l05Text_any A c l W hW h.1 (csA_of h.2)
    rw [decide_eq_true h] at KP
    clear h
    go_enter Tryd.func5, Tryd.ntmps5
    go_wp2_with fail
    refine KP.mono ?_
    rintro e w1 ⟨rfl, hb1⟩
    go_wp2_with fail
    refine (KT w1 (hA.below hb1)).mono ?_
    rintro e w2 ⟨rfl, hb2⟩
    go_wp2
    go_ret
    exact ⟨by rw [HV.out]; rfl, step_below hb2 hb1⟩
  · have HV := hide (show csV l = ⟨#[]⟩ by rw [csV, if_neg h])
    rw [decide_eq_false h] at KP
    clear h
    go_enter Tryd.func5, Tryd.ntmps5
    go_wp2_with fail
    refine KP.mono ?_
    rintro e w1 ⟨rfl, hb1⟩
    go_wp2
    go_ret
    exact ⟨by rw [HV.out]; rfl, hb1⟩
end Go.Proofs.YtfoofggaieniaaaDoor
