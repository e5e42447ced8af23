import Derived.Test.YtcepjiglhlmgdaaGreatDoorErr
namespace Go.Proofs.YtcepjiglhlmgdaaGreatDoor
open Go.RowKit

/-- the variables of the errors -/
def gE : Nat → Nat
  | 0 => 0
  | 1 => 2
  | 2 => 3
  | 3 => 4
  | 4 => 5
  | 5 => 6
  | 6 => 7
  | _ => 0
/-- the error code of an error -/
def erC : Nat → Int
  | 0 => 1
  | 1 => 2
  | 2 => 3
  | 3 => 4
  | 4 => 6
  | 5 => 7
  | 6 => 8
  | _ => 0
/-- the errors lie as the program's text lays them: seven, each another one -/
def ErrP (p : Nat → Addr) (w : World) : Prop := (∀ i, i < 7 → w.cell? ⟨gE i, 0, none⟩ = some (erV (p i))) ∧ (∀ i, i < 7 → ∃ (c : Array Value) (t : TypeId), w.heap[(p i).block]? = some (.cells c t (0, 0))) ∧ ∀ i j, i < 7 → j < 7 → i ≠ j → p i ≠ p j
theorem ErrP.keep {p : Nat → Addr} {w w' : World} (h : ErrP p w) (hb : Below w.heap.size w w') : ErrP p w' := by
  refine ⟨fun i hi => (hb.cell (p := ⟨gE i, 0, none⟩) (World.block_lt_of_cell? w _ (h.1 i hi))).trans (h.1 i hi), fun i hi => ?_, h.2.2⟩
  obtain ⟨c, t, hc⟩ := h.2.1 i hi
  exact ⟨c, t, (hb.block _ (Array.getElem?_eq_some_iff.1 hc).1).trans hc⟩
theorem is_err {p : Nat → Addr} {w : World} (h : ErrP p w) (i j : Nat) (hi : i < 7) (hj : j < 7) (b : Bool) (hb : decide (i = j) = b) :
    Calls Tryz.prog 45 #[erV (p i), erV (p j)] w fun e w' => e = .returned (.bool b) ∧ w = w' := by
  subst hb
  by_cases e : i = j
  · subst e
    simpa using is_same (p i) w
  · obtain ⟨c, t, hc⟩ := h.2.1 i hi
    obtain ⟨c', t', hc'⟩ := h.2.1 j hj
    simpa [e] using is_other (p i) (p j) c c' t t' w (h.2.2 i j hi hj e) hc hc'


set_option maxRecDepth 20000 in
set_option maxHeartbeats 4000000 in
theorem codeOf_nil {p : Nat → Addr} {w : World} (h : ErrP p w) :
    Calls Tryz.prog 26 #[.nilIface] w fun e w' => e = .returned (.int .i64 0) ∧ w = w' := by
  have c0 : w.cell? ⟨0, 0, none⟩ = some (erV (p 0)) := h.1 0 (by omega)
  have c1 : w.cell? ⟨2, 0, none⟩ = some (erV (p 1)) := h.1 1 (by omega)
  have c2 : w.cell? ⟨3, 0, none⟩ = some (erV (p 2)) := h.1 2 (by omega)
  have c3 : w.cell? ⟨4, 0, none⟩ = some (erV (p 3)) := h.1 3 (by omega)
  have c4 : w.cell? ⟨5, 0, none⟩ = some (erV (p 4)) := h.1 4 (by omega)
  have c5 : w.cell? ⟨6, 0, none⟩ = some (erV (p 5)) := h.1 5 (by omega)
  have c6 : w.cell? ⟨7, 0, none⟩ = some (erV (p 6)) := h.1 6 (by omega)
  clear h
  go_enter Tryz.func26, Tryz.ntmps26
  go_wp2_with (go_at_call 45; refine (is_nil _ _).mono ?_; rintro e w' ⟨rfl, rfl⟩)
  go_ret
  exact ⟨rfl, rfl⟩


set_option maxRecDepth 20000 in
set_option maxHeartbeats 4000000 in
theorem codeOf_0 {p : Nat → Addr} {w : World} (h : ErrP p w) :
    Calls Tryz.prog 26 #[erV (p 0)] w fun e w' => e = .returned (.int .i64 1) ∧ w = w' := by
  have c0 : w.cell? ⟨0, 0, none⟩ = some (erV (p 0)) := h.1 0 (by omega)
  have c1 : w.cell? ⟨2, 0, none⟩ = some (erV (p 1)) := h.1 1 (by omega)
  have c2 : w.cell? ⟨3, 0, none⟩ = some (erV (p 2)) := h.1 2 (by omega)
  have c3 : w.cell? ⟨4, 0, none⟩ = some (erV (p 3)) := h.1 3 (by omega)
  have c4 : w.cell? ⟨5, 0, none⟩ = some (erV (p 4)) := h.1 4 (by omega)
  have c5 : w.cell? ⟨6, 0, none⟩ = some (erV (p 5)) := h.1 5 (by omega)
  have c6 : w.cell? ⟨7, 0, none⟩ = some (erV (p 6)) := h.1 6 (by omega)
  have K0 := is_err h 0 0 (by omega) (by omega) true rfl
  clear h
  go_enter Tryz.func26, Tryz.ntmps26
  go_wp2_with (go_at_call 45; first | (with_reducible refine K0.mono ?_; rintro e w' ⟨rfl, rfl⟩))
  go_ret
  exact ⟨rfl, rfl⟩


set_option maxRecDepth 20000 in
set_option maxHeartbeats 4000000 in
theorem codeOf_1 {p : Nat → Addr} {w : World} (h : ErrP p w) :
    Calls Tryz.prog 26 #[erV (p 1)] w fun e w' => e = .returned (.int .i64 2) ∧ w = w' := by
  have c0 : w.cell? ⟨0, 0, none⟩ = some (erV (p 0)) := h.1 0 (by omega)
  have c1 : w.cell? ⟨2, 0, none⟩ = some (erV (p 1)) := h.1 1 (by omega)
  have c2 : w.cell? ⟨3, 0, none⟩ = some (erV (p 2)) := h.1 2 (by omega)
  have c3 : w.cell? ⟨4, 0, none⟩ = some (erV (p 3)) := h.1 3 (by omega)
  have c4 : w.cell? ⟨5, 0, none⟩ = some (erV (p 4)) := h.1 4 (by omega)
  have c5 : w.cell? ⟨6, 0, none⟩ = some (erV (p 5)) := h.1 5 (by omega)
  have c6 : w.cell? ⟨7, 0, none⟩ = some (erV (p 6)) := h.1 6 (by omega)
  have K0 := is_err h 1 0 (by omega) (by omega) false rfl
  have K1 := is_err h 1 1 (by omega) (by omega) true rfl
  clear h
  go_enter Tryz.func26, Tryz.ntmps26
  go_wp2_with (go_at_call 45; first | (with_reducible refine K0.mono ?_; rintro e w' ⟨rfl, rfl⟩) | (with_reducible refine K1.mono ?_; rintro e w' ⟨rfl, rfl⟩))
  go_ret
  exact ⟨rfl, rfl⟩


set_option maxRecDepth 20000 in
set_option maxHeartbeats 4000000 in
theorem codeOf_2 {p : Nat → Addr} {w : World} (h : ErrP p w) :
    Calls Tryz.prog 26 #[erV (p 2)] w fun e w' => e = .returned (.int .i64 3) ∧ w = w' := by
  have c0 : w.cell? ⟨0, 0, none⟩ = some (erV (p 0)) := h.1 0 (by omega)
  have c1 : w.cell? ⟨2, 0, none⟩ = some (erV (p 1)) := h.1 1 (by omega)
  have c2 : w.cell? ⟨3, 0, none⟩ = some (erV (p 2)) := h.1 2 (by omega)
  have c3 : w.cell? ⟨4, 0, none⟩ = some (erV (p 3)) := h.1 3 (by omega)
  have c4 : w.cell? ⟨5, 0, none⟩ = some (erV (p 4)) := h.1 4 (by omega)
  have c5 : w.cell? ⟨6, 0, none⟩ = some (erV (p 5)) := h.1 5 (by omega)
  have c6 : w.cell? ⟨7, 0, none⟩ = some (erV (p 6)) := h.1 6 (by omega)
  have K0 := is_err h 2 0 (by omega) (by omega) false rfl
  have K1 := is_err h 2 1 (by omega) (by omega) false rfl
  have K2 := is_err h 2 2 (by omega) (by omega) true rfl
  clear h
  go_enter Tryz.func26, Tryz.ntmps26
  go_wp2_with (go_at_call 45; first | (with_reducible refine K0.mono ?_; rintro e w' ⟨rfl, rfl⟩) | (with_reducible refine K1.mono ?_; rintro e w' ⟨rfl, rfl⟩) | (with_reducible refine K2.mono ?_; rintro e w' ⟨rfl, rfl⟩))
  go_ret
  exact ⟨rfl, rfl⟩


set_option maxRecDepth 20000 in
set_option maxHeartbeats 4000000 in
theorem codeOf_3 {p : Nat → Addr} {w : World} (h : ErrP p w) :
    Calls Tryz.prog 26 #[erV (p 3)] w fun e w' => e = .returned (.int .i64 4) ∧ w = w' := by
  have c0 : w.cell? ⟨0, 0, none⟩ = some (erV (p 0)) := h.1 0 (by omega)
  have c1 : w.cell? ⟨2, 0, none⟩ = some (erV (p 1)) := h.1 1 (by omega)
  have c2 : w.cell? ⟨3, 0, none⟩ = some (erV (p 2)) := h.1 2 (by omega)
  have c3 : w.cell? ⟨4, 0, none⟩ = some (erV (p 3)) := h.1 3 (by omega)
  have c4 : w.cell? ⟨5, 0, none⟩ = some (erV (p 4)) := h.1 4 (by omega)
  have c5 : w.cell? ⟨6, 0, none⟩ = some (erV (p 5)) := h.1 5 (by omega)
  have c6 : w.cell? ⟨7, 0, none⟩ = some (erV (p 6)) := h.1 6 (by omega)
  have K0 := is_err h 3 0 (by omega) (by omega) false rfl
  have K1 := is_err h 3 1 (by omega) (by omega) false rfl
  have K2 := is_err h 3 2 (by omega) (by omega) false rfl
  have K3 := is_err h 3 3 (by omega) (by omega) true rfl
  clear h
  go_enter Tryz.func26, Tryz.ntmps26
  go_wp2_with (go_at_call 45; first | (with_reducible refine K0.mono ?_; rintro e w' ⟨rfl, rfl⟩) | (with_reducible refine K1.mono ?_; rintro e w' ⟨rfl, rfl⟩) | (with_reducible refine K2.mono ?_; rintro e w' ⟨rfl, rfl⟩) | (with_reducible refine K3.mono ?_; rintro e w' ⟨rfl, rfl⟩))
  go_ret
  exact ⟨rfl, rfl⟩


set_option maxRecDepth 20000 in
set_option maxHeartbeats 4000000 in
theorem codeOf_4 {p : Nat → Addr} {w : World} (h : ErrP p w) :
    Calls Tryz.prog 26 #[erV (p 4)] w fun e w' => e = .returned (.int .i64 6) ∧ w = w' := by
  have c0 : w.cell? ⟨0, 0, none⟩ = some (erV (p 0)) := h.1 0 (by omega)
  have c1 : w.cell? ⟨2, 0, none⟩ = some (erV (p 1)) := h.1 1 (by omega)
  have c2 : w.cell? ⟨3, 0, none⟩ = some (erV (p 2)) := h.1 2 (by omega)
  have c3 : w.cell? ⟨4, 0, none⟩ = some (erV (p 3)) := h.1 3 (by omega)
  have c4 : w.cell? ⟨5, 0, none⟩ = some (erV (p 4)) := h.1 4 (by omega)
  have c5 : w.cell? ⟨6, 0, none⟩ = some (erV (p 5)) := h.1 5 (by omega)
  have c6 : w.cell? ⟨7, 0, none⟩ = some (erV (p 6)) := h.1 6 (by omega)
  have K0 := is_err h 4 0 (by omega) (by omega) false rfl
  have K1 := is_err h 4 1 (by omega) (by omega) false rfl
  have K2 := is_err h 4 2 (by omega) (by omega) false rfl
  have K3 := is_err h 4 3 (by omega) (by omega) false rfl
  have K4 := is_err h 4 4 (by omega) (by omega) true rfl
  clear h
  go_enter Tryz.func26, Tryz.ntmps26
  go_wp2_with (go_at_call 45; first | (with_reducible refine K0.mono ?_; rintro e w' ⟨rfl, rfl⟩) | (with_reducible refine K1.mono ?_; rintro e w' ⟨rfl, rfl⟩) | (with_reducible refine K2.mono ?_; rintro e w' ⟨rfl, rfl⟩) | (with_reducible refine K3.mono ?_; rintro e w' ⟨rfl, rfl⟩) | (with_reducible refine K4.mono ?_; rintro e w' ⟨rfl, rfl⟩))
  go_ret
  exact ⟨rfl, rfl⟩


set_option maxRecDepth 20000 in
set_option maxHeartbeats 4000000 in
theorem codeOf_5 {p : Nat → Addr} {w : World} (h : ErrP p w) :
    Calls Tryz.prog 26 #[erV (p 5)] w fun e w' => e = .returned (.int .i64 7) ∧ w = w' := by
  have c0 : w.cell? ⟨0, 0, none⟩ = some (erV (p 0)) := h.1 0 (by omega)
  have c1 : w.cell? ⟨2, 0, none⟩ = some (erV (p 1)) := h.1 1 (by omega)
  have c2 : w.cell? ⟨3, 0, none⟩ = some (erV (p 2)) := h.1 2 (by omega)
  have c3 : w.cell? ⟨4, 0, none⟩ = some (erV (p 3)) := h.1 3 (by omega)
  have c4 : w.cell? ⟨5, 0, none⟩ = some (erV (p 4)) := h.1 4 (by omega)
  have c5 : w.cell? ⟨6, 0, none⟩ = some (erV (p 5)) := h.1 5 (by omega)
  have c6 : w.cell? ⟨7, 0, none⟩ = some (erV (p 6)) := h.1 6 (by omega)
  have K0 := is_err h 5 0 (by omega) (by omega) false rfl
  have K1 := is_err h 5 1 (by omega) (by omega) false rfl
  have K2 := is_err h 5 2 (by omega) (by omega) false rfl
  have K3 := is_err h 5 3 (by omega) (by omega) false rfl
  have K4 := is_err h 5 4 (by omega) (by omega) false rfl
  have K5 := is_err h 5 5 (by omega) (by omega) true rfl
  clear h
  go_enter Tryz.func26, Tryz.ntmps26
  go_wp2_with (go_at_call 45; first | (with_reducible refine K0.mono ?_; rintro e w' ⟨rfl, rfl⟩) | (with_reducible refine K1.mono ?_; rintro e w' ⟨rfl, rfl⟩) | (with_reducible refine K2.mono ?_; rintro e w' ⟨rfl, rfl⟩) | (with_reducible refine K3.mono ?_; rintro e w' ⟨rfl, rfl⟩) | (with_reducible refine K4.mono ?_; rintro e w' ⟨rfl, rfl⟩) | (with_reducible refine K5.mono ?_; rintro e w' ⟨rfl, rfl⟩))
  go_ret
  exact ⟨rfl, rfl⟩


set_option maxRecDepth 20000 in
set_option maxHeartbeats 4000000 in
theorem codeOf_6 {p : Nat → Addr} {w : World} (h : ErrP p w) :
    Calls Tryz.prog 26 #[erV (p 6)] w fun e w' => e = .returned (.int .i64 8) ∧ w = w' := by
  have c0 : w.cell? ⟨0, 0, none⟩ = some (erV (p 0)) := h.1 0 (by omega)
  have c1 : w.cell? ⟨2, 0, none⟩ = some (erV (p 1)) := h.1 1 (by omega)
  have c2 : w.cell? ⟨3, 0, none⟩ = some (erV (p 2)) := h.1 2 (by omega)
  have c3 : w.cell? ⟨4, 0, none⟩ = some (erV (p 3)) := h.1 3 (by omega)
  have c4 : w.cell? ⟨5, 0, none⟩ = some (erV (p 4)) := h.1 4 (by omega)
  have c5 : w.cell? ⟨6, 0, none⟩ = some (erV (p 5)) := h.1 5 (by omega)
  have c6 : w.cell? ⟨7, 0, none⟩ = some (erV (p 6)) := h.1 6 (by omega)
  have K0 := is_err h 6 0 (by omega) (by omega) false rfl
  have K1 := is_err h 6 1 (by omega) (by omega) false rfl
  have K2 := is_err h 6 2 (by omega) (by omega) false rfl
  have K3 := is_err h 6 3 (by omega) (by omega) false rfl
  have K4 := is_err h 6 4 (by omega) (by omega) false rfl
  have K5 := is_err h 6 5 (by omega) (by omega) false rfl
  have K6 := is_err h 6 6 (by omega) (by omega) true rfl
  clear h
  go_enter Tryz.func26, Tryz.ntmps26
  go_wp2_with (go_at_call 45; first | (with_reducible refine K0.mono ?_; rintro e w' ⟨rfl, rfl⟩) | (with_reducible refine K1.mono ?_; rintro e w' ⟨rfl, rfl⟩) | (with_reducible refine K2.mono ?_; rintro e w' ⟨rfl, rfl⟩) | (with_reducible refine K3.mono ?_; rintro e w' ⟨rfl, rfl⟩) | (with_reducible refine K4.mono ?_; rintro e w' ⟨rfl, rfl⟩) | (with_reducible refine K5.mono ?_; rintro e w' ⟨rfl, rfl⟩) | (with_reducible refine K6.mono ?_; rintro e w' ⟨rfl, rfl⟩))
  go_ret
  exact ⟨rfl, rfl⟩

end Go.Proofs.YtcepjiglhlmgdaaGreatDoor
