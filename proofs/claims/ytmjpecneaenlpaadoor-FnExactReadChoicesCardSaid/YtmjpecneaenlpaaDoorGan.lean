import Derived.Test.YtmjpecneaenlpaaDoorGah
import Derived.Test.YtmjpecneaenlpaaDoorCho
namespace Go.Proofs.YtmjpecneaenlpaaDoor
open Go.RowKit
/-- a choice within its bounds -/
def XcWF (_a : Bool) (l o t : Int) : Prop := (-128 ≤ l ∧ l ≤ 127) ∧ (-128 ≤ o ∧ o ≤ 127) ∧ (-128 ≤ t ∧ t ≤ 127)
def xcB (a : Bool) (l o t : Int) : Bool := if a then decide (l = 0 ∧ o = 0 ∧ t = 0) else inB l (-3) 3 && inB o (-1) 1 && inB t 0 23
set_option maxHeartbeats 1000000 in
theorem implChoiceIn_any (l o t : Int) (w : World) (hw : XcWF false l o t) :
    Calls Tryd.prog 97 #[.agg #[.bool false, .int .i8 l, .int .i8 o, .int .i8 t]] w (Says (xcB false l o t) w) := by
  obtain ⟨⟨_, _⟩, ⟨_, _⟩, ⟨_, _⟩⟩ := hw
  have hb0 : Below w.heap.size w (w.alloc (.cells #[.bool false, .int .i8 l, .int .i8 o, .int .i8 t] 75)) := (Below.refl _ _).alloc (Nat.le_refl _) _
  cases h0 : inB (l) (-3) (3)
  · have K0 : ∀ W, Calls Tryd.prog 83 #[.int .i64 (l), .int .i64 (-3), .int .i64 (3)] W fun e w' => e = .returned (.bool false) ∧ W = w' := fun W => by rw [← h0]; exact within_any _ _ _ W
    have HX := hide (show (xcB false l o t) = false by simp [h0, xcB])
    clear h0
    go_enter Tryd.func97, Tryd.ntmps97
    go_wp2_with (first | (go_at_call 83; with_reducible refine (K0 _).mono ?_; rintro e w' ⟨rfl, rfl⟩))
    go_ret
    exact ⟨ret_bool HX.out.symm, hb0⟩
  · have K0 : ∀ W, Calls Tryd.prog 83 #[.int .i64 (l), .int .i64 (-3), .int .i64 (3)] W fun e w' => e = .returned (.bool true) ∧ W = w' := fun W => by rw [← h0]; exact within_any _ _ _ W
    cases h1 : inB (o) (-1) (1)
    · have K1 : ∀ W, Calls Tryd.prog 83 #[.int .i64 (o), .int .i64 (-1), .int .i64 (1)] W fun e w' => e = .returned (.bool false) ∧ W = w' := fun W => by rw [← h1]; exact within_any _ _ _ W
      have HX := hide (show (xcB false l o t) = false by simp [h0, h1, xcB])
      clear h0 h1
      go_enter Tryd.func97, Tryd.ntmps97
      go_wp2_with (first | (go_at_call 83; with_reducible refine (K0 _).mono ?_; rintro e w' ⟨rfl, rfl⟩) | (go_at_call 83; with_reducible refine (K1 _).mono ?_; rintro e w' ⟨rfl, rfl⟩))
      go_ret
      exact ⟨ret_bool HX.out.symm, hb0⟩
    · have K1 : ∀ W, Calls Tryd.prog 83 #[.int .i64 (o), .int .i64 (-1), .int .i64 (1)] W fun e w' => e = .returned (.bool true) ∧ W = w' := fun W => by rw [← h1]; exact within_any _ _ _ W
      cases h2 : inB (t) (0) (23)
      · have K2 : ∀ W, Calls Tryd.prog 83 #[.int .i64 (t), .int .i64 (0), .int .i64 (23)] W fun e w' => e = .returned (.bool false) ∧ W = w' := fun W => by rw [← h2]; exact within_any _ _ _ W
        have HX := hide (show (xcB false l o t) = false by simp [h0, h1, h2, xcB])
        clear h0 h1 h2
        go_enter Tryd.func97, Tryd.ntmps97
        go_wp2_with (first | (go_at_call 83; with_reducible refine (K0 _).mono ?_; rintro e w' ⟨rfl, rfl⟩) | (go_at_call 83; with_reducible refine (K1 _).mono ?_; rintro e w' ⟨rfl, rfl⟩) | (go_at_call 83; with_reducible refine (K2 _).mono ?_; rintro e w' ⟨rfl, rfl⟩))
        go_ret
        exact ⟨ret_bool HX.out.symm, hb0⟩
      · have K2 : ∀ W, Calls Tryd.prog 83 #[.int .i64 (t), .int .i64 (0), .int .i64 (23)] W fun e w' => e = .returned (.bool true) ∧ W = w' := fun W => by rw [← h2]; exact within_any _ _ _ W
        have HX := hide (show (xcB false l o t) = true by simp [h0, h1, h2, xcB])
        clear h0 h1 h2
        go_enter Tryd.func97, Tryd.ntmps97
        go_wp2_with (first | (go_at_call 83; with_reducible refine (K0 _).mono ?_; rintro e w' ⟨rfl, rfl⟩) | (go_at_call 83; with_reducible refine (K1 _).mono ?_; rintro e w' ⟨rfl, rfl⟩) | (go_at_call 83; with_reducible refine (K2 _).mono ?_; rintro e w' ⟨rfl, rfl⟩))
        go_ret
        exact ⟨ret_bool HX.out.symm, hb0⟩
set_option maxHeartbeats 1000000 in
theorem l07ChoiceIn_any (l o t : Int) (w : World) (hw : XcWF false l o t) :
    Calls Tryd.prog 67 #[.agg #[.bool false, .int .i8 l, .int .i8 o, .int .i8 t]] w (Says (xcB false l o t) w) := by
  obtain ⟨⟨_, _⟩, ⟨_, _⟩, ⟨_, _⟩⟩ := hw
  have hb0 : Below w.heap.size w (w.alloc (.cells #[.bool false, .int .i8 l, .int .i8 o, .int .i8 t] 75)) := (Below.refl _ _).alloc (Nat.le_refl _) _
  cases h0 : inB (l) (-3) (3)
  · have K0 : ∀ W, Calls Tryd.prog 61 #[.int .i64 (l), .int .i64 (-3), .int .i64 (3)] W fun e w' => e = .returned (.bool false) ∧ W = w' := fun W => by rw [← h0]; exact l00In_any _ _ _ W
    have HX := hide (show (xcB false l o t) = false by simp [h0, xcB])
    clear h0
    go_enter Tryd.func67, Tryd.ntmps67
    go_wp2_with (first | (go_at_call 61; with_reducible refine (K0 _).mono ?_; rintro e w' ⟨rfl, rfl⟩))
    go_ret
    exact ⟨ret_bool HX.out.symm, hb0⟩
  · have K0 : ∀ W, Calls Tryd.prog 61 #[.int .i64 (l), .int .i64 (-3), .int .i64 (3)] W fun e w' => e = .returned (.bool true) ∧ W = w' := fun W => by rw [← h0]; exact l00In_any _ _ _ W
    cases h1 : inB (o) (-1) (1)
    · have K1 : ∀ W, Calls Tryd.prog 61 #[.int .i64 (o), .int .i64 (-1), .int .i64 (1)] W fun e w' => e = .returned (.bool false) ∧ W = w' := fun W => by rw [← h1]; exact l00In_any _ _ _ W
      have HX := hide (show (xcB false l o t) = false by simp [h0, h1, xcB])
      clear h0 h1
      go_enter Tryd.func67, Tryd.ntmps67
      go_wp2_with (first | (go_at_call 61; with_reducible refine (K0 _).mono ?_; rintro e w' ⟨rfl, rfl⟩) | (go_at_call 61; with_reducible refine (K1 _).mono ?_; rintro e w' ⟨rfl, rfl⟩))
      go_ret
      exact ⟨ret_bool HX.out.symm, hb0⟩
    · have K1 : ∀ W, Calls Tryd.prog 61 #[.int .i64 (o), .int .i64 (-1), .int .i64 (1)] W fun e w' => e = .returned (.bool true) ∧ W = w' := fun W => by rw [← h1]; exact l00In_any _ _ _ W
      cases h2 : inB (t) (0) (23)
      · have K2 : ∀ W, Calls Tryd.prog 61 #[.int .i64 (t), .int .i64 (0), .int .i64 (23)] W fun e w' => e = .returned (.bool false) ∧ W = w' := fun W => by rw [← h2]; exact l00In_any _ _ _ W
        have HX := hide (show (xcB false l o t) = false by simp [h0, h1, h2, xcB])
        clear h0 h1 h2
        go_enter Tryd.func67, Tryd.ntmps67
        go_wp2_with (first | (go_at_call 61; with_reducible refine (K0 _).mono ?_; rintro e w' ⟨rfl, rfl⟩) | (go_at_call 61; with_reducible refine (K1 _).mono ?_; rintro e w' ⟨rfl, rfl⟩) | (go_at_call 61; with_reducible refine (K2 _).mono ?_; rintro e w' ⟨rfl, rfl⟩))
        go_ret
        exact ⟨ret_bool HX.out.symm, hb0⟩
      · have K2 : ∀ W, Calls Tryd.prog 61 #[.int .i64 (t), .int .i64 (0), .int .i64 (23)] W fun e w' => e = .returned (.bool true) ∧ W = w' := fun W => by rw [← h2]; exact l00In_any _ _ _ W
        have HX := hide (show (xcB false l o t) = true by simp [h0, h1, h2, xcB])
        clear h0 h1 h2
        go_enter Tryd.func67, Tryd.ntmps67
        go_wp2_with (first | (go_at_call 61; with_reducible refine (K0 _).mono ?_; rintro e w' ⟨rfl, rfl⟩) | (go_at_call 61; with_reducible refine (K1 _).mono ?_; rintro e w' ⟨rfl, rfl⟩) | (go_at_call 61; with_reducible refine (K2 _).mono ?_; rintro e w' ⟨rfl, rfl⟩))
        go_ret
        exact ⟨ret_bool HX.out.symm, hb0⟩
set_option maxHeartbeats 1000000 in
theorem implChoiceAway_any (l o t : Int) (w : World) (hw : XcWF true l o t) :
    Calls Tryd.prog 97 #[.agg #[.bool true, .int .i8 l, .int .i8 o, .int .i8 t]] w (Says (xcB true l o t) w) := by
  have hb0 : Below w.heap.size w (w.alloc (.cells #[.bool true, .int .i8 l, .int .i8 o, .int .i8 t] 75)) := (Below.refl _ _).alloc (Nat.le_refl _) _
  obtain ⟨⟨_, _⟩, ⟨_, _⟩, ⟨_, _⟩⟩ := hw
  have HX := hide (show xcB true l o t = decide (l = 0 ∧ o = 0 ∧ t = 0) by simp [xcB])
  go_enter Tryd.func97, Tryd.ntmps97
  go_wp2
  all_goals go_ret
  all_goals exact ⟨ret_bool (by rw [HX.out]; simp_all), by repeat (first | exact Below.refl _ _ | refine Below.alloc ?_ (by simp <;> omega) _)⟩
set_option maxHeartbeats 1000000 in
theorem l07ChoiceAway_any (l o t : Int) (w : World) (hw : XcWF true l o t) :
    Calls Tryd.prog 67 #[.agg #[.bool true, .int .i8 l, .int .i8 o, .int .i8 t]] w (Says (xcB true l o t) w) := by
  have hb0 : Below w.heap.size w (w.alloc (.cells #[.bool true, .int .i8 l, .int .i8 o, .int .i8 t] 75)) := (Below.refl _ _).alloc (Nat.le_refl _) _
  obtain ⟨⟨_, _⟩, ⟨_, _⟩, ⟨_, _⟩⟩ := hw
  have HX := hide (show xcB true l o t = decide (l = 0 ∧ o = 0 ∧ t = 0) by simp [xcB])
  go_enter Tryd.func67, Tryd.ntmps67
  go_wp2
  all_goals go_ret
  all_goals exact ⟨ret_bool (by rw [HX.out]; simp_all), by repeat (first | exact Below.refl _ _ | refine Below.alloc ?_ (by simp <;> omega) _)⟩
theorem implValidChoice_any (a : Bool) (l o t : Int) (w : World) (hw : XcWF a l o t) :
    Calls Tryd.prog 97 #[.agg #[.bool a, .int .i8 l, .int .i8 o, .int .i8 t]] w (Says (xcB a l o t) w) := by
  cases a
  · exact implChoiceIn_any l o t w hw
  · exact implChoiceAway_any l o t w hw
theorem l07Choice_any (a : Bool) (l o t : Int) (w : World) (hw : XcWF a l o t) :
    Calls Tryd.prog 67 #[.agg #[.bool a, .int .i8 l, .int .i8 o, .int .i8 t]] w (Says (xcB a l o t) w) := by
  cases a
  · exact l07ChoiceIn_any l o t w hw
  · exact l07ChoiceAway_any l o t w hw
end Go.Proofs.YtmjpecneaenlpaaDoor
namespace Go.Proofs.YtmjpecneaenlpaaDoor
open Go.RowKit
/-- three numbers of 16 bits -/
def CoWF (a o s : Int) : Prop := (-32768 ≤ a ∧ a ≤ 32767) ∧ (-32768 ≤ o ∧ o ≤ 32767) ∧ (-32768 ≤ s ∧ s ≤ 32767)
def coB (a o s : Int) : Bool := inB a 0 1000 && inB o 0 1000 && inB s 0 1000
end Go.Proofs.YtmjpecneaenlpaaDoor
