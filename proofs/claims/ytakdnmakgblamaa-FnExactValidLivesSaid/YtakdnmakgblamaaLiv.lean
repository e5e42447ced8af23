import Derived.Test.YtakdnmakgblamaaCom
namespace Go.Proofs.Ytakdnmakgblamaa
open Go.RowKit
/-- two numbers of 64 bits -/
def LvWF (x y : Int) : Prop := (-9223372036854775808 ≤ x ∧ x ≤ 9223372036854775807) ∧ (-9223372036854775808 ≤ y ∧ y ≤ 9223372036854775807)
def lvB (x y : Int) : Bool := inB x 1 1000000 && inB y 1 1000000
theorem toLives_any (x y : Int) (w : World) :
    Calls Try.prog 12 #[.agg #[.int .i64 x, .int .i64 y]] w fun e w' => e = .returned (.agg #[.int .i64 x, .int .i64 y]) ∧ Below w.heap.size w w' := by
  go_enter Try.func12, Try.ntmps12
  go_wp2
  refine bodyPost_ret (v := .agg #[.int .i64 x, .int .i64 y]) (by simp [results, Try.results12, go_sem]) rfl ⟨rfl, ?_⟩
  repeat (first | exact Below.refl _ _ | refine Below.alloc ?_ (by simp <;> omega) _ | refine Below.setCell ?_ (by simp) _)
theorem implValidLives_any (x y : Int) (w : World) (_ : LvWF x y) :
    Calls Try.prog 13 #[.agg #[.int .i64 x, .int .i64 y]] w (Says (lvB x y) w) := by
  have hb0 : Below w.heap.size w (w.alloc (.cells #[.int .i64 x, .int .i64 y] 25)) := (Below.refl _ _).alloc (Nat.le_refl _) _
  cases h1 : inB x 1 1000000
  · have K1 : ∀ W, Calls Try.prog 48 #[.int .i64 x, .int .i64 1, .int .i64 1000000] W fun e w' => e = .returned (.bool false) ∧ W = w' := fun W => by rw [← h1]; exact within_any _ _ _ W
    have HX := hide (show lvB x y = false by simp [lvB, h1])
    clear h1
    go_enter Try.func13, Try.ntmps13
    go_wp2_with (go_at_call 48; with_reducible refine (K1 _).mono ?_; rintro e w' ⟨rfl, rfl⟩)
    go_ret
    exact ⟨ret_bool HX.out.symm, hb0⟩
  · have K1 : ∀ W, Calls Try.prog 48 #[.int .i64 x, .int .i64 1, .int .i64 1000000] W fun e w' => e = .returned (.bool true) ∧ W = w' := fun W => by rw [← h1]; exact within_any _ _ _ W
    have K2 : ∀ W, Calls Try.prog 48 #[.int .i64 y, .int .i64 1, .int .i64 1000000] W fun e w' => e = .returned (.bool (lvB x y)) ∧ W = w' := fun W => by rw [show lvB x y = inB y 1 1000000 by simp [lvB, h1]]; exact within_any _ _ _ W
    clear h1
    generalize lvB x y = b at K2 ⊢
    go_enter Try.func13, Try.ntmps13
    go_wp2_with (first | (go_at_call 48; with_reducible refine (K1 _).mono ?_; rintro e w' ⟨rfl, rfl⟩) | (go_at_call 48; with_reducible refine (K2 _).mono ?_; rintro e w' ⟨rfl, rfl⟩))
    go_ret
    exact ⟨rfl, hb0⟩
theorem l06Lives_any (x y : Int) (w : World) :
    Calls Try.prog 47 #[.agg #[.int .i64 x, .int .i64 y]] w (Says (lvB x y) w) := by
  have hb0 : Below w.heap.size w (w.alloc (.cells #[.int .i64 x, .int .i64 y] 25)) := (Below.refl _ _).alloc (Nat.le_refl _) _
  cases h1 : inB x 1 1000000
  · have K1 : ∀ W, Calls Try.prog 69 #[.int .i64 x, .int .i64 1, .int .i64 1000000] W fun e w' => e = .returned (.bool false) ∧ W = w' := fun W => by rw [← h1]; exact l00In_any _ _ _ W
    have HX := hide (show lvB x y = false by simp [lvB, h1])
    clear h1
    go_enter Try.func47, Try.ntmps47
    go_wp2_with (go_at_call 69; with_reducible refine (K1 _).mono ?_; rintro e w' ⟨rfl, rfl⟩)
    go_ret
    exact ⟨ret_bool HX.out.symm, hb0⟩
  · have K1 : ∀ W, Calls Try.prog 69 #[.int .i64 x, .int .i64 1, .int .i64 1000000] W fun e w' => e = .returned (.bool true) ∧ W = w' := fun W => by rw [← h1]; exact l00In_any _ _ _ W
    have K2 : ∀ W, Calls Try.prog 69 #[.int .i64 y, .int .i64 1, .int .i64 1000000] W fun e w' => e = .returned (.bool (lvB x y)) ∧ W = w' := fun W => by rw [show lvB x y = inB y 1 1000000 by simp [lvB, h1]]; exact l00In_any _ _ _ W
    clear h1
    generalize lvB x y = b at K2 ⊢
    go_enter Try.func47, Try.ntmps47
    go_wp2_with (first | (go_at_call 69; with_reducible refine (K1 _).mono ?_; rintro e w' ⟨rfl, rfl⟩) | (go_at_call 69; with_reducible refine (K2 _).mono ?_; rintro e w' ⟨rfl, rfl⟩))
    go_ret
    exact ⟨rfl, hb0⟩
theorem specValidLives_any (x y : Int) (w : World) (_ : LvWF x y) :
    Calls Try.prog 11 #[.agg #[.int .i64 x, .int .i64 y]] w (Says (lvB x y) w) := by
  have hb0 : Below w.heap.size w (w.alloc (.cells #[.int .i64 x, .int .i64 y] 25)) := (Below.refl _ _).alloc (Nat.le_refl _) _
  go_enter Try.func11, Try.ntmps11
  go_wp2_with fail
  refine (l06Lives_any x y _).mono ?_
  rintro e w2 ⟨rfl, hb2⟩
  have hbx := hb0.trans (hb2.mono hb0.size)
  go_wp2
  go_ret
  exact ⟨rfl, hbx⟩
end Go.Proofs.Ytakdnmakgblamaa
