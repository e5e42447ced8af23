import Derived.Test.YtcocfnjbgceidaaCom
namespace Go.Proofs.Ytcocfnjbgceidaa
open Go.RowKit
/-- three numbers of 16 bits -/
def CoWF (a o s : Int) : Prop := (-32768 ≤ a ∧ a ≤ 32767) ∧ (-32768 ≤ o ∧ o ≤ 32767) ∧ (-32768 ≤ s ∧ s ≤ 32767)
def coB (a o s : Int) : Bool := inB a 0 1000 && inB o 0 1000 && inB s 0 1000
theorem toCosts_any (a o s : Int) (w : World) :
    Calls Try.prog 12 #[.agg #[.int .i16 a, .int .i16 o, .int .i16 s]] w fun e w' => e = .returned (.agg #[.int .i16 a, .int .i16 o, .int .i16 s]) ∧ Below w.heap.size w w' := by
  go_enter Try.func12, Try.ntmps12
  go_wp2
  refine bodyPost_ret (v := .agg #[.int .i16 a, .int .i16 o, .int .i16 s]) (by simp [results, Try.results12, go_sem]) rfl ⟨rfl, ?_⟩
  repeat (first | exact Below.refl _ _ | refine Below.alloc ?_ (by simp <;> omega) _ | refine Below.setCell ?_ (by simp) _)
theorem l07Costs_any (a o s : Int) (w : World) (hw : CoWF a o s) :
    Calls Try.prog 54 #[.agg #[.int .i16 a, .int .i16 o, .int .i16 s]] w (Says (coB a o s) w) := by
  obtain ⟨⟨_, _⟩, ⟨_, _⟩, ⟨_, _⟩⟩ := hw
  have hb0 : Below w.heap.size w (w.alloc (.cells #[.int .i16 a, .int .i16 o, .int .i16 s] 26)) := (Below.refl _ _).alloc (Nat.le_refl _) _
  cases h0 : inB (a) (0) (1000)
  · have K0 : ∀ W, Calls Try.prog 86 #[.int .i64 (a), .int .i64 (0), .int .i64 (1000)] W fun e w' => e = .returned (.bool false) ∧ W = w' := fun W => by rw [← h0]; exact l00In_any _ _ _ W
    have HX := hide (show (coB a o s) = false by simp [h0, coB])
    clear h0
    go_enter Try.func54, Try.ntmps54
    go_wp2_with (first | (go_at_call 86; with_reducible refine (K0 _).mono ?_; rintro e w' ⟨rfl, rfl⟩))
    go_ret
    exact ⟨ret_bool HX.out.symm, hb0⟩
  · have K0 : ∀ W, Calls Try.prog 86 #[.int .i64 (a), .int .i64 (0), .int .i64 (1000)] W fun e w' => e = .returned (.bool true) ∧ W = w' := fun W => by rw [← h0]; exact l00In_any _ _ _ W
    cases h1 : inB (o) (0) (1000)
    · have K1 : ∀ W, Calls Try.prog 86 #[.int .i64 (o), .int .i64 (0), .int .i64 (1000)] W fun e w' => e = .returned (.bool false) ∧ W = w' := fun W => by rw [← h1]; exact l00In_any _ _ _ W
      have HX := hide (show (coB a o s) = false by simp [h0, h1, coB])
      clear h0 h1
      go_enter Try.func54, Try.ntmps54
      go_wp2_with (first | (go_at_call 86; with_reducible refine (K0 _).mono ?_; rintro e w' ⟨rfl, rfl⟩) | (go_at_call 86; with_reducible refine (K1 _).mono ?_; rintro e w' ⟨rfl, rfl⟩))
      go_ret
      exact ⟨ret_bool HX.out.symm, hb0⟩
    · have K1 : ∀ W, Calls Try.prog 86 #[.int .i64 (o), .int .i64 (0), .int .i64 (1000)] W fun e w' => e = .returned (.bool true) ∧ W = w' := fun W => by rw [← h1]; exact l00In_any _ _ _ W
      cases h2 : inB (s) (0) (1000)
      · have K2 : ∀ W, Calls Try.prog 86 #[.int .i64 (s), .int .i64 (0), .int .i64 (1000)] W fun e w' => e = .returned (.bool false) ∧ W = w' := fun W => by rw [← h2]; exact l00In_any _ _ _ W
        have HX := hide (show (coB a o s) = false by simp [h0, h1, h2, coB])
        clear h0 h1 h2
        go_enter Try.func54, Try.ntmps54
        go_wp2_with (first | (go_at_call 86; with_reducible refine (K0 _).mono ?_; rintro e w' ⟨rfl, rfl⟩) | (go_at_call 86; with_reducible refine (K1 _).mono ?_; rintro e w' ⟨rfl, rfl⟩) | (go_at_call 86; with_reducible refine (K2 _).mono ?_; rintro e w' ⟨rfl, rfl⟩))
        go_ret
        exact ⟨ret_bool HX.out.symm, hb0⟩
      · have K2 : ∀ W, Calls Try.prog 86 #[.int .i64 (s), .int .i64 (0), .int .i64 (1000)] W fun e w' => e = .returned (.bool true) ∧ W = w' := fun W => by rw [← h2]; exact l00In_any _ _ _ W
        have HX := hide (show (coB a o s) = true by simp [h0, h1, h2, coB])
        clear h0 h1 h2
        go_enter Try.func54, Try.ntmps54
        go_wp2_with (first | (go_at_call 86; with_reducible refine (K0 _).mono ?_; rintro e w' ⟨rfl, rfl⟩) | (go_at_call 86; with_reducible refine (K1 _).mono ?_; rintro e w' ⟨rfl, rfl⟩) | (go_at_call 86; with_reducible refine (K2 _).mono ?_; rintro e w' ⟨rfl, rfl⟩))
        go_ret
        exact ⟨ret_bool HX.out.symm, hb0⟩
theorem specValidCosts_any (a o s : Int) (w : World) (hw : CoWF a o s) :
    Calls Try.prog 11 #[.agg #[.int .i16 a, .int .i16 o, .int .i16 s]] w (Says (coB a o s) w) := by
  have hb0 : Below w.heap.size w (w.alloc (.cells #[.int .i16 a, .int .i16 o, .int .i16 s] 26)) := (Below.refl _ _).alloc (Nat.le_refl _) _
  go_enter Try.func11, Try.ntmps11
  go_wp2_with fail
  refine (l07Costs_any a o s _ hw).mono ?_
  rintro e w2 ⟨rfl, hb2⟩
  have hbx := hb0.trans (hb2.mono hb0.size)
  go_wp2
  go_ret
  exact ⟨rfl, hbx⟩
end Go.Proofs.Ytcocfnjbgceidaa
