import Derived.Test.YtnngbnhdcknfnaaPfo
namespace Go.Proofs.Ytnngbnhdcknfnaa
open Go.RowKit

/-- two numbers come back -/
def Two (v c : Int) (w : World) (e : Ending) (w' : World) : Prop := e = .returned (.tuple #[.int .i64 v, .int .i64 c]) ∧ Below w.heap.size w w'
theorem isQuarter_any (q : Int) (w : World) : Calls Try.prog 67 #[.int .i64 q] w fun e w' => e = .returned (.bool (inB q 0 47)) ∧ w = w' := by
  go_enter Try.func67, Try.ntmps67
  go_wp2_with (go_at_call 64; refine (within_any _ _ _ _).mono ?_; rintro e w' ⟨rfl, rfl⟩)
  go_ret
  exact ⟨rfl, rfl⟩
theorem l04Quarter_any (q : Int) (w : World) : Calls Try.prog 66 #[.int .i64 q] w fun e w' => e = .returned (.bool (inB q 0 47)) ∧ w = w' := by
  go_enter Try.func66, Try.ntmps66
  go_wp2_with (go_at_call 61; refine (l00In_any _ _ _ _).mono ?_; rintro e w' ⟨rfl, rfl⟩)
  go_ret
  exact ⟨rfl, rfl⟩
theorem hasStepP_any (s x : Int) (A : Option Addr) (n c : Nat) (w : World) (hs : -32768 ≤ s ∧ s ≤ 32767) :
    Calls Try.prog 71 #[.agg #[.int .i64 s, .slice A n c], .int .i64 x] w (Says (inB x 0 (s - 1)) w) := by
  have hb0 : Below w.heap.size w (w.alloc (.cells #[.int .i64 s, .slice A n c] 82)) := (Below.refl _ _).alloc (Nat.le_refl _) _
  obtain ⟨h1, h2⟩ := hs
  go_enter Try.func71, Try.ntmps71
  go_wp2_with (go_at_call 64; refine (within_any _ _ _ _).mono ?_; rintro e w' ⟨rfl, rfl⟩)
  go_ret
  exact ⟨rfl, hb0⟩
/-- a step around -/
def arI (s x : Int) : Int := x % s
theorem arI_in {s x : Int} (hs : 2 ≤ s) : 0 ≤ arI s x ∧ arI s x < s := ⟨Int.emod_nonneg _ (by omega), Int.emod_lt_of_pos _ (by omega)⟩
theorem aroundP_any (s x : Int) (A : Option Addr) (n c : Nat) (w : World) (hs : 2 ≤ s ∧ s ≤ 96) (hx : 0 ≤ x + s ∧ x ≤ 200000) :
    Calls Try.prog 89 #[.agg #[.int .i64 s, .slice A n c], .int .i64 x] w (SaysI' (arI s x) w) := by
  have hb0 : Below w.heap.size w (w.alloc (.cells #[.int .i64 s, .slice A n c] 82)) := (Below.refl _ _).alloc (Nat.le_refl _) _
  obtain ⟨h1, h2⟩ := hs
  obtain ⟨h3, h4⟩ := hx
  have hne : (s == 0) = false := by simp; omega
  have hti : (x + s).tmod s = x % s := by rw [Int.tmod_eq_emod_of_nonneg h3, Int.add_emod_right]
  have hin := arI_in (s := s) (x := x) h1
  have hw1 : IntKind.i64.wrap (x + s) = x + s := IntWalk.i64_in _ (by omega)
  have hw2 : IntKind.i64.wrap (x % s) = x % s := IntWalk.i64_in _ (by unfold arI at hin; omega)
  clear hin
  go_enter Try.func89, Try.ntmps89
  go_wp2
  go_ret
  exact ⟨rfl, hb0⟩
end Go.Proofs.Ytnngbnhdcknfnaa
