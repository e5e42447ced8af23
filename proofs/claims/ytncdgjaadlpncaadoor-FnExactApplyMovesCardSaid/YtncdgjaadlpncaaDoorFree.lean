import Derived.Test.YtncdgjaadlpncaaDoorGf
namespace Go.Proofs.YtncdgjaadlpncaaDoor
open Go.RowKit

/-- a pin of the track at the step g behind, or g ahead -/
def frAt (S : Nat) (d : Nat → Int) (k t g : Nat) : Bool := pinB d ((k + g) % S) t || pinB d ((k + S - g) % S) t
def freeB (S : Nat) (d : Nat → Int) (r k t : Nat) : Bool := (List.range r).all fun g => !frAt S d k t g
def FRG (S : Nat) (d : Nat → Int) (k t n : Nat) : Prop := ∀ g, g < n → frAt S d k t g = false
theorem FRG_succ {S : Nat} {d : Nat → Int} {k t n : Nat} (h : FRG S d k t n) (h' : frAt S d k t n = false) : FRG S d k t (n + 1) := fun j hj => by
  rcases Nat.lt_or_ge j n with h1 | h1
  · exact h j h1
  · rw [show j = n by omega]; exact h'
theorem freeB_yes {S : Nat} {d : Nat → Int} {r k t : Nat} (h : FRG S d k t r) : freeB S d r k t = true := by
  simp only [freeB, List.all_eq_true, List.mem_range, Bool.not_eq_true']
  exact h
theorem freeB_no {S : Nat} {d : Nat → Int} {r k t g : Nat} (hg : g < r) (h : frAt S d k t g = true) : freeB S d r k t = false := by
  rw [freeB, List.all_eq_false]
  exact ⟨g, List.mem_range.2 hg, by simp [h]⟩
theorem frAt_zero {S : Nat} {d : Nat → Int} {k t : Nat} (hk : k < S) : frAt S d k t 0 = pinB d k t := by
  unfold frAt
  rw [Nat.add_zero, Nat.sub_zero, Nat.add_mod_right, Nat.mod_eq_of_lt hk, Bool.or_self]

set_option maxRecDepth 20000 in
set_option maxHeartbeats 1000000 in
theorem aroundSub_any (S k g : Nat) (A : Option Addr) (n c : Nat) (w : World) (hS : 2 ≤ S ∧ S ≤ 96) (hk : k < S) (hg : g < S) :
    Calls Tryd.prog 71 #[.agg #[.int .i64 S, .slice A n c], .int .i64 ((k : Int) - (g : Int))] w fun e w' => e = .returned (.int .i64 (((k + S - g) % S : Nat) : Int)) ∧ Below w.heap.size w w' := by
  have hb0 : Below w.heap.size w (w.alloc (.cells #[.int .i64 S, .slice A n c] 64)) := (Below.refl _ _).alloc (Nat.le_refl _) _
  have hne : ((S : Int) == 0) = false := by simp; omega
  have h0 : 0 ≤ (k : Int) - (g : Int) + (S : Int) := by omega
  have e1 : (((k + S - g : Nat)) : Int) = (k : Int) - (g : Int) + (S : Int) := by omega
  go_enter Tryd.func71, Tryd.ntmps71
  go_wp2
  go_ret
  exact ⟨ret_int (by rw [Int.natCast_emod, e1]), hb0⟩

end Go.Proofs.YtncdgjaadlpncaaDoor
