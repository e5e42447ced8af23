import Derived.Test.YtcdjfflmgjpobaaTui
namespace Go.Proofs.Ytcdjfflmgjpobaa
open Go.RowKit

/-- a pin of the track at the step g behind, or g ahead -/
def frAt (S : Nat) (d : Nat → Int) (k t g : Nat) : Bool := pinB d ((k + g) % S) t || pinB d ((k + S - g) % S) t
def freeB (S : Nat) (d : Nat → Int) (r k t : Nat) : Bool := (List.range r).all fun g => !frAt S d k t g
def FRG (S : Nat) (d : Nat → Int) (k t n : Nat) : Prop := ∀ g, g < n → frAt S d k t g = false
theorem FRG_succ {S : Nat} {d : Nat → Int} {k t n : Nat} (h : FRG S d k t n) (h' : frAt S d k t n = false) : FRG S d k t (n + 1) := fun j hj => by
  rcases Nat.lt_or_ge j n with h1 | h1
  · exact h j h1
  · rw [show j = n by omega]; exact h'
theorem freeB_yes {S : Nat} {d : Nat → Int} {r k t : Nat} (h : FRG S d k t r) : freeB S d r k t = true := by
  simp only [freeB, List.all_eq_true, List.mem_range, Bool.not_eq_true']
  exact h
theorem freeB_no {S : Nat} {d : Nat → Int} {r k t g : Nat} (hg : g < r) (h : frAt S d k t g = true) : freeB S d r k t = false := by
  rw [freeB, List.all_eq_false]
  exact ⟨g, List.mem_range.2 hg, by simp [h]⟩
theorem frAt_zero {S : Nat} {d : Nat → Int} {k t : Nat} (hk : k < S) : frAt S d k t 0 = pinB d k t := by
  unfold frAt
  rw [Nat.add_zero, Nat.sub_zero, Nat.add_mod_right, Nat.mod_eq_of_lt hk, Bool.or_self]

end Go.Proofs.Ytcdjfflmgjpobaa
