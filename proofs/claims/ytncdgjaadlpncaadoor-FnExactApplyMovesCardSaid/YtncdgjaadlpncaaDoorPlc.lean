import Derived.Test.YtncdgjaadlpncaaDoorA2s
namespace Go.Proofs.YtncdgjaadlpncaaDoor
open Go.RowKit Go.Shelf
attribute [local go_sem] Oper.semAt_some

theorem pinsL_len (d : Nat → Int) : (pinsL d).length ≤ 4000 := by
  have := pinsT_len d 96
  unfold pinsL
  omega
/-- a fresh pair of numbers, and any code -/
def OwnAZ (w : World) (n : Nat) (zs : List Int) (cc : Int) (e : Ending) (w' : World) : Prop := ∃ (A : Option Addr) (c : Nat), e = .returned (.tuple #[.slice A n c, .int .i64 cc]) ∧ w'.ownsRow w.heap.size 59 2 (.slice A n c) n (icells zs) ∧ Below w.heap.size w w'

end Go.Proofs.YtncdgjaadlpncaaDoor
