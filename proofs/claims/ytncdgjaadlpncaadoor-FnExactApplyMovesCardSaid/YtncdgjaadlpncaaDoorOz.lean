import Derived.Test.YtncdgjaadlpncaaDoorMrf
namespace Go.Proofs.YtncdgjaadlpncaaDoor
open Go.RowKit
/-- a slice of numbers of the call's own, and a code -/
def OwnZ (w : World) (zs : List Int) (cc : Int) (e : Ending) (w' : World) : Prop := ∃ (A : Option Addr) (c : Nat), e = .returned (.tuple #[.slice A zs.length c, .int .i64 cc]) ∧ w'.ownsRow w.heap.size 2 1 (.slice A zs.length c) zs.length (icells zs) ∧ Below w.heap.size w w'
end Go.Proofs.YtncdgjaadlpncaaDoor
