import Derived.Test.YtncdgjaadlpncaaDoorBit
import Derived.Test.YtncdgjaadlpncaaDoorOwz
namespace Go.Proofs.YtncdgjaadlpncaaDoor
open Go.RowKit

theorem l03Bit_any (t : Nat) (w : World) (ht : t < 24) :
    Calls Tryd.prog 27 #[.int .i64 t] w fun e w' => e = .returned (.int .u32 ((2 : Int) ^ t)) ∧ w = w' := by
  have hp : (2 : Int) ^ t % 4294967296 = (2 : Int) ^ t := (pow_nat t (by omega)).trans (by push_cast; rfl)
  go_enter Tryd.func27, Tryd.ntmps27
  go_wp2
  go_ret
  exact ⟨rfl, rfl⟩

theorem own_nil' {w : World} {base : Nat} : w.ownsRow base 2 1 (.slice none 0 0) 0 [] := ⟨rfl, Or.inl ⟨rfl, rfl⟩⟩

end Go.Proofs.YtncdgjaadlpncaaDoor
