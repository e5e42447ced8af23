import Derived.Test.YtncdgjaadlpncaaDoorOz
import Derived.Test.YtncdgjaadlpncaaDoorFps
import Derived.Test.YtncdgjaadlpncaaDoorGd
namespace Go.Proofs.YtncdgjaadlpncaaDoor
open Go.RowKit
theorem OwnP.z {w w' : World} {xs : List Nat} {cc : Int} {e : Ending} (h : OwnP w xs cc e w') : OwnZ w (xs.map fun (x : Nat) => (x : Int)) cc e w' := by
  obtain ⟨A, c, h1, h2, h3⟩ := h
  exact ⟨A, c, by rw [List.length_map]; exact h1, by rw [List.length_map, ← tcells_icells]; exact h2, h3⟩
theorem fpL_len (s : Int) (l : List (Int × Int)) (d : Nat → Int) (x : Int) (hs : -32768 ≤ s ∧ s ≤ 32767) : (fpL s l d x).length ≤ 1048576 := by
  unfold fpL
  split
  · have := frl_len s.toNat d (hRe l x.toNat).toNat x.toNat s.toNat; omega
  · simp
end Go.Proofs.YtncdgjaadlpncaaDoor
