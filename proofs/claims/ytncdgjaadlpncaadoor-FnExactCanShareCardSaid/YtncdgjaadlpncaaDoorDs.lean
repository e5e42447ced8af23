import Derived.Test.YtncdgjaadlpncaaDoorGd
import Derived.Test.YtncdgjaadlpncaaDoorGf
namespace Go.Proofs.YtncdgjaadlpncaaDoor
open Go.RowKit

/-- under an address lie drums, one behind the other -/
def DsA (w : World) (A : Option Addr) (ds : List (Nat → Int)) : Prop := ∀ k, k < ds.length → ∃ b o, A = some ⟨b, o, none⟩ ∧ b < w.heap.size ∧ w.rangeAt b (o + k * 96) (dv (ds.getD k fun _ => 0))
def DsWF (ds : List (Nat → Int)) : Prop := ∀ j, j < ds.length → DWF (ds.getD j (fun _ => 0))
theorem DsA.below {w w' : World} {A : Option Addr} {ds : List (Nat → Int)} (h : DsA w A ds) (hb : Below w.heap.size w w') : DsA w' A ds := fun k hk => by
  obtain ⟨b, o, h1, h2, h3⟩ := h k hk
  exact ⟨b, o, h1, Nat.lt_of_lt_of_le h2 hb.size, rangeAt_keep h3 h2 hb⟩
theorem infoDr : (Tryd.prog.info? 31).map (fun i => (i.zero, i.size, i.bytes)) = some (some (.agg za), 96, 384) := by kernel_rfl

theorem there_keep {w w' : World} {g o n : Nat} (h : w.there g o n) (hg : g < w.heap.size) (hb : Below w.heap.size w w') : w'.there g o n := fun j hj => by
  obtain ⟨h1, h2⟩ := h j hj
  refine ⟨by rw [hb.cell (p := ⟨g, o + j, none⟩) hg]; exact h1, ?_⟩
  simp only [World.frozen?, hb.block g hg] at h2 ⊢
  exact h2
theorem there_part {w : World} {g n o m : Nat} (h : w.there g 0 n) (hm : o + m ≤ n) : w.there g o m := fun j hj => by
  have := h (o + j) (by omega)
  rwa [Nat.zero_add] at this

end Go.Proofs.YtncdgjaadlpncaaDoor
