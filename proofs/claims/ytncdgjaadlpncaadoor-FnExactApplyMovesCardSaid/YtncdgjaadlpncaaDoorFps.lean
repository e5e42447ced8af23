import Derived.Test.YtncdgjaadlpncaaDoorFree
namespace Go.Proofs.YtncdgjaadlpncaaDoor
open Go.RowKit

/-- the free places of a track, ahead of k -/
def frl (S : Nat) (d : Nat → Int) (r t : Nat) (k : Nat) : List Nat := (List.range k).filter fun i => freeB S d r i t
theorem frl_len (S : Nat) (d : Nat → Int) (r t k : Nat) : (frl S d r t k).length ≤ k := by simpa [frl] using List.length_filter_le (fun i => freeB S d r i t) (List.range k)
theorem frl_yes {S : Nat} {d : Nat → Int} {r t k : Nat} (h : freeB S d r k t = true) : frl S d r t (k + 1) = frl S d r t k ++ [k] := by simp [frl, List.range_succ, List.filter_append, h]
theorem frl_no {S : Nat} {d : Nat → Int} {r t k : Nat} (h : freeB S d r k t = false) : frl S d r t (k + 1) = frl S d r t k := by simp [frl, List.range_succ, List.filter_append, h]
/-- a slice of the call's own and a code come back -/
def OwnP (w : World) (xs : List Nat) (cc : Int) (e : Ending) (w' : World) : Prop := ∃ (A : Option Addr) (c : Nat), e = .returned (.tuple #[.slice A xs.length c, .int .i64 cc]) ∧ w'.ownsRow w.heap.size 2 1 (.slice A xs.length c) xs.length (tcells xs) ∧ Below w.heap.size w w'
def fpC (s : Int) (l : List (Int × Int)) (d : Nat → Int) (x : Int) : Int := cod3 (askB s l d) (inB x 0 ((l.length : Int) - 1))
def fpL (s : Int) (l : List (Int × Int)) (d : Nat → Int) (x : Int) : List Nat := if fpC s l d x = 0 then frl s.toNat d (hRe l x.toNat).toNat x.toNat s.toNat else []
theorem own_empty {w : World} {base : Nat} (h : base ≤ w.heap.size) : (w.alloc (.cells #[] 2)).ownsRow base 2 1 (.slice (some ⟨w.heap.size, 0, none⟩) 0 0) 0 [] :=
  ⟨rfl, Or.inr ⟨w.heap.size, 0, #[], rfl, h, heap_alloc_new _ _, Nat.le_refl _, Nat.zero_le _, rfl, rfl⟩⟩
theorem pl_step {s x : Int} {l : List (Int × Int)} {d : Nat → Int} (h : askB s l d = true) : plB s l.length 0 x = inB x 0 ((l.length : Int) - 1) := by
  have hl := (ask_all h).1
  have h2 : inB 0 0 (s - 1) = true := by simp [inB]; omega
  rw [plB, h2, Bool.true_and]

end Go.Proofs.YtncdgjaadlpncaaDoor
