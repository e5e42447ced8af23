import Derived.Test.YtcepjiglhlmgdaaDoorSl
import Derived.Deep.RegionHeld3
import Derived.Test.YtcepjiglhlmgdaaDoorGat
import Derived.Test.YtcepjiglhlmgdaaDoorGar
namespace Go.Proofs.YtcepjiglhlmgdaaDoor
open Go.RowKit

def dstN (S B k : Nat) : Nat := if k + B < S then k + B else k + B - S
def srcN (S B i : Nat) : Nat := if B ≤ i then i - B else i + S - B
theorem dst_lt {S B k : Nat} (hk : k < S) (hB : B < S) : dstN S B k < S := by unfold dstN; split <;> omega
theorem src_dst {S B k i : Nat} (hk : k < S) (hB : B < S) (hi : i < S) : srcN S B i = k ↔ i = dstN S B k := by
  unfold srcN dstN; split <;> split <;> omega
theorem src_lt {S B i : Nat} (hB : B < S) (hi : i < S) : srcN S B i < S := by unfold srcN; split <;> omega
theorem mod_dst {S B k : Nat} (hk : k < S) (hB : B < S) : (k + B) % S = dstN S B k := by
  unfold dstN
  split
  · exact Nat.mod_eq_of_lt ‹_›
  · rw [Nat.mod_eq_sub_mod (by omega)]; exact Nat.mod_eq_of_lt (by omega)
theorem mod_dst' {S B k : Nat} (hk : k < S) (hB : B < S) : (k + B + S) % S = dstN S B k := by
  rw [Nat.add_mod_right]; exact mod_dst hk hB
/-- the turned drum, its first k steps laid -/
def turT (S B : Nat) (d : Nat → Int) (k : Nat) (i : Nat) : Int := if i < S ∧ srcN S B i < k then d (srcN S B i) else 0
theorem turT_step {S B k : Nat} {d : Nat → Int} (hk : k < S) (hB : B < S) (i : Nat) : (if i = dstN S B k then d k else turT S B d k i) = turT S B d (k + 1) i := by
  unfold turT
  by_cases e : i = dstN S B k
  · have hi : i < S := e ▸ dst_lt hk hB
    have hs := (src_dst hk hB hi).2 e
    rw [if_pos e, hs, if_pos ⟨hi, by omega⟩]
  · rw [if_neg e]
    by_cases hi : i < S
    · have hs : srcN S B i ≠ k := fun h => e ((src_dst hk hB hi).1 h)
      by_cases h2 : srcN S B i < k
      · rw [if_pos ⟨hi, h2⟩, if_pos ⟨hi, by omega⟩]
      · rw [if_neg (fun h => h2 h.2), if_neg (fun h => by have := h.2; omega)]
    · rw [if_neg (fun h => hi h.1), if_neg (fun h => hi h.1)]
theorem turT_zero (S B : Nat) (d : Nat → Int) : turT S B d 0 = fun _ => 0 := by funext i; simp [turT]
def turC (s : Int) (l : List (Int × Int)) (d : Nat → Int) (x : Int) : Int := cod3 (askB s l d) (inB x 0 (s - 1))
def turD (s : Int) (l : List (Int × Int)) (d : Nat → Int) (x : Int) : Nat → Int := if turC s l d x = 0 then turT s.toNat x.toNat d s.toNat else fun _ => 0

theorem pl_zero {s x : Int} {l : List (Int × Int)} {d : Nat → Int} (h : askB s l d = true) : plB s l.length x 0 = inB x 0 (s - 1) := by
  have hl := (ask_all h).2.1.1
  have h2 : inB 0 0 ((l.length : Int) - 1) = true := by simp [inB]; omega
  rw [plB, h2, Bool.and_true]
end Go.Proofs.YtcepjiglhlmgdaaDoor
namespace Go.Proofs.YtcepjiglhlmgdaaDoor
open Go.RowKit

end Go.Proofs.YtcepjiglhlmgdaaDoor
namespace Go.Proofs.YtcepjiglhlmgdaaDoor
open Go.RowKit

/-- a pin of the track at the step g behind, or g ahead -/
def frAt (S : Nat) (d : Nat → Int) (k t g : Nat) : Bool := pinB d ((k + g) % S) t || pinB d ((k + S - g) % S) t
def freeB (S : Nat) (d : Nat → Int) (r k t : Nat) : Bool := (List.range r).all fun g => !frAt S d k t g
def FRG (S : Nat) (d : Nat → Int) (k t n : Nat) : Prop := ∀ g, g < n → frAt S d k t g = false
theorem FRG_succ {S : Nat} {d : Nat → Int} {k t n : Nat} (h : FRG S d k t n) (h' : frAt S d k t n = false) : FRG S d k t (n + 1) := fun j hj => by
  rcases Nat.lt_or_ge j n with h1 | h1
  · exact h j h1
  · rw [show j = n by omega]; exact h'
theorem freeB_yes {S : Nat} {d : Nat → Int} {r k t : Nat} (h : FRG S d k t r) : freeB S d r k t = true := by
  simp only [freeB, List.all_eq_true, List.mem_range, Bool.not_eq_true']
  exact h
theorem freeB_no {S : Nat} {d : Nat → Int} {r k t g : Nat} (hg : g < r) (h : frAt S d k t g = true) : freeB S d r k t = false := by
  rw [freeB, List.all_eq_false]
  exact ⟨g, List.mem_range.2 hg, by simp [h]⟩
theorem frAt_zero {S : Nat} {d : Nat → Int} {k t : Nat} (hk : k < S) : frAt S d k t 0 = pinB d k t := by
  unfold frAt
  rw [Nat.add_zero, Nat.sub_zero, Nat.add_mod_right, Nat.mod_eq_of_lt hk, Bool.or_self]

end Go.Proofs.YtcepjiglhlmgdaaDoor
namespace Go.Proofs.YtcepjiglhlmgdaaDoor
open Go.RowKit

/-- the free places of a track, ahead of k -/
def frl (S : Nat) (d : Nat → Int) (r t : Nat) (k : Nat) : List Nat := (List.range k).filter fun i => freeB S d r i t
theorem frl_len (S : Nat) (d : Nat → Int) (r t k : Nat) : (frl S d r t k).length ≤ k := by simpa [frl] using List.length_filter_le (fun i => freeB S d r i t) (List.range k)
theorem frl_yes {S : Nat} {d : Nat → Int} {r t k : Nat} (h : freeB S d r k t = true) : frl S d r t (k + 1) = frl S d r t k ++ [k] := by simp [frl, List.range_succ, List.filter_append, h]
theorem frl_no {S : Nat} {d : Nat → Int} {r t k : Nat} (h : freeB S d r k t = false) : frl S d r t (k + 1) = frl S d r t k := by simp [frl, List.range_succ, List.filter_append, h]
/-- a slice of the call's own and a code come back -/
def OwnP (w : World) (xs : List Nat) (cc : Int) (e : Ending) (w' : World) : Prop := ∃ (A : Option Addr) (c : Nat), e = .returned (.tuple #[.slice A xs.length c, .int .i64 cc]) ∧ w'.ownsRow w.heap.size 2 1 (.slice A xs.length c) xs.length (tcells xs) ∧ Below w.heap.size w w'
def fpC (s : Int) (l : List (Int × Int)) (d : Nat → Int) (x : Int) : Int := cod3 (askB s l d) (inB x 0 ((l.length : Int) - 1))
def fpL (s : Int) (l : List (Int × Int)) (d : Nat → Int) (x : Int) : List Nat := if fpC s l d x = 0 then frl s.toNat d (hRe l x.toNat).toNat x.toNat s.toNat else []
theorem own_empty {w : World} {base : Nat} (h : base ≤ w.heap.size) : (w.alloc (.cells #[] 2)).ownsRow base 2 1 (.slice (some ⟨w.heap.size, 0, none⟩) 0 0) 0 [] :=
  ⟨rfl, Or.inr ⟨w.heap.size, 0, #[], rfl, h, heap_alloc_new _ _, Nat.le_refl _, Nat.zero_le _, rfl, rfl⟩⟩
theorem pl_step {s x : Int} {l : List (Int × Int)} {d : Nat → Int} (h : askB s l d = true) : plB s l.length 0 x = inB x 0 ((l.length : Int) - 1) := by
  have hl := (ask_all h).1
  have h2 : inB 0 0 (s - 1) = true := by simp [inB]; omega
  rw [plB, h2, Bool.true_and]

end Go.Proofs.YtcepjiglhlmgdaaDoor
namespace Go.Proofs.YtcepjiglhlmgdaaDoor
open Go.RowKit
theorem OwnP.z {w w' : World} {xs : List Nat} {cc : Int} {e : Ending} (h : OwnP w xs cc e w') : OwnZ w (xs.map fun (x : Nat) => (x : Int)) cc e w' := by
  obtain ⟨A, c, h1, h2, h3⟩ := h
  exact ⟨A, c, by rw [List.length_map]; exact h1, by rw [List.length_map, ← tcells_icells]; exact h2, h3⟩
theorem fpL_len (s : Int) (l : List (Int × Int)) (d : Nat → Int) (x : Int) (hs : -32768 ≤ s ∧ s ≤ 32767) : (fpL s l d x).length ≤ 1048576 := by
  unfold fpL
  split
  · have := frl_len s.toNat d (hRe l x.toNat).toNat x.toNat s.toNat; omega
  · simp
end Go.Proofs.YtcepjiglhlmgdaaDoor
