import Derived.Test.YtcocfnjbgceidaaDoorFre
import Derived.Test.YtcocfnjbgceidaaDoorGag
import Derived.Deep.RegionHeld3
import Derived.Maps.AppendAt
namespace Go.Proofs.YtcocfnjbgceidaaDoor
open Go.RowKit
/-- szFrame from any number on -/
theorem szFrame_at_small (s : Int) (A : Option Addr) (n c : Nat) (x : Int) (h0 : 0 ≤ x) (h1 : x ≤ 1048576) (hm : n ≤ maxLen) (hs : (n : Int) ≤ x) (w : World) :
    Calls Tryd.prog 4 #[.agg #[.int .i16 s, .slice A n c], .int .i64 x] w fun e w' => e = .returned (.int .i64 (x - n)) ∧ Below w.heap.size w w' := by
  have hb0 : Below w.heap.size w (w.alloc (.cells #[.int .i16 s, .slice A n c] 25)) := (Below.refl _ _).alloc (Nat.le_refl _) _
  have hlt : decide (x - (n : Int) < 0) = false := by simp; omega
  go_enter Tryd.func4, Tryd.ntmps4
  go_wp2_with (go_at_call 14; refine (szHammerS_small A n c x h0 h1 hm hs _).mono ?_; rintro e w' ⟨rfl, rfl⟩)
  go_ret
  exact ⟨rfl, hb0⟩
theorem szFrame_at_big (s : Int) (A : Option Addr) (n c : Nat) (x : Int) (h0 : 0 ≤ x) (h1 : x ≤ 1048576) (hm : n ≤ maxLen) (hs : x < (n : Int)) (w : World) :
    Calls Tryd.prog 4 #[.agg #[.int .i16 s, .slice A n c], .int .i64 x] w fun e w' => e = .returned (.int .i64 (-1)) ∧ Below w.heap.size w w' := by
  have hb0 : Below w.heap.size w (w.alloc (.cells #[.int .i16 s, .slice A n c] 25)) := (Below.refl _ _).alloc (Nat.le_refl _) _
  go_enter Tryd.func4, Tryd.ntmps4
  go_wp2_with (go_at_call 14; refine (szHammerS_big A n c x h0 h1 hm hs _).mono ?_; rintro e w' ⟨rfl, rfl⟩)
  go_ret
  exact ⟨rfl, hb0⟩
end Go.Proofs.YtcocfnjbgceidaaDoor
namespace Go.Proofs.YtcocfnjbgceidaaDoor
open Go.RowKit


/-- the set of the first k hammers' pitches, as the walk spells it -/
def belTo (l : List (Int × Int)) : Nat → Int
  | 0 => 0
  | k + 1 => bits .or .u64 (belTo l k) (IntKind.u64.wrap (2 ^ (hPi l k).toNat))
def belI (l : List (Int × Int)) : Int := belTo l l.length
theorem HG.at {s : Int} {l : List (Int × Int)} {n k : Nat} (h : HG s l n) (hk : k < n) : (0 ≤ hPi l k ∧ hPi l k ≤ 47) ∧ (1 ≤ hRe l k ∧ hRe l k ≤ 20 ∧ hRe l k ≤ s) := by
  have := h k hk
  simp only [hamB, inB, Bool.and_eq_true, decide_eq_true_eq] at this
  have hm : mnI s ≤ 20 ∧ mnI s ≤ s := by unfold mnI; split <;> omega
  omega

end Go.Proofs.YtcocfnjbgceidaaDoor
namespace Go.Proofs.YtcocfnjbgceidaaDoor
open Go.RowKit

/-- the tracks ahead of k whose hammer has a pitch -/
def trk (l : List (Int × Int)) (p : Int) (k : Nat) : List Nat := (List.range k).filter fun j => decide (hPi l j = p)
def tcells (ts : List Nat) : List Value := ts.map fun (j : Nat) => .int .i64 (j : Int)
theorem trk_len (l : List (Int × Int)) (p : Int) (k : Nat) : (trk l p k).length ≤ k := by simpa [trk] using List.length_filter_le (fun j => decide (hPi l j = p)) (List.range k)
theorem trk_yes {l : List (Int × Int)} {p : Int} {k : Nat} (h : hPi l k = p) : trk l p (k + 1) = trk l p k ++ [k] := by simp [trk, List.range_succ, List.filter_append, h]
theorem trk_no {l : List (Int × Int)} {p : Int} {k : Nat} (h : ¬ hPi l k = p) : trk l p (k + 1) = trk l p k := by simp [trk, List.range_succ, List.filter_append, h]
def hamN (l : List (Int × Int)) (p : Int) : Nat := (trk l p l.length).length

/-- a slice of the call's own comes back -/
def OwnL (w : World) (xs : List Nat) (e : Ending) (w' : World) : Prop := ∃ (A : Option Addr) (c : Nat), e = .returned (.slice A xs.length c) ∧ w'.ownsRow w.heap.size 2 1 (.slice A xs.length c) xs.length (tcells xs) ∧ Below w.heap.size w w'
theorem own_shape {w : World} {base n : Nat} {e : TypeId} {size : Nat} {v : Value} {xs : List Value} (h : w.ownsRow base e size v n xs) : ∃ A c, v = .slice A n c := by
  rcases h.2 with ⟨h1, h2⟩ | ⟨g, cap, cur, h1, _⟩
  · exact ⟨none, 0, by rw [h1, h2]⟩
  · exact ⟨_, _, h1⟩
/-- ErrInvalid, then ErrRange -/
def cod3 (a b : Bool) : Int := if a then (if b then 0 else 2) else 1
end Go.Proofs.YtcocfnjbgceidaaDoor
