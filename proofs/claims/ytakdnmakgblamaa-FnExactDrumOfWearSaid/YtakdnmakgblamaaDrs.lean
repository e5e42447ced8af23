import Derived.Test.YtakdnmakgblamaaDrm
import Derived.Test.YtakdnmakgblamaaHfr
namespace Go.Proofs.Ytakdnmakgblamaa
open Go.RowKit

/-- the pins of a step are where there may be pins -/
def stepB (s : Int) (n : Nat) (d : Nat → Int) (k : Nat) : Bool := decide (d k / 2 ^ n = 0) && (decide ((k : Int) < s) || decide (d k = 0))
def drB (s : Int) (n : Nat) (d : Nat → Int) : Bool := (List.range 96).all (stepB s n d)
def DG (s : Int) (n : Nat) (d : Nat → Int) (k : Nat) : Prop := ∀ j, j < k → stepB s n d j = true
theorem DG_succ {s : Int} {n : Nat} {d : Nat → Int} {k : Nat} (h : DG s n d k) (h' : stepB s n d k = true) : DG s n d (k + 1) := fun j hj => by
  rcases Nat.lt_or_ge j k with h1 | h1
  · exact h j h1
  · rw [show j = k by omega]; exact h'
theorem drB_yes {s : Int} {n : Nat} {d : Nat → Int} (h : DG s n d 96) : drB s n d = true := by simp only [drB, List.all_eq_true, List.mem_range]; exact h
theorem drB_no {s : Int} {n : Nat} {d : Nat → Int} {k : Nat} (hk : k < 96) (h : stepB s n d k = false) : drB s n d = false := by
  rw [drB, List.all_eq_false]
  exact ⟨k, List.mem_range.2 hk, by simp [h]⟩
theorem drB_all {s : Int} {n : Nat} {d : Nat → Int} (h : drB s n d = true) : DG s n d 96 := fun j hj => by
  simp only [drB, List.all_eq_true, List.mem_range] at h
  exact h j hj
def DWF (d : Nat → Int) : Prop := ∀ i, i < 96 → 0 ≤ d i ∧ d i ≤ 4294967295

theorem Dr.range0 {w : World} {g : Nat} {t : TypeId} {d : Nat → Int} (h : Dr w g t d) : w.rangeAt g 0 (dv d) := by
  intro i v hv
  have hi : i < 96 := by
    rcases Nat.lt_or_ge i 96 with h | h
    · exact h
    · rw [List.getElem?_eq_none (by rw [dv_length]; exact h)] at hv; cases hv
  rw [dv_get _ i hi] at hv
  rw [Nat.zero_add, h.cell hi]
  exact hv
/-- a number comes back -/
def SaysI (x : Int) (w : World) (e : Ending) (w' : World) : Prop := e = .returned (.int .i64 x) ∧ Below w.heap.size w w'
/-- the frame is valid, and the drum for it -/
def askB (s : Int) (l : List (Int × Int)) (d : Nat → Int) : Bool := frB s l && drB s l.length d
end Go.Proofs.Ytakdnmakgblamaa
