import Derived.Test.YtcepjiglhlmgdaaGreatDoorSl
import Derived.Deep.RegionHeld3
namespace Go.Proofs.YtcepjiglhlmgdaaGreatDoor
open Go.RowKit

def dstN (S B k : Nat) : Nat := if k + B < S then k + B else k + B - S
def srcN (S B i : Nat) : Nat := if B ≤ i then i - B else i + S - B
theorem dst_lt {S B k : Nat} (hk : k < S) (hB : B < S) : dstN S B k < S := by unfold dstN; split <;> omega
theorem src_dst {S B k i : Nat} (hk : k < S) (hB : B < S) (hi : i < S) : srcN S B i = k ↔ i = dstN S B k := by
  unfold srcN dstN; split <;> split <;> omega
theorem src_lt {S B i : Nat} (hB : B < S) (hi : i < S) : srcN S B i < S := by unfold srcN; split <;> omega
theorem mod_dst {S B k : Nat} (hk : k < S) (hB : B < S) : (k + B) % S = dstN S B k := by
  unfold dstN
  split
  · exact Nat.mod_eq_of_lt ‹_›
  · rw [Nat.mod_eq_sub_mod (by omega)]; exact Nat.mod_eq_of_lt (by omega)
theorem mod_dst' {S B k : Nat} (hk : k < S) (hB : B < S) : (k + B + S) % S = dstN S B k := by
  rw [Nat.add_mod_right]; exact mod_dst hk hB
/-- the turned drum, its first k steps laid -/
def turT (S B : Nat) (d : Nat → Int) (k : Nat) (i : Nat) : Int := if i < S ∧ srcN S B i < k then d (srcN S B i) else 0
theorem turT_step {S B k : Nat} {d : Nat → Int} (hk : k < S) (hB : B < S) (i : Nat) : (if i = dstN S B k then d k else turT S B d k i) = turT S B d (k + 1) i := by
  unfold turT
  by_cases e : i = dstN S B k
  · have hi : i < S := e ▸ dst_lt hk hB
    have hs := (src_dst hk hB hi).2 e
    rw [if_pos e, hs, if_pos ⟨hi, by omega⟩]
  · rw [if_neg e]
    by_cases hi : i < S
    · have hs : srcN S B i ≠ k := fun h => e ((src_dst hk hB hi).1 h)
      by_cases h2 : srcN S B i < k
      · rw [if_pos ⟨hi, h2⟩, if_pos ⟨hi, by omega⟩]
      · rw [if_neg (fun h => h2 h.2), if_neg (fun h => by have := h.2; omega)]
    · rw [if_neg (fun h => hi h.1), if_neg (fun h => hi h.1)]
theorem turT_zero (S B : Nat) (d : Nat → Int) : turT S B d 0 = fun _ => 0 := by funext i; simp [turT]
def turC (s : Int) (l : List (Int × Int)) (d : Nat → Int) (x : Int) : Int := cod3 (askB s l d) (inB x 0 (s - 1))
def turD (s : Int) (l : List (Int × Int)) (d : Nat → Int) (x : Int) : Nat → Int := if turC s l d x = 0 then turT s.toNat x.toNat d s.toNat else fun _ => 0

set_option maxRecDepth 20000 in
set_option maxHeartbeats 1000000 in
theorem around_any (S y : Nat) (A : Option Addr) (n c : Nat) (w : World) (hS : 2 ≤ S ∧ S ≤ 96) (hy : y ≤ 200) :
    Calls Tryz.prog 83 #[.agg #[.int .i64 S, .slice A n c], .int .i64 y] w fun e w' => e = .returned (.int .i64 ((y % S : Nat) : Int)) ∧ Below w.heap.size w w' := by
  have hb0 : Below w.heap.size w (w.alloc (.cells #[.int .i64 S, .slice A n c] 93)) := (Below.refl _ _).alloc (Nat.le_refl _) _
  have hne : ((S : Int) == 0) = false := by simp; omega
  go_enter Tryz.func83, Tryz.ntmps83
  go_wp2
  go_ret
  exact ⟨ret_int (by rw [← Int.natCast_add, ← Int.natCast_emod, Nat.add_mod_right]), hb0⟩

theorem pl_zero {s x : Int} {l : List (Int × Int)} {d : Nat → Int} (h : askB s l d = true) : plB s l.length x 0 = inB x 0 (s - 1) := by
  have hl := (ask_all h).2.1.1
  have h2 : inB 0 0 ((l.length : Int) - 1) = true := by simp [inB]; omega
  rw [plB, h2, Bool.and_true]
end Go.Proofs.YtcepjiglhlmgdaaGreatDoor
namespace Go.Proofs.YtcepjiglhlmgdaaGreatDoor
open Go.RowKit

end Go.Proofs.YtcepjiglhlmgdaaGreatDoor
