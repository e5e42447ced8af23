import Derived.Test.YtcocfnjbgceidaaDoorGaa
import Derived.IntWalk
namespace Go.Proofs.YtcocfnjbgceidaaDoor
open Go.RowKit

/-- marks from K on -/
def mkN (K : Int) (n : Nat) : List (Int × Int) := (List.range n).map fun (i : Nat) => (IntKind.i16.wrap (K + 2 * (i : Int)), IntKind.i8.wrap (K + 2 * (i : Int) + 1))
def mkNT (K : Int) (l : List (Int × Int)) (k : Nat) : List (Int × Int) := mkN K k ++ l.drop k
theorem mkN_length (K : Int) (n : Nat) : (mkN K n).length = n := by simp [mkN]
theorem mkNT_zero (K : Int) (l : List (Int × Int)) : mkNT K l 0 = l := by simp [mkNT, mkN]
theorem mkNT_all (K : Int) (l : List (Int × Int)) : mkNT K l l.length = mkN K l.length := by simp [mkNT]
theorem mkNT_length (K : Int) (l : List (Int × Int)) (k : Nat) (h : k ≤ l.length) : (mkNT K l k).length = l.length := by
  simp [mkNT, mkN_length]; omega
theorem mkNT_set (K : Int) (l : List (Int × Int)) (k : Nat) (h : k < l.length) : (mkNT K l k).set k (IntKind.i16.wrap (K + 2 * (k : Int)), IntKind.i8.wrap (K + 2 * (k : Int) + 1)) = mkNT K l (k + 1) := by
  unfold mkNT mkN
  rw [List.set_append_right _ _ (by simp), List.range_succ, List.map_append, List.length_map, List.length_range, Nat.sub_self, List.drop_eq_getElem_cons h, List.set_cons_zero, List.append_assoc]
  rfl
theorem mkN_fst (K : Int) (n k : Nat) (h : k < n) : nAt (mkN K n) k = IntKind.i16.wrap (K + 2 * (k : Int)) := by simp [nAt, mkN, h]
theorem mkN_snd (K : Int) (n k : Nat) (h : k < n) : nPi (mkN K n) k = IntKind.i8.wrap (K + 2 * (k : Int) + 1) := by simp [nPi, mkN, h]
theorem mkN_of_own {w : World} {base : Nat} {e : TypeId} {A : Option Addr} {c : Nat} {K : Int} {n : Nat} (h : w.ownsRow base e 2 (.slice A n c) n (cellsOf (mkN K n))) : NA w A (mkN K n) := NA.of_own (l := mkN K n) (by rw [mkN_length]; exact h)

end Go.Proofs.YtcocfnjbgceidaaDoor
