import Derived.Test.YtghkcfghkbihcaaGae
import Derived.Maps.AppendAt
import Derived.Test.YtghkcfghkbihcaaGac
import Derived.Test.YtghkcfghkbihcaaGad
import Derived.Deep.RegionHeld3
namespace Go.Proofs.Ytghkcfghkbihcaa
open Go.RowKit

/-- the tracks ahead of k whose hammer has a pitch -/
def trk (l : List (Int × Int)) (p : Int) (k : Nat) : List Nat := (List.range k).filter fun j => decide (hPi l j = p)
def tcells (ts : List Nat) : List Value := ts.map fun (j : Nat) => .int .i64 (j : Int)
theorem trk_len (l : List (Int × Int)) (p : Int) (k : Nat) : (trk l p k).length ≤ k := by simpa [trk] using List.length_filter_le (fun j => decide (hPi l j = p)) (List.range k)
theorem trk_yes {l : List (Int × Int)} {p : Int} {k : Nat} (h : hPi l k = p) : trk l p (k + 1) = trk l p k ++ [k] := by simp [trk, List.range_succ, List.filter_append, h]
theorem trk_no {l : List (Int × Int)} {p : Int} {k : Nat} (h : ¬ hPi l k = p) : trk l p (k + 1) = trk l p k := by simp [trk, List.range_succ, List.filter_append, h]
def hamN (l : List (Int × Int)) (p : Int) : Nat := (trk l p l.length).length

/-- a slice of the call's own comes back -/
def OwnL (w : World) (xs : List Nat) (e : Ending) (w' : World) : Prop := ∃ (A : Option Addr) (c : Nat), e = .returned (.slice A xs.length c) ∧ w'.ownsRow w.heap.size 2 1 (.slice A xs.length c) xs.length (tcells xs) ∧ Below w.heap.size w w'
theorem own_shape {w : World} {base n : Nat} {e : TypeId} {size : Nat} {v : Value} {xs : List Value} (h : w.ownsRow base e size v n xs) : ∃ A c, v = .slice A n c := by
  rcases h.2 with ⟨h1, h2⟩ | ⟨g, cap, cur, h1, _⟩
  · exact ⟨none, 0, by rw [h1, h2]⟩
  · exact ⟨_, _, h1⟩
/-- ErrInvalid, then ErrRange -/
def cod3 (a b : Bool) : Int := if a then (if b then 0 else 2) else 1
end Go.Proofs.Ytghkcfghkbihcaa
namespace Go.Proofs.Ytghkcfghkbihcaa
open Go.RowKit

/-- numbers as cells -/
def icells (zs : List Int) : List Value := zs.map fun z => .int .i64 z
def zAt (zs : List Int) (k : Nat) : Int := zs.getD k 0
theorem icells_length (zs : List Int) : (icells zs).length = zs.length := by simp [icells]
theorem icells_get (zs : List Int) (k : Nat) (h : k < zs.length) : (icells zs)[k]? = some (.int .i64 (zAt zs k)) := by simp [icells, zAt, h]
theorem icells_set (zs : List Int) (k : Nat) (z : Int) : (icells zs).set k (.int .i64 z) = icells (zs.set k z) := by simp [icells, List.map_set]
theorem tcells_icells (xs : List Nat) : tcells xs = icells (xs.map fun (x : Nat) => (x : Int)) := by simp [tcells, icells]
/-- a slice's address under which the numbers lie, in blocks below B -/
def SI (w : World) (B : Nat) (A : Option Addr) (zs : List Int) : Prop := ∀ k, k < zs.length → ∃ b, A = some ⟨b, 0, none⟩ ∧ b < B ∧ w.cell? ⟨b, k, none⟩ = some (.int .i64 (zAt zs k))
theorem SI.below {w w' : World} {B : Nat} {A : Option Addr} {zs : List Int} (h : SI w B A zs) (hb : Below B w w') : SI w' B A zs := fun k hk => by
  obtain ⟨b, h1, h2, h3⟩ := h k hk
  exact ⟨b, h1, h2, (hb.cell (p := ⟨b, k, none⟩) h2).trans h3⟩
theorem SI.up {w : World} {B B' : Nat} {A : Option Addr} {zs : List Int} (h : SI w B A zs) (hB : B ≤ B') : SI w B' A zs := fun k hk => by
  obtain ⟨b, h1, h2, h3⟩ := h k hk
  exact ⟨b, h1, by omega, h3⟩
theorem SI.of_own {w : World} {base : Nat} {A : Option Addr} {c : Nat} {zs : List Int} (h : w.ownsRow base 2 1 (.slice A zs.length c) zs.length (icells zs)) : SI w w.heap.size A zs := by
  intro k hk
  rcases h.2 with ⟨h', h0⟩ | ⟨g, cap, cur, h', hb, hg, _⟩
  · omega
  · simp only [Value.slice.injEq, true_and] at h'
    obtain ⟨rfl, rfl⟩ := h'
    refine ⟨g, rfl, (Array.getElem?_eq_some_iff.1 hg).1, ?_⟩
    rw [h.cellAt k (by omega), icells_get zs k hk]

/-- the marks: the first k of them, then what was there -/
def mkTo (zs : List Int) (k : Nat) : List Int := (List.range k).map (fun (j : Nat) => (j : Int) + 1) ++ zs.drop k
theorem mkTo_length (zs : List Int) (k : Nat) (h : k ≤ zs.length) : (mkTo zs k).length = zs.length := by simp [mkTo]; omega
theorem mkTo_zero (zs : List Int) : mkTo zs 0 = zs := by simp [mkTo]
theorem mkTo_set (zs : List Int) (k : Nat) (h : k < zs.length) : (mkTo zs k).set k ((k : Int) + 1) = mkTo zs (k + 1) := by
  unfold mkTo
  rw [List.set_append_right _ _ (by simp), List.range_succ, List.map_append, List.length_map, List.length_range, Nat.sub_self, List.drop_eq_getElem_cons h, List.set_cons_zero, List.append_assoc]
  rfl
def mks (n : Nat) : List Int := (List.range n).map (fun (j : Nat) => (j : Int) + 1)
theorem mkTo_all (zs : List Int) : mkTo zs zs.length = mks zs.length := by simp [mkTo, mks]
theorem mks_length (n : Nat) : (mks n).length = n := by simp [mks]
theorem mks_at (n k : Nat) (h : k < n) : zAt (mks n) k = (k : Int) + 1 := by simp [mks, zAt, h]

end Go.Proofs.Ytghkcfghkbihcaa
namespace Go.Proofs.Ytghkcfghkbihcaa
open Go.RowKit

end Go.Proofs.Ytghkcfghkbihcaa
namespace Go.Proofs.Ytghkcfghkbihcaa
open Go.RowKit

/-- the marks of n sections, from 1 on -/
def mkSec (n : Nat) : List (Int × Int) := (List.range n).map fun (i : Nat) => (IntKind.i16.wrap (2 * (i : Int) + 1), IntKind.i16.wrap (2 * (i : Int) + 1 + 1))
def mkSecT (l : List (Int × Int)) (k : Nat) : List (Int × Int) := mkSec k ++ l.drop k
theorem mkSec_length (n : Nat) : (mkSec n).length = n := by simp [mkSec]
theorem mkSecT_zero (l : List (Int × Int)) : mkSecT l 0 = l := by simp [mkSecT, mkSec]
theorem mkSecT_all (l : List (Int × Int)) : mkSecT l l.length = mkSec l.length := by simp [mkSecT]
theorem mkSecT_length (l : List (Int × Int)) (k : Nat) (h : k ≤ l.length) : (mkSecT l k).length = l.length := by
  simp [mkSecT, mkSec_length]; omega
theorem mkSecT_set (l : List (Int × Int)) (k : Nat) (h : k < l.length) : (mkSecT l k).set k (IntKind.i16.wrap (2 * (k : Int) + 1), IntKind.i16.wrap (2 * (k : Int) + 1 + 1)) = mkSecT l (k + 1) := by
  unfold mkSecT mkSec
  rw [List.set_append_right _ _ (by simp), List.range_succ, List.map_append, List.length_map, List.length_range, Nat.sub_self, List.drop_eq_getElem_cons h, List.set_cons_zero, List.append_assoc]
  rfl
theorem mkSec_pi (n k : Nat) (h : k < n) : secF (mkSec n) k = IntKind.i16.wrap (2 * (k : Int) + 1) := by simp [secF, mkSec, h]
theorem mkSec_re (n k : Nat) (h : k < n) : secS (mkSec n) k = IntKind.i16.wrap (2 * (k : Int) + 1 + 1) := by simp [secS, mkSec, h]

end Go.Proofs.Ytghkcfghkbihcaa
namespace Go.Proofs.Ytghkcfghkbihcaa
open Go.RowKit
end Go.Proofs.Ytghkcfghkbihcaa
namespace Go.Proofs.Ytghkcfghkbihcaa
open Go.RowKit
theorem yieldsIf_load_pr {ops : Array Oper} {S : World → Prop} {op : Oper} {a : Act} (hw : Region.wanted op (yielded ops a.tmps) = true) (ty : TypeId) (x : Operand) (ho : op.op = .load ty x)
    (b p : Nat) (hx : a.eval x = .pointer (some ⟨b, p, none⟩)) (cs : List Value) (d : TypeDesc) (hS : ∀ w, S w → w.rangeAt b p cs)
    (hu : Try.prog.underlying ty = some d) (hd : d.isRow = true) (hi : (Try.prog.info? ty).map (·.size) = some cs.toArray.size) : YieldsIf Try.prog ops S op (.agg cs.toArray) a :=
  yieldsIf_load_mid hw ty x ho b p hx cs d hS hu hd (by rw [hi]; simp)
end Go.Proofs.Ytghkcfghkbihcaa
