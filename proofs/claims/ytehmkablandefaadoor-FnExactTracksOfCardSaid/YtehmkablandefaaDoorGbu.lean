import Derived.Test.YtehmkablandefaaDoorGaf
import Derived.Deep.MidRow
import Derived.Great.Ranges
import Derived.Great.BuildSlice
import Derived.Deep.CutRange
import Derived.Test.YtehmkablandefaaDoorGag
import Derived.Deep.RegionHeld3
import Derived.Test.YtehmkablandefaaDoorMkf
namespace Go.Proofs.YtehmkablandefaaDoor
open Go.RowKit

/-- an order's cells -/
def o48 (d : Nat → Int) : List Value := (List.range 48).map fun i => .int .i8 (d i)
theorem o48_length (d : Nat → Int) : (o48 d).length = 48 := by simp [o48]
theorem o48_get (d : Nat → Int) (i : Nat) (h : i < 48) : (o48 d)[i]? = some (.int .i8 (d i)) := by simp [o48, h]
theorem o48_one (d : Nat → Int) : ∀ v ∈ o48 d, v.oneCell' = true := by
  intro v hv
  simp only [o48, List.mem_map] at hv
  obtain ⟨i, _, rfl⟩ := hv
  rfl
theorem o48_set (d : Nat → Int) (k : Nat) (x : Int) : (o48 d).set k (.int .i8 x) = o48 (fun i => if i = k then x else d i) := by
  apply List.ext_getElem?
  intro i
  by_cases hi : i < 48
  · rw [o48_get _ _ hi, List.getElem?_set, o48_get _ _ hi, o48_length]
    by_cases e : k = i
    · subst e; simp [hi]
    · rw [if_neg e, if_neg (fun h => e h.symm)]
  · rw [List.getElem?_eq_none (by rw [List.length_set, o48_length]; omega), List.getElem?_eq_none (by rw [o48_length]; omega)]
theorem o48_congr {d d' : Nat → Int} (h : ∀ i, i < 48 → d i = d' i) : o48 d = o48 d' := by
  apply List.map_congr_left
  intro i hi
  rw [h i (List.mem_range.1 hi)]
/-- as an array -/
def oa (d : Nat → Int) : Array Value := (o48 d).toArray
theorem oa_one (d : Nat → Int) : (oa d).all (·.oneCell') = true := all_oneCell_toArray (o48_one d)
theorem oa_size (d : Nat → Int) : (oa d).size = 48 := by simp [oa, o48_length]
/-- block g holds an order, as a row of a type -/
def Oc (w : World) (g : Nat) (t : TypeId) (d : Nat → Int) : Prop := w.heap[g]? = some (.cells (oa d) t (0, 0))
theorem Oc.lt {w : World} {g : Nat} {t : TypeId} {d : Nat → Int} (h : Oc w g t d) : g < w.heap.size := (Array.getElem?_eq_some_iff.1 h).1
theorem Oc.cell {w : World} {g : Nat} {t : TypeId} {d : Nat → Int} (h : Oc w g t d) {i : Nat} (hi : i < 48) : w.cell? ⟨g, i, none⟩ = some (.int .i8 (d i)) := by
  rw [cell_of_row w g i _ _ _ h]
  simpa [oa] using o48_get d i hi
theorem Oc.frozen {w : World} {g : Nat} {t : TypeId} {d : Nat → Int} (h : Oc w g t d) (i : Nat) : w.frozen? ⟨g, i, none⟩ = false := frozen_of_row w g i _ _ h
theorem Oc.keep {w w' : World} {g : Nat} {t : TypeId} {d : Nat → Int} (h : Oc w g t d) (hb : Below w.heap.size w w') : Oc w' g t d := (hb.block g h.lt).trans h
theorem Oc.set {w : World} {g : Nat} {t : TypeId} {d : Nat → Int} (h : Oc w g t d) (k : Nat) (x : Int) : Oc (w.setCell ⟨g, k, none⟩ (.int .i8 x)) g t (fun i => if i = k then x else d i) := by
  have := heap_setCell_same w g k _ _ (.int .i8 x) h
  unfold Oc
  rw [this, oa, oa, ← o48_set]
  simp
theorem Oc.other {w : World} {g b k : Nat} {t : TypeId} {d : Nat → Int} (h : Oc w g t d) (hne : g ≠ b) (v : Value) : Oc (w.setCell ⟨b, k, none⟩ v) g t d := by
  unfold Oc at h ⊢
  rw [← h]
  exact heap_setCell_other w ⟨b, k, none⟩ g v hne
theorem Oc.congr {w : World} {g : Nat} {t : TypeId} {d d' : Nat → Int} (h : Oc w g t d) (he : ∀ i, i < 48 → d i = d' i) : Oc w g t d' := by
  unfold Oc oa at *
  rw [h, o48_congr he]

def z48 : Array Value := (List.replicate 48 (.int .i8 0)).toArray
theorem z48_eq : z48 = oa fun _ => 0 := by
  unfold z48 oa o48
  simp [List.map_const']
theorem Oc.range {w : World} {g : Nat} {t : TypeId} {d : Nat → Int} (h : Oc w g t d) : w.rangeAt g 0 (o48 d) := by
  intro i v hv
  have hi : i < 48 := by
    rcases Nat.lt_or_ge i 48 with h | h
    · exact h
    · rw [List.getElem?_eq_none (by rw [o48_length]; exact h)] at hv; cases hv
  rw [o48_get _ i hi] at hv
  rw [Nat.zero_add, h.cell hi]
  exact hv
end Go.Proofs.YtehmkablandefaaDoor
namespace Go.Proofs.YtehmkablandefaaDoor
open Go.RowKit

/-- a programme's cells -/
def prL (A : Option Addr) (n c : Nat) (o : Nat → Int) : List Value := .slice A n c :: o48 o
def prA (A : Option Addr) (n c : Nat) (o : Nat → Int) : Array Value := (prL A n c o).toArray
theorem prL_length (A : Option Addr) (n c : Nat) (o : Nat → Int) : (prL A n c o).length = 49 := by simp [prL, o48_length]
theorem prA_size (A : Option Addr) (n c : Nat) (o : Nat → Int) : (prA A n c o).size = 49 := by simp [prA, prL_length]
theorem prA_one (A : Option Addr) (n c : Nat) (o : Nat → Int) : (prA A n c o).all (·.oneCell') = true := all_oneCell_toArray (by
  intro v hv
  rcases List.mem_cons.1 hv with rfl | h
  · rfl
  · exact o48_one o v h)
theorem prA_zero (A : Option Addr) (n c : Nat) (o : Nat → Int) : (prA A n c o)[0]? = some (.slice A n c) := rfl
theorem prA_ord (A : Option Addr) (n c : Nat) (o : Nat → Int) (j : Nat) (v : Value) (h : (o48 o)[j]? = some v) : (prA A n c o)[1 + j]? = some v := by
  rw [Nat.add_comm]
  simpa [prA, prL] using h
def zp : Array Value := (.slice none 0 0 :: List.replicate 48 (.int .i8 0)).toArray
theorem zp_eq : zp = prA none 0 0 fun _ => 0 := by
  unfold zp prA prL o48
  simp [List.map_const']
theorem Bk.slice {w : World} {g : Nat} {t : TypeId} {A : Option Addr} {n c : Nat} {o : Nat → Int} (h : Bk w g t (prA A n c o)) : w.cell? ⟨g, 0, none⟩ = some (.slice A n c) := h.cell (prA_zero A n c o)
theorem Bk.order {w : World} {g : Nat} {t : TypeId} {A : Option Addr} {n c : Nat} {o : Nat → Int} (h : Bk w g t (prA A n c o)) : w.rangeAt g 1 (o48 o) := h.range 1 _ (prA_ord A n c o)

theorem wpList_load_pr {ops : Array Oper} {rest : List Oper} {op : Oper} {a : Act} {w : World} {Q : Exit → Act → World → Prop} (hgd : op.guard = none) (ty : TypeId) (x : Operand) (ho : op.op = .load ty x)
    (b p : Nat) (hx : a.eval x = .pointer (some ⟨b, p, none⟩)) (A : Option Addr) (n c : Nat) (o : Nat → Int) (d : TypeDesc) (hc : w.rangeAt b p (prL A n c o)) (hu : Tryd.prog.underlying ty = some d) (hd : d.isRow = true) (hi : (Tryd.prog.info? ty).map (·.size) = some (prA A n c o).size)
    (h : wpList Tryd.prog ops Q rest (a.put op.dst (.agg (prA A n c o))) w) : wpList Tryd.prog ops Q (op :: rest) a w :=
  wpList_load_mid hgd ty x ho b p hx (prL A n c o) d hc hu hd (by rw [hi, prA_size, prL_length]) h
theorem range_prL {w : World} {g : Nat} {A : Option Addr} {n c : Nat} {o : Nat → Int} (h0 : w.cell? ⟨g, 0, none⟩ = some (.slice A n c)) (h1 : w.rangeAt g 1 (o48 o)) : w.rangeAt g 0 (prL A n c o) := by
  intro j v hv
  cases j with
  | zero => simp only [prL, List.getElem?_cons_zero, Option.some.injEq] at hv; subst hv; exact h0
  | succ j => rw [Nat.zero_add, Nat.add_comm]; exact h1 j v (by simpa [prL] using hv)
theorem Bk.there {w : World} {g : Nat} {t : TypeId} {cs : Array Value} (h : Bk w g t cs) (p n : Nat) (hn : p + n ≤ cs.size) : w.there g p n := fun j hj =>
  ⟨by rw [h.cell (Array.getElem?_eq_getElem (by omega) : cs[p + j]? = _)]; rfl, h.frozen _⟩
theorem Bk.setSlice {w : World} {g : Nat} {t : TypeId} {A : Option Addr} {n c : Nat} {o : Nat → Int} (h : Bk w g t (prA A n c o)) (B : Option Addr) (m e : Nat) : Bk (w.setCell ⟨g, 0, none⟩ (.slice B m e)) g t (prA B m e o) :=
  heap_setCell_same w g 0 _ _ (.slice B m e) h
theorem heap_setCells_other (b : Nat) (k : Nat) : ∀ (vs : List Value) (p : Nat) (w : World), k ≠ b → (w.setCells b p vs).heap[k]? = w.heap[k]?
  | [], _, _, _ => rfl
  | v :: r, p, w, h => (heap_setCells_other b k r (p + 1) _ h).trans (heap_setCell_other w ⟨b, p, none⟩ k v h)
theorem Bk.otherS {w : World} {g b : Nat} {t : TypeId} {cs : Array Value} (h : Bk w g t cs) (hne : g ≠ b) (p : Nat) (vs : List Value) : Bk (w.setCells b p vs) g t cs := by
  induction vs generalizing w p with
  | nil => exact h
  | cons v r ih => exact ih (h.other hne v) (p + 1)

end Go.Proofs.YtehmkablandefaaDoor
namespace Go.Proofs.YtehmkablandefaaDoor
open Go.RowKit

/-- the marks of n sections, from 1 on -/
def mkSec (n : Nat) : List (Int × Int) := (List.range n).map fun (i : Nat) => (IntKind.i16.wrap (2 * (i : Int) + 1), IntKind.i16.wrap (2 * (i : Int) + 1 + 1))
def mkSecT (l : List (Int × Int)) (k : Nat) : List (Int × Int) := mkSec k ++ l.drop k
theorem mkSec_length (n : Nat) : (mkSec n).length = n := by simp [mkSec]
theorem mkSecT_zero (l : List (Int × Int)) : mkSecT l 0 = l := by simp [mkSecT, mkSec]
theorem mkSecT_all (l : List (Int × Int)) : mkSecT l l.length = mkSec l.length := by simp [mkSecT]
theorem mkSecT_length (l : List (Int × Int)) (k : Nat) (h : k ≤ l.length) : (mkSecT l k).length = l.length := by
  simp [mkSecT, mkSec_length]; omega
theorem mkSecT_set (l : List (Int × Int)) (k : Nat) (h : k < l.length) : (mkSecT l k).set k (IntKind.i16.wrap (2 * (k : Int) + 1), IntKind.i16.wrap (2 * (k : Int) + 1 + 1)) = mkSecT l (k + 1) := by
  unfold mkSecT mkSec
  rw [List.set_append_right _ _ (by simp), List.range_succ, List.map_append, List.length_map, List.length_range, Nat.sub_self, List.drop_eq_getElem_cons h, List.set_cons_zero, List.append_assoc]
  rfl
theorem mkSec_pi (n k : Nat) (h : k < n) : secF (mkSec n) k = IntKind.i16.wrap (2 * (k : Int) + 1) := by simp [secF, mkSec, h]
theorem mkSec_re (n k : Nat) (h : k < n) : secS (mkSec n) k = IntKind.i16.wrap (2 * (k : Int) + 1 + 1) := by simp [secS, mkSec, h]

end Go.Proofs.YtehmkablandefaaDoor
namespace Go.Proofs.YtehmkablandefaaDoor
open Go.RowKit
theorem yieldsIf_load_pr {ops : Array Oper} {S : World → Prop} {op : Oper} {a : Act} (hw : Region.wanted op (yielded ops a.tmps) = true) (ty : TypeId) (x : Operand) (ho : op.op = .load ty x)
    (b p : Nat) (hx : a.eval x = .pointer (some ⟨b, p, none⟩)) (cs : List Value) (d : TypeDesc) (hS : ∀ w, S w → w.rangeAt b p cs)
    (hu : Tryd.prog.underlying ty = some d) (hd : d.isRow = true) (hi : (Tryd.prog.info? ty).map (·.size) = some cs.toArray.size) : YieldsIf Tryd.prog ops S op (.agg cs.toArray) a :=
  yieldsIf_load_mid hw ty x ho b p hx cs d hS hu hd (by rw [hi]; simp)
end Go.Proofs.YtehmkablandefaaDoor
namespace Go.Proofs.YtehmkablandefaaDoor
open Go.RowKit
/-- a slice's address under which the numbers lie -/
def SZ (w : World) (A : Option Addr) (zs : List Int) : Prop := ∀ k, k < zs.length → ∃ b o, A = some ⟨b, o, none⟩ ∧ b < w.heap.size ∧ w.cell? ⟨b, o + k, none⟩ = some (.int .i64 (zAt zs k))
def ZWF (zs : List Int) : Prop := ∀ k, k < zs.length → -9223372036854775808 ≤ zAt zs k ∧ zAt zs k ≤ 9223372036854775807
theorem SZ.below {w w' : World} {A : Option Addr} {l : List Int} (h : SZ w A l) (hb : Below w.heap.size w w') : SZ w' A l := by
  intro k hk
  obtain ⟨b, o, rfl, hlt, h1⟩ := h k hk
  exact ⟨b, o, rfl, Nat.lt_of_lt_of_le hlt hb.size, (hb.cell (p := ⟨b, _, none⟩) hlt).trans h1⟩
theorem SZ.of_own {w : World} {base : Nat} {A : Option Addr} {c : Nat} {zs : List Int} (h : w.ownsRow base 2 1 (.slice A zs.length c) zs.length (icells zs)) : SZ w A zs := by
  intro k hk
  rcases h.2 with ⟨h', h0⟩ | ⟨g, cap, cur, h', hb, hg, _⟩
  · omega
  · simp only [Value.slice.injEq, true_and] at h'
    obtain ⟨rfl, rfl⟩ := h'
    exact ⟨g, 0, rfl, (Array.getElem?_eq_some_iff.1 hg).1, by rw [Nat.zero_add, h.cellAt k (by omega), icells_get zs k hk]⟩
def zupto (l : List Int) (k : Nat) : List Int := l.take k ++ List.replicate (l.length - k) 0
theorem zupto_length (l : List Int) (k : Nat) (h : k ≤ l.length) : (zupto l k).length = l.length := by simp [zupto]; omega
theorem zupto_set (l : List Int) (k : Nat) (h : k < l.length) : (zupto l k).set k (zAt l k) = zupto l (k + 1) := by
  have e1 : l.length - k = (l.length - (k + 1)) + 1 := by omega
  have e2 : zAt l k = l[k] := by simp [zAt, List.getD, h]
  rw [zupto, zupto, e1, List.replicate_succ, e2, List.take_succ_eq_append_getElem h, List.set_append_right _ _ (by simp; omega)]
  simp only [List.length_take, show k - min k l.length = 0 by omega, List.set_cons_zero, List.append_assoc, List.cons_append, List.nil_append]
theorem zupto_zero (l : List Int) : zupto l 0 = List.replicate l.length 0 := by simp [zupto]
theorem zupto_all (l : List Int) : zupto l l.length = l := by simp [zupto]
theorem icells_replicate (n : Nat) : icells (List.replicate n 0) = (madeCells #[.int .i64 0] n).toList := by
  apply List.ext_getElem?
  intro j
  by_cases hj : j < n
  · simp [icells, madeCells, hj, Nat.mod_one]
  · rw [List.getElem?_eq_none (by rw [icells_length]; simp; omega), List.getElem?_eq_none (by simp [madeCells]; omega)]
theorem eqInt64S_self (A C : Option Addr) (c d : Nat) (zs : List Int) (w : World) (hA : SI w w.heap.size A zs) (hC : SI w w.heap.size C zs) (hn : zs.length ≤ 1048576) :
    Calls Tryd.prog 22 #[.slice A zs.length c, .slice C zs.length d] w (Says true w) := eqInt64S_any A C c d zs w.heap.size w hA hC (Nat.le_refl _) hn
end Go.Proofs.YtehmkablandefaaDoor
namespace Go.Proofs.YtehmkablandefaaDoor
open Go.RowKit
theorem own_ne2 {w : World} {b b' n n' : Nat} {e e' : TypeId} {s s' : Nat} {v v' : Value} {xs xs' : List Value} (h : w.ownsRow b e s v n xs) (h' : w.ownsRow b' e' s' v' n' xs') (he : e ≠ e') : v.ownBlock = none ∨ v.ownBlock ≠ v'.ownBlock := by
  rcases h.2 with ⟨rfl, _⟩ | ⟨g, cap, cur, rfl, hb, hg, _⟩
  · exact Or.inl rfl
  · refine Or.inr fun hv => ?_
    rcases h'.2 with ⟨rfl, _⟩ | ⟨g', cap', cur', rfl, hb', hg', _⟩
    · cases hv
    · have e1 : g = g' := by simpa [Value.ownBlock] using hv
      subst e1
      rw [hg] at hg'
      simp at hg'
      exact he hg'.2
end Go.Proofs.YtehmkablandefaaDoor
