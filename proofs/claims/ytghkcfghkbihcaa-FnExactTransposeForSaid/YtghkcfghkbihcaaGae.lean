import Derived.Test.YtghkcfghkbihcaaGad
import Derived.Deep.MidRow
import Derived.Great.Ranges
import Derived.Great.BuildSlice
import Derived.Deep.CutRange
import Derived.Test.YtghkcfghkbihcaaGac
namespace Go.Proofs.Ytghkcfghkbihcaa
open Go.RowKit

/-- an order's cells -/
def o48 (d : Nat → Int) : List Value := (List.range 48).map fun i => .int .i8 (d i)
theorem o48_length (d : Nat → Int) : (o48 d).length = 48 := by simp [o48]
theorem o48_get (d : Nat → Int) (i : Nat) (h : i < 48) : (o48 d)[i]? = some (.int .i8 (d i)) := by simp [o48, h]
theorem o48_one (d : Nat → Int) : ∀ v ∈ o48 d, v.oneCell' = true := by
  intro v hv
  simp only [o48, List.mem_map] at hv
  obtain ⟨i, _, rfl⟩ := hv
  rfl
theorem o48_set (d : Nat → Int) (k : Nat) (x : Int) : (o48 d).set k (.int .i8 x) = o48 (fun i => if i = k then x else d i) := by
  apply List.ext_getElem?
  intro i
  by_cases hi : i < 48
  · rw [o48_get _ _ hi, List.getElem?_set, o48_get _ _ hi, o48_length]
    by_cases e : k = i
    · subst e; simp [hi]
    · rw [if_neg e, if_neg (fun h => e h.symm)]
  · rw [List.getElem?_eq_none (by rw [List.length_set, o48_length]; omega), List.getElem?_eq_none (by rw [o48_length]; omega)]
theorem o48_congr {d d' : Nat → Int} (h : ∀ i, i < 48 → d i = d' i) : o48 d = o48 d' := by
  apply List.map_congr_left
  intro i hi
  rw [h i (List.mem_range.1 hi)]
/-- as an array -/
def oa (d : Nat → Int) : Array Value := (o48 d).toArray
theorem oa_one (d : Nat → Int) : (oa d).all (·.oneCell') = true := all_oneCell_toArray (o48_one d)
theorem oa_size (d : Nat → Int) : (oa d).size = 48 := by simp [oa, o48_length]
/-- block g holds an order, as a row of a type -/
def Oc (w : World) (g : Nat) (t : TypeId) (d : Nat → Int) : Prop := w.heap[g]? = some (.cells (oa d) t (0, 0))
theorem Oc.lt {w : World} {g : Nat} {t : TypeId} {d : Nat → Int} (h : Oc w g t d) : g < w.heap.size := (Array.getElem?_eq_some_iff.1 h).1
theorem Oc.cell {w : World} {g : Nat} {t : TypeId} {d : Nat → Int} (h : Oc w g t d) {i : Nat} (hi : i < 48) : w.cell? ⟨g, i, none⟩ = some (.int .i8 (d i)) := by
  rw [cell_of_row w g i _ _ _ h]
  simpa [oa] using o48_get d i hi
theorem Oc.frozen {w : World} {g : Nat} {t : TypeId} {d : Nat → Int} (h : Oc w g t d) (i : Nat) : w.frozen? ⟨g, i, none⟩ = false := frozen_of_row w g i _ _ h
theorem Oc.keep {w w' : World} {g : Nat} {t : TypeId} {d : Nat → Int} (h : Oc w g t d) (hb : Below w.heap.size w w') : Oc w' g t d := (hb.block g h.lt).trans h
theorem Oc.set {w : World} {g : Nat} {t : TypeId} {d : Nat → Int} (h : Oc w g t d) (k : Nat) (x : Int) : Oc (w.setCell ⟨g, k, none⟩ (.int .i8 x)) g t (fun i => if i = k then x else d i) := by
  have := heap_setCell_same w g k _ _ (.int .i8 x) h
  unfold Oc
  rw [this, oa, oa, ← o48_set]
  simp
theorem Oc.other {w : World} {g b k : Nat} {t : TypeId} {d : Nat → Int} (h : Oc w g t d) (hne : g ≠ b) (v : Value) : Oc (w.setCell ⟨b, k, none⟩ v) g t d := by
  unfold Oc at h ⊢
  rw [← h]
  exact heap_setCell_other w ⟨b, k, none⟩ g v hne
theorem Oc.congr {w : World} {g : Nat} {t : TypeId} {d d' : Nat → Int} (h : Oc w g t d) (he : ∀ i, i < 48 → d i = d' i) : Oc w g t d' := by
  unfold Oc oa at *
  rw [h, o48_congr he]

def z48 : Array Value := (List.replicate 48 (.int .i8 0)).toArray
theorem z48_eq : z48 = oa fun _ => 0 := by
  unfold z48 oa o48
  simp [List.map_const']
theorem Oc.range {w : World} {g : Nat} {t : TypeId} {d : Nat → Int} (h : Oc w g t d) : w.rangeAt g 0 (o48 d) := by
  intro i v hv
  have hi : i < 48 := by
    rcases Nat.lt_or_ge i 48 with h | h
    · exact h
    · rw [List.getElem?_eq_none (by rw [o48_length]; exact h)] at hv; cases hv
  rw [o48_get _ i hi] at hv
  rw [Nat.zero_add, h.cell hi]
  exact hv
end Go.Proofs.Ytghkcfghkbihcaa
namespace Go.Proofs.Ytghkcfghkbihcaa
open Go.RowKit

/-- a programme's cells -/
def prL (A : Option Addr) (n c : Nat) (o : Nat → Int) : List Value := .slice A n c :: o48 o
def prA (A : Option Addr) (n c : Nat) (o : Nat → Int) : Array Value := (prL A n c o).toArray
theorem prL_length (A : Option Addr) (n c : Nat) (o : Nat → Int) : (prL A n c o).length = 49 := by simp [prL, o48_length]
theorem prA_size (A : Option Addr) (n c : Nat) (o : Nat → Int) : (prA A n c o).size = 49 := by simp [prA, prL_length]
theorem prA_one (A : Option Addr) (n c : Nat) (o : Nat → Int) : (prA A n c o).all (·.oneCell') = true := all_oneCell_toArray (by
  intro v hv
  rcases List.mem_cons.1 hv with rfl | h
  · rfl
  · exact o48_one o v h)
theorem prA_zero (A : Option Addr) (n c : Nat) (o : Nat → Int) : (prA A n c o)[0]? = some (.slice A n c) := rfl
theorem prA_ord (A : Option Addr) (n c : Nat) (o : Nat → Int) (j : Nat) (v : Value) (h : (o48 o)[j]? = some v) : (prA A n c o)[1 + j]? = some v := by
  rw [Nat.add_comm]
  simpa [prA, prL] using h
def zp : Array Value := (.slice none 0 0 :: List.replicate 48 (.int .i8 0)).toArray
theorem zp_eq : zp = prA none 0 0 fun _ => 0 := by
  unfold zp prA prL o48
  simp [List.map_const']
theorem Bk.slice {w : World} {g : Nat} {t : TypeId} {A : Option Addr} {n c : Nat} {o : Nat → Int} (h : Bk w g t (prA A n c o)) : w.cell? ⟨g, 0, none⟩ = some (.slice A n c) := h.cell (prA_zero A n c o)
theorem Bk.order {w : World} {g : Nat} {t : TypeId} {A : Option Addr} {n c : Nat} {o : Nat → Int} (h : Bk w g t (prA A n c o)) : w.rangeAt g 1 (o48 o) := h.range 1 _ (prA_ord A n c o)

theorem wpList_load_pr {ops : Array Oper} {rest : List Oper} {op : Oper} {a : Act} {w : World} {Q : Exit → Act → World → Prop} (hgd : op.guard = none) (ty : TypeId) (x : Operand) (ho : op.op = .load ty x)
    (b p : Nat) (hx : a.eval x = .pointer (some ⟨b, p, none⟩)) (A : Option Addr) (n c : Nat) (o : Nat → Int) (d : TypeDesc) (hc : w.rangeAt b p (prL A n c o)) (hu : Try.prog.underlying ty = some d) (hd : d.isRow = true) (hi : (Try.prog.info? ty).map (·.size) = some (prA A n c o).size)
    (h : wpList Try.prog ops Q rest (a.put op.dst (.agg (prA A n c o))) w) : wpList Try.prog ops Q (op :: rest) a w :=
  wpList_load_mid hgd ty x ho b p hx (prL A n c o) d hc hu hd (by rw [hi, prA_size, prL_length]) h
theorem range_prL {w : World} {g : Nat} {A : Option Addr} {n c : Nat} {o : Nat → Int} (h0 : w.cell? ⟨g, 0, none⟩ = some (.slice A n c)) (h1 : w.rangeAt g 1 (o48 o)) : w.rangeAt g 0 (prL A n c o) := by
  intro j v hv
  cases j with
  | zero => simp only [prL, List.getElem?_cons_zero, Option.some.injEq] at hv; subst hv; exact h0
  | succ j => rw [Nat.zero_add, Nat.add_comm]; exact h1 j v (by simpa [prL] using hv)
theorem Bk.there {w : World} {g : Nat} {t : TypeId} {cs : Array Value} (h : Bk w g t cs) (p n : Nat) (hn : p + n ≤ cs.size) : w.there g p n := fun j hj =>
  ⟨by rw [h.cell (Array.getElem?_eq_getElem (by omega) : cs[p + j]? = _)]; rfl, h.frozen _⟩
theorem Bk.setSlice {w : World} {g : Nat} {t : TypeId} {A : Option Addr} {n c : Nat} {o : Nat → Int} (h : Bk w g t (prA A n c o)) (B : Option Addr) (m e : Nat) : Bk (w.setCell ⟨g, 0, none⟩ (.slice B m e)) g t (prA B m e o) :=
  heap_setCell_same w g 0 _ _ (.slice B m e) h
theorem heap_setCells_other (b : Nat) (k : Nat) : ∀ (vs : List Value) (p : Nat) (w : World), k ≠ b → (w.setCells b p vs).heap[k]? = w.heap[k]?
  | [], _, _, _ => rfl
  | v :: r, p, w, h => (heap_setCells_other b k r (p + 1) _ h).trans (heap_setCell_other w ⟨b, p, none⟩ k v h)
theorem Bk.otherS {w : World} {g b : Nat} {t : TypeId} {cs : Array Value} (h : Bk w g t cs) (hne : g ≠ b) (p : Nat) (vs : List Value) : Bk (w.setCells b p vs) g t cs := by
  induction vs generalizing w p with
  | nil => exact h
  | cons v r ih => exact ih (h.other hne v) (p + 1)

end Go.Proofs.Ytghkcfghkbihcaa
namespace Go.Proofs.Ytghkcfghkbihcaa
open Go.RowKit


/-- the set of the first k hammers' pitches, as the walk spells it -/
def belTo (l : List (Int × Int)) : Nat → Int
  | 0 => 0
  | k + 1 => bits .or .u64 (belTo l k) (IntKind.u64.wrap (2 ^ (hPi l k).toNat))
def belI (l : List (Int × Int)) : Int := belTo l l.length
theorem HG.at {s : Int} {l : List (Int × Int)} {n k : Nat} (h : HG s l n) (hk : k < n) : (0 ≤ hPi l k ∧ hPi l k ≤ 47) ∧ (1 ≤ hRe l k ∧ hRe l k ≤ 20 ∧ hRe l k ≤ s) := by
  have := h k hk
  simp only [hamB, inB, Bool.and_eq_true, decide_eq_true_eq] at this
  have hm : mnI s ≤ 20 ∧ mnI s ≤ s := by unfold mnI; split <;> omega
  omega

end Go.Proofs.Ytghkcfghkbihcaa
