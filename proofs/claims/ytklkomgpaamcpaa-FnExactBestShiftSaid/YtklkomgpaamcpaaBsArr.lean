import Derived.Test.YtklkomgpaamcpaaOut
namespace Go.Proofs.Ytklkomgpaamcpaa
open Go.RowKit Go.Maps

def vals (f : Nat → Nat) : List Value := (List.range 401).map fun i => .int .i64 (f i)
theorem vals_length (f : Nat → Nat) : (vals f).length = 401 := by simp [vals]
theorem vals_get (f : Nat → Nat) (i : Nat) (h : i < 401) : (vals f)[i]? = some (.int .i64 (f i)) := by simp [vals, h]
theorem vals_set (f f' : Nat → Nat) (a : Nat) (v : Int) (hf : ∀ i, i < 401 → (f' i : Int) = if i = a then v else f i) : (vals f).set a (.int .i64 v) = vals f' := by
  apply List.ext_getElem?
  intro i
  by_cases hi : i < 401
  · rw [vals_get _ _ hi, List.getElem?_set, vals_get _ _ hi, hf i hi, vals_length]
    by_cases e : a = i
    · subst e; simp [hi]
    · rw [if_neg e, if_neg (fun h => e h.symm)]
  · rw [List.getElem?_eq_none (by rw [List.length_set, vals_length]; omega), List.getElem?_eq_none (by rw [vals_length]; omega)]
/-- block g holds the array f -/
def Arr (w : World) (g : Nat) (f : Nat → Nat) : Prop := w.heap[g]? = some (.cells (vals f).toArray 66 (0, 0))
theorem Arr.lt {w : World} {g : Nat} {f : Nat → Nat} (h : Arr w g f) : g < w.heap.size := (Array.getElem?_eq_some_iff.1 h).1
theorem Arr.cell {w : World} {g : Nat} {f : Nat → Nat} (h : Arr w g f) {i : Nat} (hi : i < 401) : w.cell? ⟨g, i, none⟩ = some (.int .i64 (f i)) := by
  rw [cell_of_row w g i _ _ _ h]
  simpa using vals_get f i hi
theorem Arr.frozen {w : World} {g : Nat} {f : Nat → Nat} (h : Arr w g f) (i : Nat) : w.frozen? ⟨g, i, none⟩ = false := frozen_of_row w g i _ _ h
theorem Arr.keep {w w' : World} {g : Nat} {f : Nat → Nat} (h : Arr w g f) (hb : Below w.heap.size w w') : Arr w' g f := (hb.block g h.lt).trans h
theorem Arr.step {w : World} {g a : Nat} {f f' : Nat → Nat} {v : Int} (h : Arr w g f) (hf : ∀ i, i < 401 → (f' i : Int) = if i = a then v else f i) : Arr (w.setCell ⟨g, a, none⟩ (.int .i64 v)) g f' := by
  have := heap_setCell_same w g a _ _ (.int .i64 v) h
  unfold Arr
  rw [this, ← vals_set f f' a v hf]
  simp
/-- block b holds a note -/
def Box (w : World) (b : Nat) (a p : Int) : Prop := w.heap[b]? = some (.cells #[.int .i16 a, .int .i8 p] 49 (0, 0))
theorem Box.lt {w : World} {b : Nat} {a p : Int} (h : Box w b a p) : b < w.heap.size := (Array.getElem?_eq_some_iff.1 h).1
theorem Box.cell0 {w : World} {b : Nat} {a p : Int} (h : Box w b a p) : w.cell? ⟨b, 0, none⟩ = some (.int .i16 a) := by rw [cell_of_row w b 0 _ _ _ h]; rfl
theorem Box.cell1 {w : World} {b : Nat} {a p : Int} (h : Box w b a p) : w.cell? ⟨b, 1, none⟩ = some (.int .i8 p) := by rw [cell_of_row w b 1 _ _ _ h]; rfl
theorem Box.keep {w w' : World} {b : Nat} {a p : Int} (h : Box w b a p) (hb : Below w.heap.size w w') : Box w' b a p := (hb.block b h.lt).trans h
theorem Box.set {w : World} {b g i : Nat} {a p : Int} (h : Box w b a p) (hne : b ≠ g) (v : Value) : Box (w.setCell ⟨g, i, none⟩ v) b a p := by
  unfold Box at h ⊢
  rw [← h]
  exact heap_setCell_other w ⟨g, i, none⟩ b v hne

def zs401 : Array Value := (List.replicate 401 (.int .i64 0)).toArray
theorem zs401_eq : zs401 = (vals fun _ => 0).toArray := by
  unfold zs401 vals
  rw [rep_range]
  rfl
theorem zero401 (w : World) : (zeroValue 66).run Try.prog w = .ok (.agg zs401) w := by kernel_rfl
theorem store401 (w : World) : (storeCells ⟨w.heap.size, 0, none⟩ zs401.toList).run Try.prog (w.alloc (.cells zs401 66)) = .ok () (w.alloc (.cells zs401 66)) := by
  have hg : (w.alloc (.cells zs401 66)).heap[w.heap.size]? = some (.cells zs401 66 (0, 0)) := heap_alloc_new w _
  have h := run_storeCells_from (P := Try.prog) w.heap.size 66 zs401.toList 0 zs401 _ hg (by simp) (fun v hv => by
    have hv' : v ∈ List.replicate 401 (Value.int .i64 0) := by unfold zs401 at hv; exact hv
    rw [List.eq_of_mem_replicate hv']; rfl)
  rw [h]
  simp only [List.take_zero, List.nil_append, Array.toArray_toList, setRow_self _ _ _ _ _ hg]

/-- how many pairs have been counted at each place -/
def cF (l m : List (Int × Int)) (n k : Nat) (i : Nat) : Nat := cpC l m ((i : Int) - 200) n + rowC l m ((i : Int) - 200) n k
theorem cF_start (l m : List (Int × Int)) : cF l m 0 0 = fun _ => 0 := by funext i; simp [cF, cpC, rowC]
theorem cF_row (l m : List (Int × Int)) (n : Nat) : cF l m (n + 1) 0 = cF l m n m.length := by funext i; simp [cF, cpC, rowC]
theorem cF_skip (l m : List (Int × Int)) (n k : Nat) (h : ¬ nPi l n = nPi m k) : cF l m n (k + 1) = cF l m n k := by
  funext i
  unfold cF
  rw [rowC_succ, if_neg (by simp [hit, h])]
  rfl
theorem cF_take (l m : List (Int × Int)) (n k a : Nat) (h : nPi l n = nPi m k) (ha : 200 + nAt l n - nAt m k = (a : Int)) (i : Nat) : (cF l m n (k + 1) i : Int) = if i = a then (cF l m n k a : Int) + 1 else cF l m n k i := by
  unfold cF
  rw [rowC_succ]
  by_cases e : i = a
  · subst e
    rw [if_pos rfl, if_pos (by simp only [hit, Bool.and_eq_true, decide_eq_true_eq]; exact ⟨h, by omega⟩)]
    omega
  · rw [if_neg e, if_neg (by simp only [hit, Bool.and_eq_true, decide_eq_true_eq]; rintro ⟨_, h2⟩; omega)]
    omega
theorem cF_bound (l m : List (Int × Int)) (n k i : Nat) (hn : n < 120) (hm : m.length ≤ 120) (hk : k ≤ 120) : cF l m n k i ≤ 14400 := cpC_bound l m _ n k hn hm hk
end Go.Proofs.Ytklkomgpaamcpaa
