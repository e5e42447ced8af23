import Derived.Shelf.SlSortCmp.NoneTotal
import Derived.Test.YtagfkipnoakphaaMth
namespace Go.Proofs.Ytagfkipnoakphaa
open Go.RowKit Go.Sort
/-- a note's two cells -/
def encN (x : Int × Int) : List Value := [.int .i16 x.1, .int .i8 x.2]
theorem encN_len (x : Int × Int) : (encN x).length = 2 := rfl
theorem encN_one (x : Int × Int) : ∀ v ∈ encN x, v.oneCell' = true := fun v hv => by simp [encN] at hv; rcases hv with rfl | rfl <;> rfl
theorem toArray_get! (l : List (Int × Int)) (k : Nat) (h : k < l.length) : l.toArray[k]! = (nAt l k, nPi l k) := by
  rw [getElem!_def]
  simp only [List.getElem?_toArray, List.getElem?_eq_getElem h]
  simp [nAt, nPi, List.getD, h]
theorem flatN_get (l : List (Int × Int)) (j : Nat) (h : j < l.length * 2) : (cellsOf l)[j]? = some ((flatK encN 2 l.toArray)[j]!) := by
  rw [get_flatK _ _ _ _ (by simpa using h)]
  rcases Nat.mod_two_eq_zero_or_one j with e | e
  · obtain ⟨k, rfl⟩ : ∃ k, j = k * 2 := ⟨j / 2, by omega⟩
    rw [cellsOf_even l k (by omega), show k * 2 / 2 = k by omega, toArray_get! l k (by omega), show k * 2 % 2 = 0 by omega]
    rfl
  · obtain ⟨k, rfl⟩ : ∃ k, j = k * 2 + 1 := ⟨j / 2, by omega⟩
    rw [cellsOf_odd l k (by omega), show (k * 2 + 1) / 2 = k by omega, toArray_get! l k (by omega), show (k * 2 + 1) % 2 = 1 by omega]
    rfl
theorem holds_own {w : World} {base g : Nat} {t : TypeId} {q : Nat} {l : List (Int × Int)} (h : w.ownsRow base t 2 (.slice (some ⟨g, 0, none⟩) l.length q) l.length (cellsOf l)) : HoldsK encN 2 w g 0 l.toArray := by
  intro j hj
  have hj' : j < l.length * 2 := by simpa using hj
  rw [Nat.zero_add]
  exact ⟨(h.cellAt j hj').trans (flatN_get l j hj'), h.frozenAt j⟩
theorem put_take (l : List (Int × Int)) (cur : Array Value) (hc : l.length * 2 ≤ cur.size) : (putCells id 0 (flatK encN 2 l.toArray) cur).toList.take (l.length * 2) = cellsOf l := by
  apply List.ext_getElem?
  intro j
  rw [List.getElem?_take]
  by_cases hj : j < l.length * 2
  · rw [if_pos hj, flatN_get l j hj, Array.getElem?_toList]
    simp only [putCells, Array.getElem?_mapIdx]
    rw [Array.getElem?_eq_getElem (by omega), Option.map_some, if_pos ⟨Nat.zero_le _, by simpa using hj⟩]
    rfl
  · rw [if_neg hj, List.getElem?_eq_none (by rw [cellsOf_length]; omega)]
theorem sorted_own {w : World} {base g m q : Nat} {t : TypeId} {l l' : List (Int × Int)} {os : Array Obj} (h : w.ownsRow base t 2 (.slice (some ⟨g, 0, none⟩) l.length q) l.length (cellsOf l)) (hl : l'.length = l.length) :
    (sortWorldK encN 2 w g 0 m l'.toArray os).ownsRow base t 2 (.slice (some ⟨g, 0, none⟩) l.length q) l.length (cellsOf l') := by
  refine ⟨by rw [cellsOf_length, hl], ?_⟩
  rcases h.2 with ⟨h', _⟩ | ⟨g', cap, cur, h', hb, hg, hn, hm, hs, ht⟩
  · simp at h'
  · simp only [Value.slice.injEq, Option.some.injEq, Addr.mk.injEq, and_true, true_and] at h'
    obtain ⟨rfl, rfl⟩ := h'
    have hlt : g < w.heap.size := (Array.getElem?_eq_some_iff.1 hg).1
    refine Or.inr ⟨g, q, putCells id 0 (flatK encN 2 l'.toArray) cur, rfl, hb, ?_, hn, hm, by simp [putCells, hs], ?_⟩
    · unfold sortWorldK grow putRowK
      rw [Array.getElem?_append_left (by simp [putRow, mapBlock]; exact hlt)]
      simp only [putRow, mapBlock, heap_ahead, Array.getElem?_modify, if_true, hg, Option.map_some, onCells]
    · rw [← hl]
      exact put_take l' cur (by rw [hs, hl]; exact Nat.mul_le_mul_right 2 hn)
theorem sorted_below {w : World} {base g m : Nat} {l' : List (Int × Int)} {os : Array Obj} (hg : base ≤ g) (hb : base ≤ w.heap.size) : Below base w (sortWorldK encN 2 w g 0 m l'.toArray os) := by
  unfold sortWorldK grow putRowK
  refine ⟨rfl, rfl, rfl, by simp [putRow, mapBlock], fun k hk => ?_⟩
  rw [Array.getElem?_append_left (by simp [putRow, mapBlock]; omega)]
  simp only [putRow, mapBlock, heap_ahead, Array.getElem?_modify]
  rw [if_neg (by omega)]
/-- a note before another one, as compareNotes tells it -/
def cfN (x y : Int × Int) : Int := ordI x.1 x.2 y.1 y.2
theorem cfN_lt (x y : Int × Int) : ltOf cfN x y = befB x.1 x.2 y.1 y.2 := by
  rw [Bool.eq_iff_iff]
  simp only [ltOf, decide_eq_true_eq, cfN]
  rw [← ordI_neg]
  exact decide_eq_true_iff
theorem cfN_swo : SWO (ltOf cfN) where
  irrefl x := by rw [cfN_lt]; simp [befB]
  trans x y z h1 h2 := by rw [cfN_lt] at *; simp [befB] at *; omega
  ntrans x y z h1 h2 := by rw [cfN_lt] at *; simp [befB] at *; omega
theorem cfN_tot (x y : Int × Int) (h1 : (ltOf cfN) x y = false) (h2 : (ltOf cfN) y x = false) : x = y := by
  rw [cfN_lt] at *
  simp [befB] at h1 h2
  exact Prod.ext (by omega) (by omega)
theorem srtN_cf (l : List (Int × Int)) : (l.mergeSort fun x y => !(ltOf cfN) y x) = srtN l := by
  unfold srtN
  congr 1
  funext x y
  rw [cfN_lt]
end Go.Proofs.Ytagfkipnoakphaa
