import Derived.Shelf.SlSortCmp.NoneTotal
import Derived.Test.YtghkcfghkbihcaaDoorGal
import Derived.Ground.SlsfProg
import Derived.Test.YtghkcfghkbihcaaDoorGaa
namespace Go.Proofs.YtghkcfghkbihcaaDoor
open Go.RowKit Go.Sort
/-- a note's two cells -/
def encW (x : Int × Int × Int) : List Value := [.int .i8 x.1, .int .i8 x.2.1, .int .i64 x.2.2]
theorem encW_len (x : Int × Int × Int) : (encW x).length = 3 := rfl
theorem encW_one (x : Int × Int × Int) : ∀ v ∈ encW x, v.oneCell' = true := fun v hv => by simp [encW] at hv; rcases hv with rfl | rfl | rfl <;> rfl
theorem toArray_getW (l : List (Int × Int × Int)) (k : Nat) (h : k < l.length) : l.toArray[k]! = (wnS l k, wnT l k, wnP l k) := by
  rw [getElem!_def]
  simp only [List.getElem?_toArray, List.getElem?_eq_getElem h]
  simp [wnS, wnT, wnP, List.getD, h]
theorem flatW_get (l : List (Int × Int × Int)) (j : Nat) (h : j < l.length * 3) : (wnC l)[j]? = some ((flatK encW 3 l.toArray)[j]!) := by
  rw [get_flatK _ _ _ _ (by simpa using h)]
  have hm : j % 3 = 0 ∨ j % 3 = 1 ∨ j % 3 = 2 := by omega
  obtain ⟨h0, h1, h2⟩ := wnC_at l (j / 3) (by omega)
  rcases hm with e | e | e
  · rw [show (wnC l)[j]? = (wnC l)[j / 3 * 3]? by rw [show j / 3 * 3 = j by omega], h0, toArray_getW l (j / 3) (by omega), e]
    rfl
  · rw [show (wnC l)[j]? = (wnC l)[j / 3 * 3 + 1]? by rw [show j / 3 * 3 + 1 = j by omega], h1, toArray_getW l (j / 3) (by omega), e]
    rfl
  · rw [show (wnC l)[j]? = (wnC l)[j / 3 * 3 + 2]? by rw [show j / 3 * 3 + 2 = j by omega], h2, toArray_getW l (j / 3) (by omega), e]
    rfl
theorem holds_ownW {w : World} {base g : Nat} {t : TypeId} {q : Nat} {l : List (Int × Int × Int)} (h : w.ownsRow base t 3 (.slice (some ⟨g, 0, none⟩) l.length q) l.length (wnC l)) : HoldsK encW 3 w g 0 l.toArray := by
  intro j hj
  have hj' : j < l.length * 3 := by simpa using hj
  rw [Nat.zero_add]
  exact ⟨(h.cellAt j hj').trans (flatW_get l j hj'), h.frozenAt j⟩
theorem put_takeW (l : List (Int × Int × Int)) (cur : Array Value) (hc : l.length * 3 ≤ cur.size) : (putCells id 0 (flatK encW 3 l.toArray) cur).toList.take (l.length * 3) = wnC l := by
  apply List.ext_getElem?
  intro j
  rw [List.getElem?_take]
  by_cases hj : j < l.length * 3
  · rw [if_pos hj, flatW_get l j hj, Array.getElem?_toList]
    simp only [putCells, Array.getElem?_mapIdx]
    rw [Array.getElem?_eq_getElem (by omega), Option.map_some, if_pos ⟨Nat.zero_le _, by simpa using hj⟩]
    rfl
  · rw [if_neg hj, List.getElem?_eq_none (by rw [wnC_length]; omega)]
theorem sorted_ownW {w : World} {base g m q : Nat} {t : TypeId} {l l' : List (Int × Int × Int)} {os : Array Obj} (h : w.ownsRow base t 3 (.slice (some ⟨g, 0, none⟩) l.length q) l.length (wnC l)) (hl : l'.length = l.length) :
    (sortWorldK encW 3 w g 0 m l'.toArray os).ownsRow base t 3 (.slice (some ⟨g, 0, none⟩) l.length q) l.length (wnC l') := by
  refine ⟨by rw [wnC_length, hl], ?_⟩
  rcases h.2 with ⟨h', _⟩ | ⟨g', cap, cur, h', hb, hg, hn, hm, hs, ht⟩
  · simp at h'
  · simp only [Value.slice.injEq, Option.some.injEq, Addr.mk.injEq, and_true, true_and] at h'
    obtain ⟨rfl, rfl⟩ := h'
    have hlt : g < w.heap.size := (Array.getElem?_eq_some_iff.1 hg).1
    refine Or.inr ⟨g, q, putCells id 0 (flatK encW 3 l'.toArray) cur, rfl, hb, ?_, hn, hm, by simp [putCells, hs], ?_⟩
    · unfold sortWorldK grow putRowK
      rw [Array.getElem?_append_left (by simp [putRow, mapBlock]; exact hlt)]
      simp only [putRow, mapBlock, heap_ahead, Array.getElem?_modify, if_true, hg, Option.map_some, onCells]
    · rw [← hl]
      exact put_takeW l' cur (by rw [hs, hl]; exact Nat.mul_le_mul_right 3 hn)
theorem sorted_belowW {w : World} {base g m : Nat} {l' : List (Int × Int × Int)} {os : Array Obj} (hg : base ≤ g) (hb : base ≤ w.heap.size) : Below base w (sortWorldK encW 3 w g 0 m l'.toArray os) := by
  unfold sortWorldK grow putRowK
  refine ⟨rfl, rfl, rfl, by simp [putRow, mapBlock], fun k hk => ?_⟩
  rw [Array.getElem?_append_left (by simp [putRow, mapBlock]; omega)]
  simp only [putRow, mapBlock, heap_ahead, Array.getElem?_modify]
  rw [if_neg (by omega)]
theorem sorted_grownW {w : World} {g m : Nat} {l' : List (Int × Int × Int)} {os : Array Obj} : w.grownBy (sortWorldK encW 3 w g 0 m l'.toArray os) (some g) := by
  unfold sortWorldK grow putRowK
  refine ⟨rfl, rfl, rfl, by simp [putRow, mapBlock], fun k hk hne => ?_⟩
  rw [Array.getElem?_append_left (by simp [putRow, mapBlock]; exact hk)]
  simp only [putRow, mapBlock, heap_ahead, Array.getElem?_modify]
  rw [if_neg (fun e => hne (by rw [e]))]
/-- a worn pin before another one, as compareWornPins tells it -/
def cfW (x y : Int × Int × Int) : Int := ordJ x.1 x.2.1 y.1 y.2.1
theorem cfW_lt (x y : Int × Int × Int) : ltOf cfW x y = befW x.1 x.2.1 y.1 y.2.1 := by
  rw [Bool.eq_iff_iff]
  simp only [ltOf, decide_eq_true_eq, cfW]
  rw [← ordJ_neg]
  exact decide_eq_true_iff
theorem cfW_swo : SWO (ltOf cfW) where
  irrefl x := by rw [cfW_lt]; simp [befW]
  trans x y z h1 h2 := by rw [cfW_lt] at *; simp [befW] at *; omega
  ntrans x y z h1 h2 := by rw [cfW_lt] at *; simp [befW] at *; omega
/-- strictly ascending by place -/
def AscL (l : List (Int × Int × Int)) : Prop := l.Pairwise fun x y => befW x.1 x.2.1 y.1 y.2.1 = true
theorem ascL_same {T : List (Int × Int × Int)} (hT : AscL T) {a b : Int × Int × Int} (ha : a ∈ T) (hb : b ∈ T) (h1 : ltOf cfW a b = false) (h2 : ltOf cfW b a = false) : a = b := by
  obtain ⟨i, hi, rfl⟩ := List.getElem_of_mem ha
  obtain ⟨j, hj, rfl⟩ := List.getElem_of_mem hb
  rw [cfW_lt] at h1 h2
  have hp := List.pairwise_iff_getElem.1 hT
  rcases Nat.lt_trichotomy i j with h | h | h
  · have := hp i j hi hj h
    rw [this] at h1; cases h1
  · subst h; rfl
  · have := hp j i hj hi h
    rw [this] at h2; cases h2
theorem sortedW_unique {T m : List (Int × Int × Int)} (hT : AscL T) (hp : T.Perm m) {d' : Array (Int × Int × Int)} (hP : PermIn 0 m.toArray.size m.toArray d') (hS : SortedIn (ltOf cfW) 0 m.toArray.size d') : d'.toList = T := by
  obtain ⟨hsz, _, hperm⟩ := hP
  have e1 : d'.extract 0 m.toArray.size = d' := by rw [← hsz]; exact Array.extract_size
  rw [e1, Array.extract_size] at hperm
  have hdT : d'.toList.Perm T := hperm.trans hp.symm
  refine List.Perm.eq_of_pairwise (le := fun x y => (!(ltOf cfW) y x) = true) ?_ ?_ ?_ hdT
  · intro a b ha hb h1 h2
    simp only [Bool.not_eq_true'] at h1 h2
    exact ascL_same hT (hdT.mem_iff.1 ha) hb h2 h1
  · rw [List.pairwise_iff_getElem]
    intro i j hi hj hij
    have hi' : i < d'.size := by simpa using hi
    have hj' : j < d'.size := by simpa using hj
    have := hS i j (Nat.zero_le _) hij (by rw [← hsz]; exact hj')
    rw [getElem!_pos d' j hj', getElem!_pos d' i hi'] at this
    simpa using this
  · refine List.Pairwise.imp ?_ hT
    intro a b hab
    rw [cfW_lt]
    simp [befW] at hab ⊢
    omega
end Go.Proofs.YtghkcfghkbihcaaDoor
namespace Go.Proofs.YtghkcfghkbihcaaDoor
open Go.RowKit Go.Shelf
end Go.Proofs.YtghkcfghkbihcaaDoor
namespace Go.Proofs.YtghkcfghkbihcaaDoor
open Go.RowKit Go.Shelf Go.Lib
open Go.Sort (SWO HoldsK PermIn SortedIn pdq pdq_sorts sorted_unique_holds)
end Go.Proofs.YtghkcfghkbihcaaDoor
