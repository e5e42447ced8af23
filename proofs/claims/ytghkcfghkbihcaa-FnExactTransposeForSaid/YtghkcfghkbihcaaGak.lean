import Derived.Shelf.SlSortCmp.NoneTotal
import Derived.Test.YtghkcfghkbihcaaMth
import Derived.Ground.SlsfProg
import Derived.Test.YtghkcfghkbihcaaGab
namespace Go.Proofs.Ytghkcfghkbihcaa
open Go.RowKit Go.Sort
/-- a note's two cells -/
def encN (x : Int × Int) : List Value := [.int .i16 x.1, .int .i8 x.2]
theorem encN_len (x : Int × Int) : (encN x).length = 2 := rfl
theorem encN_one (x : Int × Int) : ∀ v ∈ encN x, v.oneCell' = true := fun v hv => by simp [encN] at hv; rcases hv with rfl | rfl <;> rfl
theorem toArray_get! (l : List (Int × Int)) (k : Nat) (h : k < l.length) : l.toArray[k]! = (nAt l k, nPi l k) := by
  rw [getElem!_def]
  simp only [List.getElem?_toArray, List.getElem?_eq_getElem h]
  simp [nAt, nPi, List.getD, h]
theorem flatN_get (l : List (Int × Int)) (j : Nat) (h : j < l.length * 2) : (cellsOf l)[j]? = some ((flatK encN 2 l.toArray)[j]!) := by
  rw [get_flatK _ _ _ _ (by simpa using h)]
  rcases Nat.mod_two_eq_zero_or_one j with e | e
  · obtain ⟨k, rfl⟩ : ∃ k, j = k * 2 := ⟨j / 2, by omega⟩
    rw [cellsOf_even l k (by omega), show k * 2 / 2 = k by omega, toArray_get! l k (by omega), show k * 2 % 2 = 0 by omega]
    rfl
  · obtain ⟨k, rfl⟩ : ∃ k, j = k * 2 + 1 := ⟨j / 2, by omega⟩
    rw [cellsOf_odd l k (by omega), show (k * 2 + 1) / 2 = k by omega, toArray_get! l k (by omega), show (k * 2 + 1) % 2 = 1 by omega]
    rfl
theorem holds_own {w : World} {base g : Nat} {t : TypeId} {q : Nat} {l : List (Int × Int)} (h : w.ownsRow base t 2 (.slice (some ⟨g, 0, none⟩) l.length q) l.length (cellsOf l)) : HoldsK encN 2 w g 0 l.toArray := by
  intro j hj
  have hj' : j < l.length * 2 := by simpa using hj
  rw [Nat.zero_add]
  exact ⟨(h.cellAt j hj').trans (flatN_get l j hj'), h.frozenAt j⟩
theorem put_take (l : List (Int × Int)) (cur : Array Value) (hc : l.length * 2 ≤ cur.size) : (putCells id 0 (flatK encN 2 l.toArray) cur).toList.take (l.length * 2) = cellsOf l := by
  apply List.ext_getElem?
  intro j
  rw [List.getElem?_take]
  by_cases hj : j < l.length * 2
  · rw [if_pos hj, flatN_get l j hj, Array.getElem?_toList]
    simp only [putCells, Array.getElem?_mapIdx]
    rw [Array.getElem?_eq_getElem (by omega), Option.map_some, if_pos ⟨Nat.zero_le _, by simpa using hj⟩]
    rfl
  · rw [if_neg hj, List.getElem?_eq_none (by rw [cellsOf_length]; omega)]
theorem sorted_own {w : World} {base g m q : Nat} {t : TypeId} {l l' : List (Int × Int)} {os : Array Obj} (h : w.ownsRow base t 2 (.slice (some ⟨g, 0, none⟩) l.length q) l.length (cellsOf l)) (hl : l'.length = l.length) :
    (sortWorldK encN 2 w g 0 m l'.toArray os).ownsRow base t 2 (.slice (some ⟨g, 0, none⟩) l.length q) l.length (cellsOf l') := by
  refine ⟨by rw [cellsOf_length, hl], ?_⟩
  rcases h.2 with ⟨h', _⟩ | ⟨g', cap, cur, h', hb, hg, hn, hm, hs, ht⟩
  · simp at h'
  · simp only [Value.slice.injEq, Option.some.injEq, Addr.mk.injEq, and_true, true_and] at h'
    obtain ⟨rfl, rfl⟩ := h'
    have hlt : g < w.heap.size := (Array.getElem?_eq_some_iff.1 hg).1
    refine Or.inr ⟨g, q, putCells id 0 (flatK encN 2 l'.toArray) cur, rfl, hb, ?_, hn, hm, by simp [putCells, hs], ?_⟩
    · unfold sortWorldK grow putRowK
      rw [Array.getElem?_append_left (by simp [putRow, mapBlock]; exact hlt)]
      simp only [putRow, mapBlock, heap_ahead, Array.getElem?_modify, if_true, hg, Option.map_some, onCells]
    · rw [← hl]
      exact put_take l' cur (by rw [hs, hl]; exact Nat.mul_le_mul_right 2 hn)
theorem sorted_below {w : World} {base g m : Nat} {l' : List (Int × Int)} {os : Array Obj} (hg : base ≤ g) (hb : base ≤ w.heap.size) : Below base w (sortWorldK encN 2 w g 0 m l'.toArray os) := by
  unfold sortWorldK grow putRowK
  refine ⟨rfl, rfl, rfl, by simp [putRow, mapBlock], fun k hk => ?_⟩
  rw [Array.getElem?_append_left (by simp [putRow, mapBlock]; omega)]
  simp only [putRow, mapBlock, heap_ahead, Array.getElem?_modify]
  rw [if_neg (by omega)]
/-- a note before another one, as compareNotes tells it -/
def cfN (x y : Int × Int) : Int := ordI x.1 x.2 y.1 y.2
theorem cfN_lt (x y : Int × Int) : ltOf cfN x y = befB x.1 x.2 y.1 y.2 := by
  rw [Bool.eq_iff_iff]
  simp only [ltOf, decide_eq_true_eq, cfN]
  rw [← ordI_neg]
  exact decide_eq_true_iff
theorem cfN_swo : SWO (ltOf cfN) where
  irrefl x := by rw [cfN_lt]; simp [befB]
  trans x y z h1 h2 := by rw [cfN_lt] at *; simp [befB] at *; omega
  ntrans x y z h1 h2 := by rw [cfN_lt] at *; simp [befB] at *; omega
theorem cfN_tot (x y : Int × Int) (h1 : (ltOf cfN) x y = false) (h2 : (ltOf cfN) y x = false) : x = y := by
  rw [cfN_lt] at *
  simp [befB] at h1 h2
  exact Prod.ext (by omega) (by omega)
theorem srtN_cf (l : List (Int × Int)) : (l.mergeSort fun x y => !(ltOf cfN) y x) = srtN l := by
  unfold srtN
  congr 1
  funext x y
  rw [cfN_lt]
end Go.Proofs.Ytghkcfghkbihcaa
namespace Go.Proofs.Ytghkcfghkbihcaa
open Go.RowKit Go.Shelf
/-- the sort's facts at this program, for the contract of whatever element type -/
def sortRen : Go.Shelf.Ren := ⟨fun | 14 => 41 | 15 => 42 | 20 => 46 | 21 => 47 | 22 => 48 | 23 => 49 | 24 => 50 | 25 => 51 | 26 => 52 | 27 => 53 | 28 => 54 | 29 => 55 | 46 => 58 | 47 => 59 | 48 => 60 | 49 => 61 | 50 => 62 | 57 => 63 | n => n, fun | 0 => 0 | 1 => 1 | 2 => 2 | 3 => 3 | 4 => 4 | 5 => 5 | 6 => 6 | 7 => 7 | 8 => 8 | 9 => 9 | 10 => 10 | 11 => 11 | 12 => 12 | 13 => 13 | 14 => 14 | 15 => 15 | 16 => 16 | 17 => 17 | 18 => 18 | 19 => 19 | 20 => 20 | 21 => 21 | 22 => 27 | 24 => 43 | 25 => 69 | 27 => 87 | 37 => 71 | 38 => 72 | 39 => 59 | 40 => 58 | 44 => 76 | 45 => 77 | 46 => 78 | 47 => 79 | 48 => 80 | 49 => 81 | 50 => 82 | 51 => 83 | 52 => 84 | 53 => 85 | 54 => 86 | 55 => 22 | 66 => 90 | 67 => 91 | 68 => 65 | 69 => 92 | 70 => 93 | 71 => 94 | 76 => 95 | 77 => 96 | 78 => 97 | 81 => 98 | 82 => 99 | 83 => 100 | 84 => 101 | 85 => 102 | 86 => 103 | 87 => 104 | 88 => 105 | 89 => 106 | 90 => 107 | 91 => 108 | 92 => 109 | 93 => 110 | 94 => 111 | 95 => 112 | 96 => 113 | n => n, fun | n => n⟩
theorem sortLays : Go.Proofs.SlLaysF0.n14 Try.prog sortRen := {
  mixed := by kernel_rfl
  f14 := ⟨Try.f41.name, by decide, Try.func41.trans (congrArg some (by kernel_rfl))⟩
  f15 := Try.func42.trans (congrArg some (by kernel_rfl))
  f20 := ⟨Try.f46.name, by decide, Try.func46.trans (congrArg some (by kernel_rfl))⟩
  f21 := ⟨Try.f47.name, by decide, Try.func47.trans (congrArg some (by kernel_rfl))⟩
  f22 := ⟨Try.f48.name, by decide, Try.func48.trans (congrArg some (by kernel_rfl))⟩
  f23 := ⟨Try.f49.name, by decide, Try.func49.trans (congrArg some (by kernel_rfl))⟩
  f24 := ⟨Try.f50.name, by decide, Try.func50.trans (congrArg some (by kernel_rfl))⟩
  f25 := ⟨Try.f51.name, by decide, Try.func51.trans (congrArg some (by kernel_rfl))⟩
  f26 := ⟨Try.f52.name, by decide, Try.func52.trans (congrArg some (by kernel_rfl))⟩
  f27 := ⟨Try.f53.name, by decide, Try.func53.trans (congrArg some (by kernel_rfl))⟩
  f28 := Try.func54.trans (congrArg some (by kernel_rfl))
  f29 := Try.func55.trans (congrArg some (by kernel_rfl))
  f46 := ⟨Try.f58.name, by decide, Try.func58.trans (congrArg some (by kernel_rfl))⟩
  f47 := Try.func59.trans (congrArg some (by kernel_rfl))
  f48 := Try.func60.trans (congrArg some (by kernel_rfl))
  f49 := ⟨Try.f61.name, by decide, Try.func61.trans (congrArg some (by kernel_rfl))⟩
  f50 := ⟨Try.f62.name, by decide, Try.func62.trans (congrArg some (by kernel_rfl))⟩
  f57 := ⟨Try.f63.name, by decide, Try.func63.trans (congrArg some (by kernel_rfl))⟩
  t0 := Try.underlying0
  a0 := Try.isAgg0
  z0 := Try.sizeOf0
  v0 := Try.zeroValue0
  t3 := Try.underlying3
  a3 := Try.isAgg3
  z3 := Try.sizeOf3
  v3 := Try.zeroValue3
  t4 := Try.underlying4
  a4 := Try.isAgg4
  z4 := Try.sizeOf4
  v4 := Try.zeroValue4
  t5 := Try.underlying5
  a5 := Try.isAgg5
  z5 := Try.sizeOf5
  v5 := Try.zeroValue5
  t9 := Try.underlying9
  a9 := Try.isAgg9
  z9 := Try.sizeOf9
  v9 := Try.zeroValue9
  t22 := Try.underlying27
  a22 := Try.isAgg27
  z22 := Try.sizeOf27
  v22 := Try.zeroValue27
  t25 := Try.underlying69
  a25 := Try.isAgg69
  z25 := Try.sizeOf69
  v25 := Try.zeroValue69
  t39 := Try.underlying59
  a39 := Try.isAgg59
  z39 := Try.sizeOf59
  v39 := Try.zeroValue59
  t45 := Try.underlying77
  a45 := Try.isAgg77
  z45 := Try.sizeOf77
  v45 := Try.zeroValue77
  t46 := Try.underlying78
  a46 := Try.isAgg78
  z46 := Try.sizeOf78
  v46 := Try.zeroValue78
  t50 := Try.underlying82
  a50 := Try.isAgg82
  z50 := Try.sizeOf82
  v50 := Try.zeroValue82
  t53 := Try.underlying85
  a53 := Try.isAgg85
  z53 := Try.sizeOf85
  v53 := Try.zeroValue85
  t55 := Try.underlying22
  a55 := Try.isAgg22
  z55 := Try.sizeOf22
  v55 := Try.zeroValue22
  t66 := Try.underlying90
  a66 := Try.isAgg90
  z66 := Try.sizeOf90
  v66 := Try.zeroValue90
  t70 := Try.underlying93
  a70 := Try.isAgg93
  z70 := Try.sizeOf93
  v70 := Try.zeroValue93
  t76 := Try.underlying95
  a76 := Try.isAgg95
  z76 := Try.sizeOf95
  v76 := Try.zeroValue95
  t77 := Try.underlying96
  a77 := Try.isAgg96
  z77 := Try.sizeOf96
  v77 := Try.zeroValue96 }
end Go.Proofs.Ytghkcfghkbihcaa
