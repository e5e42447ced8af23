import Derived.Test.YtmmninlnpnhboaaGreatDoorGan
import Derived.Shelf.SlSortCmp.NoneTotal
import Derived.Ground.SlsfProg
import Derived.Test.YtmmninlnpnhboaaGreatDoorGaa
import Derived.Sort.Grow
namespace Go.Proofs.YtmmninlnpnhboaaGreatDoor
open Go.RowKit
/-- one note comes before another one -/
def ltN (x y : Int × Int) : Prop := x.1 < y.1 ∨ (x.1 = y.1 ∧ x.2 < y.2)
instance (x y : Int × Int) : Decidable (ltN x y) := by unfold ltN; infer_instance
theorem befB_iff (a p b q : Int) : befB a p b q = true ↔ ltN (a, p) (b, q) := by simp [befB, ltN]
theorem ltN_irr (x : Int × Int) : ¬ ltN x x := by unfold ltN; omega
theorem ltN_asymm {x y : Int × Int} (h : ltN x y) : ¬ ltN y x := by unfold ltN at *; omega
theorem ltN_trans {x y z : Int × Int} (h1 : ltN x y) (h2 : ltN y z) : ltN x z := by unfold ltN at *; omega
theorem ltN_total {x y : Int × Int} (h1 : ¬ ltN x y) (h2 : ¬ ltN y x) : x = y := by
  unfold ltN at *
  exact Prod.ext (by omega) (by omega)
def AscN (l : List (Int × Int)) : Prop := l.Pairwise ltN
theorem asc_ext : ∀ l m : List (Int × Int), AscN l → AscN m → (∀ x, x ∈ l ↔ x ∈ m) → l = m
  | [], [], _, _, _ => rfl
  | [], y :: m, _, _, h => absurd ((h y).2 (by simp)) (by simp)
  | x :: l, [], _, _, h => absurd ((h x).1 (by simp)) (by simp)
  | x :: l, y :: m, hl, hm, h => by
    have hl' := List.pairwise_cons.1 hl
    have hm' := List.pairwise_cons.1 hm
    have hxy : x = y := by
      rcases List.mem_cons.1 ((h x).1 (by simp)) with h1 | h1
      · exact h1
      · rcases List.mem_cons.1 ((h y).2 (by simp)) with h2 | h2
        · exact h2.symm
        · exact absurd (hm'.1 x h1) (ltN_asymm (hl'.1 y h2))
    subst hxy
    rw [asc_ext l m hl'.2 hm'.2 fun z => ?_]
    constructor
    · intro hz
      rcases List.mem_cons.1 ((h z).1 (List.mem_cons_of_mem _ hz)) with h1 | h1
      · subst h1; exact absurd (hl'.1 z hz) (ltN_irr z)
      · exact h1
    · intro hz
      rcases List.mem_cons.1 ((h z).2 (List.mem_cons_of_mem _ hz)) with h1 | h1
      · subst h1; exact absurd (hm'.1 z hz) (ltN_irr z)
      · exact h1
/-- where a note goes in an ascending list: behind those before it -/
def posN (x : Int × Int) : List (Int × Int) → Nat
  | [] => 0
  | y :: l => if befB y.1 y.2 x.1 x.2 then posN x l + 1 else 0
theorem posN_le (x : Int × Int) : ∀ l, posN x l ≤ l.length
  | [] => Nat.le_refl _
  | y :: l => by
    unfold posN
    split
    · have := posN_le x l; simp; omega
    · simp
/-- a note put into an ascending list, where it is not there -/
def insU (l : List (Int × Int)) (x : Int × Int) : List (Int × Int) := if l[posN x l]? = some x then l else l.take (posN x l) ++ x :: l.drop (posN x l)
theorem insU_nil (x : Int × Int) : insU [] x = [x] := by simp [insU, posN]
theorem insU_cons (y : Int × Int) (l : List (Int × Int)) (x : Int × Int) : insU (y :: l) x = if befB y.1 y.2 x.1 x.2 then y :: insU l x else if y = x then y :: l else x :: y :: l := by
  unfold insU
  rw [posN]
  by_cases hb : befB y.1 y.2 x.1 x.2
  · simp only [hb, if_true]
    rw [List.getElem?_cons_succ, List.take_succ_cons, List.drop_succ_cons]
    split <;> rfl
  · simp only [hb, if_false, Bool.false_eq_true]
    simp
theorem insU_mem (x : Int × Int) : ∀ (l : List (Int × Int)) (z : Int × Int), z ∈ insU l x ↔ z ∈ l ∨ z = x
  | [], z => by rw [insU_nil]; simp
  | y :: l, z => by
    rw [insU_cons]
    by_cases hb : befB y.1 y.2 x.1 x.2
    · simp only [hb, if_true, List.mem_cons, insU_mem x l z, or_assoc]
    · simp only [hb, if_false, Bool.false_eq_true]
      by_cases he : y = x
      · subst he; simp only [if_true]; exact ⟨Or.inl, fun h => h.elim id fun e => by rw [e]; simp⟩
      · simp only [he, if_false, List.mem_cons]
        constructor
        · rintro (h | h | h)
          · exact Or.inr h
          · exact Or.inl (Or.inl h)
          · exact Or.inl (Or.inr h)
        · rintro ((h | h) | h)
          · exact Or.inr (Or.inl h)
          · exact Or.inr (Or.inr h)
          · exact Or.inl h
theorem insU_asc (x : Int × Int) : ∀ l : List (Int × Int), AscN l → AscN (insU l x)
  | [], _ => by rw [insU_nil]; exact List.pairwise_singleton _ _
  | y :: l, h => by
    have h' := List.pairwise_cons.1 h
    rw [insU_cons]
    by_cases hb : befB y.1 y.2 x.1 x.2
    · simp only [hb, if_true]
      refine List.pairwise_cons.2 ⟨fun z hz => ?_, insU_asc x l h'.2⟩
      rcases (insU_mem x l z).1 hz with h1 | h1
      · exact h'.1 z h1
      · subst h1; exact (befB_iff _ _ _ _).1 hb
    · simp only [hb, if_false, Bool.false_eq_true]
      by_cases he : y = x
      · simp only [he, if_true]; rw [← he]; exact h
      · simp only [he, if_false]
        have hn : ¬ ltN y x := fun hh => hb ((befB_iff y.1 y.2 x.1 x.2).2 hh)
        have hxy : ltN x y := by
          rcases Decidable.em (ltN x y) with h1 | h1
          · exact h1
          · exact absurd (ltN_total hn h1) he
        refine List.pairwise_cons.2 ⟨fun z hz => ?_, h⟩
        rcases List.mem_cons.1 hz with h1 | h1
        · subst h1; exact hxy
        · exact ltN_trans hxy (h'.1 z h1)
/-- the notes of a list in their order, equal ones being made one -/
def sortU (l : List (Int × Int)) : List (Int × Int) := l.foldl insU []
theorem sortU_snoc (l : List (Int × Int)) (x : Int × Int) : sortU (l ++ [x]) = insU (sortU l) x := by simp [sortU]
theorem foldU_mem : ∀ (l acc : List (Int × Int)) (z : Int × Int), z ∈ l.foldl insU acc ↔ z ∈ acc ∨ z ∈ l
  | [], acc, z => by simp
  | x :: l, acc, z => by rw [List.foldl_cons, foldU_mem l (insU acc x) z, insU_mem, List.mem_cons, or_assoc]
theorem foldU_asc : ∀ (l acc : List (Int × Int)), AscN acc → AscN (l.foldl insU acc)
  | [], _, h => h
  | x :: l, acc, h => by rw [List.foldl_cons]; exact foldU_asc l _ (insU_asc x acc h)
theorem sortU_mem (l : List (Int × Int)) (z : Int × Int) : z ∈ sortU l ↔ z ∈ l := by rw [sortU, foldU_mem]; simp
theorem sortU_asc (l : List (Int × Int)) : AscN (sortU l) := foldU_asc l [] List.Pairwise.nil
/-- sorted alone -/
def srtN (l : List (Int × Int)) : List (Int × Int) := l.mergeSort fun x y => !(befB y.1 y.2 x.1 x.2)
theorem srtN_perm (l : List (Int × Int)) : (srtN l).Perm l := List.mergeSort_perm _ _
theorem srtN_len (l : List (Int × Int)) : (srtN l).length = l.length := (srtN_perm l).length_eq
theorem srtN_asc (l : List (Int × Int)) (h : l.Nodup) : AscN (srtN l) := by
  have hp := List.pairwise_mergeSort (le := fun x y : Int × Int => !(befB y.1 y.2 x.1 x.2))
    (fun a b c h1 h2 => by simp [befB] at *; omega) (fun a b => by simp [befB]; omega) l
  have hn : (srtN l).Nodup := (srtN_perm l).nodup_iff.2 h
  have hb := hp.and hn
  refine hb.imp fun {x y} ⟨h1, h2⟩ => ?_
  rcases Decidable.em (ltN x y) with h3 | h3
  · exact h3
  · have h4 : ¬ ltN y x := fun h5 => by have := (befB_iff y.1 y.2 x.1 x.2).2 h5; simp [this] at h1
    exact absurd (ltN_total h3 h4) h2
theorem srtN_eq_sortU (l m : List (Int × Int)) (h : l.Nodup) (hm : ∀ x, x ∈ l ↔ x ∈ m) : srtN l = sortU m :=
  asc_ext _ _ (srtN_asc l h) (sortU_asc m) fun x => by rw [(srtN_perm l).mem_iff, sortU_mem, hm]
theorem srtN_id (l : List (Int × Int)) (h : AscN l) : srtN l = l :=
  asc_ext _ _ (srtN_asc l (h.imp fun {x y} h1 h2 => by subst h2; exact ltN_irr _ h1)) h fun x => (srtN_perm l).mem_iff
end Go.Proofs.YtmmninlnpnhboaaGreatDoor
namespace Go.Proofs.YtmmninlnpnhboaaGreatDoor
open Go.RowKit Go.Sort
/-- a note's two cells -/
def encN (x : Int × Int) : List Value := [.int .i16 x.1, .int .i8 x.2]
theorem encN_len (x : Int × Int) : (encN x).length = 2 := rfl
theorem encN_one (x : Int × Int) : ∀ v ∈ encN x, v.oneCell' = true := fun v hv => by simp [encN] at hv; rcases hv with rfl | rfl <;> rfl
theorem toArray_get! (l : List (Int × Int)) (k : Nat) (h : k < l.length) : l.toArray[k]! = (nAt l k, nPi l k) := by
  rw [getElem!_def]
  simp only [List.getElem?_toArray, List.getElem?_eq_getElem h]
  simp [nAt, nPi, List.getD, h]
theorem flatN_get (l : List (Int × Int)) (j : Nat) (h : j < l.length * 2) : (cellsOf l)[j]? = some ((flatK encN 2 l.toArray)[j]!) := by
  rw [get_flatK _ _ _ _ (by simpa using h)]
  rcases Nat.mod_two_eq_zero_or_one j with e | e
  · obtain ⟨k, rfl⟩ : ∃ k, j = k * 2 := ⟨j / 2, by omega⟩
    rw [cellsOf_even l k (by omega), show k * 2 / 2 = k by omega, toArray_get! l k (by omega), show k * 2 % 2 = 0 by omega]
    rfl
  · obtain ⟨k, rfl⟩ : ∃ k, j = k * 2 + 1 := ⟨j / 2, by omega⟩
    rw [cellsOf_odd l k (by omega), show (k * 2 + 1) / 2 = k by omega, toArray_get! l k (by omega), show (k * 2 + 1) % 2 = 1 by omega]
    rfl
theorem holds_own {w : World} {base g : Nat} {t : TypeId} {q : Nat} {l : List (Int × Int)} (h : w.ownsRow base t 2 (.slice (some ⟨g, 0, none⟩) l.length q) l.length (cellsOf l)) : HoldsK encN 2 w g 0 l.toArray := by
  intro j hj
  have hj' : j < l.length * 2 := by simpa using hj
  rw [Nat.zero_add]
  exact ⟨(h.cellAt j hj').trans (flatN_get l j hj'), h.frozenAt j⟩
theorem put_take (l : List (Int × Int)) (cur : Array Value) (hc : l.length * 2 ≤ cur.size) : (putCells id 0 (flatK encN 2 l.toArray) cur).toList.take (l.length * 2) = cellsOf l := by
  apply List.ext_getElem?
  intro j
  rw [List.getElem?_take]
  by_cases hj : j < l.length * 2
  · rw [if_pos hj, flatN_get l j hj, Array.getElem?_toList]
    simp only [putCells, Array.getElem?_mapIdx]
    rw [Array.getElem?_eq_getElem (by omega), Option.map_some, if_pos ⟨Nat.zero_le _, by simpa using hj⟩]
    rfl
  · rw [if_neg hj, List.getElem?_eq_none (by rw [cellsOf_length]; omega)]
theorem sorted_own {w : World} {base g m q : Nat} {t : TypeId} {l l' : List (Int × Int)} {os : Array Obj} (h : w.ownsRow base t 2 (.slice (some ⟨g, 0, none⟩) l.length q) l.length (cellsOf l)) (hl : l'.length = l.length) :
    (sortWorldK encN 2 w g 0 m l'.toArray os).ownsRow base t 2 (.slice (some ⟨g, 0, none⟩) l.length q) l.length (cellsOf l') := by
  refine ⟨by rw [cellsOf_length, hl], ?_⟩
  rcases h.2 with ⟨h', _⟩ | ⟨g', cap, cur, h', hb, hg, hn, hm, hs, ht⟩
  · simp at h'
  · simp only [Value.slice.injEq, Option.some.injEq, Addr.mk.injEq, and_true, true_and] at h'
    obtain ⟨rfl, rfl⟩ := h'
    have hlt : g < w.heap.size := (Array.getElem?_eq_some_iff.1 hg).1
    refine Or.inr ⟨g, q, putCells id 0 (flatK encN 2 l'.toArray) cur, rfl, hb, ?_, hn, hm, by simp [putCells, hs], ?_⟩
    · unfold sortWorldK grow putRowK
      rw [Array.getElem?_append_left (by simp [putRow, mapBlock]; exact hlt)]
      simp only [putRow, mapBlock, heap_ahead, Array.getElem?_modify, if_true, hg, Option.map_some, onCells]
    · rw [← hl]
      exact put_take l' cur (by rw [hs, hl]; exact Nat.mul_le_mul_right 2 hn)
theorem sorted_below {w : World} {base g m : Nat} {l' : List (Int × Int)} {os : Array Obj} (hg : base ≤ g) (hb : base ≤ w.heap.size) : Below base w (sortWorldK encN 2 w g 0 m l'.toArray os) := by
  unfold sortWorldK grow putRowK
  refine ⟨rfl, rfl, rfl, by simp [putRow, mapBlock], fun k hk => ?_⟩
  rw [Array.getElem?_append_left (by simp [putRow, mapBlock]; omega)]
  simp only [putRow, mapBlock, heap_ahead, Array.getElem?_modify]
  rw [if_neg (by omega)]
/-- a note before another one, as compareNotes tells it -/
def cfN (x y : Int × Int) : Int := ordI x.1 x.2 y.1 y.2
theorem cfN_lt (x y : Int × Int) : ltOf cfN x y = befB x.1 x.2 y.1 y.2 := by
  rw [Bool.eq_iff_iff]
  simp only [ltOf, decide_eq_true_eq, cfN]
  rw [← ordI_neg]
  exact decide_eq_true_iff
theorem cfN_swo : SWO (ltOf cfN) where
  irrefl x := by rw [cfN_lt]; simp [befB]
  trans x y z h1 h2 := by rw [cfN_lt] at *; simp [befB] at *; omega
  ntrans x y z h1 h2 := by rw [cfN_lt] at *; simp [befB] at *; omega
theorem cfN_tot (x y : Int × Int) (h1 : (ltOf cfN) x y = false) (h2 : (ltOf cfN) y x = false) : x = y := by
  rw [cfN_lt] at *
  simp [befB] at h1 h2
  exact Prod.ext (by omega) (by omega)
theorem srtN_cf (l : List (Int × Int)) : (l.mergeSort fun x y => !(ltOf cfN) y x) = srtN l := by
  unfold srtN
  congr 1
  funext x y
  rw [cfN_lt]
end Go.Proofs.YtmmninlnpnhboaaGreatDoor
namespace Go.Proofs.YtmmninlnpnhboaaGreatDoor
open Go.RowKit Go.Shelf
/-- the sort's facts at this program, for the contract of whatever element type -/
def sortRen : Go.Shelf.Ren := ⟨fun | 14 => 108 | 15 => 109 | 20 => 117 | 21 => 118 | 22 => 119 | 23 => 120 | 24 => 121 | 25 => 122 | 26 => 123 | 27 => 124 | 28 => 125 | 29 => 126 | 46 => 130 | 47 => 131 | 48 => 132 | 49 => 133 | 50 => 134 | 57 => 135 | n => n, fun | 0 => 0 | 1 => 1 | 2 => 2 | 3 => 3 | 4 => 4 | 5 => 5 | 6 => 6 | 7 => 7 | 8 => 8 | 9 => 9 | 10 => 10 | 11 => 11 | 12 => 12 | 13 => 13 | 14 => 14 | 15 => 15 | 16 => 16 | 17 => 17 | 18 => 18 | 19 => 19 | 20 => 20 | 21 => 21 | 22 => 40 | 24 => 65 | 25 => 169 | 27 => 212 | 37 => 188 | 38 => 189 | 39 => 153 | 40 => 149 | 44 => 202 | 45 => 203 | 46 => 204 | 47 => 205 | 48 => 206 | 49 => 207 | 50 => 208 | 51 => 209 | 52 => 193 | 53 => 31 | 54 => 210 | 55 => 211 | 66 => 216 | 67 => 217 | 68 => 218 | 69 => 219 | 70 => 220 | 71 => 221 | 76 => 222 | 77 => 223 | 78 => 224 | 81 => 226 | 82 => 227 | 83 => 228 | 84 => 229 | 85 => 230 | 86 => 231 | 87 => 232 | 88 => 234 | 89 => 123 | 90 => 235 | 91 => 236 | 92 => 237 | 93 => 238 | 94 => 239 | 95 => 240 | 96 => 115 | n => n, fun | n => n⟩
theorem sortLays : Go.Proofs.SlLaysF0.n14 Tryz.prog sortRen := {
  mixed := by kernel_rfl
  f14 := ⟨Tryz.f108.name, by decide, Tryz.func108.trans (congrArg some (by kernel_rfl))⟩
  f15 := Tryz.func109.trans (congrArg some (by kernel_rfl))
  f20 := ⟨Tryz.f117.name, by decide, Tryz.func117.trans (congrArg some (by kernel_rfl))⟩
  f21 := ⟨Tryz.f118.name, by decide, Tryz.func118.trans (congrArg some (by kernel_rfl))⟩
  f22 := ⟨Tryz.f119.name, by decide, Tryz.func119.trans (congrArg some (by kernel_rfl))⟩
  f23 := ⟨Tryz.f120.name, by decide, Tryz.func120.trans (congrArg some (by kernel_rfl))⟩
  f24 := ⟨Tryz.f121.name, by decide, Tryz.func121.trans (congrArg some (by kernel_rfl))⟩
  f25 := ⟨Tryz.f122.name, by decide, Tryz.func122.trans (congrArg some (by kernel_rfl))⟩
  f26 := ⟨Tryz.f123.name, by decide, Tryz.func123.trans (congrArg some (by kernel_rfl))⟩
  f27 := ⟨Tryz.f124.name, by decide, Tryz.func124.trans (congrArg some (by kernel_rfl))⟩
  f28 := Tryz.func125.trans (congrArg some (by kernel_rfl))
  f29 := Tryz.func126.trans (congrArg some (by kernel_rfl))
  f46 := ⟨Tryz.f130.name, by decide, Tryz.func130.trans (congrArg some (by kernel_rfl))⟩
  f47 := Tryz.func131.trans (congrArg some (by kernel_rfl))
  f48 := Tryz.func132.trans (congrArg some (by kernel_rfl))
  f49 := ⟨Tryz.f133.name, by decide, Tryz.func133.trans (congrArg some (by kernel_rfl))⟩
  f50 := ⟨Tryz.f134.name, by decide, Tryz.func134.trans (congrArg some (by kernel_rfl))⟩
  f57 := ⟨Tryz.f135.name, by decide, Tryz.func135.trans (congrArg some (by kernel_rfl))⟩
  t0 := Tryz.underlying0
  a0 := Tryz.isAgg0
  z0 := Tryz.sizeOf0
  v0 := Tryz.zeroValue0
  t3 := Tryz.underlying3
  a3 := Tryz.isAgg3
  z3 := Tryz.sizeOf3
  v3 := Tryz.zeroValue3
  t4 := Tryz.underlying4
  a4 := Tryz.isAgg4
  z4 := Tryz.sizeOf4
  v4 := Tryz.zeroValue4
  t5 := Tryz.underlying5
  a5 := Tryz.isAgg5
  z5 := Tryz.sizeOf5
  v5 := Tryz.zeroValue5
  t9 := Tryz.underlying9
  a9 := Tryz.isAgg9
  z9 := Tryz.sizeOf9
  v9 := Tryz.zeroValue9
  t22 := Tryz.underlying40
  a22 := Tryz.isAgg40
  z22 := Tryz.sizeOf40
  v22 := Tryz.zeroValue40
  t25 := Tryz.underlying169
  a25 := Tryz.isAgg169
  z25 := Tryz.sizeOf169
  v25 := Tryz.zeroValue169
  t39 := Tryz.underlying153
  a39 := Tryz.isAgg153
  z39 := Tryz.sizeOf153
  v39 := Tryz.zeroValue153
  t45 := Tryz.underlying203
  a45 := Tryz.isAgg203
  z45 := Tryz.sizeOf203
  v45 := Tryz.zeroValue203
  t46 := Tryz.underlying204
  a46 := Tryz.isAgg204
  z46 := Tryz.sizeOf204
  v46 := Tryz.zeroValue204
  t50 := Tryz.underlying208
  a50 := Tryz.isAgg208
  z50 := Tryz.sizeOf208
  v50 := Tryz.zeroValue208
  t53 := Tryz.underlying31
  a53 := Tryz.isAgg31
  z53 := Tryz.sizeOf31
  v53 := Tryz.zeroValue31
  t55 := Tryz.underlying211
  a55 := Tryz.isAgg211
  z55 := Tryz.sizeOf211
  v55 := Tryz.zeroValue211
  t66 := Tryz.underlying216
  a66 := Tryz.isAgg216
  z66 := Tryz.sizeOf216
  v66 := Tryz.zeroValue216
  t70 := Tryz.underlying220
  a70 := Tryz.isAgg220
  z70 := Tryz.sizeOf220
  v70 := Tryz.zeroValue220
  t76 := Tryz.underlying222
  a76 := Tryz.isAgg222
  z76 := Tryz.sizeOf222
  v76 := Tryz.zeroValue222
  t77 := Tryz.underlying223
  a77 := Tryz.isAgg223
  z77 := Tryz.sizeOf223
  v77 := Tryz.zeroValue223 }
end Go.Proofs.YtmmninlnpnhboaaGreatDoor
namespace Go.Proofs.YtmmninlnpnhboaaGreatDoor
open Go.RowKit
set_option maxHeartbeats 1000000 in
theorem compareNotes_grow (a p b q : Int) (w : World) :
    Calls Tryz.prog 95 #[.agg #[.int .i16 a, .int .i8 p], .agg #[.int .i16 b, .int .i8 q]] w fun e w' => e = .returned (.int .i64 (ordI a p b q)) ∧ ∃ (q : Nat) (os : Array Obj), w' = Go.Sort.grow (w.drewN q) os := by
  go_enter Tryz.func95, Tryz.ntmps95
  go_wp2_with fail
  have k1 : ((w.alloc (.cells #[.int .i16 a, .int .i8 p] 65)).alloc (.cells #[.int .i16 b, .int .i8 q] 65)).cell? ⟨w.heap.size, 0, none⟩ = some (.int .i16 a) := by simp [go_sem, World.cell?_alloc_past]
  have k2 : ((w.alloc (.cells #[.int .i16 a, .int .i8 p] 65)).alloc (.cells #[.int .i16 b, .int .i8 q] 65)).cell? ⟨w.heap.size, 1, none⟩ = some (.int .i8 p) := by simp [go_sem, World.cell?_alloc_past]
  have k3 : ((w.alloc (.cells #[.int .i16 a, .int .i8 p] 65)).alloc (.cells #[.int .i16 b, .int .i8 q] 65)).cell? ⟨w.heap.size + 1, 0, none⟩ = some (.int .i16 b) := by simp [go_sem]
  have k4 : ((w.alloc (.cells #[.int .i16 a, .int .i8 p] 65)).alloc (.cells #[.int .i16 b, .int .i8 q] 65)).cell? ⟨w.heap.size + 1, 1, none⟩ = some (.int .i8 q) := by simp [go_sem]
  have k5 : Below w.heap.size w ((w.alloc (.cells #[.int .i16 a, .int .i8 p] 65)).alloc (.cells #[.int .i16 b, .int .i8 q] 65)) := ((Below.refl _ _).alloc (Nat.le_refl _) _).alloc (by simp) _
  obtain ⟨W, hW⟩ : ∃ W, W = ((w.alloc (.cells #[.int .i16 a, .int .i8 p] 65)).alloc (.cells #[.int .i16 b, .int .i8 q] 65)) := ⟨_, rfl⟩
  rw [← hW] at k1 k2 k3 k4 k5 ⊢
  have HW := hide hW
  clear hW
  go_region_held3 (fun w' => w'.cell? ⟨w.heap.size, 0, none⟩ = some (.int .i16 a) ∧ w'.cell? ⟨w.heap.size, 1, none⟩ = some (.int .i8 p) ∧ w'.cell? ⟨w.heap.size + 1, 0, none⟩ = some (.int .i16 b) ∧ w'.cell? ⟨w.heap.size + 1, 1, none⟩ = some (.int .i8 q) ∧ Below w.heap.size w w')
    (first | exact ⟨k1, k2, k3, k4, k5.drew⟩ | (go_split_ands; refine ⟨?_, ?_, ?_, ?_, ?_⟩ <;> first | assumption | simp [*, World.cell?_alloc_some] | exact Below.alloc (by assumption) (Below.size (by assumption)) _))
    (first | (go_at_call 111; refine (cmp16_any _ _ _).mono ?_; rintro e w2 ⟨rfl, rfl⟩) | (go_at_call 112; refine (cmp8_any _ _ _).mono ?_; rintro e w2 ⟨rfl, rfl⟩) | (go_at_call 110; refine (cmpOr_any _ (cmpI a b) (cmpI p q) _ ?_ ?_).mono ?_; (simp [go_sem]); (simp [go_sem]); rintro e w2 ⟨rfl, rfl⟩))
  go_wp2
  go_ret
  exact ⟨rfl, 1, #[_, _, _], by rw [HW.out, Go.Sort.alloc_eq_grow, Go.Sort.alloc_eq_grow, Go.Sort.alloc_eq_grow, Go.Sort.grow_grow, Go.Sort.grow_grow]; rfl⟩
end Go.Proofs.YtmmninlnpnhboaaGreatDoor
