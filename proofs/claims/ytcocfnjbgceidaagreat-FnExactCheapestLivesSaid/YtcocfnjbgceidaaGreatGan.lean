import Derived.Test.YtcocfnjbgceidaaGreatWok
import Derived.Deep.RegionHeld3
import Derived.Sort.Grow
import Derived.Shelf.SlSortCmp.NoneTotal
import Derived.Ground.SlsfProg
import Derived.Test.YtcocfnjbgceidaaGreatGaa
namespace Go.Proofs.YtcocfnjbgceidaaGreat
open Go.RowKit
theorem isNaN8W_any (a : Int) (w : World) :
    Calls Tryz.prog 124 #[.int .i8 a] w fun e w' => e = .returned (.bool false) ∧ w = w' := by
  go_enter Tryz.func124, Tryz.ntmps124
  go_wp2
  all_goals go_ret
  all_goals exact ⟨ret_bool (by simp), rfl⟩
def cmpJ (a b : Int) : Int := if a < b then -1 else if b < a then 1 else 0
theorem cmp8W_any (a b : Int) (w : World) :
    Calls Tryz.prog 117 #[.int .i8 a, .int .i8 b] w fun e w' => e = .returned (.int .i64 (cmpJ a b)) ∧ w = w' := by
  go_enter Tryz.func117, Tryz.ntmps117
  go_wp2_with (go_at_call 124; refine (isNaN8W_any _ _).mono ?_; rintro e w' ⟨rfl, rfl⟩)
  all_goals go_ret
  all_goals exact ⟨ret_int (by unfold cmpJ; (repeat' split) <;> omega), rfl⟩
def orJ (x y : Int) : Int := if x = 0 then y else x
theorem cmpOrW_any (g : Nat) (x y : Int) (w : World) (h1 : w.cell? ⟨g, 0, none⟩ = some (.int .i64 x)) (h2 : w.cell? ⟨g, 1, none⟩ = some (.int .i64 y)) :
    Calls Tryz.prog 116 #[.slice (some ⟨g, 0, none⟩) 2 2] w fun e w' => e = .returned (.int .i64 (orJ x y)) ∧ w = w' := by
  go_enter Tryz.func116, Tryz.ntmps116
  go_wp2_with fail
  go_loop [8] (fun i => ∃ k : Nat, k ≤ 2 ∧ i = .int .i64 k ∧ (0 < k → x = 0) ∧ (1 < k → y = 0)) (fun i => 3 - (intOf i).toNat)
  case atStart => exact ⟨0, by omega, rfl, fun h => absurd h (by omega), fun h => absurd h (by omega)⟩
  case round =>
    obtain ⟨k, hk, rfl, e1, e2⟩ := hrel
    have E1 := hide e1
    have E2 := hide e2
    clear e1 e2
    match k, hk with
    | 0, _ =>
      go_wp2
      · go_ret
        exact ⟨ret_int (by rw [orJ, if_neg (by simpa using ‹(x != 0) = true›)]), rfl⟩
      · go_round
        case rel => exact ⟨1, by omega, by go_num, fun _ => by simpa using ‹(x != 0) = false›, fun h => absurd h (by omega)⟩
        case measure => simp [intOf]
    | 1, _ =>
      go_wp2
      · go_ret
        exact ⟨ret_int (by rw [orJ, if_pos (E1.out (by omega))]), rfl⟩
      · go_round
        case rel => exact ⟨2, by omega, by go_num, fun _ => E1.out (by omega), fun _ => by simpa using ‹(y != 0) = false›⟩
        case measure => simp [intOf]
    | 2, _ =>
      go_wp2
      go_ret
      exact ⟨ret_int (by rw [orJ, if_pos (E1.out (by omega)), E2.out (by omega)]), rfl⟩
def ordJ (a p b q : Int) : Int := orJ (cmpJ a b) (cmpJ p q)
theorem ordJ_neg (a p b q : Int) : ordJ a p b q < 0 ↔ befW a p b q = true := by
  simp only [ordJ, orJ, cmpJ, befW, decide_eq_true_eq]
  (repeat' split) <;> omega
set_option maxHeartbeats 1000000 in
theorem compareWornPins_any (a p r b q t : Int) (w : World) :
    Calls Tryz.prog 102 #[.agg #[.int .i8 a, .int .i8 p, .int .i64 r], .agg #[.int .i8 b, .int .i8 q, .int .i64 t]] w fun e w' => e = .returned (.int .i64 (ordJ a p b q)) ∧ Below w.heap.size w w' := by
  go_enter Tryz.func102, Tryz.ntmps102
  go_wp2_with fail
  have k1 : ((w.alloc (.cells #[.int .i8 a, .int .i8 p, .int .i64 r] 97)).alloc (.cells #[.int .i8 b, .int .i8 q, .int .i64 t] 97)).cell? ⟨w.heap.size, 0, none⟩ = some (.int .i8 a) := by simp [go_sem, World.cell?_alloc_past]
  have k2 : ((w.alloc (.cells #[.int .i8 a, .int .i8 p, .int .i64 r] 97)).alloc (.cells #[.int .i8 b, .int .i8 q, .int .i64 t] 97)).cell? ⟨w.heap.size, 1, none⟩ = some (.int .i8 p) := by simp [go_sem, World.cell?_alloc_past]
  have k3 : ((w.alloc (.cells #[.int .i8 a, .int .i8 p, .int .i64 r] 97)).alloc (.cells #[.int .i8 b, .int .i8 q, .int .i64 t] 97)).cell? ⟨w.heap.size + 1, 0, none⟩ = some (.int .i8 b) := by simp [go_sem]
  have k4 : ((w.alloc (.cells #[.int .i8 a, .int .i8 p, .int .i64 r] 97)).alloc (.cells #[.int .i8 b, .int .i8 q, .int .i64 t] 97)).cell? ⟨w.heap.size + 1, 1, none⟩ = some (.int .i8 q) := by simp [go_sem]
  have k5 : Below w.heap.size w ((w.alloc (.cells #[.int .i8 a, .int .i8 p, .int .i64 r] 97)).alloc (.cells #[.int .i8 b, .int .i8 q, .int .i64 t] 97)) := ((Below.refl _ _).alloc (Nat.le_refl _) _).alloc (by simp) _
  obtain ⟨W, hW⟩ : ∃ W, W = ((w.alloc (.cells #[.int .i8 a, .int .i8 p, .int .i64 r] 97)).alloc (.cells #[.int .i8 b, .int .i8 q, .int .i64 t] 97)) := ⟨_, rfl⟩
  rw [← hW] at k1 k2 k3 k4 k5 ⊢
  clear hW
  go_region_held3 (fun w' => w'.cell? ⟨w.heap.size, 0, none⟩ = some (.int .i8 a) ∧ w'.cell? ⟨w.heap.size, 1, none⟩ = some (.int .i8 p) ∧ w'.cell? ⟨w.heap.size + 1, 0, none⟩ = some (.int .i8 b) ∧ w'.cell? ⟨w.heap.size + 1, 1, none⟩ = some (.int .i8 q) ∧ Below w.heap.size w w')
    (first | exact ⟨k1, k2, k3, k4, k5.drew⟩ | (go_split_ands; refine ⟨?_, ?_, ?_, ?_, ?_⟩ <;> first | assumption | simp [*, World.cell?_alloc_some] | exact Below.alloc (by assumption) (Below.size (by assumption)) _))
    (first | (go_at_call 117; refine (cmp8W_any _ _ _).mono ?_; rintro e w2 ⟨rfl, rfl⟩) | (go_at_call 116; refine (cmpOrW_any _ (cmpJ a b) (cmpJ p q) _ ?_ ?_).mono ?_; (simp [go_sem]); (simp [go_sem]); rintro e w2 ⟨rfl, rfl⟩))
  go_wp2
  go_ret
  exact ⟨rfl, (k5.alloc k5.size _).drew⟩
set_option maxHeartbeats 1000000 in
theorem compareWornPins_grow (a p r b q t : Int) (w : World) :
    Calls Tryz.prog 102 #[.agg #[.int .i8 a, .int .i8 p, .int .i64 r], .agg #[.int .i8 b, .int .i8 q, .int .i64 t]] w fun e w' => e = .returned (.int .i64 (ordJ a p b q)) ∧ ∃ (q : Nat) (os : Array Obj), w' = Go.Sort.grow (w.drewN q) os := by
  go_enter Tryz.func102, Tryz.ntmps102
  go_wp2_with fail
  have k1 : ((w.alloc (.cells #[.int .i8 a, .int .i8 p, .int .i64 r] 97)).alloc (.cells #[.int .i8 b, .int .i8 q, .int .i64 t] 97)).cell? ⟨w.heap.size, 0, none⟩ = some (.int .i8 a) := by simp [go_sem, World.cell?_alloc_past]
  have k2 : ((w.alloc (.cells #[.int .i8 a, .int .i8 p, .int .i64 r] 97)).alloc (.cells #[.int .i8 b, .int .i8 q, .int .i64 t] 97)).cell? ⟨w.heap.size, 1, none⟩ = some (.int .i8 p) := by simp [go_sem, World.cell?_alloc_past]
  have k3 : ((w.alloc (.cells #[.int .i8 a, .int .i8 p, .int .i64 r] 97)).alloc (.cells #[.int .i8 b, .int .i8 q, .int .i64 t] 97)).cell? ⟨w.heap.size + 1, 0, none⟩ = some (.int .i8 b) := by simp [go_sem]
  have k4 : ((w.alloc (.cells #[.int .i8 a, .int .i8 p, .int .i64 r] 97)).alloc (.cells #[.int .i8 b, .int .i8 q, .int .i64 t] 97)).cell? ⟨w.heap.size + 1, 1, none⟩ = some (.int .i8 q) := by simp [go_sem]
  have k5 : Below w.heap.size w ((w.alloc (.cells #[.int .i8 a, .int .i8 p, .int .i64 r] 97)).alloc (.cells #[.int .i8 b, .int .i8 q, .int .i64 t] 97)) := ((Below.refl _ _).alloc (Nat.le_refl _) _).alloc (by simp) _
  obtain ⟨W, hW⟩ : ∃ W, W = ((w.alloc (.cells #[.int .i8 a, .int .i8 p, .int .i64 r] 97)).alloc (.cells #[.int .i8 b, .int .i8 q, .int .i64 t] 97)) := ⟨_, rfl⟩
  rw [← hW] at k1 k2 k3 k4 k5 ⊢
  have HW := hide hW
  clear hW
  go_region_held3 (fun w' => w'.cell? ⟨w.heap.size, 0, none⟩ = some (.int .i8 a) ∧ w'.cell? ⟨w.heap.size, 1, none⟩ = some (.int .i8 p) ∧ w'.cell? ⟨w.heap.size + 1, 0, none⟩ = some (.int .i8 b) ∧ w'.cell? ⟨w.heap.size + 1, 1, none⟩ = some (.int .i8 q) ∧ Below w.heap.size w w')
    (first | exact ⟨k1, k2, k3, k4, k5.drew⟩ | (go_split_ands; refine ⟨?_, ?_, ?_, ?_, ?_⟩ <;> first | assumption | simp [*, World.cell?_alloc_some] | exact Below.alloc (by assumption) (Below.size (by assumption)) _))
    (first | (go_at_call 117; refine (cmp8W_any _ _ _).mono ?_; rintro e w2 ⟨rfl, rfl⟩) | (go_at_call 116; refine (cmpOrW_any _ (cmpJ a b) (cmpJ p q) _ ?_ ?_).mono ?_; (simp [go_sem]); (simp [go_sem]); rintro e w2 ⟨rfl, rfl⟩))
  go_wp2
  go_ret
  exact ⟨rfl, 1, #[_, _, _], by rw [HW.out, Go.Sort.alloc_eq_grow, Go.Sort.alloc_eq_grow, Go.Sort.alloc_eq_grow, Go.Sort.grow_grow, Go.Sort.grow_grow]; rfl⟩
end Go.Proofs.YtcocfnjbgceidaaGreat
namespace Go.Proofs.YtcocfnjbgceidaaGreat
open Go.RowKit Go.Sort
/-- a note's two cells -/
def encW (x : Int × Int × Int) : List Value := [.int .i8 x.1, .int .i8 x.2.1, .int .i64 x.2.2]
theorem encW_len (x : Int × Int × Int) : (encW x).length = 3 := rfl
theorem encW_one (x : Int × Int × Int) : ∀ v ∈ encW x, v.oneCell' = true := fun v hv => by simp [encW] at hv; rcases hv with rfl | rfl | rfl <;> rfl
theorem toArray_getW (l : List (Int × Int × Int)) (k : Nat) (h : k < l.length) : l.toArray[k]! = (wnS l k, wnT l k, wnP l k) := by
  rw [getElem!_def]
  simp only [List.getElem?_toArray, List.getElem?_eq_getElem h]
  simp [wnS, wnT, wnP, List.getD, h]
theorem flatW_get (l : List (Int × Int × Int)) (j : Nat) (h : j < l.length * 3) : (wnC l)[j]? = some ((flatK encW 3 l.toArray)[j]!) := by
  rw [get_flatK _ _ _ _ (by simpa using h)]
  have hm : j % 3 = 0 ∨ j % 3 = 1 ∨ j % 3 = 2 := by omega
  obtain ⟨h0, h1, h2⟩ := wnC_at l (j / 3) (by omega)
  rcases hm with e | e | e
  · rw [show (wnC l)[j]? = (wnC l)[j / 3 * 3]? by rw [show j / 3 * 3 = j by omega], h0, toArray_getW l (j / 3) (by omega), e]
    rfl
  · rw [show (wnC l)[j]? = (wnC l)[j / 3 * 3 + 1]? by rw [show j / 3 * 3 + 1 = j by omega], h1, toArray_getW l (j / 3) (by omega), e]
    rfl
  · rw [show (wnC l)[j]? = (wnC l)[j / 3 * 3 + 2]? by rw [show j / 3 * 3 + 2 = j by omega], h2, toArray_getW l (j / 3) (by omega), e]
    rfl
theorem holds_ownW {w : World} {base g : Nat} {t : TypeId} {q : Nat} {l : List (Int × Int × Int)} (h : w.ownsRow base t 3 (.slice (some ⟨g, 0, none⟩) l.length q) l.length (wnC l)) : HoldsK encW 3 w g 0 l.toArray := by
  intro j hj
  have hj' : j < l.length * 3 := by simpa using hj
  rw [Nat.zero_add]
  exact ⟨(h.cellAt j hj').trans (flatW_get l j hj'), h.frozenAt j⟩
theorem put_takeW (l : List (Int × Int × Int)) (cur : Array Value) (hc : l.length * 3 ≤ cur.size) : (putCells id 0 (flatK encW 3 l.toArray) cur).toList.take (l.length * 3) = wnC l := by
  apply List.ext_getElem?
  intro j
  rw [List.getElem?_take]
  by_cases hj : j < l.length * 3
  · rw [if_pos hj, flatW_get l j hj, Array.getElem?_toList]
    simp only [putCells, Array.getElem?_mapIdx]
    rw [Array.getElem?_eq_getElem (by omega), Option.map_some, if_pos ⟨Nat.zero_le _, by simpa using hj⟩]
    rfl
  · rw [if_neg hj, List.getElem?_eq_none (by rw [wnC_length]; omega)]
theorem sorted_ownW {w : World} {base g m q : Nat} {t : TypeId} {l l' : List (Int × Int × Int)} {os : Array Obj} (h : w.ownsRow base t 3 (.slice (some ⟨g, 0, none⟩) l.length q) l.length (wnC l)) (hl : l'.length = l.length) :
    (sortWorldK encW 3 w g 0 m l'.toArray os).ownsRow base t 3 (.slice (some ⟨g, 0, none⟩) l.length q) l.length (wnC l') := by
  refine ⟨by rw [wnC_length, hl], ?_⟩
  rcases h.2 with ⟨h', _⟩ | ⟨g', cap, cur, h', hb, hg, hn, hm, hs, ht⟩
  · simp at h'
  · simp only [Value.slice.injEq, Option.some.injEq, Addr.mk.injEq, and_true, true_and] at h'
    obtain ⟨rfl, rfl⟩ := h'
    have hlt : g < w.heap.size := (Array.getElem?_eq_some_iff.1 hg).1
    refine Or.inr ⟨g, q, putCells id 0 (flatK encW 3 l'.toArray) cur, rfl, hb, ?_, hn, hm, by simp [putCells, hs], ?_⟩
    · unfold sortWorldK grow putRowK
      rw [Array.getElem?_append_left (by simp [putRow, mapBlock]; exact hlt)]
      simp only [putRow, mapBlock, heap_ahead, Array.getElem?_modify, if_true, hg, Option.map_some, onCells]
    · rw [← hl]
      exact put_takeW l' cur (by rw [hs, hl]; exact Nat.mul_le_mul_right 3 hn)
theorem sorted_belowW {w : World} {base g m : Nat} {l' : List (Int × Int × Int)} {os : Array Obj} (hg : base ≤ g) (hb : base ≤ w.heap.size) : Below base w (sortWorldK encW 3 w g 0 m l'.toArray os) := by
  unfold sortWorldK grow putRowK
  refine ⟨rfl, rfl, rfl, by simp [putRow, mapBlock], fun k hk => ?_⟩
  rw [Array.getElem?_append_left (by simp [putRow, mapBlock]; omega)]
  simp only [putRow, mapBlock, heap_ahead, Array.getElem?_modify]
  rw [if_neg (by omega)]
theorem sorted_grownW {w : World} {g m : Nat} {l' : List (Int × Int × Int)} {os : Array Obj} : w.grownBy (sortWorldK encW 3 w g 0 m l'.toArray os) (some g) := by
  unfold sortWorldK grow putRowK
  refine ⟨rfl, rfl, rfl, by simp [putRow, mapBlock], fun k hk hne => ?_⟩
  rw [Array.getElem?_append_left (by simp [putRow, mapBlock]; exact hk)]
  simp only [putRow, mapBlock, heap_ahead, Array.getElem?_modify]
  rw [if_neg (fun e => hne (by rw [e]))]
/-- a worn pin before another one, as compareWornPins tells it -/
def cfW (x y : Int × Int × Int) : Int := ordJ x.1 x.2.1 y.1 y.2.1
theorem cfW_lt (x y : Int × Int × Int) : ltOf cfW x y = befW x.1 x.2.1 y.1 y.2.1 := by
  rw [Bool.eq_iff_iff]
  simp only [ltOf, decide_eq_true_eq, cfW]
  rw [← ordJ_neg]
  exact decide_eq_true_iff
theorem cfW_swo : SWO (ltOf cfW) where
  irrefl x := by rw [cfW_lt]; simp [befW]
  trans x y z h1 h2 := by rw [cfW_lt] at *; simp [befW] at *; omega
  ntrans x y z h1 h2 := by rw [cfW_lt] at *; simp [befW] at *; omega
/-- strictly ascending by place -/
def AscL (l : List (Int × Int × Int)) : Prop := l.Pairwise fun x y => befW x.1 x.2.1 y.1 y.2.1 = true
theorem ascL_same {T : List (Int × Int × Int)} (hT : AscL T) {a b : Int × Int × Int} (ha : a ∈ T) (hb : b ∈ T) (h1 : ltOf cfW a b = false) (h2 : ltOf cfW b a = false) : a = b := by
  obtain ⟨i, hi, rfl⟩ := List.getElem_of_mem ha
  obtain ⟨j, hj, rfl⟩ := List.getElem_of_mem hb
  rw [cfW_lt] at h1 h2
  have hp := List.pairwise_iff_getElem.1 hT
  rcases Nat.lt_trichotomy i j with h | h | h
  · have := hp i j hi hj h
    rw [this] at h1; cases h1
  · subst h; rfl
  · have := hp j i hj hi h
    rw [this] at h2; cases h2
theorem sortedW_unique {T m : List (Int × Int × Int)} (hT : AscL T) (hp : T.Perm m) {d' : Array (Int × Int × Int)} (hP : PermIn 0 m.toArray.size m.toArray d') (hS : SortedIn (ltOf cfW) 0 m.toArray.size d') : d'.toList = T := by
  obtain ⟨hsz, _, hperm⟩ := hP
  have e1 : d'.extract 0 m.toArray.size = d' := by rw [← hsz]; exact Array.extract_size
  rw [e1, Array.extract_size] at hperm
  have hdT : d'.toList.Perm T := hperm.trans hp.symm
  refine List.Perm.eq_of_pairwise (le := fun x y => (!(ltOf cfW) y x) = true) ?_ ?_ ?_ hdT
  · intro a b ha hb h1 h2
    simp only [Bool.not_eq_true'] at h1 h2
    exact ascL_same hT (hdT.mem_iff.1 ha) hb h2 h1
  · rw [List.pairwise_iff_getElem]
    intro i j hi hj hij
    have hi' : i < d'.size := by simpa using hi
    have hj' : j < d'.size := by simpa using hj
    have := hS i j (Nat.zero_le _) hij (by rw [← hsz]; exact hj')
    rw [getElem!_pos d' j hj', getElem!_pos d' i hi'] at this
    simpa using this
  · refine List.Pairwise.imp ?_ hT
    intro a b hab
    rw [cfW_lt]
    simp [befW] at hab ⊢
    omega
end Go.Proofs.YtcocfnjbgceidaaGreat
namespace Go.Proofs.YtcocfnjbgceidaaGreat
open Go.RowKit Go.Shelf
/-- the sort's facts at this program, for the contract of whatever element type -/
def sortRenW : Go.Shelf.Ren := ⟨fun | 14 => 125 | 15 => 126 | 20 => 127 | 21 => 128 | 22 => 129 | 23 => 130 | 24 => 131 | 25 => 132 | 26 => 133 | 27 => 134 | 28 => 135 | 29 => 136 | 46 => 137 | 47 => 138 | 48 => 139 | 49 => 140 | 50 => 141 | 57 => 142 | n => n, fun | 0 => 0 | 1 => 1 | 2 => 2 | 3 => 3 | 4 => 4 | 5 => 5 | 6 => 6 | 7 => 7 | 8 => 8 | 9 => 9 | 10 => 10 | 11 => 11 | 12 => 12 | 13 => 13 | 14 => 14 | 15 => 15 | 16 => 16 | 17 => 17 | 18 => 18 | 19 => 19 | 20 => 20 | 21 => 21 | 22 => 32 | 24 => 97 | 25 => 164 | 27 => 192 | 37 => 194 | 38 => 195 | 39 => 196 | 44 => 197 | 45 => 198 | 46 => 199 | 47 => 200 | 48 => 201 | 49 => 202 | 50 => 203 | 51 => 204 | 52 => 205 | 53 => 183 | 54 => 206 | 55 => 207 | 66 => 208 | 67 => 209 | 68 => 210 | 69 => 211 | 70 => 212 | 71 => 213 | 76 => 214 | 77 => 215 | 78 => 216 | 81 => 217 | 82 => 218 | 83 => 219 | 84 => 220 | 85 => 221 | 86 => 222 | 87 => 223 | 88 => 224 | 89 => 225 | 90 => 226 | 91 => 227 | 92 => 228 | 93 => 229 | 94 => 230 | 95 => 231 | 96 => 236 | n => n, fun | n => n⟩
theorem sortLaysW : Go.Proofs.SlLaysF0.n14 Tryz.prog sortRenW := {
  mixed := by kernel_rfl
  f14 := ⟨Tryz.f125.name, by decide, Tryz.func125.trans (congrArg some (by kernel_rfl))⟩
  f15 := Tryz.func126.trans (congrArg some (by kernel_rfl))
  f20 := ⟨Tryz.f127.name, by decide, Tryz.func127.trans (congrArg some (by kernel_rfl))⟩
  f21 := ⟨Tryz.f128.name, by decide, Tryz.func128.trans (congrArg some (by kernel_rfl))⟩
  f22 := ⟨Tryz.f129.name, by decide, Tryz.func129.trans (congrArg some (by kernel_rfl))⟩
  f23 := ⟨Tryz.f130.name, by decide, Tryz.func130.trans (congrArg some (by kernel_rfl))⟩
  f24 := ⟨Tryz.f131.name, by decide, Tryz.func131.trans (congrArg some (by kernel_rfl))⟩
  f25 := ⟨Tryz.f132.name, by decide, Tryz.func132.trans (congrArg some (by kernel_rfl))⟩
  f26 := ⟨Tryz.f133.name, by decide, Tryz.func133.trans (congrArg some (by kernel_rfl))⟩
  f27 := ⟨Tryz.f134.name, by decide, Tryz.func134.trans (congrArg some (by kernel_rfl))⟩
  f28 := Tryz.func135.trans (congrArg some (by kernel_rfl))
  f29 := Tryz.func136.trans (congrArg some (by kernel_rfl))
  f46 := ⟨Tryz.f137.name, by decide, Tryz.func137.trans (congrArg some (by kernel_rfl))⟩
  f47 := Tryz.func138.trans (congrArg some (by kernel_rfl))
  f48 := Tryz.func139.trans (congrArg some (by kernel_rfl))
  f49 := ⟨Tryz.f140.name, by decide, Tryz.func140.trans (congrArg some (by kernel_rfl))⟩
  f50 := ⟨Tryz.f141.name, by decide, Tryz.func141.trans (congrArg some (by kernel_rfl))⟩
  f57 := ⟨Tryz.f142.name, by decide, Tryz.func142.trans (congrArg some (by kernel_rfl))⟩
  t0 := Tryz.underlying0
  a0 := Tryz.isAgg0
  z0 := Tryz.sizeOf0
  v0 := Tryz.zeroValue0
  t3 := Tryz.underlying3
  a3 := Tryz.isAgg3
  z3 := Tryz.sizeOf3
  v3 := Tryz.zeroValue3
  t4 := Tryz.underlying4
  a4 := Tryz.isAgg4
  z4 := Tryz.sizeOf4
  v4 := Tryz.zeroValue4
  t5 := Tryz.underlying5
  a5 := Tryz.isAgg5
  z5 := Tryz.sizeOf5
  v5 := Tryz.zeroValue5
  t9 := Tryz.underlying9
  a9 := Tryz.isAgg9
  z9 := Tryz.sizeOf9
  v9 := Tryz.zeroValue9
  t22 := Tryz.underlying32
  a22 := Tryz.isAgg32
  z22 := Tryz.sizeOf32
  v22 := Tryz.zeroValue32
  t25 := Tryz.underlying164
  a25 := Tryz.isAgg164
  z25 := Tryz.sizeOf164
  v25 := Tryz.zeroValue164
  t39 := Tryz.underlying196
  a39 := Tryz.isAgg196
  z39 := Tryz.sizeOf196
  v39 := Tryz.zeroValue196
  t45 := Tryz.underlying198
  a45 := Tryz.isAgg198
  z45 := Tryz.sizeOf198
  v45 := Tryz.zeroValue198
  t46 := Tryz.underlying199
  a46 := Tryz.isAgg199
  z46 := Tryz.sizeOf199
  v46 := Tryz.zeroValue199
  t50 := Tryz.underlying203
  a50 := Tryz.isAgg203
  z50 := Tryz.sizeOf203
  v50 := Tryz.zeroValue203
  t53 := Tryz.underlying183
  a53 := Tryz.isAgg183
  z53 := Tryz.sizeOf183
  v53 := Tryz.zeroValue183
  t55 := Tryz.underlying207
  a55 := Tryz.isAgg207
  z55 := Tryz.sizeOf207
  v55 := Tryz.zeroValue207
  t66 := Tryz.underlying208
  a66 := Tryz.isAgg208
  z66 := Tryz.sizeOf208
  v66 := Tryz.zeroValue208
  t70 := Tryz.underlying212
  a70 := Tryz.isAgg212
  z70 := Tryz.sizeOf212
  v70 := Tryz.zeroValue212
  t76 := Tryz.underlying214
  a76 := Tryz.isAgg214
  z76 := Tryz.sizeOf214
  v76 := Tryz.zeroValue214
  t77 := Tryz.underlying215
  a77 := Tryz.isAgg215
  z77 := Tryz.sizeOf215
  v77 := Tryz.zeroValue215 }
end Go.Proofs.YtcocfnjbgceidaaGreat
