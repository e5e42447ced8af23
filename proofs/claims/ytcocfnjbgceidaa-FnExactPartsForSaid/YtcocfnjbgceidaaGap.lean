import Derived.Test.YtcocfnjbgceidaaWok
import Derived.Deep.RegionHeld3
import Derived.Sort.Grow
import Derived.Shelf.SlSortCmp.NoneTotal
import Derived.Ground.SlsfProg
import Derived.Test.YtcocfnjbgceidaaGaa
namespace Go.Proofs.Ytcocfnjbgceidaa
open Go.RowKit
theorem isNaN8W_any (a : Int) (w : World) :
    Calls Try.prog 176 #[.int .i8 a] w fun e w' => e = .returned (.bool false) ∧ w = w' := by
  go_enter Try.func176, Try.ntmps176
  go_wp2
  all_goals go_ret
  all_goals exact ⟨ret_bool (by simp), rfl⟩
def cmpJ (a b : Int) : Int := if a < b then -1 else if b < a then 1 else 0
theorem cmp8W_any (a b : Int) (w : World) :
    Calls Try.prog 149 #[.int .i8 a, .int .i8 b] w fun e w' => e = .returned (.int .i64 (cmpJ a b)) ∧ w = w' := by
  go_enter Try.func149, Try.ntmps149
  go_wp2_with (go_at_call 176; refine (isNaN8W_any _ _).mono ?_; rintro e w' ⟨rfl, rfl⟩)
  all_goals go_ret
  all_goals exact ⟨ret_int (by unfold cmpJ; (repeat' split) <;> omega), rfl⟩
def orJ (x y : Int) : Int := if x = 0 then y else x
theorem cmpOrW_any (g : Nat) (x y : Int) (w : World) (h1 : w.cell? ⟨g, 0, none⟩ = some (.int .i64 x)) (h2 : w.cell? ⟨g, 1, none⟩ = some (.int .i64 y)) :
    Calls Try.prog 148 #[.slice (some ⟨g, 0, none⟩) 2 2] w fun e w' => e = .returned (.int .i64 (orJ x y)) ∧ w = w' := by
  go_enter Try.func148, Try.ntmps148
  go_wp2_with fail
  go_loop [8] (fun i => ∃ k : Nat, k ≤ 2 ∧ i = .int .i64 k ∧ (0 < k → x = 0) ∧ (1 < k → y = 0)) (fun i => 3 - (intOf i).toNat)
  case atStart => exact ⟨0, by omega, rfl, fun h => absurd h (by omega), fun h => absurd h (by omega)⟩
  case round =>
    obtain ⟨k, hk, rfl, e1, e2⟩ := hrel
    have E1 := hide e1
    have E2 := hide e2
    clear e1 e2
    match k, hk with
    | 0, _ =>
      go_wp2
      · go_ret
        exact ⟨ret_int (by rw [orJ, if_neg (by simpa using ‹(x != 0) = true›)]), rfl⟩
      · go_round
        case rel => exact ⟨1, by omega, by go_num, fun _ => by simpa using ‹(x != 0) = false›, fun h => absurd h (by omega)⟩
        case measure => simp [intOf]
    | 1, _ =>
      go_wp2
      · go_ret
        exact ⟨ret_int (by rw [orJ, if_pos (E1.out (by omega))]), rfl⟩
      · go_round
        case rel => exact ⟨2, by omega, by go_num, fun _ => E1.out (by omega), fun _ => by simpa using ‹(y != 0) = false›⟩
        case measure => simp [intOf]
    | 2, _ =>
      go_wp2
      go_ret
      exact ⟨ret_int (by rw [orJ, if_pos (E1.out (by omega)), E2.out (by omega)]), rfl⟩
def ordJ (a p b q : Int) : Int := orJ (cmpJ a b) (cmpJ p q)
theorem ordJ_neg (a p b q : Int) : ordJ a p b q < 0 ↔ befW a p b q = true := by
  simp only [ordJ, orJ, cmpJ, befW, decide_eq_true_eq]
  (repeat' split) <;> omega
set_option maxHeartbeats 1000000 in
theorem compareWornPins_any (a p r b q t : Int) (w : World) :
    Calls Try.prog 111 #[.agg #[.int .i8 a, .int .i8 p, .int .i64 r], .agg #[.int .i8 b, .int .i8 q, .int .i64 t]] w fun e w' => e = .returned (.int .i64 (ordJ a p b q)) ∧ Below w.heap.size w w' := by
  go_enter Try.func111, Try.ntmps111
  go_wp2_with fail
  have k1 : ((w.alloc (.cells #[.int .i8 a, .int .i8 p, .int .i64 r] 136)).alloc (.cells #[.int .i8 b, .int .i8 q, .int .i64 t] 136)).cell? ⟨w.heap.size, 0, none⟩ = some (.int .i8 a) := by simp [go_sem, World.cell?_alloc_past]
  have k2 : ((w.alloc (.cells #[.int .i8 a, .int .i8 p, .int .i64 r] 136)).alloc (.cells #[.int .i8 b, .int .i8 q, .int .i64 t] 136)).cell? ⟨w.heap.size, 1, none⟩ = some (.int .i8 p) := by simp [go_sem, World.cell?_alloc_past]
  have k3 : ((w.alloc (.cells #[.int .i8 a, .int .i8 p, .int .i64 r] 136)).alloc (.cells #[.int .i8 b, .int .i8 q, .int .i64 t] 136)).cell? ⟨w.heap.size + 1, 0, none⟩ = some (.int .i8 b) := by simp [go_sem]
  have k4 : ((w.alloc (.cells #[.int .i8 a, .int .i8 p, .int .i64 r] 136)).alloc (.cells #[.int .i8 b, .int .i8 q, .int .i64 t] 136)).cell? ⟨w.heap.size + 1, 1, none⟩ = some (.int .i8 q) := by simp [go_sem]
  have k5 : Below w.heap.size w ((w.alloc (.cells #[.int .i8 a, .int .i8 p, .int .i64 r] 136)).alloc (.cells #[.int .i8 b, .int .i8 q, .int .i64 t] 136)) := ((Below.refl _ _).alloc (Nat.le_refl _) _).alloc (by simp) _
  obtain ⟨W, hW⟩ : ∃ W, W = ((w.alloc (.cells #[.int .i8 a, .int .i8 p, .int .i64 r] 136)).alloc (.cells #[.int .i8 b, .int .i8 q, .int .i64 t] 136)) := ⟨_, rfl⟩
  rw [← hW] at k1 k2 k3 k4 k5 ⊢
  clear hW
  go_region_held3 (fun w' => w'.cell? ⟨w.heap.size, 0, none⟩ = some (.int .i8 a) ∧ w'.cell? ⟨w.heap.size, 1, none⟩ = some (.int .i8 p) ∧ w'.cell? ⟨w.heap.size + 1, 0, none⟩ = some (.int .i8 b) ∧ w'.cell? ⟨w.heap.size + 1, 1, none⟩ = some (.int .i8 q) ∧ Below w.heap.size w w')
    (first | exact ⟨k1, k2, k3, k4, k5.drew⟩ | (go_split_ands; refine ⟨?_, ?_, ?_, ?_, ?_⟩ <;> first | assumption | simp [*, World.cell?_alloc_some] | exact Below.alloc (by assumption) (Below.size (by assumption)) _))
    (first | (go_at_call 149; refine (cmp8W_any _ _ _).mono ?_; rintro e w2 ⟨rfl, rfl⟩) | (go_at_call 148; refine (cmpOrW_any _ (cmpJ a b) (cmpJ p q) _ ?_ ?_).mono ?_; (simp [go_sem]); (simp [go_sem]); rintro e w2 ⟨rfl, rfl⟩))
  go_wp2
  go_ret
  exact ⟨rfl, (k5.alloc k5.size _).drew⟩
set_option maxHeartbeats 1000000 in
theorem compareWornPins_grow (a p r b q t : Int) (w : World) :
    Calls Try.prog 111 #[.agg #[.int .i8 a, .int .i8 p, .int .i64 r], .agg #[.int .i8 b, .int .i8 q, .int .i64 t]] w fun e w' => e = .returned (.int .i64 (ordJ a p b q)) ∧ ∃ (q : Nat) (os : Array Obj), w' = Go.Sort.grow (w.drewN q) os := by
  go_enter Try.func111, Try.ntmps111
  go_wp2_with fail
  have k1 : ((w.alloc (.cells #[.int .i8 a, .int .i8 p, .int .i64 r] 136)).alloc (.cells #[.int .i8 b, .int .i8 q, .int .i64 t] 136)).cell? ⟨w.heap.size, 0, none⟩ = some (.int .i8 a) := by simp [go_sem, World.cell?_alloc_past]
  have k2 : ((w.alloc (.cells #[.int .i8 a, .int .i8 p, .int .i64 r] 136)).alloc (.cells #[.int .i8 b, .int .i8 q, .int .i64 t] 136)).cell? ⟨w.heap.size, 1, none⟩ = some (.int .i8 p) := by simp [go_sem, World.cell?_alloc_past]
  have k3 : ((w.alloc (.cells #[.int .i8 a, .int .i8 p, .int .i64 r] 136)).alloc (.cells #[.int .i8 b, .int .i8 q, .int .i64 t] 136)).cell? ⟨w.heap.size + 1, 0, none⟩ = some (.int .i8 b) := by simp [go_sem]
  have k4 : ((w.alloc (.cells #[.int .i8 a, .int .i8 p, .int .i64 r] 136)).alloc (.cells #[.int .i8 b, .int .i8 q, .int .i64 t] 136)).cell? ⟨w.heap.size + 1, 1, none⟩ = some (.int .i8 q) := by simp [go_sem]
  have k5 : Below w.heap.size w ((w.alloc (.cells #[.int .i8 a, .int .i8 p, .int .i64 r] 136)).alloc (.cells #[.int .i8 b, .int .i8 q, .int .i64 t] 136)) := ((Below.refl _ _).alloc (Nat.le_refl _) _).alloc (by simp) _
  obtain ⟨W, hW⟩ : ∃ W, W = ((w.alloc (.cells #[.int .i8 a, .int .i8 p, .int .i64 r] 136)).alloc (.cells #[.int .i8 b, .int .i8 q, .int .i64 t] 136)) := ⟨_, rfl⟩
  rw [← hW] at k1 k2 k3 k4 k5 ⊢
  have HW := hide hW
  clear hW
  go_region_held3 (fun w' => w'.cell? ⟨w.heap.size, 0, none⟩ = some (.int .i8 a) ∧ w'.cell? ⟨w.heap.size, 1, none⟩ = some (.int .i8 p) ∧ w'.cell? ⟨w.heap.size + 1, 0, none⟩ = some (.int .i8 b) ∧ w'.cell? ⟨w.heap.size + 1, 1, none⟩ = some (.int .i8 q) ∧ Below w.heap.size w w')
    (first | exact ⟨k1, k2, k3, k4, k5.drew⟩ | (go_split_ands; refine ⟨?_, ?_, ?_, ?_, ?_⟩ <;> first | assumption | simp [*, World.cell?_alloc_some] | exact Below.alloc (by assumption) (Below.size (by assumption)) _))
    (first | (go_at_call 149; refine (cmp8W_any _ _ _).mono ?_; rintro e w2 ⟨rfl, rfl⟩) | (go_at_call 148; refine (cmpOrW_any _ (cmpJ a b) (cmpJ p q) _ ?_ ?_).mono ?_; (simp [go_sem]); (simp [go_sem]); rintro e w2 ⟨rfl, rfl⟩))
  go_wp2
  go_ret
  exact ⟨rfl, 1, #[_, _, _], by rw [HW.out, Go.Sort.alloc_eq_grow, Go.Sort.alloc_eq_grow, Go.Sort.alloc_eq_grow, Go.Sort.grow_grow, Go.Sort.grow_grow]; rfl⟩
end Go.Proofs.Ytcocfnjbgceidaa
namespace Go.Proofs.Ytcocfnjbgceidaa
open Go.RowKit Go.Sort
/-- a note's two cells -/
def encW (x : Int × Int × Int) : List Value := [.int .i8 x.1, .int .i8 x.2.1, .int .i64 x.2.2]
theorem encW_len (x : Int × Int × Int) : (encW x).length = 3 := rfl
theorem encW_one (x : Int × Int × Int) : ∀ v ∈ encW x, v.oneCell' = true := fun v hv => by simp [encW] at hv; rcases hv with rfl | rfl | rfl <;> rfl
theorem toArray_getW (l : List (Int × Int × Int)) (k : Nat) (h : k < l.length) : l.toArray[k]! = (wnS l k, wnT l k, wnP l k) := by
  rw [getElem!_def]
  simp only [List.getElem?_toArray, List.getElem?_eq_getElem h]
  simp [wnS, wnT, wnP, List.getD, h]
theorem flatW_get (l : List (Int × Int × Int)) (j : Nat) (h : j < l.length * 3) : (wnC l)[j]? = some ((flatK encW 3 l.toArray)[j]!) := by
  rw [get_flatK _ _ _ _ (by simpa using h)]
  have hm : j % 3 = 0 ∨ j % 3 = 1 ∨ j % 3 = 2 := by omega
  obtain ⟨h0, h1, h2⟩ := wnC_at l (j / 3) (by omega)
  rcases hm with e | e | e
  · rw [show (wnC l)[j]? = (wnC l)[j / 3 * 3]? by rw [show j / 3 * 3 = j by omega], h0, toArray_getW l (j / 3) (by omega), e]
    rfl
  · rw [show (wnC l)[j]? = (wnC l)[j / 3 * 3 + 1]? by rw [show j / 3 * 3 + 1 = j by omega], h1, toArray_getW l (j / 3) (by omega), e]
    rfl
  · rw [show (wnC l)[j]? = (wnC l)[j / 3 * 3 + 2]? by rw [show j / 3 * 3 + 2 = j by omega], h2, toArray_getW l (j / 3) (by omega), e]
    rfl
theorem holds_ownW {w : World} {base g : Nat} {t : TypeId} {q : Nat} {l : List (Int × Int × Int)} (h : w.ownsRow base t 3 (.slice (some ⟨g, 0, none⟩) l.length q) l.length (wnC l)) : HoldsK encW 3 w g 0 l.toArray := by
  intro j hj
  have hj' : j < l.length * 3 := by simpa using hj
  rw [Nat.zero_add]
  exact ⟨(h.cellAt j hj').trans (flatW_get l j hj'), h.frozenAt j⟩
theorem put_takeW (l : List (Int × Int × Int)) (cur : Array Value) (hc : l.length * 3 ≤ cur.size) : (putCells id 0 (flatK encW 3 l.toArray) cur).toList.take (l.length * 3) = wnC l := by
  apply List.ext_getElem?
  intro j
  rw [List.getElem?_take]
  by_cases hj : j < l.length * 3
  · rw [if_pos hj, flatW_get l j hj, Array.getElem?_toList]
    simp only [putCells, Array.getElem?_mapIdx]
    rw [Array.getElem?_eq_getElem (by omega), Option.map_some, if_pos ⟨Nat.zero_le _, by simpa using hj⟩]
    rfl
  · rw [if_neg hj, List.getElem?_eq_none (by rw [wnC_length]; omega)]
theorem sorted_ownW {w : World} {base g m q : Nat} {t : TypeId} {l l' : List (Int × Int × Int)} {os : Array Obj} (h : w.ownsRow base t 3 (.slice (some ⟨g, 0, none⟩) l.length q) l.length (wnC l)) (hl : l'.length = l.length) :
    (sortWorldK encW 3 w g 0 m l'.toArray os).ownsRow base t 3 (.slice (some ⟨g, 0, none⟩) l.length q) l.length (wnC l') := by
  refine ⟨by rw [wnC_length, hl], ?_⟩
  rcases h.2 with ⟨h', _⟩ | ⟨g', cap, cur, h', hb, hg, hn, hm, hs, ht⟩
  · simp at h'
  · simp only [Value.slice.injEq, Option.some.injEq, Addr.mk.injEq, and_true, true_and] at h'
    obtain ⟨rfl, rfl⟩ := h'
    have hlt : g < w.heap.size := (Array.getElem?_eq_some_iff.1 hg).1
    refine Or.inr ⟨g, q, putCells id 0 (flatK encW 3 l'.toArray) cur, rfl, hb, ?_, hn, hm, by simp [putCells, hs], ?_⟩
    · unfold sortWorldK grow putRowK
      rw [Array.getElem?_append_left (by simp [putRow, mapBlock]; exact hlt)]
      simp only [putRow, mapBlock, heap_ahead, Array.getElem?_modify, if_true, hg, Option.map_some, onCells]
    · rw [← hl]
      exact put_takeW l' cur (by rw [hs, hl]; exact Nat.mul_le_mul_right 3 hn)
theorem sorted_belowW {w : World} {base g m : Nat} {l' : List (Int × Int × Int)} {os : Array Obj} (hg : base ≤ g) (hb : base ≤ w.heap.size) : Below base w (sortWorldK encW 3 w g 0 m l'.toArray os) := by
  unfold sortWorldK grow putRowK
  refine ⟨rfl, rfl, rfl, by simp [putRow, mapBlock], fun k hk => ?_⟩
  rw [Array.getElem?_append_left (by simp [putRow, mapBlock]; omega)]
  simp only [putRow, mapBlock, heap_ahead, Array.getElem?_modify]
  rw [if_neg (by omega)]
theorem sorted_grownW {w : World} {g m : Nat} {l' : List (Int × Int × Int)} {os : Array Obj} : w.grownBy (sortWorldK encW 3 w g 0 m l'.toArray os) (some g) := by
  unfold sortWorldK grow putRowK
  refine ⟨rfl, rfl, rfl, by simp [putRow, mapBlock], fun k hk hne => ?_⟩
  rw [Array.getElem?_append_left (by simp [putRow, mapBlock]; exact hk)]
  simp only [putRow, mapBlock, heap_ahead, Array.getElem?_modify]
  rw [if_neg (fun e => hne (by rw [e]))]
/-- a worn pin before another one, as compareWornPins tells it -/
def cfW (x y : Int × Int × Int) : Int := ordJ x.1 x.2.1 y.1 y.2.1
theorem cfW_lt (x y : Int × Int × Int) : ltOf cfW x y = befW x.1 x.2.1 y.1 y.2.1 := by
  rw [Bool.eq_iff_iff]
  simp only [ltOf, decide_eq_true_eq, cfW]
  rw [← ordJ_neg]
  exact decide_eq_true_iff
theorem cfW_swo : SWO (ltOf cfW) where
  irrefl x := by rw [cfW_lt]; simp [befW]
  trans x y z h1 h2 := by rw [cfW_lt] at *; simp [befW] at *; omega
  ntrans x y z h1 h2 := by rw [cfW_lt] at *; simp [befW] at *; omega
/-- strictly ascending by place -/
def AscL (l : List (Int × Int × Int)) : Prop := l.Pairwise fun x y => befW x.1 x.2.1 y.1 y.2.1 = true
theorem ascL_same {T : List (Int × Int × Int)} (hT : AscL T) {a b : Int × Int × Int} (ha : a ∈ T) (hb : b ∈ T) (h1 : ltOf cfW a b = false) (h2 : ltOf cfW b a = false) : a = b := by
  obtain ⟨i, hi, rfl⟩ := List.getElem_of_mem ha
  obtain ⟨j, hj, rfl⟩ := List.getElem_of_mem hb
  rw [cfW_lt] at h1 h2
  have hp := List.pairwise_iff_getElem.1 hT
  rcases Nat.lt_trichotomy i j with h | h | h
  · have := hp i j hi hj h
    rw [this] at h1; cases h1
  · subst h; rfl
  · have := hp j i hj hi h
    rw [this] at h2; cases h2
theorem sortedW_unique {T m : List (Int × Int × Int)} (hT : AscL T) (hp : T.Perm m) {d' : Array (Int × Int × Int)} (hP : PermIn 0 m.toArray.size m.toArray d') (hS : SortedIn (ltOf cfW) 0 m.toArray.size d') : d'.toList = T := by
  obtain ⟨hsz, _, hperm⟩ := hP
  have e1 : d'.extract 0 m.toArray.size = d' := by rw [← hsz]; exact Array.extract_size
  rw [e1, Array.extract_size] at hperm
  have hdT : d'.toList.Perm T := hperm.trans hp.symm
  refine List.Perm.eq_of_pairwise (le := fun x y => (!(ltOf cfW) y x) = true) ?_ ?_ ?_ hdT
  · intro a b ha hb h1 h2
    simp only [Bool.not_eq_true'] at h1 h2
    exact ascL_same hT (hdT.mem_iff.1 ha) hb h2 h1
  · rw [List.pairwise_iff_getElem]
    intro i j hi hj hij
    have hi' : i < d'.size := by simpa using hi
    have hj' : j < d'.size := by simpa using hj
    have := hS i j (Nat.zero_le _) hij (by rw [← hsz]; exact hj')
    rw [getElem!_pos d' j hj', getElem!_pos d' i hi'] at this
    simpa using this
  · refine List.Pairwise.imp ?_ hT
    intro a b hab
    rw [cfW_lt]
    simp [befW] at hab ⊢
    omega
end Go.Proofs.Ytcocfnjbgceidaa
namespace Go.Proofs.Ytcocfnjbgceidaa
open Go.RowKit Go.Shelf
/-- the sort's facts at this program, for the contract of whatever element type -/
def sortRenW : Go.Shelf.Ren := ⟨fun | 14 => 177 | 15 => 178 | 20 => 186 | 21 => 187 | 22 => 188 | 23 => 189 | 24 => 190 | 25 => 191 | 26 => 192 | 27 => 193 | 28 => 194 | 29 => 195 | 46 => 200 | 47 => 201 | 48 => 202 | 49 => 203 | 50 => 204 | 57 => 207 | n => n, fun | 0 => 0 | 1 => 1 | 2 => 2 | 3 => 3 | 4 => 4 | 5 => 5 | 6 => 6 | 7 => 7 | 8 => 8 | 9 => 9 | 10 => 10 | 11 => 11 | 12 => 12 | 13 => 13 | 14 => 14 | 15 => 15 | 16 => 16 | 17 => 17 | 18 => 18 | 19 => 19 | 20 => 20 | 21 => 21 | 22 => 62 | 24 => 136 | 25 => 182 | 27 => 260 | 37 => 262 | 38 => 263 | 39 => 264 | 44 => 274 | 45 => 275 | 46 => 276 | 47 => 277 | 48 => 278 | 49 => 279 | 50 => 280 | 51 => 281 | 52 => 282 | 53 => 246 | 54 => 283 | 55 => 284 | 66 => 288 | 67 => 289 | 68 => 290 | 69 => 291 | 70 => 292 | 71 => 293 | 76 => 295 | 77 => 296 | 78 => 297 | 81 => 298 | 82 => 299 | 83 => 300 | 84 => 301 | 85 => 302 | 86 => 303 | 87 => 304 | 88 => 305 | 89 => 306 | 90 => 307 | 91 => 308 | 92 => 309 | 93 => 310 | 94 => 311 | 95 => 312 | 96 => 317 | n => n, fun | n => n⟩
theorem sortLaysW : Go.Proofs.SlLaysF0.n14 Try.prog sortRenW := {
  mixed := by kernel_rfl
  f14 := ⟨Try.f177.name, by decide, Try.func177.trans (congrArg some (by kernel_rfl))⟩
  f15 := Try.func178.trans (congrArg some (by kernel_rfl))
  f20 := ⟨Try.f186.name, by decide, Try.func186.trans (congrArg some (by kernel_rfl))⟩
  f21 := ⟨Try.f187.name, by decide, Try.func187.trans (congrArg some (by kernel_rfl))⟩
  f22 := ⟨Try.f188.name, by decide, Try.func188.trans (congrArg some (by kernel_rfl))⟩
  f23 := ⟨Try.f189.name, by decide, Try.func189.trans (congrArg some (by kernel_rfl))⟩
  f24 := ⟨Try.f190.name, by decide, Try.func190.trans (congrArg some (by kernel_rfl))⟩
  f25 := ⟨Try.f191.name, by decide, Try.func191.trans (congrArg some (by kernel_rfl))⟩
  f26 := ⟨Try.f192.name, by decide, Try.func192.trans (congrArg some (by kernel_rfl))⟩
  f27 := ⟨Try.f193.name, by decide, Try.func193.trans (congrArg some (by kernel_rfl))⟩
  f28 := Try.func194.trans (congrArg some (by kernel_rfl))
  f29 := Try.func195.trans (congrArg some (by kernel_rfl))
  f46 := ⟨Try.f200.name, by decide, Try.func200.trans (congrArg some (by kernel_rfl))⟩
  f47 := Try.func201.trans (congrArg some (by kernel_rfl))
  f48 := Try.func202.trans (congrArg some (by kernel_rfl))
  f49 := ⟨Try.f203.name, by decide, Try.func203.trans (congrArg some (by kernel_rfl))⟩
  f50 := ⟨Try.f204.name, by decide, Try.func204.trans (congrArg some (by kernel_rfl))⟩
  f57 := ⟨Try.f207.name, by decide, Try.func207.trans (congrArg some (by kernel_rfl))⟩
  t0 := Try.underlying0
  a0 := Try.isAgg0
  z0 := Try.sizeOf0
  v0 := Try.zeroValue0
  t3 := Try.underlying3
  a3 := Try.isAgg3
  z3 := Try.sizeOf3
  v3 := Try.zeroValue3
  t4 := Try.underlying4
  a4 := Try.isAgg4
  z4 := Try.sizeOf4
  v4 := Try.zeroValue4
  t5 := Try.underlying5
  a5 := Try.isAgg5
  z5 := Try.sizeOf5
  v5 := Try.zeroValue5
  t9 := Try.underlying9
  a9 := Try.isAgg9
  z9 := Try.sizeOf9
  v9 := Try.zeroValue9
  t22 := Try.underlying62
  a22 := Try.isAgg62
  z22 := Try.sizeOf62
  v22 := Try.zeroValue62
  t25 := Try.underlying182
  a25 := Try.isAgg182
  z25 := Try.sizeOf182
  v25 := Try.zeroValue182
  t39 := Try.underlying264
  a39 := Try.isAgg264
  z39 := Try.sizeOf264
  v39 := Try.zeroValue264
  t45 := Try.underlying275
  a45 := Try.isAgg275
  z45 := Try.sizeOf275
  v45 := Try.zeroValue275
  t46 := Try.underlying276
  a46 := Try.isAgg276
  z46 := Try.sizeOf276
  v46 := Try.zeroValue276
  t50 := Try.underlying280
  a50 := Try.isAgg280
  z50 := Try.sizeOf280
  v50 := Try.zeroValue280
  t53 := Try.underlying246
  a53 := Try.isAgg246
  z53 := Try.sizeOf246
  v53 := Try.zeroValue246
  t55 := Try.underlying284
  a55 := Try.isAgg284
  z55 := Try.sizeOf284
  v55 := Try.zeroValue284
  t66 := Try.underlying288
  a66 := Try.isAgg288
  z66 := Try.sizeOf288
  v66 := Try.zeroValue288
  t70 := Try.underlying292
  a70 := Try.isAgg292
  z70 := Try.sizeOf292
  v70 := Try.zeroValue292
  t76 := Try.underlying295
  a76 := Try.isAgg295
  z76 := Try.sizeOf295
  v76 := Try.zeroValue295
  t77 := Try.underlying296
  a77 := Try.isAgg296
  z77 := Try.sizeOf296
  v77 := Try.zeroValue296 }
end Go.Proofs.Ytcocfnjbgceidaa
