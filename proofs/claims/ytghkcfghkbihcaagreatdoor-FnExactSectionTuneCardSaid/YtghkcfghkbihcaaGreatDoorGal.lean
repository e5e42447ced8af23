import Derived.Test.YtghkcfghkbihcaaGreatDoorGaj
import Derived.Test.YtghkcfghkbihcaaGreatDoorGak
import Derived.Test.YtghkcfghkbihcaaGreatDoorGag
import Derived.Deep.CutRange
import Derived.Test.YtghkcfghkbihcaaGreatDoorFrs
import Derived.Deep.RegionHeld3
import Derived.Sort.Grow
import Derived.Shelf.SlSortCmp.NoneTotal
import Derived.Ground.SlsfProg
import Derived.Test.YtghkcfghkbihcaaGreatDoorGaa
namespace Go.Proofs.YtghkcfghkbihcaaGreatDoor
open Go.RowKit
/-- a slice's address under which the numbers lie -/
def SZ (w : World) (A : Option Addr) (zs : List Int) : Prop := ∀ k, k < zs.length → ∃ b o, A = some ⟨b, o, none⟩ ∧ b < w.heap.size ∧ w.cell? ⟨b, o + k, none⟩ = some (.int .i64 (zAt zs k))
def ZWF (zs : List Int) : Prop := ∀ k, k < zs.length → -9223372036854775808 ≤ zAt zs k ∧ zAt zs k ≤ 9223372036854775807
theorem SZ.below {w w' : World} {A : Option Addr} {l : List Int} (h : SZ w A l) (hb : Below w.heap.size w w') : SZ w' A l := by
  intro k hk
  obtain ⟨b, o, rfl, hlt, h1⟩ := h k hk
  exact ⟨b, o, rfl, Nat.lt_of_lt_of_le hlt hb.size, (hb.cell (p := ⟨b, _, none⟩) hlt).trans h1⟩
theorem SZ.of_own {w : World} {base : Nat} {A : Option Addr} {c : Nat} {zs : List Int} (h : w.ownsRow base 2 1 (.slice A zs.length c) zs.length (icells zs)) : SZ w A zs := by
  intro k hk
  rcases h.2 with ⟨h', h0⟩ | ⟨g, cap, cur, h', hb, hg, _⟩
  · omega
  · simp only [Value.slice.injEq, true_and] at h'
    obtain ⟨rfl, rfl⟩ := h'
    exact ⟨g, 0, rfl, (Array.getElem?_eq_some_iff.1 hg).1, by rw [Nat.zero_add, h.cellAt k (by omega), icells_get zs k hk]⟩
def zupto (l : List Int) (k : Nat) : List Int := l.take k ++ List.replicate (l.length - k) 0
theorem zupto_length (l : List Int) (k : Nat) (h : k ≤ l.length) : (zupto l k).length = l.length := by simp [zupto]; omega
theorem zupto_set (l : List Int) (k : Nat) (h : k < l.length) : (zupto l k).set k (zAt l k) = zupto l (k + 1) := by
  have e1 : l.length - k = (l.length - (k + 1)) + 1 := by omega
  have e2 : zAt l k = l[k] := by simp [zAt, List.getD, h]
  rw [zupto, zupto, e1, List.replicate_succ, e2, List.take_succ_eq_append_getElem h, List.set_append_right _ _ (by simp; omega)]
  simp only [List.length_take, show k - min k l.length = 0 by omega, List.set_cons_zero, List.append_assoc, List.cons_append, List.nil_append]
theorem zupto_zero (l : List Int) : zupto l 0 = List.replicate l.length 0 := by simp [zupto]
theorem zupto_all (l : List Int) : zupto l l.length = l := by simp [zupto]
theorem icells_replicate (n : Nat) : icells (List.replicate n 0) = (madeCells #[.int .i64 0] n).toList := by
  apply List.ext_getElem?
  intro j
  by_cases hj : j < n
  · simp [icells, madeCells, hj, Nat.mod_one]
  · rw [List.getElem?_eq_none (by rw [icells_length]; simp; omega), List.getElem?_eq_none (by simp [madeCells]; omega)]
end Go.Proofs.YtghkcfghkbihcaaGreatDoor
namespace Go.Proofs.YtghkcfghkbihcaaGreatDoor
open Go.RowKit

theorem own_low {w : World} {b b' : Nat} {e : TypeId} {n : Nat} {v : Value} {k : Nat} {xs : List Value} (h : w.ownsRow b e n v k xs) (hb : b' ≤ b) : w.ownsRow b' e n v k xs := by
  refine ⟨h.1, ?_⟩
  rcases h.2 with h' | ⟨g, cap, cur, h1, h2, h3, r⟩
  · exact Or.inl h'
  · exact Or.inr ⟨g, cap, cur, h1, Nat.le_trans hb h2, h3, r⟩
end Go.Proofs.YtghkcfghkbihcaaGreatDoor
namespace Go.Proofs.YtghkcfghkbihcaaGreatDoor
open Go.RowKit
def plW (s : Int) (n : Nat) (x y : Int) : Bool := inB x 0 (s - 1) && inB y 0 ((n : Int) - 1)
def befW (a p b q : Int) : Bool := decide (a < b ∨ a = b ∧ p < q)
def wnOk (s : Int) (n : Nat) (l : List (Int × Int × Int)) (k : Nat) : Bool := plW s n (wnS l k) (wnT l k) && inB (wnP l k) 0 1000000
def wnAsc (l : List (Int × Int × Int)) (k : Nat) : Bool := decide (k = 0) || befW (wnS l (k - 1)) (wnT l (k - 1)) (wnS l k) (wnT l k)
def pinsB (s : Int) (n : Nat) (l : List (Int × Int × Int)) : Bool := (List.range l.length).all fun k => wnOk s n l k && wnAsc l k
def strB (z : List Int) : Bool := (List.range z.length).all fun k => inB (zAt z k) 0 1000000
/-- a wear is valid -/
def weB (s : Int) (h : List (Int × Int)) (l : List (Int × Int × Int)) (z : List Int) : Bool := frB s h && decide (z.length = h.length) && pinsB s h.length l && strB z
def PG (s : Int) (n : Nat) (l : List (Int × Int × Int)) (k : Nat) : Prop := ∀ j, j < k → (wnOk s n l j && wnAsc l j) = true
def ZG (z : List Int) (k : Nat) : Prop := ∀ j, j < k → inB (zAt z j) 0 1000000 = true
theorem PG_succ {s : Int} {n : Nat} {l : List (Int × Int × Int)} {k : Nat} (h : PG s n l k) (h' : (wnOk s n l k && wnAsc l k) = true) : PG s n l (k + 1) := fun j hj => by
  rcases Nat.lt_or_ge j k with h1 | h1
  · exact h j h1
  · rw [show j = k by omega]; exact h'
theorem ZG_succ {z : List Int} {k : Nat} (h : ZG z k) (h' : inB (zAt z k) 0 1000000 = true) : ZG z (k + 1) := fun j hj => by
  rcases Nat.lt_or_ge j k with h1 | h1
  · exact h j h1
  · rw [show j = k by omega]; exact h'
theorem pinsB_yes {s : Int} {n : Nat} {l : List (Int × Int × Int)} (h : PG s n l l.length) : pinsB s n l = true := by simp only [pinsB, List.all_eq_true, List.mem_range]; exact h
theorem pinsB_no {s : Int} {n : Nat} {l : List (Int × Int × Int)} {k : Nat} (hk : k < l.length) (h : (wnOk s n l k && wnAsc l k) = false) : pinsB s n l = false := by
  rw [pinsB, List.all_eq_false]
  exact ⟨k, List.mem_range.2 hk, by simp [h]⟩
theorem strB_yes {z : List Int} (h : ZG z z.length) : strB z = true := by simp only [strB, List.all_eq_true, List.mem_range]; exact h
theorem strB_no {z : List Int} {k : Nat} (hk : k < z.length) (h : inB (zAt z k) 0 1000000 = false) : strB z = false := by
  rw [strB, List.all_eq_false]
  exact ⟨k, List.mem_range.2 hk, by simp [h]⟩

end Go.Proofs.YtghkcfghkbihcaaGreatDoor
namespace Go.Proofs.YtghkcfghkbihcaaGreatDoor
open Go.RowKit
theorem isNaN8W_any (a : Int) (w : World) :
    Calls Tryz.prog 114 #[.int .i8 a] w fun e w' => e = .returned (.bool false) ∧ w = w' := by
  go_enter Tryz.func114, Tryz.ntmps114
  go_wp2
  all_goals go_ret
  all_goals exact ⟨ret_bool (by simp), rfl⟩
def cmpJ (a b : Int) : Int := if a < b then -1 else if b < a then 1 else 0
theorem cmp8W_any (a b : Int) (w : World) :
    Calls Tryz.prog 98 #[.int .i8 a, .int .i8 b] w fun e w' => e = .returned (.int .i64 (cmpJ a b)) ∧ w = w' := by
  go_enter Tryz.func98, Tryz.ntmps98
  go_wp2_with (go_at_call 114; refine (isNaN8W_any _ _).mono ?_; rintro e w' ⟨rfl, rfl⟩)
  all_goals go_ret
  all_goals exact ⟨ret_int (by unfold cmpJ; (repeat' split) <;> omega), rfl⟩
def orJ (x y : Int) : Int := if x = 0 then y else x
theorem cmpOrW_any (g : Nat) (x y : Int) (w : World) (h1 : w.cell? ⟨g, 0, none⟩ = some (.int .i64 x)) (h2 : w.cell? ⟨g, 1, none⟩ = some (.int .i64 y)) :
    Calls Tryz.prog 96 #[.slice (some ⟨g, 0, none⟩) 2 2] w fun e w' => e = .returned (.int .i64 (orJ x y)) ∧ w = w' := by
  go_enter Tryz.func96, Tryz.ntmps96
  go_wp2_with fail
  go_loop [8] (fun i => ∃ k : Nat, k ≤ 2 ∧ i = .int .i64 k ∧ (0 < k → x = 0) ∧ (1 < k → y = 0)) (fun i => 3 - (intOf i).toNat)
  case atStart => exact ⟨0, by omega, rfl, fun h => absurd h (by omega), fun h => absurd h (by omega)⟩
  case round =>
    obtain ⟨k, hk, rfl, e1, e2⟩ := hrel
    have E1 := hide e1
    have E2 := hide e2
    clear e1 e2
    match k, hk with
    | 0, _ =>
      go_wp2
      · go_ret
        exact ⟨ret_int (by rw [orJ, if_neg (by simpa using ‹(x != 0) = true›)]), rfl⟩
      · go_round
        case rel => exact ⟨1, by omega, by go_num, fun _ => by simpa using ‹(x != 0) = false›, fun h => absurd h (by omega)⟩
        case measure => simp [intOf]
    | 1, _ =>
      go_wp2
      · go_ret
        exact ⟨ret_int (by rw [orJ, if_pos (E1.out (by omega))]), rfl⟩
      · go_round
        case rel => exact ⟨2, by omega, by go_num, fun _ => E1.out (by omega), fun _ => by simpa using ‹(y != 0) = false›⟩
        case measure => simp [intOf]
    | 2, _ =>
      go_wp2
      go_ret
      exact ⟨ret_int (by rw [orJ, if_pos (E1.out (by omega)), E2.out (by omega)]), rfl⟩
def ordJ (a p b q : Int) : Int := orJ (cmpJ a b) (cmpJ p q)
theorem ordJ_neg (a p b q : Int) : ordJ a p b q < 0 ↔ befW a p b q = true := by
  simp only [ordJ, orJ, cmpJ, befW, decide_eq_true_eq]
  (repeat' split) <;> omega
end Go.Proofs.YtghkcfghkbihcaaGreatDoor
namespace Go.Proofs.YtghkcfghkbihcaaGreatDoor
open Go.RowKit Go.Sort
/-- a note's two cells -/
def encW (x : Int × Int × Int) : List Value := [.int .i8 x.1, .int .i8 x.2.1, .int .i64 x.2.2]
theorem encW_len (x : Int × Int × Int) : (encW x).length = 3 := rfl
theorem encW_one (x : Int × Int × Int) : ∀ v ∈ encW x, v.oneCell' = true := fun v hv => by simp [encW] at hv; rcases hv with rfl | rfl | rfl <;> rfl
theorem toArray_getW (l : List (Int × Int × Int)) (k : Nat) (h : k < l.length) : l.toArray[k]! = (wnS l k, wnT l k, wnP l k) := by
  rw [getElem!_def]
  simp only [List.getElem?_toArray, List.getElem?_eq_getElem h]
  simp [wnS, wnT, wnP, List.getD, h]
theorem flatW_get (l : List (Int × Int × Int)) (j : Nat) (h : j < l.length * 3) : (wnC l)[j]? = some ((flatK encW 3 l.toArray)[j]!) := by
  rw [get_flatK _ _ _ _ (by simpa using h)]
  have hm : j % 3 = 0 ∨ j % 3 = 1 ∨ j % 3 = 2 := by omega
  obtain ⟨h0, h1, h2⟩ := wnC_at l (j / 3) (by omega)
  rcases hm with e | e | e
  · rw [show (wnC l)[j]? = (wnC l)[j / 3 * 3]? by rw [show j / 3 * 3 = j by omega], h0, toArray_getW l (j / 3) (by omega), e]
    rfl
  · rw [show (wnC l)[j]? = (wnC l)[j / 3 * 3 + 1]? by rw [show j / 3 * 3 + 1 = j by omega], h1, toArray_getW l (j / 3) (by omega), e]
    rfl
  · rw [show (wnC l)[j]? = (wnC l)[j / 3 * 3 + 2]? by rw [show j / 3 * 3 + 2 = j by omega], h2, toArray_getW l (j / 3) (by omega), e]
    rfl
theorem holds_ownW {w : World} {base g : Nat} {t : TypeId} {q : Nat} {l : List (Int × Int × Int)} (h : w.ownsRow base t 3 (.slice (some ⟨g, 0, none⟩) l.length q) l.length (wnC l)) : HoldsK encW 3 w g 0 l.toArray := by
  intro j hj
  have hj' : j < l.length * 3 := by simpa using hj
  rw [Nat.zero_add]
  exact ⟨(h.cellAt j hj').trans (flatW_get l j hj'), h.frozenAt j⟩
theorem put_takeW (l : List (Int × Int × Int)) (cur : Array Value) (hc : l.length * 3 ≤ cur.size) : (putCells id 0 (flatK encW 3 l.toArray) cur).toList.take (l.length * 3) = wnC l := by
  apply List.ext_getElem?
  intro j
  rw [List.getElem?_take]
  by_cases hj : j < l.length * 3
  · rw [if_pos hj, flatW_get l j hj, Array.getElem?_toList]
    simp only [putCells, Array.getElem?_mapIdx]
    rw [Array.getElem?_eq_getElem (by omega), Option.map_some, if_pos ⟨Nat.zero_le _, by simpa using hj⟩]
    rfl
  · rw [if_neg hj, List.getElem?_eq_none (by rw [wnC_length]; omega)]
theorem sorted_ownW {w : World} {base g m q : Nat} {t : TypeId} {l l' : List (Int × Int × Int)} {os : Array Obj} (h : w.ownsRow base t 3 (.slice (some ⟨g, 0, none⟩) l.length q) l.length (wnC l)) (hl : l'.length = l.length) :
    (sortWorldK encW 3 w g 0 m l'.toArray os).ownsRow base t 3 (.slice (some ⟨g, 0, none⟩) l.length q) l.length (wnC l') := by
  refine ⟨by rw [wnC_length, hl], ?_⟩
  rcases h.2 with ⟨h', _⟩ | ⟨g', cap, cur, h', hb, hg, hn, hm, hs, ht⟩
  · simp at h'
  · simp only [Value.slice.injEq, Option.some.injEq, Addr.mk.injEq, and_true, true_and] at h'
    obtain ⟨rfl, rfl⟩ := h'
    have hlt : g < w.heap.size := (Array.getElem?_eq_some_iff.1 hg).1
    refine Or.inr ⟨g, q, putCells id 0 (flatK encW 3 l'.toArray) cur, rfl, hb, ?_, hn, hm, by simp [putCells, hs], ?_⟩
    · unfold sortWorldK grow putRowK
      rw [Array.getElem?_append_left (by simp [putRow, mapBlock]; exact hlt)]
      simp only [putRow, mapBlock, heap_ahead, Array.getElem?_modify, if_true, hg, Option.map_some, onCells]
    · rw [← hl]
      exact put_takeW l' cur (by rw [hs, hl]; exact Nat.mul_le_mul_right 3 hn)
theorem sorted_belowW {w : World} {base g m : Nat} {l' : List (Int × Int × Int)} {os : Array Obj} (hg : base ≤ g) (hb : base ≤ w.heap.size) : Below base w (sortWorldK encW 3 w g 0 m l'.toArray os) := by
  unfold sortWorldK grow putRowK
  refine ⟨rfl, rfl, rfl, by simp [putRow, mapBlock], fun k hk => ?_⟩
  rw [Array.getElem?_append_left (by simp [putRow, mapBlock]; omega)]
  simp only [putRow, mapBlock, heap_ahead, Array.getElem?_modify]
  rw [if_neg (by omega)]
theorem sorted_grownW {w : World} {g m : Nat} {l' : List (Int × Int × Int)} {os : Array Obj} : w.grownBy (sortWorldK encW 3 w g 0 m l'.toArray os) (some g) := by
  unfold sortWorldK grow putRowK
  refine ⟨rfl, rfl, rfl, by simp [putRow, mapBlock], fun k hk hne => ?_⟩
  rw [Array.getElem?_append_left (by simp [putRow, mapBlock]; exact hk)]
  simp only [putRow, mapBlock, heap_ahead, Array.getElem?_modify]
  rw [if_neg (fun e => hne (by rw [e]))]
/-- a worn pin before another one, as compareWornPins tells it -/
def cfW (x y : Int × Int × Int) : Int := ordJ x.1 x.2.1 y.1 y.2.1
theorem cfW_lt (x y : Int × Int × Int) : ltOf cfW x y = befW x.1 x.2.1 y.1 y.2.1 := by
  rw [Bool.eq_iff_iff]
  simp only [ltOf, decide_eq_true_eq, cfW]
  rw [← ordJ_neg]
  exact decide_eq_true_iff
theorem cfW_swo : SWO (ltOf cfW) where
  irrefl x := by rw [cfW_lt]; simp [befW]
  trans x y z h1 h2 := by rw [cfW_lt] at *; simp [befW] at *; omega
  ntrans x y z h1 h2 := by rw [cfW_lt] at *; simp [befW] at *; omega
/-- strictly ascending by place -/
def AscL (l : List (Int × Int × Int)) : Prop := l.Pairwise fun x y => befW x.1 x.2.1 y.1 y.2.1 = true
theorem ascL_same {T : List (Int × Int × Int)} (hT : AscL T) {a b : Int × Int × Int} (ha : a ∈ T) (hb : b ∈ T) (h1 : ltOf cfW a b = false) (h2 : ltOf cfW b a = false) : a = b := by
  obtain ⟨i, hi, rfl⟩ := List.getElem_of_mem ha
  obtain ⟨j, hj, rfl⟩ := List.getElem_of_mem hb
  rw [cfW_lt] at h1 h2
  have hp := List.pairwise_iff_getElem.1 hT
  rcases Nat.lt_trichotomy i j with h | h | h
  · have := hp i j hi hj h
    rw [this] at h1; cases h1
  · subst h; rfl
  · have := hp j i hj hi h
    rw [this] at h2; cases h2
theorem sortedW_unique {T m : List (Int × Int × Int)} (hT : AscL T) (hp : T.Perm m) {d' : Array (Int × Int × Int)} (hP : PermIn 0 m.toArray.size m.toArray d') (hS : SortedIn (ltOf cfW) 0 m.toArray.size d') : d'.toList = T := by
  obtain ⟨hsz, _, hperm⟩ := hP
  have e1 : d'.extract 0 m.toArray.size = d' := by rw [← hsz]; exact Array.extract_size
  rw [e1, Array.extract_size] at hperm
  have hdT : d'.toList.Perm T := hperm.trans hp.symm
  refine List.Perm.eq_of_pairwise (le := fun x y => (!(ltOf cfW) y x) = true) ?_ ?_ ?_ hdT
  · intro a b ha hb h1 h2
    simp only [Bool.not_eq_true'] at h1 h2
    exact ascL_same hT (hdT.mem_iff.1 ha) hb h2 h1
  · rw [List.pairwise_iff_getElem]
    intro i j hi hj hij
    have hi' : i < d'.size := by simpa using hi
    have hj' : j < d'.size := by simpa using hj
    have := hS i j (Nat.zero_le _) hij (by rw [← hsz]; exact hj')
    rw [getElem!_pos d' j hj', getElem!_pos d' i hi'] at this
    simpa using this
  · refine List.Pairwise.imp ?_ hT
    intro a b hab
    rw [cfW_lt]
    simp [befW] at hab ⊢
    omega
end Go.Proofs.YtghkcfghkbihcaaGreatDoor
namespace Go.Proofs.YtghkcfghkbihcaaGreatDoor
open Go.RowKit Go.Shelf
end Go.Proofs.YtghkcfghkbihcaaGreatDoor
namespace Go.Proofs.YtghkcfghkbihcaaGreatDoor
open Go.RowKit Go.Shelf Go.Lib
open Go.Sort (SWO HoldsK PermIn SortedIn pdq pdq_sorts sorted_unique_holds)
end Go.Proofs.YtghkcfghkbihcaaGreatDoor
