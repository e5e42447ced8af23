import Derived.Test.YtmjpecneaenlpaaDoorDcm
import Derived.Lib.LaidTab
import Derived.Sort.Grow
import Derived.BigQuiet
import Derived.Lib.Join
import Derived.Lib.ItoaLen
import Derived.Maps.AppendAt
import Derived.Test.YtmjpecneaenlpaaDoorBase
import Derived.Test.YtmjpecneaenlpaaDoorProg
import Derived.Maps.OwnOps
namespace Go.Proofs.YtmjpecneaenlpaaDoor
open Go.RowKit
theorem dec_len2 {n : Nat} (h : n < 100) : (Lib.decDigits n).length ≤ 2 := by
  by_cases h1 : n < 10
  · rw [dec_small h1]; simp
  · rw [dec_big h1, dec_small (show n / 10 < 10 by omega)]; simp
theorem dec_len3 {n : Nat} (h : n < 1000) : (Lib.decDigits n).length ≤ 3 := by
  by_cases h1 : n < 10
  · rw [dec_small h1]; simp
  · have := dec_len2 (show n / 10 < 100 by omega)
    rw [dec_big h1]; simp; omega
theorem itoa_nat (n : Nat) : Lib.itoa (n : Int) = Lib.decDigits n := by unfold Lib.itoa; rw [if_neg (by omega)]; simp
theorem ba_size (b : ByteArray) : b.data.toList.length = b.size := by rw [Array.length_toList]; rfl
theorem ba_mk (l : List UInt8) : (⟨l.toArray⟩ : ByteArray).size = l.length := rfl
theorem below_drewN {B : Nat} {w w' : World} (h : Below B w w') (n : Nat) : Below B w (w'.drewN n) := by
  induction n with
  | zero => exact h
  | succ n ih => exact ih.drew
theorem below_growS {B : Nat} {w w' : World} (h : Below B w w') (hB : B ≤ w'.heap.size) (os : Array Obj) : Below B w (Sort.grow w' os) :=
  h.trans ⟨rfl, rfl, rfl, by simp [Sort.grow], fun k hk => by simp only [Sort.grow]; rw [Array.getElem?_append_left (by omega)]⟩
theorem info9 : (Tryd.prog.info? 9).map (fun i => (i.zero, i.size, i.bytes)) = some (some (.string ⟨#[]⟩), 1, 16) := by kernel_rfl
def strs (l : List ByteArray) : List Value := l.map .string
theorem own_strs {w : World} {base n : Nat} {g : Option Addr} {c : Nat} {l : List ByteArray} (h : w.ownsRow base 9 1 (.slice g n c) n (strs l)) (hn : n ≠ 0) : ∃ b, g = some ⟨b, 0, none⟩ ∧ b < w.heap.size ∧ n ≤ c ∧ ∀ (j : Nat) x, l[j]? = some x → w.cell? ⟨b, 0 + j, none⟩ = some (.string x) := by
  rcases h.2 with ⟨_, h0⟩ | ⟨b, cap, cur, hv, hb, hc, hcap, _, hsz, htk⟩
  · exact absurd h0 hn
  · cases hv
    refine ⟨b, rfl, (Array.getElem?_eq_some_iff.1 hc).1, hcap, fun j x hx => ?_⟩
    rw [cell_of_row _ _ _ _ _ _ hc, Nat.zero_add, ← Array.getElem?_toList]
    have h1 : (strs l)[j]? = some (.string x) := by simp [strs, hx]
    rw [← htk] at h1
    rw [List.getElem?_take] at h1
    split at h1
    · exact h1
    · cases h1
theorem own_shapeS {w : World} {base : Nat} {e : TypeId} {size n : Nat} {v : Value} {xs : List Value} (h : w.ownsRow base e size v n xs) : ∃ A c, v = .slice A n c := by
  rcases h.2 with ⟨h', h0⟩ | ⟨g, cap, cur, h', _⟩
  · exact ⟨none, 0, by rw [h', h0]⟩
  · exact ⟨_, _, h'⟩
theorem join_snocS (s : UInt8) (xs : List (List UInt8)) (x : List UInt8) (h : xs ≠ []) : Lib.join (xs ++ [x]) [s] = Lib.join xs [s] ++ s :: x := by
  cases xs with
  | nil => exact absurd rfl h
  | cons y r => simp [Lib.join_cons, Lib.joinTail]
/-- the first k texts of a family, and what joins them -/
def txP (X : Nat → ByteArray) (k : Nat) : List ByteArray := (List.range k).map X
def txJ (X : Nat → ByteArray) (s : UInt8) (k : Nat) : List UInt8 := Lib.join ((txP X k).map (·.data.toList)) [s]
theorem txP_len (X : Nat → ByteArray) (k : Nat) : (txP X k).length = k := by simp [txP]
theorem txP_succ (X : Nat → ByteArray) (k : Nat) : txP X (k + 1) = txP X k ++ [X k] := by simp [txP, List.range_succ]
theorem txJ_zero (X : Nat → ByteArray) (s : UInt8) : txJ X s 0 = [] := rfl
theorem txJ_succ (X : Nat → ByteArray) (s : UInt8) (k : Nat) : txJ X s (k + 1) = txJ X s k ++ ((if k = 0 then [] else [s]) ++ (X k).data.toList) := by
  by_cases hk : k = 0
  · subst hk
    simp [txJ, txP, Lib.join_one, Lib.join_nil]
  · rw [if_neg hk]
    have h : (txP X k).map (·.data.toList) ≠ [] := fun h => hk (by simpa [txP] using h)
    simp only [txJ, txP_succ, List.map_append, List.map_cons, List.map_nil, join_snocS _ _ _ h]
    rfl
theorem tx_step (X : Nat → ByteArray) (s : UInt8) (k : Nat) : (if k = 0 then (⟨(txJ X s k).toArray⟩ : ByteArray) else ⟨(txJ X s k).toArray⟩ ++ ⟨#[s]⟩) ++ X k = ⟨(txJ X s (k + 1)).toArray⟩ := by
  rw [txJ_succ]
  apply ByteArray.ext
  by_cases h0 : k = 0
  · simp [h0, ByteArray.data_append, txJ_zero]
  · simp [h0, ByteArray.data_append]
theorem txJ_len (X : Nat → ByteArray) (s : UInt8) (m k : Nat) (h : ∀ j, j < k → (X j).data.toList.length ≤ m) : (txJ X s k).length ≤ (m + 1) * k := by
  induction k with
  | zero => simp [txJ_zero]
  | succ k ih =>
    have h1 := ih fun j hj => h j (by omega)
    have h2 := h k (by omega)
    rw [txJ_succ]
    rw [List.length_append, List.length_append, Nat.mul_add, Nat.mul_one]
    have h3 : (if k = 0 then [] else [s]).length ≤ 1 := by split <;> simp
    omega
/-- the table of powers of ten lies as its initialiser lays it -/
def PowW (w : World) : Prop := Lib.TabIs Tryd.prog w "internal/strconv.uint64pow10" .u64 Lib.pow10Tab
theorem PowW.below {w w' : World} (h : PowW w) (hb : Below w.heap.size w w') : PowW w' := by
  unfold PowW Lib.TabIs World.var? at *
  cases hg : Tryd.prog.globalNamed "internal/strconv.uint64pow10" with
  | none => rw [hg] at h; cases h
  | some g =>
    rw [hg] at h
    simp only [Option.bind_some] at h ⊢
    rcases Nat.lt_or_ge g w.heap.size with hl | hl
    · rw [hb.block g hl]
      exact h
    · rw [Array.getElem?_eq_none hl] at h
      cases h
end Go.Proofs.YtmjpecneaenlpaaDoor
namespace Go.Proofs.YtmjpecneaenlpaaDoor
open Go.RowKit
/-- a bool comes back; what there was is as it was -/
def Says (b : Bool) (w : World) (e : Ending) (w' : World) : Prop := e = .returned (.bool b) ∧ Below w.heap.size w w'
def inB (n l m : Int) : Bool := decide (l ≤ n ∧ n ≤ m)
theorem l00In_any (n l m : Int) (w : World) :
    Calls Tryd.prog 61 #[.int .i64 n, .int .i64 l, .int .i64 m] w fun e w' => e = .returned (.bool (inB n l m)) ∧ w = w' := by
  go_enter Tryd.func61, Tryd.ntmps61
  go_wp2
  all_goals go_ret
  all_goals exact ⟨ret_bool (by simp [inB] <;> omega), rfl⟩
theorem within_any (n l m : Int) (w : World) :
    Calls Tryd.prog 83 #[.int .i64 n, .int .i64 l, .int .i64 m] w fun e w' => e = .returned (.bool (inB n l m)) ∧ w = w' := by
  go_enter Tryd.func83, Tryd.ntmps83
  go_wp2
  all_goals go_ret
  all_goals exact ⟨ret_bool (by simp [inB] <;> omega), rfl⟩
def sameB (l m : List (Int × Int)) : Bool := decide (l = m)
/-- two values come back; what there was is as it was -/
def Pair (x y : Value) (w : World) (e : Ending) (w' : World) : Prop := e = .returned (.tuple #[x, y]) ∧ Below w.heap.size w w'
def codeI (b : Bool) : Int := if b then 0 else 1
/-- a number where the bool says yes, and 0 -/
def onlyI (b : Bool) (x : Int) : Int := if b then x else 0
theorem ret2 {x x' y y' : Value} (h1 : x = x') (h2 : y = y') : Ending.returned (.tuple #[x, y]) = .returned (.tuple #[x', y']) := by rw [h1, h2]
set_option maxRecDepth 20000 in
theorem bool_inv {v : Value} {z : DataW Unit × List MemPlace} (h : plainElem Tryd.prog 4 v = some z) : ∃ x, v = .bool x ∧ z = (.lit (.bool x), []) := by
  unfold plainElem at h
  rw [Tryd.underlying4] at h
  cases v <;> simp at h
  exact ⟨_, rfl, h.symm⟩
theorem info54 : (Tryd.prog.info? 54).map (fun i => (i.zero, i.size, i.bytes)) = some (some (.agg #[.int .i16 0, .int .i8 0]), 2, 4) := by kernel_rfl
theorem info2 : (Tryd.prog.info? 2).map (fun i => (i.zero, i.size, i.bytes)) = some (some (.int .i64 0), 1, 8) := by kernel_rfl
theorem sameB_refl (l : List (Int × Int)) : sameB l l = true := decide_eq_true rfl
theorem mapM_all {α β : Type} (f : α → Option β) (g : α → β) : ∀ l : List α, (∀ x ∈ l, f x = some (g x)) → l.mapM f = some (l.map g)
  | [], _ => rfl
  | a :: l, h => by
    rw [List.mapM_cons, h a (by simp), mapM_all f g l fun x hx => h x (by simp [hx])]
    rfl
theorem grown_refl (w : World) (row : Option Nat) : w.grownBy w row := ⟨rfl, rfl, rfl, Nat.le_refl _, fun _ _ _ => rfl⟩
theorem grown_set {w w' : World} {g i : Nat} {v : Value} (h : w.grownBy w' (some g)) : w.grownBy (w'.setCell ⟨g, i, none⟩ v) (some g) :=
  h.trans ⟨rfl, rfl, rfl, by simp, fun j _ hne => heap_setCell_other w' ⟨g, i, none⟩ j v (fun e => hne (by rw [e]))⟩
end Go.Proofs.YtmjpecneaenlpaaDoor
