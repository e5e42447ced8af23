import Derived.Test.YtehmkablandefaaGreatDoorGac
import Derived.Test.YtehmkablandefaaGreatDoorGag
import Derived.Test.YtehmkablandefaaGreatDoorGad
import Derived.Deep.CutRange
import Derived.Test.YtehmkablandefaaGreatDoorGab
import Derived.Deep.RegionHeld3
import Derived.Sort.Grow
namespace Go.Proofs.YtehmkablandefaaGreatDoor
open Go.RowKit

/-- worn pins as cells -/
def wnC (l : List (Int × Int × Int)) : List Value := l.flatMap fun n => [.int .i8 n.1, .int .i8 n.2.1, .int .i64 n.2.2]
def wnS (l : List (Int × Int × Int)) (k : Nat) : Int := (l.getD k (0, 0, 0)).1
def wnT (l : List (Int × Int × Int)) (k : Nat) : Int := (l.getD k (0, 0, 0)).2.1
def wnP (l : List (Int × Int × Int)) (k : Nat) : Int := (l.getD k (0, 0, 0)).2.2
def WnWF (l : List (Int × Int × Int)) : Prop := ∀ k, k < l.length → (-128 ≤ wnS l k ∧ wnS l k ≤ 127) ∧ (-128 ≤ wnT l k ∧ wnT l k ≤ 127) ∧ (-9223372036854775808 ≤ wnP l k ∧ wnP l k ≤ 9223372036854775807)

theorem wnC_nil : wnC [] = [] := rfl
theorem wnC_cons (n : Int × Int × Int) (l : List (Int × Int × Int)) : wnC (n :: l) = .int .i8 n.1 :: .int .i8 n.2.1 :: .int .i64 n.2.2 :: wnC l := rfl
theorem wnC_append (l m : List (Int × Int × Int)) : wnC (l ++ m) = wnC l ++ wnC m := by simp [wnC]
theorem wnC_length (l : List (Int × Int × Int)) : (wnC l).length = l.length * 3 := by
  induction l with
  | nil => rfl
  | cons n l ih => simp [wnC_cons, ih]; omega
theorem wnC_at (l : List (Int × Int × Int)) : ∀ k, k < l.length → (wnC l)[k * 3]? = some (.int .i8 (wnS l k)) ∧ (wnC l)[k * 3 + 1]? = some (.int .i8 (wnT l k)) ∧ (wnC l)[k * 3 + 2]? = some (.int .i64 (wnP l k)) := by
  induction l with
  | nil => intro k h; simp at h
  | cons n l ih =>
    intro k h
    cases k with
    | zero => simp [wnC_cons, wnS, wnT, wnP]
    | succ k =>
      have := ih k (by simpa using h)
      rw [show (k + 1) * 3 = k * 3 + 1 + 1 + 1 from by omega, show k * 3 + 1 + 1 + 1 + 1 = (k * 3 + 1) + 1 + 1 + 1 from rfl, show k * 3 + 1 + 1 + 1 + 2 = (k * 3 + 2) + 1 + 1 + 1 from rfl]
      simpa [wnC_cons, wnS, wnT, wnP] using this
theorem wnC_set (l : List (Int × Int × Int)) : ∀ (k : Nat) (a p : Int) (q : Int), wnC (l.set k (a, p, q)) = (((wnC l).set (k * 3) (.int .i8 a)).set (k * 3 + 1) (.int .i8 p)).set (k * 3 + 2) (.int .i64 q) := by
  induction l with
  | nil => intro k a p q; simp [wnC_nil]
  | cons n l ih =>
    intro k a p q
    cases k with
    | zero => simp [wnC_cons]
    | succ k =>
      rw [show (k + 1) * 3 = k * 3 + 1 + 1 + 1 from by omega, show k * 3 + 1 + 1 + 1 + 1 = (k * 3 + 1) + 1 + 1 + 1 from rfl, show k * 3 + 1 + 1 + 1 + 2 = (k * 3 + 2) + 1 + 1 + 1 from rfl]
      simp [wnC_cons, ih]
theorem wnC_replicate (n : Nat) : wnC (List.replicate n (0, 0, 0)) = (madeCells #[.int .i8 0, .int .i8 0, .int .i64 0] (n * 3)).toList := by
  apply List.ext_getElem?
  intro j
  by_cases hj : j < n * 3
  · have hk : j / 3 < (List.replicate n ((0 : Int), (0 : Int), (0 : Int))).length := by simp; omega
    obtain ⟨h0, h1, h2⟩ := wnC_at (List.replicate n (0, 0, 0)) (j / 3) hk
    have hm : j % 3 = 0 ∨ j % 3 = 1 ∨ j % 3 = 2 := by omega
    rcases hm with h | h | h
    · rw [show j = j / 3 * 3 by omega, h0]
      simp [madeCells, wnS, List.getD, List.getElem?_replicate, show j / 3 < n by omega, show j / 3 * 3 < n * 3 by omega]
    · rw [show j = j / 3 * 3 + 1 by omega, h1]
      simp [madeCells, wnT, List.getD, List.getElem?_replicate, show j / 3 < n by omega, show j / 3 * 3 + 1 < n * 3 by omega, show (j / 3 * 3 + 1) % 3 = 1 by omega]
    · rw [show j = j / 3 * 3 + 2 by omega, h2]
      simp [madeCells, wnP, List.getD, List.getElem?_replicate, show j / 3 < n by omega, show j / 3 * 3 + 2 < n * 3 by omega, show (j / 3 * 3 + 2) % 3 = 2 by omega]
  · rw [List.getElem?_eq_none (by rw [wnC_length]; simp; omega), List.getElem?_eq_none (by simp [madeCells]; omega)]

/-- a slice's address under which worn pins lie -/
def WnA (w : World) (A : Option Addr) (l : List (Int × Int × Int)) : Prop :=
  ∀ k, k < l.length → ∃ b o, A = some ⟨b, o, none⟩ ∧ b < w.heap.size ∧ w.cell? ⟨b, o + k * 3, none⟩ = some (.int .i8 (wnS l k)) ∧ w.cell? ⟨b, o + k * 3 + 1, none⟩ = some (.int .i8 (wnT l k)) ∧ w.cell? ⟨b, o + k * 3 + 2, none⟩ = some (.int .i64 (wnP l k))
theorem WnA.below {w w' : World} {A : Option Addr} {l : List (Int × Int × Int)} (h : WnA w A l) (hb : Below w.heap.size w w') : WnA w' A l := by
  intro k hk
  obtain ⟨b, o, rfl, hlt, h1, h2, h3⟩ := h k hk
  exact ⟨b, o, rfl, Nat.lt_of_lt_of_le hlt hb.size, (hb.cell (p := ⟨b, _, none⟩) hlt).trans h1, (hb.cell (p := ⟨b, _, none⟩) hlt).trans h2, (hb.cell (p := ⟨b, _, none⟩) hlt).trans h3⟩
theorem WnA.of_own {w : World} {base : Nat} {e : TypeId} {A : Option Addr} {c : Nat} {l : List (Int × Int × Int)} (h : w.ownsRow base e 3 (.slice A l.length c) l.length (wnC l)) : WnA w A l := by
  intro k hk
  rcases h.2 with ⟨h', h0⟩ | ⟨g, cap, cur, h', hb, hg, _⟩
  · omega
  · simp only [Value.slice.injEq, true_and] at h'
    obtain ⟨rfl, rfl⟩ := h'
    obtain ⟨h0, h1, h2⟩ := wnC_at l k hk
    refine ⟨g, 0, rfl, (Array.getElem?_eq_some_iff.1 hg).1, ?_, ?_, ?_⟩
    · rw [Nat.zero_add, h.cellAt (k * 3) (by omega), h0]
    · rw [Nat.zero_add, h.cellAt (k * 3 + 1) (by omega), h1]
    · rw [Nat.zero_add, h.cellAt (k * 3 + 2) (by omega), h2]
theorem wnown_set3 {w : World} {base : Nat} {e : TypeId} {g n c : Nat} {l : List (Int × Int × Int)} (h : w.ownsRow base e 3 (.slice (some ⟨g, 0, none⟩) n c) n (wnC l)) (k : Nat) (a p : Int) (q : Int) :
    (((w.setCell ⟨g, k * 3, none⟩ (.int .i8 a)).setCell ⟨g, k * 3 + 1, none⟩ (.int .i8 p)).setCell ⟨g, k * 3 + 2, none⟩ (.int .i64 q)).ownsRow base e 3 (.slice (some ⟨g, 0, none⟩) n c) n (wnC (l.set k (a, p, q))) := by
  rw [wnC_set]
  exact (((h.stored (k * 3) (.int .i8 a)).1.stored (k * 3 + 1) (.int .i8 p)).1.stored (k * 3 + 2) (.int .i64 q)).1
def wnup (l : List (Int × Int × Int)) (k : Nat) : List (Int × Int × Int) := l.take k ++ List.replicate (l.length - k) (0, 0, 0)
theorem wnup_length (l : List (Int × Int × Int)) (k : Nat) (h : k ≤ l.length) : (wnup l k).length = l.length := by simp [wnup]; omega
theorem wnup_set (l : List (Int × Int × Int)) (k : Nat) (h : k < l.length) : (wnup l k).set k (wnS l k, wnT l k, wnP l k) = wnup l (k + 1) := by
  have e1 : l.length - k = (l.length - (k + 1)) + 1 := by omega
  have e2 : (wnS l k, wnT l k, wnP l k) = l[k] := by simp [wnS, wnT, wnP, List.getD, h]
  rw [wnup, wnup, e1, List.replicate_succ, e2, List.take_succ_eq_append_getElem h, List.set_append_right _ _ (by simp; omega)]
  simp only [List.length_take, show k - min k l.length = 0 by omega, List.set_cons_zero, List.append_assoc, List.cons_append, List.nil_append]
theorem wnup_zero (l : List (Int × Int × Int)) : wnup l 0 = List.replicate l.length (0, 0, 0) := by simp [wnup]
theorem wnup_all (l : List (Int × Int × Int)) : wnup l l.length = l := by simp [wnup]

/-- marks from K on -/
def mkWn (K : Int) (n : Nat) : List (Int × Int × Int) := (List.range n).map fun (i : Nat) => (IntKind.i8.wrap (K + 3 * (i : Int)), IntKind.i8.wrap (K + 3 * (i : Int) + 1), IntKind.i64.wrap (K + 3 * (i : Int) + 1 + 1))
def mkWnT (K : Int) (l : List (Int × Int × Int)) (k : Nat) : List (Int × Int × Int) := mkWn K k ++ l.drop k
theorem mkWn_length (K : Int) (n : Nat) : (mkWn K n).length = n := by simp [mkWn]
theorem mkWnT_zero (K : Int) (l : List (Int × Int × Int)) : mkWnT K l 0 = l := by simp [mkWnT, mkWn]
theorem mkWnT_all (K : Int) (l : List (Int × Int × Int)) : mkWnT K l l.length = mkWn K l.length := by simp [mkWnT]
theorem mkWnT_length (K : Int) (l : List (Int × Int × Int)) (k : Nat) (h : k ≤ l.length) : (mkWnT K l k).length = l.length := by
  simp [mkWnT, mkWn_length]; omega
theorem mkWnT_set (K : Int) (l : List (Int × Int × Int)) (k : Nat) (h : k < l.length) : (mkWnT K l k).set k (IntKind.i8.wrap (K + 3 * (k : Int)), IntKind.i8.wrap (K + 3 * (k : Int) + 1), IntKind.i64.wrap (K + 3 * (k : Int) + 1 + 1)) = mkWnT K l (k + 1) := by
  unfold mkWnT mkWn
  rw [List.set_append_right _ _ (by simp), List.range_succ, List.map_append, List.length_map, List.length_range, Nat.sub_self, List.drop_eq_getElem_cons h, List.set_cons_zero, List.append_assoc]
  rfl
theorem mkWn_of_own {w : World} {base : Nat} {e : TypeId} {A : Option Addr} {c : Nat} {K : Int} {n : Nat} (h : w.ownsRow base e 3 (.slice A n c) n (wnC (mkWn K n))) : WnA w A (mkWn K n) := WnA.of_own (l := mkWn K n) (by rw [mkWn_length]; exact h)
end Go.Proofs.YtehmkablandefaaGreatDoor
namespace Go.Proofs.YtehmkablandefaaGreatDoor
open Go.RowKit
/-- a slice's address under which the numbers lie -/
def SZ (w : World) (A : Option Addr) (zs : List Int) : Prop := ∀ k, k < zs.length → ∃ b o, A = some ⟨b, o, none⟩ ∧ b < w.heap.size ∧ w.cell? ⟨b, o + k, none⟩ = some (.int .i64 (zAt zs k))
def ZWF (zs : List Int) : Prop := ∀ k, k < zs.length → -9223372036854775808 ≤ zAt zs k ∧ zAt zs k ≤ 9223372036854775807
theorem SZ.below {w w' : World} {A : Option Addr} {l : List Int} (h : SZ w A l) (hb : Below w.heap.size w w') : SZ w' A l := by
  intro k hk
  obtain ⟨b, o, rfl, hlt, h1⟩ := h k hk
  exact ⟨b, o, rfl, Nat.lt_of_lt_of_le hlt hb.size, (hb.cell (p := ⟨b, _, none⟩) hlt).trans h1⟩
theorem SZ.of_own {w : World} {base : Nat} {A : Option Addr} {c : Nat} {zs : List Int} (h : w.ownsRow base 2 1 (.slice A zs.length c) zs.length (icells zs)) : SZ w A zs := by
  intro k hk
  rcases h.2 with ⟨h', h0⟩ | ⟨g, cap, cur, h', hb, hg, _⟩
  · omega
  · simp only [Value.slice.injEq, true_and] at h'
    obtain ⟨rfl, rfl⟩ := h'
    exact ⟨g, 0, rfl, (Array.getElem?_eq_some_iff.1 hg).1, by rw [Nat.zero_add, h.cellAt k (by omega), icells_get zs k hk]⟩
def zupto (l : List Int) (k : Nat) : List Int := l.take k ++ List.replicate (l.length - k) 0
theorem zupto_length (l : List Int) (k : Nat) (h : k ≤ l.length) : (zupto l k).length = l.length := by simp [zupto]; omega
theorem zupto_set (l : List Int) (k : Nat) (h : k < l.length) : (zupto l k).set k (zAt l k) = zupto l (k + 1) := by
  have e1 : l.length - k = (l.length - (k + 1)) + 1 := by omega
  have e2 : zAt l k = l[k] := by simp [zAt, List.getD, h]
  rw [zupto, zupto, e1, List.replicate_succ, e2, List.take_succ_eq_append_getElem h, List.set_append_right _ _ (by simp; omega)]
  simp only [List.length_take, show k - min k l.length = 0 by omega, List.set_cons_zero, List.append_assoc, List.cons_append, List.nil_append]
theorem zupto_zero (l : List Int) : zupto l 0 = List.replicate l.length 0 := by simp [zupto]
theorem zupto_all (l : List Int) : zupto l l.length = l := by simp [zupto]
theorem icells_replicate (n : Nat) : icells (List.replicate n 0) = (madeCells #[.int .i64 0] n).toList := by
  apply List.ext_getElem?
  intro j
  by_cases hj : j < n
  · simp [icells, madeCells, hj, Nat.mod_one]
  · rw [List.getElem?_eq_none (by rw [icells_length]; simp; omega), List.getElem?_eq_none (by simp [madeCells]; omega)]
end Go.Proofs.YtehmkablandefaaGreatDoor
namespace Go.Proofs.YtehmkablandefaaGreatDoor
open Go.RowKit

theorem own_low {w : World} {b b' : Nat} {e : TypeId} {n : Nat} {v : Value} {k : Nat} {xs : List Value} (h : w.ownsRow b e n v k xs) (hb : b' ≤ b) : w.ownsRow b' e n v k xs := by
  refine ⟨h.1, ?_⟩
  rcases h.2 with h' | ⟨g, cap, cur, h1, h2, h3, r⟩
  · exact Or.inl h'
  · exact Or.inr ⟨g, cap, cur, h1, Nat.le_trans hb h2, h3, r⟩
end Go.Proofs.YtehmkablandefaaGreatDoor
namespace Go.Proofs.YtehmkablandefaaGreatDoor
open Go.RowKit
def plW (s : Int) (n : Nat) (x y : Int) : Bool := inB x 0 (s - 1) && inB y 0 ((n : Int) - 1)
def befW (a p b q : Int) : Bool := decide (a < b ∨ a = b ∧ p < q)
def wnOk (s : Int) (n : Nat) (l : List (Int × Int × Int)) (k : Nat) : Bool := plW s n (wnS l k) (wnT l k) && inB (wnP l k) 0 1000000
def wnAsc (l : List (Int × Int × Int)) (k : Nat) : Bool := decide (k = 0) || befW (wnS l (k - 1)) (wnT l (k - 1)) (wnS l k) (wnT l k)
def pinsB (s : Int) (n : Nat) (l : List (Int × Int × Int)) : Bool := (List.range l.length).all fun k => wnOk s n l k && wnAsc l k
def strB (z : List Int) : Bool := (List.range z.length).all fun k => inB (zAt z k) 0 1000000
/-- a wear is valid -/
def weB (s : Int) (h : List (Int × Int)) (l : List (Int × Int × Int)) (z : List Int) : Bool := frB s h && decide (z.length = h.length) && pinsB s h.length l && strB z
def PG (s : Int) (n : Nat) (l : List (Int × Int × Int)) (k : Nat) : Prop := ∀ j, j < k → (wnOk s n l j && wnAsc l j) = true
def ZG (z : List Int) (k : Nat) : Prop := ∀ j, j < k → inB (zAt z j) 0 1000000 = true
theorem PG_succ {s : Int} {n : Nat} {l : List (Int × Int × Int)} {k : Nat} (h : PG s n l k) (h' : (wnOk s n l k && wnAsc l k) = true) : PG s n l (k + 1) := fun j hj => by
  rcases Nat.lt_or_ge j k with h1 | h1
  · exact h j h1
  · rw [show j = k by omega]; exact h'
theorem ZG_succ {z : List Int} {k : Nat} (h : ZG z k) (h' : inB (zAt z k) 0 1000000 = true) : ZG z (k + 1) := fun j hj => by
  rcases Nat.lt_or_ge j k with h1 | h1
  · exact h j h1
  · rw [show j = k by omega]; exact h'
theorem pinsB_yes {s : Int} {n : Nat} {l : List (Int × Int × Int)} (h : PG s n l l.length) : pinsB s n l = true := by simp only [pinsB, List.all_eq_true, List.mem_range]; exact h
theorem pinsB_no {s : Int} {n : Nat} {l : List (Int × Int × Int)} {k : Nat} (hk : k < l.length) (h : (wnOk s n l k && wnAsc l k) = false) : pinsB s n l = false := by
  rw [pinsB, List.all_eq_false]
  exact ⟨k, List.mem_range.2 hk, by simp [h]⟩
theorem strB_yes {z : List Int} (h : ZG z z.length) : strB z = true := by simp only [strB, List.all_eq_true, List.mem_range]; exact h
theorem strB_no {z : List Int} {k : Nat} (hk : k < z.length) (h : inB (zAt z k) 0 1000000 = false) : strB z = false := by
  rw [strB, List.all_eq_false]
  exact ⟨k, List.mem_range.2 hk, by simp [h]⟩

end Go.Proofs.YtehmkablandefaaGreatDoor
namespace Go.Proofs.YtehmkablandefaaGreatDoor
open Go.RowKit
theorem isNaN8W_any (a : Int) (w : World) :
    Calls Tryz.prog 114 #[.int .i8 a] w fun e w' => e = .returned (.bool false) ∧ w = w' := by
  go_enter Tryz.func114, Tryz.ntmps114
  go_wp2
  all_goals go_ret
  all_goals exact ⟨ret_bool (by simp), rfl⟩
def cmpJ (a b : Int) : Int := if a < b then -1 else if b < a then 1 else 0
theorem cmp8W_any (a b : Int) (w : World) :
    Calls Tryz.prog 98 #[.int .i8 a, .int .i8 b] w fun e w' => e = .returned (.int .i64 (cmpJ a b)) ∧ w = w' := by
  go_enter Tryz.func98, Tryz.ntmps98
  go_wp2_with (go_at_call 114; refine (isNaN8W_any _ _).mono ?_; rintro e w' ⟨rfl, rfl⟩)
  all_goals go_ret
  all_goals exact ⟨ret_int (by unfold cmpJ; (repeat' split) <;> omega), rfl⟩
def orJ (x y : Int) : Int := if x = 0 then y else x
theorem cmpOrW_any (g : Nat) (x y : Int) (w : World) (h1 : w.cell? ⟨g, 0, none⟩ = some (.int .i64 x)) (h2 : w.cell? ⟨g, 1, none⟩ = some (.int .i64 y)) :
    Calls Tryz.prog 96 #[.slice (some ⟨g, 0, none⟩) 2 2] w fun e w' => e = .returned (.int .i64 (orJ x y)) ∧ w = w' := by
  go_enter Tryz.func96, Tryz.ntmps96
  go_wp2_with fail
  go_loop [8] (fun i => ∃ k : Nat, k ≤ 2 ∧ i = .int .i64 k ∧ (0 < k → x = 0) ∧ (1 < k → y = 0)) (fun i => 3 - (intOf i).toNat)
  case atStart => exact ⟨0, by omega, rfl, fun h => absurd h (by omega), fun h => absurd h (by omega)⟩
  case round =>
    obtain ⟨k, hk, rfl, e1, e2⟩ := hrel
    have E1 := hide e1
    have E2 := hide e2
    clear e1 e2
    match k, hk with
    | 0, _ =>
      go_wp2
      · go_ret
        exact ⟨ret_int (by rw [orJ, if_neg (by simpa using ‹(x != 0) = true›)]), rfl⟩
      · go_round
        case rel => exact ⟨1, by omega, by go_num, fun _ => by simpa using ‹(x != 0) = false›, fun h => absurd h (by omega)⟩
        case measure => simp [intOf]
    | 1, _ =>
      go_wp2
      · go_ret
        exact ⟨ret_int (by rw [orJ, if_pos (E1.out (by omega))]), rfl⟩
      · go_round
        case rel => exact ⟨2, by omega, by go_num, fun _ => E1.out (by omega), fun _ => by simpa using ‹(y != 0) = false›⟩
        case measure => simp [intOf]
    | 2, _ =>
      go_wp2
      go_ret
      exact ⟨ret_int (by rw [orJ, if_pos (E1.out (by omega)), E2.out (by omega)]), rfl⟩
def ordJ (a p b q : Int) : Int := orJ (cmpJ a b) (cmpJ p q)
theorem ordJ_neg (a p b q : Int) : ordJ a p b q < 0 ↔ befW a p b q = true := by
  simp only [ordJ, orJ, cmpJ, befW, decide_eq_true_eq]
  (repeat' split) <;> omega
end Go.Proofs.YtehmkablandefaaGreatDoor
