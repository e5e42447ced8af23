import Derived.Test.YtcocfnjbgceidaaGreatGa
import Derived.Test.YtcocfnjbgceidaaGreatGb
import Derived.Deep.CutRange
import Derived.Deep.RegionHeld3
import Derived.Sort.Grow
namespace Go.Proofs.YtcocfnjbgceidaaGreat
open Go.RowKit

/-- worn pins as cells -/
def wnC (l : List (Int × Int × Int)) : List Value := l.flatMap fun n => [.int .i8 n.1, .int .i8 n.2.1, .int .i64 n.2.2]
def wnS (l : List (Int × Int × Int)) (k : Nat) : Int := (l.getD k (0, 0, 0)).1
def wnT (l : List (Int × Int × Int)) (k : Nat) : Int := (l.getD k (0, 0, 0)).2.1
def wnP (l : List (Int × Int × Int)) (k : Nat) : Int := (l.getD k (0, 0, 0)).2.2
def WnWF (l : List (Int × Int × Int)) : Prop := ∀ k, k < l.length → (-128 ≤ wnS l k ∧ wnS l k ≤ 127) ∧ (-128 ≤ wnT l k ∧ wnT l k ≤ 127) ∧ (-9223372036854775808 ≤ wnP l k ∧ wnP l k ≤ 9223372036854775807)

theorem wnC_nil : wnC [] = [] := rfl
theorem wnC_cons (n : Int × Int × Int) (l : List (Int × Int × Int)) : wnC (n :: l) = .int .i8 n.1 :: .int .i8 n.2.1 :: .int .i64 n.2.2 :: wnC l := rfl
theorem wnC_append (l m : List (Int × Int × Int)) : wnC (l ++ m) = wnC l ++ wnC m := by simp [wnC]
theorem wnC_length (l : List (Int × Int × Int)) : (wnC l).length = l.length * 3 := by
  induction l with
  | nil => rfl
  | cons n l ih => simp [wnC_cons, ih]; omega
theorem wnC_at (l : List (Int × Int × Int)) : ∀ k, k < l.length → (wnC l)[k * 3]? = some (.int .i8 (wnS l k)) ∧ (wnC l)[k * 3 + 1]? = some (.int .i8 (wnT l k)) ∧ (wnC l)[k * 3 + 2]? = some (.int .i64 (wnP l k)) := by
  induction l with
  | nil => intro k h; simp at h
  | cons n l ih =>
    intro k h
    cases k with
    | zero => simp [wnC_cons, wnS, wnT, wnP]
    | succ k =>
      have := ih k (by simpa using h)
      rw [show (k + 1) * 3 = k * 3 + 1 + 1 + 1 from by omega, show k * 3 + 1 + 1 + 1 + 1 = (k * 3 + 1) + 1 + 1 + 1 from rfl, show k * 3 + 1 + 1 + 1 + 2 = (k * 3 + 2) + 1 + 1 + 1 from rfl]
      simpa [wnC_cons, wnS, wnT, wnP] using this
theorem wnC_set (l : List (Int × Int × Int)) : ∀ (k : Nat) (a p : Int) (q : Int), wnC (l.set k (a, p, q)) = (((wnC l).set (k * 3) (.int .i8 a)).set (k * 3 + 1) (.int .i8 p)).set (k * 3 + 2) (.int .i64 q) := by
  induction l with
  | nil => intro k a p q; simp [wnC_nil]
  | cons n l ih =>
    intro k a p q
    cases k with
    | zero => simp [wnC_cons]
    | succ k =>
      rw [show (k + 1) * 3 = k * 3 + 1 + 1 + 1 from by omega, show k * 3 + 1 + 1 + 1 + 1 = (k * 3 + 1) + 1 + 1 + 1 from rfl, show k * 3 + 1 + 1 + 1 + 2 = (k * 3 + 2) + 1 + 1 + 1 from rfl]
      simp [wnC_cons, ih]
theorem wnC_replicate (n : Nat) : wnC (List.replicate n (0, 0, 0)) = (madeCells #[.int .i8 0, .int .i8 0, .int .i64 0] (n * 3)).toList := by
  apply List.ext_getElem?
  intro j
  by_cases hj : j < n * 3
  · have hk : j / 3 < (List.replicate n ((0 : Int), (0 : Int), (0 : Int))).length := by simp; omega
    obtain ⟨h0, h1, h2⟩ := wnC_at (List.replicate n (0, 0, 0)) (j / 3) hk
    have hm : j % 3 = 0 ∨ j % 3 = 1 ∨ j % 3 = 2 := by omega
    rcases hm with h | h | h
    · rw [show j = j / 3 * 3 by omega, h0]
      simp [madeCells, wnS, List.getD, List.getElem?_replicate, show j / 3 < n by omega, show j / 3 * 3 < n * 3 by omega]
    · rw [show j = j / 3 * 3 + 1 by omega, h1]
      simp [madeCells, wnT, List.getD, List.getElem?_replicate, show j / 3 < n by omega, show j / 3 * 3 + 1 < n * 3 by omega, show (j / 3 * 3 + 1) % 3 = 1 by omega]
    · rw [show j = j / 3 * 3 + 2 by omega, h2]
      simp [madeCells, wnP, List.getD, List.getElem?_replicate, show j / 3 < n by omega, show j / 3 * 3 + 2 < n * 3 by omega, show (j / 3 * 3 + 2) % 3 = 2 by omega]
  · rw [List.getElem?_eq_none (by rw [wnC_length]; simp; omega), List.getElem?_eq_none (by simp [madeCells]; omega)]

/-- a slice's address under which worn pins lie -/
def WnA (w : World) (A : Option Addr) (l : List (Int × Int × Int)) : Prop :=
  ∀ k, k < l.length → ∃ b o, A = some ⟨b, o, none⟩ ∧ b < w.heap.size ∧ w.cell? ⟨b, o + k * 3, none⟩ = some (.int .i8 (wnS l k)) ∧ w.cell? ⟨b, o + k * 3 + 1, none⟩ = some (.int .i8 (wnT l k)) ∧ w.cell? ⟨b, o + k * 3 + 2, none⟩ = some (.int .i64 (wnP l k))
theorem WnA.below {w w' : World} {A : Option Addr} {l : List (Int × Int × Int)} (h : WnA w A l) (hb : Below w.heap.size w w') : WnA w' A l := by
  intro k hk
  obtain ⟨b, o, rfl, hlt, h1, h2, h3⟩ := h k hk
  exact ⟨b, o, rfl, Nat.lt_of_lt_of_le hlt hb.size, (hb.cell (p := ⟨b, _, none⟩) hlt).trans h1, (hb.cell (p := ⟨b, _, none⟩) hlt).trans h2, (hb.cell (p := ⟨b, _, none⟩) hlt).trans h3⟩
theorem WnA.of_own {w : World} {base : Nat} {e : TypeId} {A : Option Addr} {c : Nat} {l : List (Int × Int × Int)} (h : w.ownsRow base e 3 (.slice A l.length c) l.length (wnC l)) : WnA w A l := by
  intro k hk
  rcases h.2 with ⟨h', h0⟩ | ⟨g, cap, cur, h', hb, hg, _⟩
  · omega
  · simp only [Value.slice.injEq, true_and] at h'
    obtain ⟨rfl, rfl⟩ := h'
    obtain ⟨h0, h1, h2⟩ := wnC_at l k hk
    refine ⟨g, 0, rfl, (Array.getElem?_eq_some_iff.1 hg).1, ?_, ?_, ?_⟩
    · rw [Nat.zero_add, h.cellAt (k * 3) (by omega), h0]
    · rw [Nat.zero_add, h.cellAt (k * 3 + 1) (by omega), h1]
    · rw [Nat.zero_add, h.cellAt (k * 3 + 2) (by omega), h2]
theorem wnown_set3 {w : World} {base : Nat} {e : TypeId} {g n c : Nat} {l : List (Int × Int × Int)} (h : w.ownsRow base e 3 (.slice (some ⟨g, 0, none⟩) n c) n (wnC l)) (k : Nat) (a p : Int) (q : Int) :
    (((w.setCell ⟨g, k * 3, none⟩ (.int .i8 a)).setCell ⟨g, k * 3 + 1, none⟩ (.int .i8 p)).setCell ⟨g, k * 3 + 2, none⟩ (.int .i64 q)).ownsRow base e 3 (.slice (some ⟨g, 0, none⟩) n c) n (wnC (l.set k (a, p, q))) := by
  rw [wnC_set]
  exact (((h.stored (k * 3) (.int .i8 a)).1.stored (k * 3 + 1) (.int .i8 p)).1.stored (k * 3 + 2) (.int .i64 q)).1
def wnup (l : List (Int × Int × Int)) (k : Nat) : List (Int × Int × Int) := l.take k ++ List.replicate (l.length - k) (0, 0, 0)
theorem wnup_length (l : List (Int × Int × Int)) (k : Nat) (h : k ≤ l.length) : (wnup l k).length = l.length := by simp [wnup]; omega
theorem wnup_set (l : List (Int × Int × Int)) (k : Nat) (h : k < l.length) : (wnup l k).set k (wnS l k, wnT l k, wnP l k) = wnup l (k + 1) := by
  have e1 : l.length - k = (l.length - (k + 1)) + 1 := by omega
  have e2 : (wnS l k, wnT l k, wnP l k) = l[k] := by simp [wnS, wnT, wnP, List.getD, h]
  rw [wnup, wnup, e1, List.replicate_succ, e2, List.take_succ_eq_append_getElem h, List.set_append_right _ _ (by simp; omega)]
  simp only [List.length_take, show k - min k l.length = 0 by omega, List.set_cons_zero, List.append_assoc, List.cons_append, List.nil_append]
theorem wnup_zero (l : List (Int × Int × Int)) : wnup l 0 = List.replicate l.length (0, 0, 0) := by simp [wnup]
theorem wnup_all (l : List (Int × Int × Int)) : wnup l l.length = l := by simp [wnup]

theorem info97 : (Tryz.prog.info? 97).map (fun i => (i.zero, i.size, i.bytes)) = some (some (.agg #[.int .i8 0, .int .i8 0, .int .i64 0]), 3, 16) := by kernel_rfl

theorem toWornPin_any (a p : Int) (q : Int) (w : World) :
    Calls Tryz.prog 79 #[.agg #[.int .i8 a, .int .i8 p, .int .i64 q]] w fun e w' => e = .returned (.agg #[.int .i8 a, .int .i8 p, .int .i64 q]) ∧ Below w.heap.size w w' := by
  go_enter Tryz.func79, Tryz.ntmps79
  go_wp2
  refine bodyPost_ret (v := .agg #[.int .i8 a, .int .i8 p, .int .i64 q]) (by simp [results, Tryz.results79, go_sem]) rfl ⟨rfl, ?_⟩
  repeat (first | exact Below.refl _ _ | refine Below.alloc ?_ (by simp <;> omega) _ | refine Below.setCell ?_ (by simp) _)

/-- what toWornPinS leaves -/
def MadeWn (w : World) (l : List (Int × Int × Int)) (e : Ending) (w' : World) : Prop :=
  e = .returned (.slice (some ⟨w.heap.size, 0, none⟩) l.length l.length) ∧ w'.ownsRow w.heap.size 97 3 (.slice (some ⟨w.heap.size, 0, none⟩) l.length l.length) l.length (wnC l) ∧ Below w.heap.size w w'

set_option maxHeartbeats 1000000 in
theorem toWornPinS_any (A : Option Addr) (c : Nat) (l : List (Int × Int × Int)) (w : World) (hA : WnA w A l) (hn : l.length ≤ 1048576) :
    Calls Tryz.prog 49 #[.slice A l.length c] w (MadeWn w l) := by
  obtain ⟨i0, hi, hz0, hz1, hz2⟩ := info_parts info97
  go_enter Tryz.func49, Tryz.ntmps49
  go_wp2_with (at_make; refine wpList_make_full _ rfl _ _ 32 rfl w.heap.size 97 i0 _ 3 Tryz.underlying32 hi hz0 hz1 _ _ _ _ l.length rfl rfl (by omega) (by omega) (by rw [hz2]; omega) (by unfold maxLen; omega) (by simp) ?_; intro w1 hown1 hgrow1)
  have hb0 : Below w.heap.size w w1 := (Below.refl _ _).grown hgrow1 (Nat.le_refl _) (fun j e => by cases e)
  clear hgrow1
  go_loopw [4] (fun i wr => ∃ k : Nat, k ≤ l.length ∧ i = .int .i64 k ∧ wr.ownsRow w.heap.size 97 3 (.slice (some ⟨w.heap.size, 0, none⟩) l.length l.length) l.length (wnC (wnup l k)) ∧ Below w.heap.size w wr)
    (fun i _ => l.length - (intOf i).toNat)
  case atStart =>
    refine ⟨0, Nat.zero_le _, rfl, ?_, hb0⟩
    rw [wnup_zero, wnC_replicate]
    exact hown1
  case round =>
    obtain ⟨k, hk, rfl, hown, hb⟩ := hrel
    by_cases hlt : k < l.length
    · obtain ⟨b, o, rfl, hbb, c1, c2, c3⟩ := hA k hlt
      have d1 := (hb.cell (p := ⟨b, o + k * 3, none⟩) hbb).trans c1
      have d2 := (hb.cell (p := ⟨b, o + k * 3 + 1, none⟩) hbb).trans c2
      have d3 := (hb.cell (p := ⟨b, o + k * 3 + 2, none⟩) hbb).trans c3
      have hs := hb.size
      clear c1 c2 c3 hA hown1 hb0
      go_wp2_with (go_at_call 79; refine (toWornPin_any _ _ _ _).mono ?_; rintro e w2 ⟨rfl, hb2⟩; have own2 := own_keep hown hb2; have hcl := wnup_length l k hk; have f1 := (own2.cellAt (k * 3) (by omega)).trans (wnC_at _ k (by omega)).1; have f2 := (own2.cellAt (k * 3 + 1) (by omega)).trans (wnC_at _ k (by omega)).2.1; have f3 := (own2.cellAt (k * 3 + 2) (by omega)).trans (wnC_at _ k (by omega)).2.2; have f4 := own2.frozenAt (k * 3); have f5 := own2.frozenAt (k * 3 + 1); have f6 := own2.frozenAt (k * 3 + 2); have hs2 := hb2.size)
      go_roundw
      case rel => exact ⟨k + 1, hlt, by go_num, wnup_set l k hlt ▸ wnown_set3 own2 k _ _ _, (((hb.trans (hb2.mono hs)).setCell (p := ⟨w.heap.size, _, none⟩) (Nat.le_refl _) _).setCell (p := ⟨w.heap.size, _, none⟩) (Nat.le_refl _) _).setCell (p := ⟨w.heap.size, _, none⟩) (Nat.le_refl _) _⟩
      case measure => simp [intOf]; omega
    · obtain rfl : k = l.length := by omega
      go_wp2
      go_ret
      exact ⟨rfl, by rw [wnup_all] at hown; exact hown, hb⟩
theorem toWornPinS_ex (A : Option Addr) (c : Nat) (l : List (Int × Int × Int)) (w : World) (hA : WnA w A l) (hn : l.length ≤ 1048576) :
    Calls Tryz.prog 49 #[.slice A l.length c] w fun e w' => ∃ g : Nat, e = .returned (.slice (some ⟨g, 0, none⟩) l.length l.length) ∧ w.heap.size ≤ g ∧ w'.ownsRow w.heap.size 97 3 (.slice (some ⟨g, 0, none⟩) l.length l.length) l.length (wnC l) ∧ Below w.heap.size w w' :=
  (toWornPinS_any A c l w hA hn).mono fun _ _ h => ⟨w.heap.size, h.1, Nat.le_refl _, h.2⟩

theorem eqWornPin_self (a p : Int) (q : Int) (w : World) :
    Calls Tryz.prog 80 #[.agg #[.int .i8 a, .int .i8 p, .int .i64 q], .agg #[.int .i8 a, .int .i8 p, .int .i64 q]] w fun e w' => e = .returned (.bool true) ∧ Below w.heap.size w w' := by
  go_enter Tryz.func80, Tryz.ntmps80
  go_wp2
  all_goals go_ret
  all_goals exact ⟨rfl, by repeat (first | exact Below.refl _ _ | refine Below.alloc ?_ (by simp <;> omega) _)⟩

set_option maxHeartbeats 1000000 in
theorem eqWornPinS_self (A B : Option Addr) (c d : Nat) (l : List (Int × Int × Int)) (w : World) (hA : WnA w A l) (hB : WnA w B l) (hn : l.length ≤ 1048576) :
    Calls Tryz.prog 51 #[.slice A l.length c, .slice B l.length d] w (Says true w) := by
  go_enter Tryz.func51, Tryz.ntmps51
  go_wp2_with fail
  go_loopw [5] (fun i wr => ∃ k : Nat, k ≤ l.length ∧ i = .int .i64 k ∧ Below w.heap.size w wr)
    (fun i _ => l.length - (intOf i).toNat)
  case atStart => exact ⟨0, Nat.zero_le _, rfl, Below.refl _ _⟩
  case round =>
    obtain ⟨k, hk, rfl, hb⟩ := hrel
    by_cases hlt : k < l.length
    · obtain ⟨b, o, rfl, hbb, c1, c2, c5⟩ := hA k hlt
      obtain ⟨b', o', rfl, hbb', c3, c4, c6⟩ := hB k hlt
      have d1 := Later.cell ((hb.cell (p := ⟨b, o + k * 3, none⟩) hbb).trans c1)
      have d2 := Later.cell ((hb.cell (p := ⟨b, o + k * 3 + 1, none⟩) hbb).trans c2)
      have d5 := Later.cell ((hb.cell (p := ⟨b, o + k * 3 + 2, none⟩) hbb).trans c5)
      have d3 := Later.cell ((hb.cell (p := ⟨b', o' + k * 3, none⟩) hbb').trans c3)
      have d4 := Later.cell ((hb.cell (p := ⟨b', o' + k * 3 + 1, none⟩) hbb').trans c4)
      have d6 := Later.cell ((hb.cell (p := ⟨b', o' + k * 3 + 2, none⟩) hbb').trans c6)
      have hs := hb.size
      clear c1 c2 c3 c4 c5 c6 hA hB
      go_wp2_with fail
      refine wp_region_later (by kernel_rfl) (by kernel_rfl) ?_
      repeat (go_big_quiet_step ((go_at_call 80; exact Later.call (eqWornPin_self _ _ _ _))))
      refine wpQuiet_nil ?_
      rintro _ ⟨⟨wq, hq⟩, rfl⟩
      go_wp2
      go_roundw
      case rel => exact ⟨k + 1, by omega, by go_num, hb.trans (hq.mono hs)⟩
      case measure => simp [intOf]; omega
    · obtain rfl : k = l.length := by omega
      go_wp2
      go_ret
      exact ⟨rfl, hb⟩
theorem szWornPinS_small (A : Option Addr) (n c : Nat) (l : Int) (h0 : 0 ≤ l) (h1 : l ≤ 1048576) (hn : n ≤ maxLen) (hs : (n : Int) ≤ l) (w : World) :
    Calls Tryz.prog 43 #[.slice A n c, .int .i64 l] w fun e w' => e = .returned (.int .i64 (l - n)) ∧ w = w' := by
  unfold maxLen at hn
  go_enter Tryz.func43, Tryz.ntmps43
  go_wp2
  all_goals go_ret
  all_goals exact ⟨ret_int (by omega), rfl⟩
theorem szWornPinS_big (A : Option Addr) (n c : Nat) (l : Int) (h0 : 0 ≤ l) (h1 : l ≤ 1048576) (hn : n ≤ maxLen) (hs : l < (n : Int)) (w : World) :
    Calls Tryz.prog 43 #[.slice A n c, .int .i64 l] w fun e w' => e = .returned (.int .i64 (-1)) ∧ w = w' := by
  unfold maxLen at hn
  go_enter Tryz.func43, Tryz.ntmps43
  go_wp2
  all_goals go_ret
  all_goals exact ⟨ret_int (by omega), rfl⟩

/-- marks from K on -/
def mkWn (K : Int) (n : Nat) : List (Int × Int × Int) := (List.range n).map fun (i : Nat) => (IntKind.i8.wrap (K + 3 * (i : Int)), IntKind.i8.wrap (K + 3 * (i : Int) + 1), IntKind.i64.wrap (K + 3 * (i : Int) + 1 + 1))
def mkWnT (K : Int) (l : List (Int × Int × Int)) (k : Nat) : List (Int × Int × Int) := mkWn K k ++ l.drop k
theorem mkWn_length (K : Int) (n : Nat) : (mkWn K n).length = n := by simp [mkWn]
theorem mkWnT_zero (K : Int) (l : List (Int × Int × Int)) : mkWnT K l 0 = l := by simp [mkWnT, mkWn]
theorem mkWnT_all (K : Int) (l : List (Int × Int × Int)) : mkWnT K l l.length = mkWn K l.length := by simp [mkWnT]
theorem mkWnT_length (K : Int) (l : List (Int × Int × Int)) (k : Nat) (h : k ≤ l.length) : (mkWnT K l k).length = l.length := by
  simp [mkWnT, mkWn_length]; omega
theorem mkWnT_set (K : Int) (l : List (Int × Int × Int)) (k : Nat) (h : k < l.length) : (mkWnT K l k).set k (IntKind.i8.wrap (K + 3 * (k : Int)), IntKind.i8.wrap (K + 3 * (k : Int) + 1), IntKind.i64.wrap (K + 3 * (k : Int) + 1 + 1)) = mkWnT K l (k + 1) := by
  unfold mkWnT mkWn
  rw [List.set_append_right _ _ (by simp), List.range_succ, List.map_append, List.length_map, List.length_range, Nat.sub_self, List.drop_eq_getElem_cons h, List.set_cons_zero, List.append_assoc]
  rfl
theorem mkWn_of_own {w : World} {base : Nat} {e : TypeId} {A : Option Addr} {c : Nat} {K : Int} {n : Nat} (h : w.ownsRow base e 3 (.slice A n c) n (wnC (mkWn K n))) : WnA w A (mkWn K n) := WnA.of_own (l := mkWn K n) (by rw [mkWn_length]; exact h)
end Go.Proofs.YtcocfnjbgceidaaGreat
namespace Go.Proofs.YtcocfnjbgceidaaGreat
open Go.RowKit
/-- a slice's address under which the numbers lie -/
def SZ (w : World) (A : Option Addr) (zs : List Int) : Prop := ∀ k, k < zs.length → ∃ b o, A = some ⟨b, o, none⟩ ∧ b < w.heap.size ∧ w.cell? ⟨b, o + k, none⟩ = some (.int .i64 (zAt zs k))
def ZWF (zs : List Int) : Prop := ∀ k, k < zs.length → -9223372036854775808 ≤ zAt zs k ∧ zAt zs k ≤ 9223372036854775807
theorem SZ.below {w w' : World} {A : Option Addr} {l : List Int} (h : SZ w A l) (hb : Below w.heap.size w w') : SZ w' A l := by
  intro k hk
  obtain ⟨b, o, rfl, hlt, h1⟩ := h k hk
  exact ⟨b, o, rfl, Nat.lt_of_lt_of_le hlt hb.size, (hb.cell (p := ⟨b, _, none⟩) hlt).trans h1⟩
theorem SZ.of_own {w : World} {base : Nat} {A : Option Addr} {c : Nat} {zs : List Int} (h : w.ownsRow base 2 1 (.slice A zs.length c) zs.length (icells zs)) : SZ w A zs := by
  intro k hk
  rcases h.2 with ⟨h', h0⟩ | ⟨g, cap, cur, h', hb, hg, _⟩
  · omega
  · simp only [Value.slice.injEq, true_and] at h'
    obtain ⟨rfl, rfl⟩ := h'
    exact ⟨g, 0, rfl, (Array.getElem?_eq_some_iff.1 hg).1, by rw [Nat.zero_add, h.cellAt k (by omega), icells_get zs k hk]⟩
def zupto (l : List Int) (k : Nat) : List Int := l.take k ++ List.replicate (l.length - k) 0
theorem zupto_length (l : List Int) (k : Nat) (h : k ≤ l.length) : (zupto l k).length = l.length := by simp [zupto]; omega
theorem zupto_set (l : List Int) (k : Nat) (h : k < l.length) : (zupto l k).set k (zAt l k) = zupto l (k + 1) := by
  have e1 : l.length - k = (l.length - (k + 1)) + 1 := by omega
  have e2 : zAt l k = l[k] := by simp [zAt, List.getD, h]
  rw [zupto, zupto, e1, List.replicate_succ, e2, List.take_succ_eq_append_getElem h, List.set_append_right _ _ (by simp; omega)]
  simp only [List.length_take, show k - min k l.length = 0 by omega, List.set_cons_zero, List.append_assoc, List.cons_append, List.nil_append]
theorem zupto_zero (l : List Int) : zupto l 0 = List.replicate l.length 0 := by simp [zupto]
theorem zupto_all (l : List Int) : zupto l l.length = l := by simp [zupto]
theorem icells_replicate (n : Nat) : icells (List.replicate n 0) = (madeCells #[.int .i64 0] n).toList := by
  apply List.ext_getElem?
  intro j
  by_cases hj : j < n
  · simp [icells, madeCells, hj, Nat.mod_one]
  · rw [List.getElem?_eq_none (by rw [icells_length]; simp; omega), List.getElem?_eq_none (by simp [madeCells]; omega)]
set_option maxRecDepth 20000 in
set_option maxHeartbeats 400000 in
theorem toInt64S_ex (A : Option Addr) (c : Nat) (l : List Int) (w : World) (hA : SZ w A l) (hn : l.length ≤ 1048576) :
    Calls Tryz.prog 50 #[.slice A l.length c] w fun e w' => ∃ g, e = .returned (.slice (some ⟨g, 0, none⟩) l.length l.length) ∧ w.heap.size ≤ g ∧ w'.ownsRow w.heap.size 2 1 (.slice (some ⟨g, 0, none⟩) l.length l.length) l.length (icells l) ∧ Below w.heap.size w w' := by
  obtain ⟨i0, hi, hz0, hz1, hz2⟩ := info_parts info2
  go_enter Tryz.func50, Tryz.ntmps50
  go_wp2_with (at_make; refine wpList_make_full _ rfl _ _ 27 rfl w.heap.size 2 i0 _ 1 Tryz.underlying27 hi hz0 hz1 _ _ _ _ l.length rfl rfl (by omega) (by omega) (by rw [hz2]; omega) (by unfold maxLen; omega) (by simp) ?_; intro w1 hown1 hgrow1)
  have hb0 : Below w.heap.size w w1 := (Below.refl _ _).grown hgrow1 (Nat.le_refl _) (fun j e => by cases e)
  clear hgrow1
  go_loopw [4] (fun i wr => ∃ k : Nat, k ≤ l.length ∧ i = .int .i64 k ∧ wr.ownsRow w.heap.size 2 1 (.slice (some ⟨w.heap.size, 0, none⟩) l.length l.length) l.length (icells (zupto l k)) ∧ Below w.heap.size w wr)
    (fun i _ => l.length - (intOf i).toNat)
  case atStart =>
    refine ⟨0, Nat.zero_le _, rfl, ?_, hb0⟩
    rw [zupto_zero, icells_replicate]
    rw [Nat.mul_one] at hown1
    exact hown1
  case round =>
    obtain ⟨k, hk, rfl, hown, hb⟩ := hrel
    by_cases hlt : k < l.length
    · obtain ⟨b, o, rfl, hbb, c1⟩ := hA k hlt
      have d1 := (hb.cell (p := ⟨b, o + k, none⟩) hbb).trans c1
      have hs := hb.size
      have f1 := (hown.cellAt k (by omega)).trans (icells_get _ k (by rw [zupto_length l k hk]; exact hlt))
      have f3 := hown.frozenAt k
      have HZ := hide (zupto_set l k hlt)
      clear c1 hA hown1 hb0
      go_wp2
      go_roundw
      case rel => exact ⟨k + 1, hlt, by go_num, by rw [← HZ.out, ← icells_set]; exact (hown.stored k _).1, hb.setCell (p := ⟨w.heap.size, _, none⟩) (Nat.le_refl _) _⟩
      case measure => simp [intOf]; omega
    · obtain rfl : k = l.length := by omega
      go_wp2
      go_ret
      exact ⟨_, rfl, Nat.le_refl _, by rw [zupto_all] at hown; exact hown, hb⟩
theorem eqInt64S_self (A C : Option Addr) (c d : Nat) (zs : List Int) (w : World) (hA : SI w w.heap.size A zs) (hC : SI w w.heap.size C zs) (hn : zs.length ≤ 1048576) :
    Calls Tryz.prog 52 #[.slice A zs.length c, .slice C zs.length d] w (Says true w) := eqInt64S_any A C c d zs w.heap.size w hA hC (Nat.le_refl _) hn
theorem szInt64S_small (A : Option Addr) (n c : Nat) (x : Int) (h0 : 0 ≤ x) (h1 : x ≤ 1048576) (hm : n ≤ maxLen) (hs : (n : Int) ≤ x) (w : World) :
    Calls Tryz.prog 44 #[.slice A n c, .int .i64 x] w fun e w' => e = .returned (.int .i64 (x - n)) ∧ w = w' := by
  unfold maxLen at hm
  go_enter Tryz.func44, Tryz.ntmps44
  go_wp2
  all_goals go_ret
  all_goals exact ⟨ret_int (by omega), rfl⟩
theorem szInt64S_big (A : Option Addr) (n c : Nat) (x : Int) (h0 : 0 ≤ x) (h1 : x ≤ 1048576) (hm : n ≤ maxLen) (hs : x < (n : Int)) (w : World) :
    Calls Tryz.prog 44 #[.slice A n c, .int .i64 x] w fun e w' => e = .returned (.int .i64 (-1)) ∧ w = w' := by
  unfold maxLen at hm
  go_enter Tryz.func44, Tryz.ntmps44
  go_wp2
  all_goals go_ret
  all_goals exact ⟨ret_int (by omega), rfl⟩
end Go.Proofs.YtcocfnjbgceidaaGreat
namespace Go.Proofs.YtcocfnjbgceidaaGreat
open Go.RowKit

/-- what toWear leaves: a wear whose pins and strokes lie under addresses of its own -/
def MadeW (w : World) (l : List (Int × Int × Int)) (z : List Int) (e : Ending) (w' : World) : Prop :=
  ∃ g m, e = .returned (.agg #[.slice (some ⟨g, 0, none⟩) l.length l.length, .slice (some ⟨m, 0, none⟩) z.length z.length]) ∧ w.heap.size ≤ g ∧ w.heap.size ≤ m ∧ w'.ownsRow w.heap.size 97 3 (.slice (some ⟨g, 0, none⟩) l.length l.length) l.length (wnC l) ∧ w'.ownsRow w.heap.size 2 1 (.slice (some ⟨m, 0, none⟩) z.length z.length) z.length (icells z) ∧ Below w.heap.size w w'
theorem own_low {w : World} {b b' : Nat} {e : TypeId} {n : Nat} {v : Value} {k : Nat} {xs : List Value} (h : w.ownsRow b e n v k xs) (hb : b' ≤ b) : w.ownsRow b' e n v k xs := by
  refine ⟨h.1, ?_⟩
  rcases h.2 with h' | ⟨g, cap, cur, h1, h2, h3, r⟩
  · exact Or.inl h'
  · exact Or.inr ⟨g, cap, cur, h1, Nat.le_trans hb h2, h3, r⟩
set_option maxRecDepth 20000 in
set_option maxHeartbeats 1000000 in
theorem toWear_any (A : Option Addr) (c : Nat) (l : List (Int × Int × Int)) (U : Option Addr) (v : Nat) (z : List Int) (w : World) (hA : WnA w A l) (hU : SZ w U z) (hn : l.length ≤ 1048576) (hz : z.length ≤ 1048576) :
    Calls Tryz.prog 14 #[.agg #[.slice A l.length c, .slice U z.length v]] w (MadeW w l z) := by
  obtain ⟨X, hX⟩ : ∃ X, X = ((w.alloc (.cells #[.slice A l.length c, .slice U z.length v] 29)).alloc (.cells #[.slice none 0 0, .slice none 0 0] 34)).alloc (.cells #[.slice none 0 0, .slice none 0 0] 34) := ⟨_, rfl⟩
  have hb0 : Below w.heap.size w X := by rw [hX]; exact (((Below.refl _ _).alloc (Nat.le_refl _) _).alloc (by simp) _).alloc (by simp; omega) _
  have P0 : Bk X w.heap.size 29 #[.slice A l.length c, .slice U z.length v] := by rw [hX]; exact (Bk.new _ _ _ rfl).old _ |>.old _
  have Z1 : Bk X (w.heap.size + 1) 34 #[.slice none 0 0, .slice none 0 0] := by rw [hX]; exact (Bk.new _ _ _ (by simp)).old _
  have Z2 : Bk X (w.heap.size + 1 + 1) 34 #[.slice none 0 0, .slice none 0 0] := by rw [hX]; exact Bk.new _ _ _ (by simp)
  have hXs : w.heap.size + 1 + 1 < X.heap.size := by rw [hX]; simp
  go_enter Tryz.func14, Tryz.ntmps14
  go_upto_region 2 with fail
  rw [← hX]
  clear hX
  have c0 := P0.cell (i := 0) rfl
  have c1 := P0.cell (i := 1) rfl
  go_wp2_with fail
  refine (toWornPinS_any A c l _ (hA.below hb0) hn).mono ?_
  rintro e w2 ⟨rfl, own, hb⟩
  have b2 := step_below hb hb0
  have Q0 := P0.keep hb
  have Q1 := Z1.keep hb
  have Q2 := Z2.keep hb
  have hs2 := hb.size
  have f1 := Q2.frozen 0
  have g1 : w2.cell? ⟨w.heap.size + 1 + 1, 0, none⟩ = some (.slice none 0 0) := Q2.cell (i := 0) rfl
  have S0 := Q0.other (by omega : w.heap.size ≠ w.heap.size + 1 + 1) (k := 0) (.slice (some ⟨X.heap.size, 0, none⟩) l.length l.length)
  have S1 := Q1.other (by omega : w.heap.size + 1 ≠ w.heap.size + 1 + 1) (k := 0) (.slice (some ⟨X.heap.size, 0, none⟩) l.length l.length)
  have S2 : Bk (w2.setCell ⟨w.heap.size + 1 + 1, 0, none⟩ (.slice (some ⟨X.heap.size, 0, none⟩) l.length l.length)) (w.heap.size + 1 + 1) 34 #[.slice (some ⟨X.heap.size, 0, none⟩) l.length l.length, .slice none 0 0] := heap_setCell_same w2 _ 0 _ _ _ Q2
  have own2 := own_other own (w' := w2.setCell ⟨w.heap.size + 1 + 1, 0, none⟩ (.slice (some ⟨X.heap.size, 0, none⟩) l.length l.length)) (heap_setCell_other _ _ _ _ (by dsimp only; omega))
  have b3 : Below w.heap.size w (w2.setCell ⟨w.heap.size + 1 + 1, 0, none⟩ (.slice (some ⟨X.heap.size, 0, none⟩) l.length l.length)) := b2.setCell (p := ⟨_, _, none⟩) (by dsimp only; omega) _
  obtain ⟨Y, hY⟩ : ∃ Y, Y = w2.setCell ⟨w.heap.size + 1 + 1, 0, none⟩ (.slice (some ⟨X.heap.size, 0, none⟩) l.length l.length) := ⟨_, rfl⟩
  have hYs : Y.heap.size = w2.heap.size := by rw [hY]; simp
  rw [← hY] at S0 S1 S2 own2 b3
  have HY := hide hY
  clear Z1 Z2 hb0 hb b2 Q0 Q1 Q2 hY own
  go_upto_region 3 with fail
  rw [← HY.out]
  clear f1 g1 HY c0 c1
  have c1 : Y.cell? ⟨w.heap.size, 1, none⟩ = some (.slice U z.length v) := S0.cell (i := 1) rfl
  go_wp2_with fail
  refine (toInt64S_ex U v z _ (hU.below b3) hz).mono ?_
  rintro e w4 ⟨g, rfl, hg, ownz, hb4⟩
  have b4 := step_below hb4 b3
  have R1 := S1.keep hb4
  have R2 := S2.keep hb4
  have own4 := own_keep own2 hb4
  have hs4 := hb4.size
  have f1 := R2.frozen 1
  have g1 : w4.cell? ⟨w.heap.size + 1 + 1, 1, none⟩ = some (.slice none 0 0) := R2.cell (i := 1) rfl
  have V1 := R1.other (by omega : w.heap.size + 1 ≠ w.heap.size + 1 + 1) (k := 1) (.slice (some ⟨g, 0, none⟩) z.length z.length)
  have V2 : Bk (w4.setCell ⟨w.heap.size + 1 + 1, 1, none⟩ (.slice (some ⟨g, 0, none⟩) z.length z.length)) (w.heap.size + 1 + 1) 34 #[.slice (some ⟨X.heap.size, 0, none⟩) l.length l.length, .slice (some ⟨g, 0, none⟩) z.length z.length] := heap_setCell_same w4 _ 1 _ _ _ R2
  have ownz5 := own_other (own_low ownz (Nat.le_refl _)) (w' := w4.setCell ⟨w.heap.size + 1 + 1, 1, none⟩ (.slice (some ⟨g, 0, none⟩) z.length z.length)) (heap_setCell_other _ _ _ _ (by dsimp only; omega))
  have own5 := own_other own4 (w' := w4.setCell ⟨w.heap.size + 1 + 1, 1, none⟩ (.slice (some ⟨g, 0, none⟩) z.length z.length)) (heap_setCell_other _ _ _ _ (by dsimp only; omega))
  have b5 : Below w.heap.size w (w4.setCell ⟨w.heap.size + 1 + 1, 1, none⟩ (.slice (some ⟨g, 0, none⟩) z.length z.length)) := b4.setCell (p := ⟨_, _, none⟩) (by dsimp only; omega) _
  obtain ⟨Z, hZ⟩ : ∃ Z, Z = w4.setCell ⟨w.heap.size + 1 + 1, 1, none⟩ (.slice (some ⟨g, 0, none⟩) z.length z.length) := ⟨_, rfl⟩
  rw [← hZ] at V1 V2 ownz5 own5 b5
  have HZ := hide hZ
  clear hZ S0 S1 S2 own2 b3 hb4 b4 R1 R2 own4 ownz
  go_upto_region 4 with fail
  rw [← HZ.out]
  clear f1 g1 HZ c1
  have d0 : Z.cell? ⟨w.heap.size + 1 + 1, 0, none⟩ = some (.slice (some ⟨X.heap.size, 0, none⟩) l.length l.length) := V2.cell (i := 0) rfl
  have d1 : Z.cell? ⟨w.heap.size + 1 + 1, 1, none⟩ = some (.slice (some ⟨g, 0, none⟩) z.length z.length) := V2.cell (i := 1) rfl
  have e0 : Z.cell? ⟨w.heap.size + 1, 0, none⟩ = some (.slice none 0 0) := V1.cell (i := 0) rfl
  have e1 : Z.cell? ⟨w.heap.size + 1, 1, none⟩ = some (.slice none 0 0) := V1.cell (i := 1) rfl
  have f2 := V1.frozen 0
  have f3 := V1.frozen 1
  go_wp2
  refine bodyPost_ret (v := .agg #[.slice (some ⟨X.heap.size, 0, none⟩) l.length l.length, .slice (some ⟨g, 0, none⟩) z.length z.length]) (by simp [results, Tryz.results14, go_sem, e0, e1]) rfl ⟨X.heap.size, g, rfl, by omega, by omega, ?_, ?_, ?_⟩
  · exact own_other (own_low own5 (by omega)) (by rw [heap_setCell_other _ _ _ _ (by dsimp only; omega), heap_setCell_other _ _ _ _ (by dsimp only; omega)])
  · exact own_other (own_low ownz5 (by omega)) (by rw [heap_setCell_other _ _ _ _ (by dsimp only; omega), heap_setCell_other _ _ _ _ (by dsimp only; omega)])
  · exact (b5.setCell (p := ⟨_, _, none⟩) (by dsimp only; omega) _).setCell (p := ⟨_, _, none⟩) (by dsimp only; omega) _

theorem eqWear_self (A B : Option Addr) (c d : Nat) (l : List (Int × Int × Int)) (U V : Option Addr) (e f : Nat) (z : List Int) (w : World) (hA : WnA w A l) (hB : WnA w B l) (hU : SI w w.heap.size U z) (hV : SI w w.heap.size V z) (hn : l.length ≤ 1048576) (hz : z.length ≤ 1048576) :
    Calls Tryz.prog 16 #[.agg #[.slice A l.length c, .slice U z.length e], .agg #[.slice B l.length d, .slice V z.length f]] w (Says true w) := by
  have hb0 : Below w.heap.size w ((w.alloc (.cells #[.slice A l.length c, .slice U z.length e] 34)).alloc (.cells #[.slice B l.length d, .slice V z.length f] 34)) := ((Below.refl _ _).alloc (Nat.le_refl _) _).alloc (by simp) _
  obtain ⟨X, hX⟩ : ∃ X, X = (w.alloc (.cells #[.slice A l.length c, .slice U z.length e] 34)).alloc (.cells #[.slice B l.length d, .slice V z.length f] 34) := ⟨_, rfl⟩
  rw [← hX] at hb0
  have P0 : Bk X w.heap.size 34 #[.slice A l.length c, .slice U z.length e] := by rw [hX]; exact (Bk.new _ _ _ rfl).old _
  have P1 : Bk X (w.heap.size + 1) 34 #[.slice B l.length d, .slice V z.length f] := by rw [hX]; exact Bk.new _ _ _ (by simp)
  go_enter Tryz.func16, Tryz.ntmps16
  go_upto_region 1 with fail
  rw [← hX]
  clear hX
  have c0 := P0.cell (i := 0) rfl
  have c1 := P1.cell (i := 0) rfl
  go_wp2_with fail
  refine (eqWornPinS_self A B c d l _ (hA.below hb0) (hB.below hb0) hn).mono ?_
  rintro x w2 ⟨rfl, hb2⟩
  have b2 := step_below hb2 hb0
  have d0 := (P0.keep hb2).cell (i := 1) rfl
  have d1 := (P1.keep hb2).cell (i := 1) rfl
  clear c0 c1
  go_wp2_with fail
  refine (eqInt64S_self U V e f z _ ((hU.below b2).up b2.size) ((hV.below b2).up b2.size) hz).mono ?_
  rintro x w3 ⟨rfl, hb3⟩
  have b3 := step_below hb3 b2
  go_wp2
  go_ret
  exact ⟨rfl, b3⟩
theorem szWear_small (A : Option Addr) (n c : Nat) (U : Option Addr) (m v : Nat) (x : Int) (h0 : 0 ≤ x) (h1 : x ≤ 1048576) (hn : n ≤ maxLen) (hm : m ≤ maxLen) (hs : (n : Int) + m ≤ x) (w : World) :
    Calls Tryz.prog 11 #[.agg #[.slice A n c, .slice U m v], .int .i64 x] w fun e w' => e = .returned (.int .i64 (x - (n + m))) ∧ Below w.heap.size w w' := by
  have hb0 : Below w.heap.size w (w.alloc (.cells #[.slice A n c, .slice U m v] 29)) := (Below.refl _ _).alloc (Nat.le_refl _) _
  have hlt : decide (x - (n : Int) < 0) = false := by simp; omega
  have hlt2 : decide (x - (n : Int) - m < 0) = false := by simp; omega
  go_enter Tryz.func11, Tryz.ntmps11
  go_wp2_with (first | (go_at_call 43; refine (szWornPinS_small A n c x h0 h1 hn (by omega) _).mono ?_; rintro e w' ⟨rfl, rfl⟩) | (go_at_call 44; refine (szInt64S_small U m v (x - n) (by omega) (by omega) hm (by omega) _).mono ?_; rintro e w' ⟨rfl, rfl⟩))
  go_ret
  exact ⟨ret_int (by omega), hb0⟩
theorem szWear_big (A : Option Addr) (n c : Nat) (U : Option Addr) (m v : Nat) (x : Int) (h0 : 0 ≤ x) (h1 : x ≤ 1048576) (hn : n ≤ maxLen) (hm : m ≤ maxLen) (hs : x < (n : Int) + m) (w : World) :
    Calls Tryz.prog 11 #[.agg #[.slice A n c, .slice U m v], .int .i64 x] w fun e w' => e = .returned (.int .i64 (-1)) ∧ Below w.heap.size w w' := by
  have hb0 : Below w.heap.size w (w.alloc (.cells #[.slice A n c, .slice U m v] 29)) := (Below.refl _ _).alloc (Nat.le_refl _) _
  rcases Int.lt_or_le x n with h | h
  · go_enter Tryz.func11, Tryz.ntmps11
    go_wp2_with (go_at_call 43; refine (szWornPinS_big A n c x h0 h1 hn h _).mono ?_; rintro e w' ⟨rfl, rfl⟩)
    go_ret
    exact ⟨rfl, hb0⟩
  · have hlt : decide (x - (n : Int) < 0) = false := by simp; omega
    go_enter Tryz.func11, Tryz.ntmps11
    go_wp2_with (first | (go_at_call 43; refine (szWornPinS_small A n c x h0 h1 hn (by omega) _).mono ?_; rintro e w' ⟨rfl, rfl⟩) | (go_at_call 44; refine (szInt64S_big U m v (x - n) (by omega) (by omega) hm (by omega) _).mono ?_; rintro e w' ⟨rfl, rfl⟩))
    go_ret
    exact ⟨rfl, hb0⟩
end Go.Proofs.YtcocfnjbgceidaaGreat
namespace Go.Proofs.YtcocfnjbgceidaaGreat
open Go.RowKit
def plW (s : Int) (n : Nat) (x y : Int) : Bool := inB x 0 (s - 1) && inB y 0 ((n : Int) - 1)
def befW (a p b q : Int) : Bool := decide (a < b ∨ a = b ∧ p < q)
def wnOk (s : Int) (n : Nat) (l : List (Int × Int × Int)) (k : Nat) : Bool := plW s n (wnS l k) (wnT l k) && inB (wnP l k) 0 1000000
def wnAsc (l : List (Int × Int × Int)) (k : Nat) : Bool := decide (k = 0) || befW (wnS l (k - 1)) (wnT l (k - 1)) (wnS l k) (wnT l k)
def pinsB (s : Int) (n : Nat) (l : List (Int × Int × Int)) : Bool := (List.range l.length).all fun k => wnOk s n l k && wnAsc l k
def strB (z : List Int) : Bool := (List.range z.length).all fun k => inB (zAt z k) 0 1000000
/-- a wear is valid -/
def weB (s : Int) (h : List (Int × Int)) (l : List (Int × Int × Int)) (z : List Int) : Bool := frB s h && decide (z.length = h.length) && pinsB s h.length l && strB z
def PG (s : Int) (n : Nat) (l : List (Int × Int × Int)) (k : Nat) : Prop := ∀ j, j < k → (wnOk s n l j && wnAsc l j) = true
def ZG (z : List Int) (k : Nat) : Prop := ∀ j, j < k → inB (zAt z j) 0 1000000 = true
theorem PG_succ {s : Int} {n : Nat} {l : List (Int × Int × Int)} {k : Nat} (h : PG s n l k) (h' : (wnOk s n l k && wnAsc l k) = true) : PG s n l (k + 1) := fun j hj => by
  rcases Nat.lt_or_ge j k with h1 | h1
  · exact h j h1
  · rw [show j = k by omega]; exact h'
theorem ZG_succ {z : List Int} {k : Nat} (h : ZG z k) (h' : inB (zAt z k) 0 1000000 = true) : ZG z (k + 1) := fun j hj => by
  rcases Nat.lt_or_ge j k with h1 | h1
  · exact h j h1
  · rw [show j = k by omega]; exact h'
theorem pinsB_yes {s : Int} {n : Nat} {l : List (Int × Int × Int)} (h : PG s n l l.length) : pinsB s n l = true := by simp only [pinsB, List.all_eq_true, List.mem_range]; exact h
theorem pinsB_no {s : Int} {n : Nat} {l : List (Int × Int × Int)} {k : Nat} (hk : k < l.length) (h : (wnOk s n l k && wnAsc l k) = false) : pinsB s n l = false := by
  rw [pinsB, List.all_eq_false]
  exact ⟨k, List.mem_range.2 hk, by simp [h]⟩
theorem strB_yes {z : List Int} (h : ZG z z.length) : strB z = true := by simp only [strB, List.all_eq_true, List.mem_range]; exact h
theorem strB_no {z : List Int} {k : Nat} (hk : k < z.length) (h : inB (zAt z k) 0 1000000 = false) : strB z = false := by
  rw [strB, List.all_eq_false]
  exact ⟨k, List.mem_range.2 hk, by simp [h]⟩

theorem l06Turns_any (n : Int) (w : World) :
    Calls Tryz.prog 69 #[.int .i64 n] w fun e w' => e = .returned (.bool (inB n 0 1000000)) ∧ w = w' := by
  go_enter Tryz.func69, Tryz.ntmps69
  go_wp2_with (go_at_call 46; refine (l00In_any _ _ _ _).mono ?_; rintro e w' ⟨rfl, rfl⟩)
  go_ret
  exact ⟨rfl, rfl⟩
theorem l06Before_any (a p r b q t : Int) (w : World) :
    Calls Tryz.prog 77 #[.agg #[.int .i8 a, .int .i8 p, .int .i64 r], .agg #[.int .i8 b, .int .i8 q, .int .i64 t]] w (Says (befW a p b q) w) := by
  go_enter Tryz.func77, Tryz.ntmps77
  go_wp2
  all_goals go_ret
  all_goals exact ⟨ret_bool (by simp_all [befW] <;> omega), by repeat (first | exact Below.refl _ _ | refine Below.alloc ?_ (by simp <;> omega) _)⟩
theorem l06Place_any (b : Nat) (s : Int) (A : Option Addr) (n c : Nat) (x y : Int) (w : World) (hF : FP w b s A n c) (hs : -32768 ≤ s ∧ s ≤ 32767) (hn : n ≤ 1048576) :
    Calls Tryz.prog 59 #[.pointer (some ⟨b, 0, none⟩), .int .i64 x, .int .i64 y] w (Says (plW s n x y) w) := by
  obtain ⟨hs1, hs2⟩ := hs
  have c1 := hF.1
  have c2 := hF.2
  cases h1 : inB x 0 (s - 1)
  · have K1 : ∀ W, Calls Tryz.prog 46 #[.int .i64 x, .int .i64 0, .int .i64 (s - 1)] W fun e w' => e = .returned (.bool false) ∧ W = w' := fun W => by rw [← h1]; exact l00In_any _ _ _ W
    have HX := hide (show plW s n x y = false by simp [plW, h1])
    clear h1
    go_enter Tryz.func59, Tryz.ntmps59
    go_wp2_with (go_at_call 46; with_reducible refine (K1 _).mono ?_; rintro e w' ⟨rfl, rfl⟩)
    go_ret
    exact ⟨ret_bool HX.out.symm, Below.refl _ _⟩
  · have K1 : ∀ W, Calls Tryz.prog 46 #[.int .i64 x, .int .i64 0, .int .i64 (s - 1)] W fun e w' => e = .returned (.bool true) ∧ W = w' := fun W => by rw [← h1]; exact l00In_any _ _ _ W
    have K2 : ∀ W, Calls Tryz.prog 46 #[.int .i64 y, .int .i64 0, .int .i64 ((n : Int) - 1)] W fun e w' => e = .returned (.bool (plW s n x y)) ∧ W = w' := fun W => by rw [show plW s n x y = inB y 0 ((n : Int) - 1) by simp [plW, h1]]; exact l00In_any _ _ _ W
    clear h1
    generalize plW s n x y = r at K2 ⊢
    go_enter Tryz.func59, Tryz.ntmps59
    go_wp2_with (first | (go_at_call 46; with_reducible refine (K1 _).mono ?_; rintro e w' ⟨rfl, rfl⟩) | (go_at_call 46; with_reducible refine (K2 _).mono ?_; rintro e w' ⟨rfl, rfl⟩))
    go_ret
    exact ⟨rfl, Below.refl _ _⟩
set_option maxRecDepth 20000 in
set_option maxHeartbeats 4000000 in
theorem l06Ok_any (b g : Nat) (s : Int) (A : Option Addr) (c : Nat) (h : List (Int × Int)) (P : Option Addr) (d : Nat) (l : List (Int × Int × Int)) (U : Option Addr) (v : Nat) (z : List Int) (w : World) (hF : FP w b s A h.length c)
    (hP : w.cell? ⟨g, 0, none⟩ = some (.slice P l.length d)) (hS : w.cell? ⟨g, 1, none⟩ = some (.slice U z.length v)) (hA : HA w A h) (hL : WnA w P l) (hU : SZ w U z) (hn : h.length ≤ 1048576) (hl : l.length ≤ 1048576) (hz : z.length ≤ 1048576)
    (hwf : HWF h) (hs : -32768 ≤ s ∧ s ≤ 32767) (hlw : WnWF l) :
    Calls Tryz.prog 45 #[.pointer (some ⟨b, 0, none⟩), .pointer (some ⟨g, 0, none⟩)] w (Says (weB s h l z) w) := by
  have hgl : g < w.heap.size := World.block_lt_of_cell? w _ hP
  cases hf : frB s h
  · have KF : ∀ p : Later w, Calls Tryz.prog 76 #[.pointer (some ⟨b, 0, none⟩)] p.w (Says false p.w) := fun p => by rw [← hf]; exact l02Frame_any b s A c h _ (hF.keep p.h) (hA.below p.h) hn hwf hs
    have HX := hide (show weB s h l z = false by simp [weB, hf])
    have e1 := Later.cell hP
    have e2 := Later.cell hS
    have e3 := Later.cell hF.2
    clear hf
    go_enter Tryz.func45, Tryz.ntmps45
    go_wp2_with fail
    refine wp_region_later (by kernel_rfl) (by kernel_rfl) ?_
    repeat (go_big_quiet_step ((go_at_call 76; exact Later.call (KF _))))
    refine wpQuiet_nil ?_
    rintro _ ⟨⟨wq, hq⟩, rfl⟩
    go_wp2
    go_ret
    exact ⟨ret_bool HX.out.symm, hq⟩
  have KF : ∀ p : Later w, Calls Tryz.prog 76 #[.pointer (some ⟨b, 0, none⟩)] p.w (Says true p.w) := fun p => by rw [← hf]; exact l02Frame_any b s A c h _ (hF.keep p.h) (hA.below p.h) hn hwf hs
  by_cases hzh : z.length = h.length
  case neg =>
    have H1 : ((z.length : Int) != (h.length : Int)) = true := by simp; omega
    have HX := hide (show weB s h l z = false by simp [weB, hzh])
    have e1 := Later.cell hP
    have e2 := Later.cell hS
    have e3 := Later.cell hF.2
    clear hf hzh
    go_enter Tryz.func45, Tryz.ntmps45
    go_wp2_with fail
    refine wp_region_later (by kernel_rfl) (by kernel_rfl) ?_
    repeat (go_big_quiet_step ((go_at_call 76; exact Later.call (KF _))))
    refine wpQuiet_nil ?_
    rintro _ ⟨⟨wq, hq⟩, rfl⟩
    go_wp2
    go_ret
    exact ⟨ret_bool HX.out.symm, hq⟩
  have H1 : ((z.length : Int) != (h.length : Int)) = false := by simp [hzh]
  have HW := hide (show weB s h l z = (pinsB s h.length l && strB z) by simp [weB, hf, hzh])
  have e1 := Later.cell hP
  have e2 := Later.cell hS
  have e3 := Later.cell hF.2
  clear hf hzh
  go_enter Tryz.func45, Tryz.ntmps45
  go_wp2_with fail
  refine wp_region_later (by kernel_rfl) (by kernel_rfl) ?_
  repeat (go_big_quiet_step ((go_at_call 76; exact Later.call (KF _))))
  refine wpQuiet_nil ?_
  rintro w1 ⟨⟨wq, hb1⟩, rfl⟩
  clear e1 e2 e3 KF H1
  try dsimp only
  have hs1 := hb1.size
  have F1 := hF.keep hb1
  have hP1 := (hb1.cell (p := ⟨g, 0, none⟩) hgl).trans hP
  have hS1 := (hb1.cell (p := ⟨g, 1, none⟩) hgl).trans hS
  have hL1 := hL.below hb1
  have hU1 := hU.below hb1
  have hgl1 : g < w1.heap.size := Nat.lt_of_lt_of_le hgl hs1
  clear hF hP hS hL hU hA
  go_wp2_with fail
  go_loopw [5] (fun i wr => ∃ k : Nat, k ≤ l.length ∧ i = .int .i64 k ∧ PG s h.length l k ∧ Below w1.heap.size w1 wr)
    (fun i _ => l.length - (intOf i).toNat)
  case atStart => exact ⟨0, Nat.zero_le _, rfl, fun j hj => absurd hj (Nat.not_lt_zero _), Below.refl _ _⟩
  case round =>
    obtain ⟨k, hk, rfl, hG, hb⟩ := hrel
    have HG := hide hG
    clear hG
    have q0 := (hb.cell (p := ⟨g, 0, none⟩) hgl1).trans hP1
    have hsr := hb.size
    by_cases hlt : k < l.length
    · obtain ⟨pb, o, rfl, hbb, c1, c2, c3⟩ := hL1 k hlt
      have d1 := (hb.cell (p := ⟨pb, o + k * 3, none⟩) hbb).trans c1
      have d2 := (hb.cell (p := ⟨pb, o + k * 3 + 1, none⟩) hbb).trans c2
      have d3 := (hb.cell (p := ⟨pb, o + k * 3 + 2, none⟩) hbb).trans c3
      obtain ⟨Y, hY⟩ : ∃ Y, Y = wr.alloc (.cells #[.int .i8 (wnS l k), .int .i8 (wnT l k), .int .i64 (wnP l k)] 97) := ⟨_, rfl⟩
      have hby : Below wr.heap.size wr Y := by rw [hY]; exact (Below.refl _ _).alloc (Nat.le_refl _) _
      have hbx : Below w1.heap.size w1 Y := hb.trans (hby.mono hsr)
      have B0 : Bk Y wr.heap.size 97 #[.int .i8 (wnS l k), .int .i8 (wnT l k), .int .i64 (wnP l k)] := by rw [hY]; exact Bk.new _ _ _ rfl
      have y0 := Later.cell (B0.cell (i := 0) rfl)
      have y1 := Later.cell (B0.cell (i := 1) rfl)
      have y2 := Later.cell (B0.cell (i := 2) rfl)
      have yP := Later.cell ((hbx.cell (p := ⟨g, 0, none⟩) hgl1).trans hP1)
      have KP0 : ∀ p : Later Y, Calls Tryz.prog 59 #[.pointer (some ⟨b, 0, none⟩), .int .i64 (wnS l k), .int .i64 (wnT l k)] p.w (Says (plW s h.length (wnS l k) (wnT l k)) p.w) := fun p => l06Place_any b s A h.length c _ _ _ ((F1.keep hbx).keep p.h) hs hn
      have KT0 := fun W => l06Turns_any (wnP l k) W
      obtain ⟨⟨m1, m2⟩, ⟨m3, m4⟩, m5, m6⟩ := hlw k hlt
      cases hp : plW s h.length (wnS l k) (wnT l k)
      · have KP := KP0
        rw [hp] at KP
        have HX := hide (show (wnOk s h.length l k && wnAsc l k) = false by simp [wnOk, hp])
        clear hp KP0 KT0 c1 c2 c3 hL1
        go_wp2_with fail
        rw [← hY]
        clear hY
        refine wp_region_later (by kernel_rfl) (by kernel_rfl) ?_
        repeat (go_big_quiet_step (first | (go_at_call 59; exact Later.call (KP _))))
        refine wpQuiet_nil ?_
        rintro _ ⟨⟨wq, hq⟩, rfl⟩
        have hbq := hbx.trans (hq.mono hbx.size)
        go_wp2
        go_ret
        exact ⟨ret_bool (by rw [HW.out, pinsB_no hlt HX.out, Bool.false_and]), hb1.trans (hbq.mono hb1.size)⟩
      cases ht : inB (wnP l k) 0 1000000
      · have KP := KP0
        have KT := KT0
        rw [hp] at KP
        rw [ht] at KT
        have HX := hide (show (wnOk s h.length l k && wnAsc l k) = false by simp [wnOk, ht])
        clear hp ht KP0 KT0 c1 c2 c3 hL1
        go_wp2_with fail
        rw [← hY]
        clear hY
        refine wp_region_later (by kernel_rfl) (by kernel_rfl) ?_
        repeat (go_big_quiet_step (first | (go_at_call 59; exact Later.call (KP _)) | (go_at_call 69; exact Later.same (KT _))))
        refine wpQuiet_nil ?_
        rintro _ ⟨⟨wq, hq⟩, rfl⟩
        have hbq := hbx.trans (hq.mono hbx.size)
        go_wp2
        go_ret
        exact ⟨ret_bool (by rw [HW.out, pinsB_no hlt HX.out, Bool.false_and]), hb1.trans (hbq.mono hb1.size)⟩
      have KP := KP0
      have KT := KT0
      rw [hp] at KP
      rw [ht] at KT
      have HO := hide (show wnOk s h.length l k = true by simp [wnOk, hp, ht])
      clear hp ht KP0 KT0
      rcases Nat.eq_zero_or_pos k with hk0 | hk0
      · have HX := hide (show (wnOk s h.length l k && wnAsc l k) = true by rw [HO.out, wnAsc, hk0]; rfl)
        have hkk : decide (0 < (k : Int)) = false := by simp; omega
        have hkn : decide (0 < k) = false := by simp; omega
        clear c1 c2 c3 hL1 hk0
        go_wp2_with fail
        rw [← hY]
        clear hY
        refine wp_region_later (by kernel_rfl) (by kernel_rfl) ?_
        repeat (go_big_quiet_step (first | (go_at_call 59; exact Later.call (KP _)) | (go_at_call 69; exact Later.same (KT _))))
        refine wpQuiet_nil ?_
        rintro _ ⟨⟨wq, hq⟩, rfl⟩
        have hbq := hbx.trans (hq.mono hbx.size)
        go_wp2
        go_roundw
        case rel => exact ⟨k + 1, hlt, by go_num, PG_succ HG.out HX.out, hbq⟩
        case measure => simp [intOf]; omega
      · obtain ⟨pb', o', e', hbb', c4, c5, c6⟩ := hL1 (k - 1) (by omega)
        obtain ⟨rfl, rfl⟩ : pb' = pb ∧ o' = o := by simpa [eq_comm] using e'
        have d4 := Later.cell ((hbx.cell (p := ⟨pb', o' + (k - 1) * 3, none⟩) hbb').trans c4)
        have d5 := Later.cell ((hbx.cell (p := ⟨pb', o' + (k - 1) * 3 + 1, none⟩) hbb').trans c5)
        have d6 := Later.cell ((hbx.cell (p := ⟨pb', o' + (k - 1) * 3 + 2, none⟩) hbb').trans c6)
        have hkk : decide (0 < (k : Int)) = true := by simp; omega
        have KB0 := fun W => l06Before_any (wnS l (k - 1)) (wnT l (k - 1)) (wnP l (k - 1)) (wnS l k) (wnT l k) (wnP l k) W
        clear c1 c2 c3 c4 c5 c6 e' hL1
        cases hbf : befW (wnS l (k - 1)) (wnT l (k - 1)) (wnS l k) (wnT l k)
        · have KB := KB0
          rw [hbf] at KB
          have HX := hide (show (wnOk s h.length l k && wnAsc l k) = false by simp [wnAsc, hbf]; omega)
          clear hbf KB0
          go_wp2_with fail
          rw [← hY]
          clear hY
          refine wp_region_later (by kernel_rfl) (by kernel_rfl) ?_
          repeat (go_big_quiet_step (first | (go_at_call 59; exact Later.call (KP _)) | (go_at_call 69; exact Later.same (KT _)) | (go_at_call 77; exact Later.call (KB _))))
          refine wpQuiet_nil ?_
          rintro _ ⟨⟨wq, hq⟩, rfl⟩
          have hbq := hbx.trans (hq.mono hbx.size)
          go_wp2
          go_ret
          exact ⟨ret_bool (by rw [HW.out, pinsB_no hlt HX.out, Bool.false_and]), hb1.trans (hbq.mono hb1.size)⟩
        · have KB := KB0
          rw [hbf] at KB
          have HX := hide (show (wnOk s h.length l k && wnAsc l k) = true by simp [wnAsc, hbf, HO.out])
          clear hbf KB0
          go_wp2_with fail
          rw [← hY]
          clear hY
          refine wp_region_later (by kernel_rfl) (by kernel_rfl) ?_
          repeat (go_big_quiet_step (first | (go_at_call 59; exact Later.call (KP _)) | (go_at_call 69; exact Later.same (KT _)) | (go_at_call 77; exact Later.call (KB _))))
          refine wpQuiet_nil ?_
          rintro _ ⟨⟨wq, hq⟩, rfl⟩
          have hbq := hbx.trans (hq.mono hbx.size)
          go_wp2
          go_roundw
          case rel => exact ⟨k + 1, hlt, by go_num, PG_succ HG.out HX.out, hbq⟩
          case measure => simp [intOf]; omega
    · obtain rfl : k = l.length := by omega
      have HPI := hide (pinsB_yes HG.out)
      have HW2 := hide (show weB s h l z = strB z by rw [HW.out, HPI.out, Bool.true_and])
      skip
      go_wp2_with fail
      skip
      go_loopw [7] (fun i wr => ∃ k : Nat, k ≤ z.length ∧ i = .int .i64 k ∧ ZG z k ∧ Below w1.heap.size w1 wr)
        (fun i _ => z.length - (intOf i).toNat)
      case atStart => exact ⟨0, Nat.zero_le _, rfl, fun j hj => absurd hj (Nat.not_lt_zero _), hb⟩
      case round =>
        obtain ⟨k, hk, rfl, hG, hb⟩ := hrel
        have HZ := hide hG
        clear hG
        have q1 := (hb.cell (p := ⟨g, 1, none⟩) hgl1).trans hS1
        by_cases hlt : k < z.length
        · obtain ⟨pb, o, rfl, hbb, c1⟩ := hU1 k hlt
          have d1 := (hb.cell (p := ⟨pb, o + k, none⟩) hbb).trans c1
          have KT0 := fun W => l06Turns_any (zAt z k) W
          clear hU1 c1
          cases ht : inB (zAt z k) 0 1000000
          · rw [ht] at KT0
            have HX := hide (strB_no hlt ht)
            clear ht
            go_wp2_with (go_at_call 69; with_reducible refine (KT0 _).mono ?_; rintro e w' ⟨rfl, rfl⟩)
            go_ret
            exact ⟨ret_bool (by rw [HW2.out, HX.out]), hb1.trans (hb.mono hb1.size)⟩
          · rw [ht] at KT0
            have HX := hide ht
            clear ht
            go_wp2_with (go_at_call 69; with_reducible refine (KT0 _).mono ?_; rintro e w' ⟨rfl, rfl⟩)
            go_roundw
            case rel => exact ⟨k + 1, hlt, by go_num, ZG_succ HZ.out HX.out, hb⟩
            case measure => simp [intOf]; omega
        · obtain rfl : k = z.length := by omega
          have HX := hide (strB_yes HZ.out)
          go_wp2
          go_ret
          exact ⟨ret_bool (by rw [HW2.out, HX.out]), hb1.trans (hb.mono hb1.size)⟩
end Go.Proofs.YtcocfnjbgceidaaGreat
namespace Go.Proofs.YtcocfnjbgceidaaGreat
open Go.RowKit
theorem isNaN8W_any (a : Int) (w : World) :
    Calls Tryz.prog 124 #[.int .i8 a] w fun e w' => e = .returned (.bool false) ∧ w = w' := by
  go_enter Tryz.func124, Tryz.ntmps124
  go_wp2
  all_goals go_ret
  all_goals exact ⟨ret_bool (by simp), rfl⟩
def cmpJ (a b : Int) : Int := if a < b then -1 else if b < a then 1 else 0
theorem cmp8W_any (a b : Int) (w : World) :
    Calls Tryz.prog 117 #[.int .i8 a, .int .i8 b] w fun e w' => e = .returned (.int .i64 (cmpJ a b)) ∧ w = w' := by
  go_enter Tryz.func117, Tryz.ntmps117
  go_wp2_with (go_at_call 124; refine (isNaN8W_any _ _).mono ?_; rintro e w' ⟨rfl, rfl⟩)
  all_goals go_ret
  all_goals exact ⟨ret_int (by unfold cmpJ; (repeat' split) <;> omega), rfl⟩
def orJ (x y : Int) : Int := if x = 0 then y else x
theorem cmpOrW_any (g : Nat) (x y : Int) (w : World) (h1 : w.cell? ⟨g, 0, none⟩ = some (.int .i64 x)) (h2 : w.cell? ⟨g, 1, none⟩ = some (.int .i64 y)) :
    Calls Tryz.prog 116 #[.slice (some ⟨g, 0, none⟩) 2 2] w fun e w' => e = .returned (.int .i64 (orJ x y)) ∧ w = w' := by
  go_enter Tryz.func116, Tryz.ntmps116
  go_wp2_with fail
  go_loop [8] (fun i => ∃ k : Nat, k ≤ 2 ∧ i = .int .i64 k ∧ (0 < k → x = 0) ∧ (1 < k → y = 0)) (fun i => 3 - (intOf i).toNat)
  case atStart => exact ⟨0, by omega, rfl, fun h => absurd h (by omega), fun h => absurd h (by omega)⟩
  case round =>
    obtain ⟨k, hk, rfl, e1, e2⟩ := hrel
    have E1 := hide e1
    have E2 := hide e2
    clear e1 e2
    match k, hk with
    | 0, _ =>
      go_wp2
      · go_ret
        exact ⟨ret_int (by rw [orJ, if_neg (by simpa using ‹(x != 0) = true›)]), rfl⟩
      · go_round
        case rel => exact ⟨1, by omega, by go_num, fun _ => by simpa using ‹(x != 0) = false›, fun h => absurd h (by omega)⟩
        case measure => simp [intOf]
    | 1, _ =>
      go_wp2
      · go_ret
        exact ⟨ret_int (by rw [orJ, if_pos (E1.out (by omega))]), rfl⟩
      · go_round
        case rel => exact ⟨2, by omega, by go_num, fun _ => E1.out (by omega), fun _ => by simpa using ‹(y != 0) = false›⟩
        case measure => simp [intOf]
    | 2, _ =>
      go_wp2
      go_ret
      exact ⟨ret_int (by rw [orJ, if_pos (E1.out (by omega)), E2.out (by omega)]), rfl⟩
def ordJ (a p b q : Int) : Int := orJ (cmpJ a b) (cmpJ p q)
theorem ordJ_neg (a p b q : Int) : ordJ a p b q < 0 ↔ befW a p b q = true := by
  simp only [ordJ, orJ, cmpJ, befW, decide_eq_true_eq]
  (repeat' split) <;> omega
set_option maxHeartbeats 1000000 in
theorem compareWornPins_any (a p r b q t : Int) (w : World) :
    Calls Tryz.prog 102 #[.agg #[.int .i8 a, .int .i8 p, .int .i64 r], .agg #[.int .i8 b, .int .i8 q, .int .i64 t]] w fun e w' => e = .returned (.int .i64 (ordJ a p b q)) ∧ Below w.heap.size w w' := by
  go_enter Tryz.func102, Tryz.ntmps102
  go_wp2_with fail
  have k1 : ((w.alloc (.cells #[.int .i8 a, .int .i8 p, .int .i64 r] 97)).alloc (.cells #[.int .i8 b, .int .i8 q, .int .i64 t] 97)).cell? ⟨w.heap.size, 0, none⟩ = some (.int .i8 a) := by simp [go_sem, World.cell?_alloc_past]
  have k2 : ((w.alloc (.cells #[.int .i8 a, .int .i8 p, .int .i64 r] 97)).alloc (.cells #[.int .i8 b, .int .i8 q, .int .i64 t] 97)).cell? ⟨w.heap.size, 1, none⟩ = some (.int .i8 p) := by simp [go_sem, World.cell?_alloc_past]
  have k3 : ((w.alloc (.cells #[.int .i8 a, .int .i8 p, .int .i64 r] 97)).alloc (.cells #[.int .i8 b, .int .i8 q, .int .i64 t] 97)).cell? ⟨w.heap.size + 1, 0, none⟩ = some (.int .i8 b) := by simp [go_sem]
  have k4 : ((w.alloc (.cells #[.int .i8 a, .int .i8 p, .int .i64 r] 97)).alloc (.cells #[.int .i8 b, .int .i8 q, .int .i64 t] 97)).cell? ⟨w.heap.size + 1, 1, none⟩ = some (.int .i8 q) := by simp [go_sem]
  have k5 : Below w.heap.size w ((w.alloc (.cells #[.int .i8 a, .int .i8 p, .int .i64 r] 97)).alloc (.cells #[.int .i8 b, .int .i8 q, .int .i64 t] 97)) := ((Below.refl _ _).alloc (Nat.le_refl _) _).alloc (by simp) _
  obtain ⟨W, hW⟩ : ∃ W, W = ((w.alloc (.cells #[.int .i8 a, .int .i8 p, .int .i64 r] 97)).alloc (.cells #[.int .i8 b, .int .i8 q, .int .i64 t] 97)) := ⟨_, rfl⟩
  rw [← hW] at k1 k2 k3 k4 k5 ⊢
  clear hW
  go_region_held3 (fun w' => w'.cell? ⟨w.heap.size, 0, none⟩ = some (.int .i8 a) ∧ w'.cell? ⟨w.heap.size, 1, none⟩ = some (.int .i8 p) ∧ w'.cell? ⟨w.heap.size + 1, 0, none⟩ = some (.int .i8 b) ∧ w'.cell? ⟨w.heap.size + 1, 1, none⟩ = some (.int .i8 q) ∧ Below w.heap.size w w')
    (first | exact ⟨k1, k2, k3, k4, k5.drew⟩ | (go_split_ands; refine ⟨?_, ?_, ?_, ?_, ?_⟩ <;> first | assumption | simp [*, World.cell?_alloc_some] | exact Below.alloc (by assumption) (Below.size (by assumption)) _))
    (first | (go_at_call 117; refine (cmp8W_any _ _ _).mono ?_; rintro e w2 ⟨rfl, rfl⟩) | (go_at_call 116; refine (cmpOrW_any _ (cmpJ a b) (cmpJ p q) _ ?_ ?_).mono ?_; (simp [go_sem]); (simp [go_sem]); rintro e w2 ⟨rfl, rfl⟩))
  go_wp2
  go_ret
  exact ⟨rfl, (k5.alloc k5.size _).drew⟩
set_option maxHeartbeats 1000000 in
theorem compareWornPins_grow (a p r b q t : Int) (w : World) :
    Calls Tryz.prog 102 #[.agg #[.int .i8 a, .int .i8 p, .int .i64 r], .agg #[.int .i8 b, .int .i8 q, .int .i64 t]] w fun e w' => e = .returned (.int .i64 (ordJ a p b q)) ∧ ∃ (q : Nat) (os : Array Obj), w' = Go.Sort.grow (w.drewN q) os := by
  go_enter Tryz.func102, Tryz.ntmps102
  go_wp2_with fail
  have k1 : ((w.alloc (.cells #[.int .i8 a, .int .i8 p, .int .i64 r] 97)).alloc (.cells #[.int .i8 b, .int .i8 q, .int .i64 t] 97)).cell? ⟨w.heap.size, 0, none⟩ = some (.int .i8 a) := by simp [go_sem, World.cell?_alloc_past]
  have k2 : ((w.alloc (.cells #[.int .i8 a, .int .i8 p, .int .i64 r] 97)).alloc (.cells #[.int .i8 b, .int .i8 q, .int .i64 t] 97)).cell? ⟨w.heap.size, 1, none⟩ = some (.int .i8 p) := by simp [go_sem, World.cell?_alloc_past]
  have k3 : ((w.alloc (.cells #[.int .i8 a, .int .i8 p, .int .i64 r] 97)).alloc (.cells #[.int .i8 b, .int .i8 q, .int .i64 t] 97)).cell? ⟨w.heap.size + 1, 0, none⟩ = some (.int .i8 b) := by simp [go_sem]
  have k4 : ((w.alloc (.cells #[.int .i8 a, .int .i8 p, .int .i64 r] 97)).alloc (.cells #[.int .i8 b, .int .i8 q, .int .i64 t] 97)).cell? ⟨w.heap.size + 1, 1, none⟩ = some (.int .i8 q) := by simp [go_sem]
  have k5 : Below w.heap.size w ((w.alloc (.cells #[.int .i8 a, .int .i8 p, .int .i64 r] 97)).alloc (.cells #[.int .i8 b, .int .i8 q, .int .i64 t] 97)) := ((Below.refl _ _).alloc (Nat.le_refl _) _).alloc (by simp) _
  obtain ⟨W, hW⟩ : ∃ W, W = ((w.alloc (.cells #[.int .i8 a, .int .i8 p, .int .i64 r] 97)).alloc (.cells #[.int .i8 b, .int .i8 q, .int .i64 t] 97)) := ⟨_, rfl⟩
  rw [← hW] at k1 k2 k3 k4 k5 ⊢
  have HW := hide hW
  clear hW
  go_region_held3 (fun w' => w'.cell? ⟨w.heap.size, 0, none⟩ = some (.int .i8 a) ∧ w'.cell? ⟨w.heap.size, 1, none⟩ = some (.int .i8 p) ∧ w'.cell? ⟨w.heap.size + 1, 0, none⟩ = some (.int .i8 b) ∧ w'.cell? ⟨w.heap.size + 1, 1, none⟩ = some (.int .i8 q) ∧ Below w.heap.size w w')
    (first | exact ⟨k1, k2, k3, k4, k5.drew⟩ | (go_split_ands; refine ⟨?_, ?_, ?_, ?_, ?_⟩ <;> first | assumption | simp [*, World.cell?_alloc_some] | exact Below.alloc (by assumption) (Below.size (by assumption)) _))
    (first | (go_at_call 117; refine (cmp8W_any _ _ _).mono ?_; rintro e w2 ⟨rfl, rfl⟩) | (go_at_call 116; refine (cmpOrW_any _ (cmpJ a b) (cmpJ p q) _ ?_ ?_).mono ?_; (simp [go_sem]); (simp [go_sem]); rintro e w2 ⟨rfl, rfl⟩))
  go_wp2
  go_ret
  exact ⟨rfl, 1, #[_, _, _], by rw [HW.out, Go.Sort.alloc_eq_grow, Go.Sort.alloc_eq_grow, Go.Sort.alloc_eq_grow, Go.Sort.grow_grow, Go.Sort.grow_grow]; rfl⟩
end Go.Proofs.YtcocfnjbgceidaaGreat
