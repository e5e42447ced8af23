import Derived.Test.YtcocfnjbgceidaaGreatGac
namespace Go.Proofs.YtcocfnjbgceidaaGreat
open Go.RowKit

/-- worn pins as cells -/
def wnC (l : List (Int × Int × Int)) : List Value := l.flatMap fun n => [.int .i8 n.1, .int .i8 n.2.1, .int .i64 n.2.2]
def wnS (l : List (Int × Int × Int)) (k : Nat) : Int := (l.getD k (0, 0, 0)).1
def wnT (l : List (Int × Int × Int)) (k : Nat) : Int := (l.getD k (0, 0, 0)).2.1
def wnP (l : List (Int × Int × Int)) (k : Nat) : Int := (l.getD k (0, 0, 0)).2.2
def WnWF (l : List (Int × Int × Int)) : Prop := ∀ k, k < l.length → (-128 ≤ wnS l k ∧ wnS l k ≤ 127) ∧ (-128 ≤ wnT l k ∧ wnT l k ≤ 127) ∧ (-9223372036854775808 ≤ wnP l k ∧ wnP l k ≤ 9223372036854775807)

theorem wnC_nil : wnC [] = [] := rfl
theorem wnC_cons (n : Int × Int × Int) (l : List (Int × Int × Int)) : wnC (n :: l) = .int .i8 n.1 :: .int .i8 n.2.1 :: .int .i64 n.2.2 :: wnC l := rfl
theorem wnC_append (l m : List (Int × Int × Int)) : wnC (l ++ m) = wnC l ++ wnC m := by simp [wnC]
theorem wnC_length (l : List (Int × Int × Int)) : (wnC l).length = l.length * 3 := by
  induction l with
  | nil => rfl
  | cons n l ih => simp [wnC_cons, ih]; omega
theorem wnC_at (l : List (Int × Int × Int)) : ∀ k, k < l.length → (wnC l)[k * 3]? = some (.int .i8 (wnS l k)) ∧ (wnC l)[k * 3 + 1]? = some (.int .i8 (wnT l k)) ∧ (wnC l)[k * 3 + 2]? = some (.int .i64 (wnP l k)) := by
  induction l with
  | nil => intro k h; simp at h
  | cons n l ih =>
    intro k h
    cases k with
    | zero => simp [wnC_cons, wnS, wnT, wnP]
    | succ k =>
      have := ih k (by simpa using h)
      rw [show (k + 1) * 3 = k * 3 + 1 + 1 + 1 from by omega, show k * 3 + 1 + 1 + 1 + 1 = (k * 3 + 1) + 1 + 1 + 1 from rfl, show k * 3 + 1 + 1 + 1 + 2 = (k * 3 + 2) + 1 + 1 + 1 from rfl]
      simpa [wnC_cons, wnS, wnT, wnP] using this
theorem wnC_set (l : List (Int × Int × Int)) : ∀ (k : Nat) (a p : Int) (q : Int), wnC (l.set k (a, p, q)) = (((wnC l).set (k * 3) (.int .i8 a)).set (k * 3 + 1) (.int .i8 p)).set (k * 3 + 2) (.int .i64 q) := by
  induction l with
  | nil => intro k a p q; simp [wnC_nil]
  | cons n l ih =>
    intro k a p q
    cases k with
    | zero => simp [wnC_cons]
    | succ k =>
      rw [show (k + 1) * 3 = k * 3 + 1 + 1 + 1 from by omega, show k * 3 + 1 + 1 + 1 + 1 = (k * 3 + 1) + 1 + 1 + 1 from rfl, show k * 3 + 1 + 1 + 1 + 2 = (k * 3 + 2) + 1 + 1 + 1 from rfl]
      simp [wnC_cons, ih]
theorem wnC_replicate (n : Nat) : wnC (List.replicate n (0, 0, 0)) = (madeCells #[.int .i8 0, .int .i8 0, .int .i64 0] (n * 3)).toList := by
  apply List.ext_getElem?
  intro j
  by_cases hj : j < n * 3
  · have hk : j / 3 < (List.replicate n ((0 : Int), (0 : Int), (0 : Int))).length := by simp; omega
    obtain ⟨h0, h1, h2⟩ := wnC_at (List.replicate n (0, 0, 0)) (j / 3) hk
    have hm : j % 3 = 0 ∨ j % 3 = 1 ∨ j % 3 = 2 := by omega
    rcases hm with h | h | h
    · rw [show j = j / 3 * 3 by omega, h0]
      simp [madeCells, wnS, List.getD, List.getElem?_replicate, show j / 3 < n by omega, show j / 3 * 3 < n * 3 by omega]
    · rw [show j = j / 3 * 3 + 1 by omega, h1]
      simp [madeCells, wnT, List.getD, List.getElem?_replicate, show j / 3 < n by omega, show j / 3 * 3 + 1 < n * 3 by omega, show (j / 3 * 3 + 1) % 3 = 1 by omega]
    · rw [show j = j / 3 * 3 + 2 by omega, h2]
      simp [madeCells, wnP, List.getD, List.getElem?_replicate, show j / 3 < n by omega, show j / 3 * 3 + 2 < n * 3 by omega, show (j / 3 * 3 + 2) % 3 = 2 by omega]
  · rw [List.getElem?_eq_none (by rw [wnC_length]; simp; omega), List.getElem?_eq_none (by simp [madeCells]; omega)]

/-- a slice's address under which worn pins lie -/
def WnA (w : World) (A : Option Addr) (l : List (Int × Int × Int)) : Prop :=
  ∀ k, k < l.length → ∃ b o, A = some ⟨b, o, none⟩ ∧ b < w.heap.size ∧ w.cell? ⟨b, o + k * 3, none⟩ = some (.int .i8 (wnS l k)) ∧ w.cell? ⟨b, o + k * 3 + 1, none⟩ = some (.int .i8 (wnT l k)) ∧ w.cell? ⟨b, o + k * 3 + 2, none⟩ = some (.int .i64 (wnP l k))
theorem WnA.below {w w' : World} {A : Option Addr} {l : List (Int × Int × Int)} (h : WnA w A l) (hb : Below w.heap.size w w') : WnA w' A l := by
  intro k hk
  obtain ⟨b, o, rfl, hlt, h1, h2, h3⟩ := h k hk
  exact ⟨b, o, rfl, Nat.lt_of_lt_of_le hlt hb.size, (hb.cell (p := ⟨b, _, none⟩) hlt).trans h1, (hb.cell (p := ⟨b, _, none⟩) hlt).trans h2, (hb.cell (p := ⟨b, _, none⟩) hlt).trans h3⟩
theorem WnA.of_own {w : World} {base : Nat} {e : TypeId} {A : Option Addr} {c : Nat} {l : List (Int × Int × Int)} (h : w.ownsRow base e 3 (.slice A l.length c) l.length (wnC l)) : WnA w A l := by
  intro k hk
  rcases h.2 with ⟨h', h0⟩ | ⟨g, cap, cur, h', hb, hg, _⟩
  · omega
  · simp only [Value.slice.injEq, true_and] at h'
    obtain ⟨rfl, rfl⟩ := h'
    obtain ⟨h0, h1, h2⟩ := wnC_at l k hk
    refine ⟨g, 0, rfl, (Array.getElem?_eq_some_iff.1 hg).1, ?_, ?_, ?_⟩
    · rw [Nat.zero_add, h.cellAt (k * 3) (by omega), h0]
    · rw [Nat.zero_add, h.cellAt (k * 3 + 1) (by omega), h1]
    · rw [Nat.zero_add, h.cellAt (k * 3 + 2) (by omega), h2]
theorem wnown_set3 {w : World} {base : Nat} {e : TypeId} {g n c : Nat} {l : List (Int × Int × Int)} (h : w.ownsRow base e 3 (.slice (some ⟨g, 0, none⟩) n c) n (wnC l)) (k : Nat) (a p : Int) (q : Int) :
    (((w.setCell ⟨g, k * 3, none⟩ (.int .i8 a)).setCell ⟨g, k * 3 + 1, none⟩ (.int .i8 p)).setCell ⟨g, k * 3 + 2, none⟩ (.int .i64 q)).ownsRow base e 3 (.slice (some ⟨g, 0, none⟩) n c) n (wnC (l.set k (a, p, q))) := by
  rw [wnC_set]
  exact (((h.stored (k * 3) (.int .i8 a)).1.stored (k * 3 + 1) (.int .i8 p)).1.stored (k * 3 + 2) (.int .i64 q)).1
def wnup (l : List (Int × Int × Int)) (k : Nat) : List (Int × Int × Int) := l.take k ++ List.replicate (l.length - k) (0, 0, 0)
theorem wnup_length (l : List (Int × Int × Int)) (k : Nat) (h : k ≤ l.length) : (wnup l k).length = l.length := by simp [wnup]; omega
theorem wnup_set (l : List (Int × Int × Int)) (k : Nat) (h : k < l.length) : (wnup l k).set k (wnS l k, wnT l k, wnP l k) = wnup l (k + 1) := by
  have e1 : l.length - k = (l.length - (k + 1)) + 1 := by omega
  have e2 : (wnS l k, wnT l k, wnP l k) = l[k] := by simp [wnS, wnT, wnP, List.getD, h]
  rw [wnup, wnup, e1, List.replicate_succ, e2, List.take_succ_eq_append_getElem h, List.set_append_right _ _ (by simp; omega)]
  simp only [List.length_take, show k - min k l.length = 0 by omega, List.set_cons_zero, List.append_assoc, List.cons_append, List.nil_append]
theorem wnup_zero (l : List (Int × Int × Int)) : wnup l 0 = List.replicate l.length (0, 0, 0) := by simp [wnup]
theorem wnup_all (l : List (Int × Int × Int)) : wnup l l.length = l := by simp [wnup]

theorem info97 : (Tryz.prog.info? 97).map (fun i => (i.zero, i.size, i.bytes)) = some (some (.agg #[.int .i8 0, .int .i8 0, .int .i64 0]), 3, 16) := by kernel_rfl

theorem toWornPin_any (a p : Int) (q : Int) (w : World) :
    Calls Tryz.prog 79 #[.agg #[.int .i8 a, .int .i8 p, .int .i64 q]] w fun e w' => e = .returned (.agg #[.int .i8 a, .int .i8 p, .int .i64 q]) ∧ Below w.heap.size w w' := by
  go_enter Tryz.func79, Tryz.ntmps79
  go_wp2
  refine bodyPost_ret (v := .agg #[.int .i8 a, .int .i8 p, .int .i64 q]) (by simp [results, Tryz.results79, go_sem]) rfl ⟨rfl, ?_⟩
  repeat (first | exact Below.refl _ _ | refine Below.alloc ?_ (by simp <;> omega) _ | refine Below.setCell ?_ (by simp) _)

/-- what toWornPinS leaves -/
def MadeWn (w : World) (l : List (Int × Int × Int)) (e : Ending) (w' : World) : Prop :=
  e = .returned (.slice (some ⟨w.heap.size, 0, none⟩) l.length l.length) ∧ w'.ownsRow w.heap.size 97 3 (.slice (some ⟨w.heap.size, 0, none⟩) l.length l.length) l.length (wnC l) ∧ Below w.heap.size w w'

set_option maxHeartbeats 1000000 in
theorem toWornPinS_any (A : Option Addr) (c : Nat) (l : List (Int × Int × Int)) (w : World) (hA : WnA w A l) (hn : l.length ≤ 1048576) :
    Calls Tryz.prog 49 #[.slice A l.length c] w (MadeWn w l) := by
  obtain ⟨i0, hi, hz0, hz1, hz2⟩ := info_parts info97
  go_enter Tryz.func49, Tryz.ntmps49
  go_wp2_with (at_make; refine wpList_make_full _ rfl _ _ 32 rfl w.heap.size 97 i0 _ 3 Tryz.underlying32 hi hz0 hz1 _ _ _ _ l.length rfl rfl (by omega) (by omega) (by rw [hz2]; omega) (by unfold maxLen; omega) (by simp) ?_; intro w1 hown1 hgrow1)
  have hb0 : Below w.heap.size w w1 := (Below.refl _ _).grown hgrow1 (Nat.le_refl _) (fun j e => by cases e)
  clear hgrow1
  go_loopw [4] (fun i wr => ∃ k : Nat, k ≤ l.length ∧ i = .int .i64 k ∧ wr.ownsRow w.heap.size 97 3 (.slice (some ⟨w.heap.size, 0, none⟩) l.length l.length) l.length (wnC (wnup l k)) ∧ Below w.heap.size w wr)
    (fun i _ => l.length - (intOf i).toNat)
  case atStart =>
    refine ⟨0, Nat.zero_le _, rfl, ?_, hb0⟩
    rw [wnup_zero, wnC_replicate]
    exact hown1
  case round =>
    obtain ⟨k, hk, rfl, hown, hb⟩ := hrel
    by_cases hlt : k < l.length
    · obtain ⟨b, o, rfl, hbb, c1, c2, c3⟩ := hA k hlt
      have d1 := (hb.cell (p := ⟨b, o + k * 3, none⟩) hbb).trans c1
      have d2 := (hb.cell (p := ⟨b, o + k * 3 + 1, none⟩) hbb).trans c2
      have d3 := (hb.cell (p := ⟨b, o + k * 3 + 2, none⟩) hbb).trans c3
      have hs := hb.size
      clear c1 c2 c3 hA hown1 hb0
      go_wp2_with (go_at_call 79; refine (toWornPin_any _ _ _ _).mono ?_; rintro e w2 ⟨rfl, hb2⟩; have own2 := own_keep hown hb2; have hcl := wnup_length l k hk; have f1 := (own2.cellAt (k * 3) (by omega)).trans (wnC_at _ k (by omega)).1; have f2 := (own2.cellAt (k * 3 + 1) (by omega)).trans (wnC_at _ k (by omega)).2.1; have f3 := (own2.cellAt (k * 3 + 2) (by omega)).trans (wnC_at _ k (by omega)).2.2; have f4 := own2.frozenAt (k * 3); have f5 := own2.frozenAt (k * 3 + 1); have f6 := own2.frozenAt (k * 3 + 2); have hs2 := hb2.size)
      go_roundw
      case rel => exact ⟨k + 1, hlt, by go_num, wnup_set l k hlt ▸ wnown_set3 own2 k _ _ _, (((hb.trans (hb2.mono hs)).setCell (p := ⟨w.heap.size, _, none⟩) (Nat.le_refl _) _).setCell (p := ⟨w.heap.size, _, none⟩) (Nat.le_refl _) _).setCell (p := ⟨w.heap.size, _, none⟩) (Nat.le_refl _) _⟩
      case measure => simp [intOf]; omega
    · obtain rfl : k = l.length := by omega
      go_wp2
      go_ret
      exact ⟨rfl, by rw [wnup_all] at hown; exact hown, hb⟩
theorem toWornPinS_ex (A : Option Addr) (c : Nat) (l : List (Int × Int × Int)) (w : World) (hA : WnA w A l) (hn : l.length ≤ 1048576) :
    Calls Tryz.prog 49 #[.slice A l.length c] w fun e w' => ∃ g : Nat, e = .returned (.slice (some ⟨g, 0, none⟩) l.length l.length) ∧ w.heap.size ≤ g ∧ w'.ownsRow w.heap.size 97 3 (.slice (some ⟨g, 0, none⟩) l.length l.length) l.length (wnC l) ∧ Below w.heap.size w w' :=
  (toWornPinS_any A c l w hA hn).mono fun _ _ h => ⟨w.heap.size, h.1, Nat.le_refl _, h.2⟩

theorem eqWornPin_self (a p : Int) (q : Int) (w : World) :
    Calls Tryz.prog 80 #[.agg #[.int .i8 a, .int .i8 p, .int .i64 q], .agg #[.int .i8 a, .int .i8 p, .int .i64 q]] w fun e w' => e = .returned (.bool true) ∧ Below w.heap.size w w' := by
  go_enter Tryz.func80, Tryz.ntmps80
  go_wp2
  all_goals go_ret
  all_goals exact ⟨rfl, by repeat (first | exact Below.refl _ _ | refine Below.alloc ?_ (by simp <;> omega) _)⟩

set_option maxHeartbeats 1000000 in
theorem eqWornPinS_self (A B : Option Addr) (c d : Nat) (l : List (Int × Int × Int)) (w : World) (hA : WnA w A l) (hB : WnA w B l) (hn : l.length ≤ 1048576) :
    Calls Tryz.prog 51 #[.slice A l.length c, .slice B l.length d] w (Says true w) := by
  go_enter Tryz.func51, Tryz.ntmps51
  go_wp2_with fail
  go_loopw [5] (fun i wr => ∃ k : Nat, k ≤ l.length ∧ i = .int .i64 k ∧ Below w.heap.size w wr)
    (fun i _ => l.length - (intOf i).toNat)
  case atStart => exact ⟨0, Nat.zero_le _, rfl, Below.refl _ _⟩
  case round =>
    obtain ⟨k, hk, rfl, hb⟩ := hrel
    by_cases hlt : k < l.length
    · obtain ⟨b, o, rfl, hbb, c1, c2, c5⟩ := hA k hlt
      obtain ⟨b', o', rfl, hbb', c3, c4, c6⟩ := hB k hlt
      have d1 := Later.cell ((hb.cell (p := ⟨b, o + k * 3, none⟩) hbb).trans c1)
      have d2 := Later.cell ((hb.cell (p := ⟨b, o + k * 3 + 1, none⟩) hbb).trans c2)
      have d5 := Later.cell ((hb.cell (p := ⟨b, o + k * 3 + 2, none⟩) hbb).trans c5)
      have d3 := Later.cell ((hb.cell (p := ⟨b', o' + k * 3, none⟩) hbb').trans c3)
      have d4 := Later.cell ((hb.cell (p := ⟨b', o' + k * 3 + 1, none⟩) hbb').trans c4)
      have d6 := Later.cell ((hb.cell (p := ⟨b', o' + k * 3 + 2, none⟩) hbb').trans c6)
      have hs := hb.size
      clear c1 c2 c3 c4 c5 c6 hA hB
      go_wp2_with fail
      refine wp_region_later (by kernel_rfl) (by kernel_rfl) ?_
      repeat (go_big_quiet_step ((go_at_call 80; exact Later.call (eqWornPin_self _ _ _ _))))
      refine wpQuiet_nil ?_
      rintro _ ⟨⟨wq, hq⟩, rfl⟩
      go_wp2
      go_roundw
      case rel => exact ⟨k + 1, by omega, by go_num, hb.trans (hq.mono hs)⟩
      case measure => simp [intOf]; omega
    · obtain rfl : k = l.length := by omega
      go_wp2
      go_ret
      exact ⟨rfl, hb⟩
theorem szWornPinS_small (A : Option Addr) (n c : Nat) (l : Int) (h0 : 0 ≤ l) (h1 : l ≤ 1048576) (hn : n ≤ maxLen) (hs : (n : Int) ≤ l) (w : World) :
    Calls Tryz.prog 43 #[.slice A n c, .int .i64 l] w fun e w' => e = .returned (.int .i64 (l - n)) ∧ w = w' := by
  unfold maxLen at hn
  go_enter Tryz.func43, Tryz.ntmps43
  go_wp2
  all_goals go_ret
  all_goals exact ⟨ret_int (by omega), rfl⟩
theorem szWornPinS_big (A : Option Addr) (n c : Nat) (l : Int) (h0 : 0 ≤ l) (h1 : l ≤ 1048576) (hn : n ≤ maxLen) (hs : l < (n : Int)) (w : World) :
    Calls Tryz.prog 43 #[.slice A n c, .int .i64 l] w fun e w' => e = .returned (.int .i64 (-1)) ∧ w = w' := by
  unfold maxLen at hn
  go_enter Tryz.func43, Tryz.ntmps43
  go_wp2
  all_goals go_ret
  all_goals exact ⟨ret_int (by omega), rfl⟩

/-- marks from K on -/
def mkWn (K : Int) (n : Nat) : List (Int × Int × Int) := (List.range n).map fun (i : Nat) => (IntKind.i8.wrap (K + 3 * (i : Int)), IntKind.i8.wrap (K + 3 * (i : Int) + 1), IntKind.i64.wrap (K + 3 * (i : Int) + 1 + 1))
def mkWnT (K : Int) (l : List (Int × Int × Int)) (k : Nat) : List (Int × Int × Int) := mkWn K k ++ l.drop k
theorem mkWn_length (K : Int) (n : Nat) : (mkWn K n).length = n := by simp [mkWn]
theorem mkWnT_zero (K : Int) (l : List (Int × Int × Int)) : mkWnT K l 0 = l := by simp [mkWnT, mkWn]
theorem mkWnT_all (K : Int) (l : List (Int × Int × Int)) : mkWnT K l l.length = mkWn K l.length := by simp [mkWnT]
theorem mkWnT_length (K : Int) (l : List (Int × Int × Int)) (k : Nat) (h : k ≤ l.length) : (mkWnT K l k).length = l.length := by
  simp [mkWnT, mkWn_length]; omega
theorem mkWnT_set (K : Int) (l : List (Int × Int × Int)) (k : Nat) (h : k < l.length) : (mkWnT K l k).set k (IntKind.i8.wrap (K + 3 * (k : Int)), IntKind.i8.wrap (K + 3 * (k : Int) + 1), IntKind.i64.wrap (K + 3 * (k : Int) + 1 + 1)) = mkWnT K l (k + 1) := by
  unfold mkWnT mkWn
  rw [List.set_append_right _ _ (by simp), List.range_succ, List.map_append, List.length_map, List.length_range, Nat.sub_self, List.drop_eq_getElem_cons h, List.set_cons_zero, List.append_assoc]
  rfl
theorem mkWn_of_own {w : World} {base : Nat} {e : TypeId} {A : Option Addr} {c : Nat} {K : Int} {n : Nat} (h : w.ownsRow base e 3 (.slice A n c) n (wnC (mkWn K n))) : WnA w A (mkWn K n) := WnA.of_own (l := mkWn K n) (by rw [mkWn_length]; exact h)
end Go.Proofs.YtcocfnjbgceidaaGreat
