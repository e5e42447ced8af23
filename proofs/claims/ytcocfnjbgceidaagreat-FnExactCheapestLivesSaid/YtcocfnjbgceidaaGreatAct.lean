import Derived.Test.YtcocfnjbgceidaaGreatGac
import Derived.IntWalk
namespace Go.Proofs.YtcocfnjbgceidaaGreat
open Go.RowKit
def qaC (l : List (Int × Int × Int × Int × Int)) : List Value := l.flatMap fun n => [.int .i8 n.1, .int .i64 n.2.1, .int .i64 n.2.2.1, .int .i64 n.2.2.2.1, .int .i64 n.2.2.2.2]
def qaK (l : List (Int × Int × Int × Int × Int)) (k : Nat) : Int := (l.getD k (0, 0, 0, 0, 0)).1
def qaA (l : List (Int × Int × Int × Int × Int)) (k : Nat) : Int := (l.getD k (0, 0, 0, 0, 0)).2.1
def qaB (l : List (Int × Int × Int × Int × Int)) (k : Nat) : Int := (l.getD k (0, 0, 0, 0, 0)).2.2.1
def qaE (l : List (Int × Int × Int × Int × Int)) (k : Nat) : Int := (l.getD k (0, 0, 0, 0, 0)).2.2.2.1
def qaD (l : List (Int × Int × Int × Int × Int)) (k : Nat) : Int := (l.getD k (0, 0, 0, 0, 0)).2.2.2.2
def AcWF (l : List (Int × Int × Int × Int × Int)) : Prop := ∀ k, k < l.length → (-128 ≤ qaK l k ∧ qaK l k ≤ 127) ∧ (-9223372036854775808 ≤ qaA l k ∧ qaA l k ≤ 9223372036854775807) ∧ (-9223372036854775808 ≤ qaB l k ∧ qaB l k ≤ 9223372036854775807) ∧ (-9223372036854775808 ≤ qaE l k ∧ qaE l k ≤ 9223372036854775807) ∧ (-9223372036854775808 ≤ qaD l k ∧ qaD l k ≤ 9223372036854775807)
theorem qaC_nil : qaC [] = [] := rfl
theorem qaC_cons (n : Int × Int × Int × Int × Int) (l : List (Int × Int × Int × Int × Int)) : qaC (n :: l) = .int .i8 n.1 :: .int .i64 n.2.1 :: .int .i64 n.2.2.1 :: .int .i64 n.2.2.2.1 :: .int .i64 n.2.2.2.2 :: qaC l := rfl
theorem qaC_append (l m : List (Int × Int × Int × Int × Int)) : qaC (l ++ m) = qaC l ++ qaC m := by simp [qaC]
theorem qaC_length (l : List (Int × Int × Int × Int × Int)) : (qaC l).length = l.length * 5 := by
  induction l with
  | nil => rfl
  | cons n l ih => simp [qaC_cons, ih]; omega
theorem qaC_at (l : List (Int × Int × Int × Int × Int)) : ∀ k, k < l.length → (qaC l)[k * 5]? = some (.int .i8 (qaK l k)) ∧ (qaC l)[k * 5 + 1]? = some (.int .i64 (qaA l k)) ∧ (qaC l)[k * 5 + 2]? = some (.int .i64 (qaB l k)) ∧ (qaC l)[k * 5 + 3]? = some (.int .i64 (qaE l k)) ∧ (qaC l)[k * 5 + 4]? = some (.int .i64 (qaD l k)) := by
  induction l with
  | nil => intro k h; simp at h
  | cons n l ih =>
    intro k h
    cases k with
    | zero => simp [qaC_cons, qaK, qaA, qaB, qaE, qaD]
    | succ k =>
      have := ih k (by simpa using h)
      rw [show (k + 1) * 5 = k * 5 + 1 + 1 + 1 + 1 + 1 from by omega, show k * 5 + 1 + 1 + 1 + 1 + 1 + 1 = (k * 5 + 1) + 1 + 1 + 1 + 1 + 1 from rfl, show k * 5 + 1 + 1 + 1 + 1 + 1 + 2 = (k * 5 + 2) + 1 + 1 + 1 + 1 + 1 from rfl, show k * 5 + 1 + 1 + 1 + 1 + 1 + 3 = (k * 5 + 3) + 1 + 1 + 1 + 1 + 1 from rfl, show k * 5 + 1 + 1 + 1 + 1 + 1 + 4 = (k * 5 + 4) + 1 + 1 + 1 + 1 + 1 from rfl]
      simpa [qaC_cons, qaK, qaA, qaB, qaE, qaD] using this
theorem qaC_set (l : List (Int × Int × Int × Int × Int)) : ∀ (k : Nat) (a0 : Int) (a1 : Int) (a2 : Int) (a3 : Int) (a4 : Int), qaC (l.set k (a0, a1, a2, a3, a4)) = ((((((qaC l).set (k * 5) (.int .i8 a0)).set (k * 5 + 1) (.int .i64 a1)).set (k * 5 + 2) (.int .i64 a2)).set (k * 5 + 3) (.int .i64 a3)).set (k * 5 + 4) (.int .i64 a4)) := by
  induction l with
  | nil => intro k a0 a1 a2 a3 a4; simp [qaC_nil]
  | cons n l ih =>
    intro k a0 a1 a2 a3 a4
    cases k with
    | zero => simp [qaC_cons]
    | succ k =>
      rw [show (k + 1) * 5 = k * 5 + 1 + 1 + 1 + 1 + 1 from by omega, show k * 5 + 1 + 1 + 1 + 1 + 1 + 1 = (k * 5 + 1) + 1 + 1 + 1 + 1 + 1 from rfl, show k * 5 + 1 + 1 + 1 + 1 + 1 + 2 = (k * 5 + 2) + 1 + 1 + 1 + 1 + 1 from rfl, show k * 5 + 1 + 1 + 1 + 1 + 1 + 3 = (k * 5 + 3) + 1 + 1 + 1 + 1 + 1 from rfl, show k * 5 + 1 + 1 + 1 + 1 + 1 + 4 = (k * 5 + 4) + 1 + 1 + 1 + 1 + 1 from rfl]
      simp [qaC_cons, ih]
theorem qaC_replicate (n : Nat) : qaC (List.replicate n (0, 0, 0, 0, 0)) = (madeCells #[.int .i8 0, .int .i64 0, .int .i64 0, .int .i64 0, .int .i64 0] (n * 5)).toList := by
  apply List.ext_getElem?
  intro j
  by_cases hj : j < n * 5
  · have hk : j / 5 < (List.replicate n ((0 : Int), (0 : Int), (0 : Int), (0 : Int), (0 : Int))).length := by simp; omega
    obtain ⟨h0, h1, h2, h3, h4⟩ := qaC_at (List.replicate n (0, 0, 0, 0, 0)) (j / 5) hk
    have hm : j % 5 = 0 ∨ j % 5 = 1 ∨ j % 5 = 2 ∨ j % 5 = 3 ∨ j % 5 = 4 := by omega
    rcases hm with h | h | h | h | h
    · rw [show j = j / 5 * 5 by omega, h0]
      simp [madeCells, qaK, List.getD, List.getElem?_replicate, show j / 5 < n by omega, show j / 5 * 5 < n * 5 by omega]
    · rw [show j = j / 5 * 5 + 1 by omega, h1]
      simp [madeCells, qaA, List.getD, List.getElem?_replicate, show j / 5 < n by omega, show j / 5 * 5 + 1 < n * 5 by omega, show (j / 5 * 5 + 1) % 5 = 1 by omega]
    · rw [show j = j / 5 * 5 + 2 by omega, h2]
      simp [madeCells, qaB, List.getD, List.getElem?_replicate, show j / 5 < n by omega, show j / 5 * 5 + 2 < n * 5 by omega, show (j / 5 * 5 + 2) % 5 = 2 by omega]
    · rw [show j = j / 5 * 5 + 3 by omega, h3]
      simp [madeCells, qaE, List.getD, List.getElem?_replicate, show j / 5 < n by omega, show j / 5 * 5 + 3 < n * 5 by omega, show (j / 5 * 5 + 3) % 5 = 3 by omega]
    · rw [show j = j / 5 * 5 + 4 by omega, h4]
      simp [madeCells, qaD, List.getD, List.getElem?_replicate, show j / 5 < n by omega, show j / 5 * 5 + 4 < n * 5 by omega, show (j / 5 * 5 + 4) % 5 = 4 by omega]
  · rw [List.getElem?_eq_none (by rw [qaC_length]; simp; omega), List.getElem?_eq_none (by simp [madeCells]; omega)]
def AcA (w : World) (A : Option Addr) (l : List (Int × Int × Int × Int × Int)) : Prop :=
  ∀ k, k < l.length → ∃ b o, A = some ⟨b, o, none⟩ ∧ b < w.heap.size ∧ w.cell? ⟨b, o + k * 5, none⟩ = some (.int .i8 (qaK l k)) ∧ w.cell? ⟨b, o + k * 5 + 1, none⟩ = some (.int .i64 (qaA l k)) ∧ w.cell? ⟨b, o + k * 5 + 2, none⟩ = some (.int .i64 (qaB l k)) ∧ w.cell? ⟨b, o + k * 5 + 3, none⟩ = some (.int .i64 (qaE l k)) ∧ w.cell? ⟨b, o + k * 5 + 4, none⟩ = some (.int .i64 (qaD l k))
theorem AcA.below {w w' : World} {A : Option Addr} {l : List (Int × Int × Int × Int × Int)} (h : AcA w A l) (hb : Below w.heap.size w w') : AcA w' A l := by
  intro k hk
  obtain ⟨b, o, rfl, hlt, h0, h1, h2, h3, h4⟩ := h k hk
  exact ⟨b, o, rfl, Nat.lt_of_lt_of_le hlt hb.size, (hb.cell (p := ⟨b, _, none⟩) hlt).trans h0, (hb.cell (p := ⟨b, _, none⟩) hlt).trans h1, (hb.cell (p := ⟨b, _, none⟩) hlt).trans h2, (hb.cell (p := ⟨b, _, none⟩) hlt).trans h3, (hb.cell (p := ⟨b, _, none⟩) hlt).trans h4⟩
theorem AcA.of_own {w : World} {base : Nat} {e : TypeId} {A : Option Addr} {c : Nat} {l : List (Int × Int × Int × Int × Int)} (h : w.ownsRow base e 5 (.slice A l.length c) l.length (qaC l)) : AcA w A l := by
  intro k hk
  rcases h.2 with ⟨h', h0⟩ | ⟨g, cap, cur, h', hb, hg, _⟩
  · omega
  · simp only [Value.slice.injEq, true_and] at h'
    obtain ⟨rfl, rfl⟩ := h'
    obtain ⟨h0, h1, h2, h3, h4⟩ := qaC_at l k hk
    refine ⟨g, 0, rfl, (Array.getElem?_eq_some_iff.1 hg).1, ?_, ?_, ?_, ?_, ?_⟩
    · rw [Nat.zero_add, h.cellAt (k * 5) (by omega), h0]
    · rw [Nat.zero_add, h.cellAt (k * 5 + 1) (by omega), h1]
    · rw [Nat.zero_add, h.cellAt (k * 5 + 2) (by omega), h2]
    · rw [Nat.zero_add, h.cellAt (k * 5 + 3) (by omega), h3]
    · rw [Nat.zero_add, h.cellAt (k * 5 + 4) (by omega), h4]
theorem qaown_set {w : World} {base : Nat} {e : TypeId} {g n c : Nat} {l : List (Int × Int × Int × Int × Int)} (h : w.ownsRow base e 5 (.slice (some ⟨g, 0, none⟩) n c) n (qaC l)) (k : Nat) (a0 : Int) (a1 : Int) (a2 : Int) (a3 : Int) (a4 : Int) :
    (((((w.setCell ⟨g, k * 5, none⟩ (.int .i8 a0)).setCell ⟨g, k * 5 + 1, none⟩ (.int .i64 a1)).setCell ⟨g, k * 5 + 2, none⟩ (.int .i64 a2)).setCell ⟨g, k * 5 + 3, none⟩ (.int .i64 a3)).setCell ⟨g, k * 5 + 4, none⟩ (.int .i64 a4)).ownsRow base e 5 (.slice (some ⟨g, 0, none⟩) n c) n (qaC (l.set k (a0, a1, a2, a3, a4))) := by
  rw [qaC_set]
  exact (((((h.stored (k * 5) (.int .i8 a0)).1.stored (k * 5 + 1) (.int .i64 a1)).1.stored (k * 5 + 2) (.int .i64 a2)).1.stored (k * 5 + 3) (.int .i64 a3)).1.stored (k * 5 + 4) (.int .i64 a4)).1
def qaup (l : List (Int × Int × Int × Int × Int)) (k : Nat) : List (Int × Int × Int × Int × Int) := l.take k ++ List.replicate (l.length - k) (0, 0, 0, 0, 0)
theorem qaup_length (l : List (Int × Int × Int × Int × Int)) (k : Nat) (h : k ≤ l.length) : (qaup l k).length = l.length := by simp [qaup]; omega
theorem qa_get (l : List (Int × Int × Int × Int × Int)) (k : Nat) (h : k < l.length) : (qaK l k, qaA l k, qaB l k, qaE l k, qaD l k) = l[k] := by simp [qaK, qaA, qaB, qaE, qaD, List.getD, h]
theorem qaup_set (l : List (Int × Int × Int × Int × Int)) (k : Nat) (h : k < l.length) : (qaup l k).set k (qaK l k, qaA l k, qaB l k, qaE l k, qaD l k) = qaup l (k + 1) := by
  have e1 : l.length - k = (l.length - (k + 1)) + 1 := by omega
  have e2 : (qaK l k, qaA l k, qaB l k, qaE l k, qaD l k) = l[k] := qa_get l k h
  rw [qaup, qaup, e1, List.replicate_succ, e2, List.take_succ_eq_append_getElem h, List.set_append_right _ _ (by simp; omega)]
  simp only [List.length_take, show k - min k l.length = 0 by omega, List.set_cons_zero, List.append_assoc, List.cons_append, List.nil_append]
theorem qaup_zero (l : List (Int × Int × Int × Int × Int)) : qaup l 0 = List.replicate l.length (0, 0, 0, 0, 0) := by simp [qaup]
theorem qaup_all (l : List (Int × Int × Int × Int × Int)) : qaup l l.length = l := by simp [qaup]
theorem info55 : (Tryz.prog.info? 55).map (fun i => (i.zero, i.size, i.bytes)) = some (some (.agg #[.int .i8 0, .int .i64 0, .int .i64 0, .int .i64 0, .int .i64 0]), 5, 40) := by kernel_rfl
theorem toAct_any (a0 : Int) (a1 : Int) (a2 : Int) (a3 : Int) (a4 : Int) (w : World) :
    Calls Tryz.prog 26 #[.agg #[.int .i8 a0, .int .i64 a1, .int .i64 a2, .int .i64 a3, .int .i64 a4]] w fun e w' => e = .returned (.agg #[.int .i8 a0, .int .i64 a1, .int .i64 a2, .int .i64 a3, .int .i64 a4]) ∧ Below w.heap.size w w' := by
  go_enter Tryz.func26, Tryz.ntmps26
  go_wp2
  refine bodyPost_ret (v := .agg #[.int .i8 a0, .int .i64 a1, .int .i64 a2, .int .i64 a3, .int .i64 a4]) (by simp [results, Tryz.results26, go_sem]) rfl ⟨rfl, ?_⟩
  repeat (first | exact Below.refl _ _ | refine Below.alloc ?_ (by simp <;> omega) _ | refine Below.setCell ?_ (by simp) _)
set_option maxHeartbeats 1000000 in
theorem toActS_ex (A : Option Addr) (c : Nat) (l : List (Int × Int × Int × Int × Int)) (w : World) (hA : AcA w A l) (hn : l.length ≤ 1048576) :
    Calls Tryz.prog 31 #[.slice A l.length c] w fun e w' => ∃ g : Nat, e = .returned (.slice (some ⟨g, 0, none⟩) l.length l.length) ∧ w.heap.size ≤ g ∧ w'.ownsRow w.heap.size 55 5 (.slice (some ⟨g, 0, none⟩) l.length l.length) l.length (qaC l) ∧ Below w.heap.size w w' := by
  obtain ⟨i0, hi, hz0, hz1, hz2⟩ := info_parts info55
  go_enter Tryz.func31, Tryz.ntmps31
  go_wp2_with (at_make; refine wpList_make_full _ rfl _ _ 65 rfl w.heap.size 55 i0 _ 5 Tryz.underlying65 hi hz0 hz1 _ _ _ _ l.length rfl rfl (by omega) (by omega) (by rw [hz2]; omega) (by unfold maxLen; omega) (by simp) ?_; intro w1 hown1 hgrow1)
  have hb0 : Below w.heap.size w w1 := (Below.refl _ _).grown hgrow1 (Nat.le_refl _) (fun j e => by cases e)
  clear hgrow1
  go_loopw [4] (fun i wr => ∃ k : Nat, k ≤ l.length ∧ i = .int .i64 k ∧ wr.ownsRow w.heap.size 55 5 (.slice (some ⟨w.heap.size, 0, none⟩) l.length l.length) l.length (qaC (qaup l k)) ∧ Below w.heap.size w wr)
    (fun i _ => l.length - (intOf i).toNat)
  case atStart =>
    refine ⟨0, Nat.zero_le _, rfl, ?_, hb0⟩
    rw [qaup_zero, qaC_replicate]
    exact hown1
  case round =>
    obtain ⟨k, hk, rfl, hown, hb⟩ := hrel
    by_cases hlt : k < l.length
    · obtain ⟨b, o, rfl, hbb, c1, c2, c3, c4, c5⟩ := hA k hlt
      have d1 := (hb.cell (p := ⟨b, o + k * 5, none⟩) hbb).trans c1
      have d2 := (hb.cell (p := ⟨b, o + k * 5 + 1, none⟩) hbb).trans c2
      have d3 := (hb.cell (p := ⟨b, o + k * 5 + 2, none⟩) hbb).trans c3
      have d4 := (hb.cell (p := ⟨b, o + k * 5 + 3, none⟩) hbb).trans c4
      have d5 := (hb.cell (p := ⟨b, o + k * 5 + 4, none⟩) hbb).trans c5
      have hs := hb.size
      clear c1 c2 c3 c4 c5 hA hown1 hb0
      go_wp2_with (go_at_call 26; refine (toAct_any _ _ _ _ _ _).mono ?_; rintro e w2 ⟨rfl, hb2⟩; have own2 := own_keep hown hb2; have hcl := qaup_length l k hk; have f1 := (own2.cellAt (k * 5) (by omega)).trans (qaC_at _ k (by omega)).1; have g1 := own2.frozenAt (k * 5); have f2 := (own2.cellAt (k * 5 + 1) (by omega)).trans (qaC_at _ k (by omega)).2.1; have g2 := own2.frozenAt (k * 5 + 1); have f3 := (own2.cellAt (k * 5 + 2) (by omega)).trans (qaC_at _ k (by omega)).2.2.1; have g3 := own2.frozenAt (k * 5 + 2); have f4 := (own2.cellAt (k * 5 + 3) (by omega)).trans (qaC_at _ k (by omega)).2.2.2.1; have g4 := own2.frozenAt (k * 5 + 3); have f5 := (own2.cellAt (k * 5 + 4) (by omega)).trans (qaC_at _ k (by omega)).2.2.2.2; have g5 := own2.frozenAt (k * 5 + 4); have hs2 := hb2.size)
      go_roundw
      case rel => exact ⟨k + 1, hlt, by go_num, qaup_set l k hlt ▸ qaown_set own2 k _ _ _ _ _, ((((((hb.trans (hb2.mono hs)).setCell (p := ⟨w.heap.size, _, none⟩) (Nat.le_refl _) _).setCell (p := ⟨w.heap.size, _, none⟩) (Nat.le_refl _) _).setCell (p := ⟨w.heap.size, _, none⟩) (Nat.le_refl _) _).setCell (p := ⟨w.heap.size, _, none⟩) (Nat.le_refl _) _).setCell (p := ⟨w.heap.size, _, none⟩) (Nat.le_refl _) _)⟩
      case measure => simp [intOf]; omega
    · obtain rfl : k = l.length := by omega
      go_wp2
      go_ret
      exact ⟨_, rfl, Nat.le_refl _, by rw [qaup_all] at hown; exact hown, hb⟩
theorem eqAct_self (a0 : Int) (a1 : Int) (a2 : Int) (a3 : Int) (a4 : Int) (w : World) :
    Calls Tryz.prog 68 #[.agg #[.int .i8 a0, .int .i64 a1, .int .i64 a2, .int .i64 a3, .int .i64 a4], .agg #[.int .i8 a0, .int .i64 a1, .int .i64 a2, .int .i64 a3, .int .i64 a4]] w fun e w' => e = .returned (.bool true) ∧ Below w.heap.size w w' := by
  go_enter Tryz.func68, Tryz.ntmps68
  go_wp2
  all_goals go_ret
  all_goals exact ⟨rfl, by repeat (first | exact Below.refl _ _ | refine Below.alloc ?_ (by simp <;> omega) _)⟩
set_option maxHeartbeats 1000000 in
theorem eqActS_self (A B : Option Addr) (c d : Nat) (l : List (Int × Int × Int × Int × Int)) (w : World) (hA : AcA w A l) (hB : AcA w B l) (hn : l.length ≤ 1048576) :
    Calls Tryz.prog 33 #[.slice A l.length c, .slice B l.length d] w (Says true w) := by
  go_enter Tryz.func33, Tryz.ntmps33
  go_wp2_with fail
  go_loopw [5] (fun i wr => ∃ k : Nat, k ≤ l.length ∧ i = .int .i64 k ∧ Below w.heap.size w wr)
    (fun i _ => l.length - (intOf i).toNat)
  case atStart => exact ⟨0, Nat.zero_le _, rfl, Below.refl _ _⟩
  case round =>
    obtain ⟨k, hk, rfl, hb⟩ := hrel
    by_cases hlt : k < l.length
    · obtain ⟨b, o, rfl, hbb, c1, c2, c3, c4, c5⟩ := hA k hlt
      obtain ⟨b', o', rfl, hbb', e1, e2, e3, e4, e5⟩ := hB k hlt
      have d1 := Later.cell ((hb.cell (p := ⟨b, o + k * 5, none⟩) hbb).trans c1)
      have h1 := Later.cell ((hb.cell (p := ⟨b', o' + k * 5, none⟩) hbb').trans e1)
      have d2 := Later.cell ((hb.cell (p := ⟨b, o + k * 5 + 1, none⟩) hbb).trans c2)
      have h2 := Later.cell ((hb.cell (p := ⟨b', o' + k * 5 + 1, none⟩) hbb').trans e2)
      have d3 := Later.cell ((hb.cell (p := ⟨b, o + k * 5 + 2, none⟩) hbb).trans c3)
      have h3 := Later.cell ((hb.cell (p := ⟨b', o' + k * 5 + 2, none⟩) hbb').trans e3)
      have d4 := Later.cell ((hb.cell (p := ⟨b, o + k * 5 + 3, none⟩) hbb).trans c4)
      have h4 := Later.cell ((hb.cell (p := ⟨b', o' + k * 5 + 3, none⟩) hbb').trans e4)
      have d5 := Later.cell ((hb.cell (p := ⟨b, o + k * 5 + 4, none⟩) hbb).trans c5)
      have h5 := Later.cell ((hb.cell (p := ⟨b', o' + k * 5 + 4, none⟩) hbb').trans e5)
      have hs := hb.size
      clear c1 c2 c3 c4 c5 e1 e2 e3 e4 e5 hA hB
      go_wp2_with fail
      refine wp_region_later (by kernel_rfl) (by kernel_rfl) ?_
      repeat (go_big_quiet_step ((go_at_call 68; exact Later.call (eqAct_self _ _ _ _ _ _))))
      refine wpQuiet_nil ?_
      rintro _ ⟨⟨wq, hq⟩, rfl⟩
      go_wp2
      go_roundw
      case rel => exact ⟨k + 1, by omega, by go_num, hb.trans (hq.mono hs)⟩
      case measure => simp [intOf]; omega
    · obtain rfl : k = l.length := by omega
      go_wp2
      go_ret
      exact ⟨rfl, hb⟩
theorem szActS_small (A : Option Addr) (n c : Nat) (l : Int) (h0 : 0 ≤ l) (h1 : l ≤ 1048576) (hn : n ≤ maxLen) (hs : (n : Int) ≤ l) (w : World) :
    Calls Tryz.prog 28 #[.slice A n c, .int .i64 l] w fun e w' => e = .returned (.int .i64 (l - n)) ∧ w = w' := by
  unfold maxLen at hn
  go_enter Tryz.func28, Tryz.ntmps28
  go_wp2
  all_goals go_ret
  all_goals exact ⟨ret_int (by omega), rfl⟩
theorem szActS_big (A : Option Addr) (n c : Nat) (l : Int) (h0 : 0 ≤ l) (h1 : l ≤ 1048576) (hn : n ≤ maxLen) (hs : l < (n : Int)) (w : World) :
    Calls Tryz.prog 28 #[.slice A n c, .int .i64 l] w fun e w' => e = .returned (.int .i64 (-1)) ∧ w = w' := by
  unfold maxLen at hn
  go_enter Tryz.func28, Tryz.ntmps28
  go_wp2
  all_goals go_ret
  all_goals exact ⟨ret_int (by omega), rfl⟩
end Go.Proofs.YtcocfnjbgceidaaGreat
