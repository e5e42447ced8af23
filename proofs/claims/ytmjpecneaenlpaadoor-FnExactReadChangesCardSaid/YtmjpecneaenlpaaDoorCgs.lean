import Derived.Test.YtmjpecneaenlpaaDoorFre
namespace Go.Proofs.YtmjpecneaenlpaaDoor
open Go.RowKit

/-- changes as cells -/
def cgC (l : List (Int × Int × Bool)) : List Value := l.flatMap fun n => [.int .i16 n.1, .int .i8 n.2.1, .bool n.2.2]
def cgS (l : List (Int × Int × Bool)) (k : Nat) : Int := (l.getD k (0, 0, false)).1
def cgT (l : List (Int × Int × Bool)) (k : Nat) : Int := (l.getD k (0, 0, false)).2.1
def cgP (l : List (Int × Int × Bool)) (k : Nat) : Bool := (l.getD k (0, 0, false)).2.2
def CgWF (l : List (Int × Int × Bool)) : Prop := ∀ k, k < l.length → (-32768 ≤ cgS l k ∧ cgS l k ≤ 32767) ∧ (-128 ≤ cgT l k ∧ cgT l k ≤ 127)

theorem cgC_nil : cgC [] = [] := rfl
theorem cgC_cons (n : Int × Int × Bool) (l : List (Int × Int × Bool)) : cgC (n :: l) = .int .i16 n.1 :: .int .i8 n.2.1 :: .bool n.2.2 :: cgC l := rfl
theorem cgC_append (l m : List (Int × Int × Bool)) : cgC (l ++ m) = cgC l ++ cgC m := by simp [cgC]
theorem cgC_length (l : List (Int × Int × Bool)) : (cgC l).length = l.length * 3 := by
  induction l with
  | nil => rfl
  | cons n l ih => simp [cgC_cons, ih]; omega
theorem cgC_at (l : List (Int × Int × Bool)) : ∀ k, k < l.length → (cgC l)[k * 3]? = some (.int .i16 (cgS l k)) ∧ (cgC l)[k * 3 + 1]? = some (.int .i8 (cgT l k)) ∧ (cgC l)[k * 3 + 2]? = some (.bool (cgP l k)) := by
  induction l with
  | nil => intro k h; simp at h
  | cons n l ih =>
    intro k h
    cases k with
    | zero => simp [cgC_cons, cgS, cgT, cgP]
    | succ k =>
      have := ih k (by simpa using h)
      rw [show (k + 1) * 3 = k * 3 + 1 + 1 + 1 from by omega, show k * 3 + 1 + 1 + 1 + 1 = (k * 3 + 1) + 1 + 1 + 1 from rfl, show k * 3 + 1 + 1 + 1 + 2 = (k * 3 + 2) + 1 + 1 + 1 from rfl]
      simpa [cgC_cons, cgS, cgT, cgP] using this
theorem cgC_set (l : List (Int × Int × Bool)) : ∀ (k : Nat) (a p : Int) (q : Bool), cgC (l.set k (a, p, q)) = (((cgC l).set (k * 3) (.int .i16 a)).set (k * 3 + 1) (.int .i8 p)).set (k * 3 + 2) (.bool q) := by
  induction l with
  | nil => intro k a p q; simp [cgC_nil]
  | cons n l ih =>
    intro k a p q
    cases k with
    | zero => simp [cgC_cons]
    | succ k =>
      rw [show (k + 1) * 3 = k * 3 + 1 + 1 + 1 from by omega, show k * 3 + 1 + 1 + 1 + 1 = (k * 3 + 1) + 1 + 1 + 1 from rfl, show k * 3 + 1 + 1 + 1 + 2 = (k * 3 + 2) + 1 + 1 + 1 from rfl]
      simp [cgC_cons, ih]
theorem cgC_replicate (n : Nat) : cgC (List.replicate n (0, 0, false)) = (madeCells #[.int .i16 0, .int .i8 0, .bool false] (n * 3)).toList := by
  apply List.ext_getElem?
  intro j
  by_cases hj : j < n * 3
  · have hk : j / 3 < (List.replicate n ((0 : Int), (0 : Int), false)).length := by simp; omega
    obtain ⟨h0, h1, h2⟩ := cgC_at (List.replicate n (0, 0, false)) (j / 3) hk
    have hm : j % 3 = 0 ∨ j % 3 = 1 ∨ j % 3 = 2 := by omega
    rcases hm with h | h | h
    · rw [show j = j / 3 * 3 by omega, h0]
      simp [madeCells, cgS, List.getD, List.getElem?_replicate, show j / 3 < n by omega, show j / 3 * 3 < n * 3 by omega]
    · rw [show j = j / 3 * 3 + 1 by omega, h1]
      simp [madeCells, cgT, List.getD, List.getElem?_replicate, show j / 3 < n by omega, show j / 3 * 3 + 1 < n * 3 by omega, show (j / 3 * 3 + 1) % 3 = 1 by omega]
    · rw [show j = j / 3 * 3 + 2 by omega, h2]
      simp [madeCells, cgP, List.getD, List.getElem?_replicate, show j / 3 < n by omega, show j / 3 * 3 + 2 < n * 3 by omega, show (j / 3 * 3 + 2) % 3 = 2 by omega]
  · rw [List.getElem?_eq_none (by rw [cgC_length]; simp; omega), List.getElem?_eq_none (by simp [madeCells]; omega)]

/-- a slice's address under which changes lie -/
def CgA (w : World) (A : Option Addr) (l : List (Int × Int × Bool)) : Prop :=
  ∀ k, k < l.length → ∃ b o, A = some ⟨b, o, none⟩ ∧ b < w.heap.size ∧ w.cell? ⟨b, o + k * 3, none⟩ = some (.int .i16 (cgS l k)) ∧ w.cell? ⟨b, o + k * 3 + 1, none⟩ = some (.int .i8 (cgT l k)) ∧ w.cell? ⟨b, o + k * 3 + 2, none⟩ = some (.bool (cgP l k))
theorem CgA.below {w w' : World} {A : Option Addr} {l : List (Int × Int × Bool)} (h : CgA w A l) (hb : Below w.heap.size w w') : CgA w' A l := by
  intro k hk
  obtain ⟨b, o, rfl, hlt, h1, h2, h3⟩ := h k hk
  exact ⟨b, o, rfl, Nat.lt_of_lt_of_le hlt hb.size, (hb.cell (p := ⟨b, _, none⟩) hlt).trans h1, (hb.cell (p := ⟨b, _, none⟩) hlt).trans h2, (hb.cell (p := ⟨b, _, none⟩) hlt).trans h3⟩
theorem CgA.of_own {w : World} {base : Nat} {e : TypeId} {A : Option Addr} {c : Nat} {l : List (Int × Int × Bool)} (h : w.ownsRow base e 3 (.slice A l.length c) l.length (cgC l)) : CgA w A l := by
  intro k hk
  rcases h.2 with ⟨h', h0⟩ | ⟨g, cap, cur, h', hb, hg, _⟩
  · omega
  · simp only [Value.slice.injEq, true_and] at h'
    obtain ⟨rfl, rfl⟩ := h'
    obtain ⟨h0, h1, h2⟩ := cgC_at l k hk
    refine ⟨g, 0, rfl, (Array.getElem?_eq_some_iff.1 hg).1, ?_, ?_, ?_⟩
    · rw [Nat.zero_add, h.cellAt (k * 3) (by omega), h0]
    · rw [Nat.zero_add, h.cellAt (k * 3 + 1) (by omega), h1]
    · rw [Nat.zero_add, h.cellAt (k * 3 + 2) (by omega), h2]
theorem cgown_set3 {w : World} {base : Nat} {e : TypeId} {g n c : Nat} {l : List (Int × Int × Bool)} (h : w.ownsRow base e 3 (.slice (some ⟨g, 0, none⟩) n c) n (cgC l)) (k : Nat) (a p : Int) (q : Bool) :
    (((w.setCell ⟨g, k * 3, none⟩ (.int .i16 a)).setCell ⟨g, k * 3 + 1, none⟩ (.int .i8 p)).setCell ⟨g, k * 3 + 2, none⟩ (.bool q)).ownsRow base e 3 (.slice (some ⟨g, 0, none⟩) n c) n (cgC (l.set k (a, p, q))) := by
  rw [cgC_set]
  exact (((h.stored (k * 3) (.int .i16 a)).1.stored (k * 3 + 1) (.int .i8 p)).1.stored (k * 3 + 2) (.bool q)).1
def cgup (l : List (Int × Int × Bool)) (k : Nat) : List (Int × Int × Bool) := l.take k ++ List.replicate (l.length - k) (0, 0, false)
theorem cgup_length (l : List (Int × Int × Bool)) (k : Nat) (h : k ≤ l.length) : (cgup l k).length = l.length := by simp [cgup]; omega
theorem cgup_set (l : List (Int × Int × Bool)) (k : Nat) (h : k < l.length) : (cgup l k).set k (cgS l k, cgT l k, cgP l k) = cgup l (k + 1) := by
  have e1 : l.length - k = (l.length - (k + 1)) + 1 := by omega
  have e2 : (cgS l k, cgT l k, cgP l k) = l[k] := by simp [cgS, cgT, cgP, List.getD, h]
  rw [cgup, cgup, e1, List.replicate_succ, e2, List.take_succ_eq_append_getElem h, List.set_append_right _ _ (by simp; omega)]
  simp only [List.length_take, show k - min k l.length = 0 by omega, List.set_cons_zero, List.append_assoc, List.cons_append, List.nil_append]
theorem cgup_zero (l : List (Int × Int × Bool)) : cgup l 0 = List.replicate l.length (0, 0, false) := by simp [cgup]
theorem cgup_all (l : List (Int × Int × Bool)) : cgup l l.length = l := by simp [cgup]

theorem info84 : (Tryd.prog.info? 84).map (fun i => (i.zero, i.size, i.bytes)) = some (some (.agg #[.int .i16 0, .int .i8 0, .bool false]), 3, 4) := by kernel_rfl

/-- what toChangeS leaves -/
def MadeCg (w : World) (l : List (Int × Int × Bool)) (e : Ending) (w' : World) : Prop :=
  e = .returned (.slice (some ⟨w.heap.size, 0, none⟩) l.length l.length) ∧ w'.ownsRow w.heap.size 84 3 (.slice (some ⟨w.heap.size, 0, none⟩) l.length l.length) l.length (cgC l) ∧ Below w.heap.size w w'

theorem eqChange_self (a p : Int) (q : Bool) (w : World) :
    Calls Tryd.prog 50 #[.agg #[.int .i16 a, .int .i8 p, .bool q], .agg #[.int .i16 a, .int .i8 p, .bool q]] w fun e w' => e = .returned (.bool true) ∧ Below w.heap.size w w' := by
  go_enter Tryd.func50, Tryd.ntmps50
  cases q <;> go_wp2
  all_goals go_ret
  all_goals exact ⟨rfl, by repeat (first | exact Below.refl _ _ | refine Below.alloc ?_ (by simp <;> omega) _)⟩

set_option maxHeartbeats 1000000 in
theorem eqChangeS_self (A B : Option Addr) (c d : Nat) (l : List (Int × Int × Bool)) (w : World) (hA : CgA w A l) (hB : CgA w B l) (hn : l.length ≤ 1048576) :
    Calls Tryd.prog 24 #[.slice A l.length c, .slice B l.length d] w (Says true w) := by
  go_enter Tryd.func24, Tryd.ntmps24
  go_wp2_with fail
  go_loopw [5] (fun i wr => ∃ k : Nat, k ≤ l.length ∧ i = .int .i64 k ∧ Below w.heap.size w wr)
    (fun i _ => l.length - (intOf i).toNat)
  case atStart => exact ⟨0, Nat.zero_le _, rfl, Below.refl _ _⟩
  case round =>
    obtain ⟨k, hk, rfl, hb⟩ := hrel
    by_cases hlt : k < l.length
    · obtain ⟨b, o, rfl, hbb, c1, c2, c5⟩ := hA k hlt
      obtain ⟨b', o', rfl, hbb', c3, c4, c6⟩ := hB k hlt
      have d1 := Later.cell ((hb.cell (p := ⟨b, o + k * 3, none⟩) hbb).trans c1)
      have d2 := Later.cell ((hb.cell (p := ⟨b, o + k * 3 + 1, none⟩) hbb).trans c2)
      have d5 := Later.cell ((hb.cell (p := ⟨b, o + k * 3 + 2, none⟩) hbb).trans c5)
      have d3 := Later.cell ((hb.cell (p := ⟨b', o' + k * 3, none⟩) hbb').trans c3)
      have d4 := Later.cell ((hb.cell (p := ⟨b', o' + k * 3 + 1, none⟩) hbb').trans c4)
      have d6 := Later.cell ((hb.cell (p := ⟨b', o' + k * 3 + 2, none⟩) hbb').trans c6)
      have hs := hb.size
      clear c1 c2 c3 c4 c5 c6 hA hB
      go_wp2_with fail
      refine wp_region_later (by kernel_rfl) (by kernel_rfl) ?_
      repeat (go_big_quiet_step ((go_at_call 50; exact Later.call (eqChange_self _ _ _ _))))
      refine wpQuiet_nil ?_
      rintro _ ⟨⟨wq, hq⟩, rfl⟩
      go_wp2
      go_roundw
      case rel => exact ⟨k + 1, by omega, by go_num, hb.trans (hq.mono hs)⟩
      case measure => simp [intOf]; omega
    · obtain rfl : k = l.length := by omega
      go_wp2
      go_ret
      exact ⟨rfl, hb⟩
/-- marks from K on -/
def mkCg (K : Int) (n : Nat) : List (Int × Int × Bool) := (List.range n).map fun (i : Nat) => (IntKind.i16.wrap (K + 3 * (i : Int)), IntKind.i8.wrap (K + 3 * (i : Int) + 1), ((K + 3 * (i : Int) + 1 + 1) % 3 == 0))
def mkCgT (K : Int) (l : List (Int × Int × Bool)) (k : Nat) : List (Int × Int × Bool) := mkCg K k ++ l.drop k
theorem mkCg_length (K : Int) (n : Nat) : (mkCg K n).length = n := by simp [mkCg]
theorem mkCgT_zero (K : Int) (l : List (Int × Int × Bool)) : mkCgT K l 0 = l := by simp [mkCgT, mkCg]
theorem mkCgT_all (K : Int) (l : List (Int × Int × Bool)) : mkCgT K l l.length = mkCg K l.length := by simp [mkCgT]
theorem mkCgT_length (K : Int) (l : List (Int × Int × Bool)) (k : Nat) (h : k ≤ l.length) : (mkCgT K l k).length = l.length := by
  simp [mkCgT, mkCg_length]; omega
theorem mkCgT_set (K : Int) (l : List (Int × Int × Bool)) (k : Nat) (h : k < l.length) : (mkCgT K l k).set k (IntKind.i16.wrap (K + 3 * (k : Int)), IntKind.i8.wrap (K + 3 * (k : Int) + 1), ((K + 3 * (k : Int) + 1 + 1) % 3 == 0)) = mkCgT K l (k + 1) := by
  unfold mkCgT mkCg
  rw [List.set_append_right _ _ (by simp), List.range_succ, List.map_append, List.length_map, List.length_range, Nat.sub_self, List.drop_eq_getElem_cons h, List.set_cons_zero, List.append_assoc]
  rfl
theorem mkCg_of_own {w : World} {base : Nat} {e : TypeId} {A : Option Addr} {c : Nat} {K : Int} {n : Nat} (h : w.ownsRow base e 3 (.slice A n c) n (cgC (mkCg K n))) : CgA w A (mkCg K n) := CgA.of_own (l := mkCg K n) (by rw [mkCg_length]; exact h)
end Go.Proofs.YtmjpecneaenlpaaDoor
