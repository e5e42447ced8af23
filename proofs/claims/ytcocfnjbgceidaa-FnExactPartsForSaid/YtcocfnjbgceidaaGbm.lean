import Derived.Test.YtcocfnjbgceidaaGad
import Derived.Test.YtcocfnjbgceidaaGbl
import Derived.IntWalk
import Derived.Great.BuildSlice
namespace Go.Proofs.Ytcocfnjbgceidaa
open Go.RowKit
def lvC (l : List (Int × Int)) : List Value := l.flatMap fun n => [.int .i64 n.1, .int .i64 n.2]
def lvP (l : List (Int × Int)) (k : Nat) : Int := (l.getD k (0, 0)).1
def lvH (l : List (Int × Int)) (k : Nat) : Int := (l.getD k (0, 0)).2
def LwWF (l : List (Int × Int)) : Prop := ∀ k, k < l.length → (-9223372036854775808 ≤ lvP l k ∧ lvP l k ≤ 9223372036854775807) ∧ (-9223372036854775808 ≤ lvH l k ∧ lvH l k ≤ 9223372036854775807)
theorem lvC_nil : lvC [] = [] := rfl
theorem lvC_cons (n : Int × Int) (l : List (Int × Int)) : lvC (n :: l) = .int .i64 n.1 :: .int .i64 n.2 :: lvC l := rfl
theorem lvC_append (l m : List (Int × Int)) : lvC (l ++ m) = lvC l ++ lvC m := by simp [lvC]
theorem lvC_length (l : List (Int × Int)) : (lvC l).length = l.length * 2 := by
  induction l with
  | nil => rfl
  | cons n l ih => simp [lvC_cons, ih]; omega
theorem lvC_at (l : List (Int × Int)) : ∀ k, k < l.length → (lvC l)[k * 2]? = some (.int .i64 (lvP l k)) ∧ (lvC l)[k * 2 + 1]? = some (.int .i64 (lvH l k)) := by
  induction l with
  | nil => intro k h; simp at h
  | cons n l ih =>
    intro k h
    cases k with
    | zero => simp [lvC_cons, lvP, lvH]
    | succ k =>
      have := ih k (by simpa using h)
      rw [show (k + 1) * 2 = k * 2 + 1 + 1 from by omega, show k * 2 + 1 + 1 + 1 = (k * 2 + 1) + 1 + 1 from rfl]
      simpa [lvC_cons, lvP, lvH] using this
theorem lvC_set (l : List (Int × Int)) : ∀ (k : Nat) (a0 : Int) (a1 : Int), lvC (l.set k (a0, a1)) = (((lvC l).set (k * 2) (.int .i64 a0)).set (k * 2 + 1) (.int .i64 a1)) := by
  induction l with
  | nil => intro k a0 a1; simp [lvC_nil]
  | cons n l ih =>
    intro k a0 a1
    cases k with
    | zero => simp [lvC_cons]
    | succ k =>
      rw [show (k + 1) * 2 = k * 2 + 1 + 1 from by omega, show k * 2 + 1 + 1 + 1 = (k * 2 + 1) + 1 + 1 from rfl]
      simp [lvC_cons, ih]
theorem lvC_replicate (n : Nat) : lvC (List.replicate n (0, 0)) = (madeCells #[.int .i64 0, .int .i64 0] (n * 2)).toList := by
  apply List.ext_getElem?
  intro j
  by_cases hj : j < n * 2
  · have hk : j / 2 < (List.replicate n ((0 : Int), (0 : Int))).length := by simp; omega
    obtain ⟨h0, h1⟩ := lvC_at (List.replicate n (0, 0)) (j / 2) hk
    have hm : j % 2 = 0 ∨ j % 2 = 1 := by omega
    rcases hm with h | h
    · rw [show j = j / 2 * 2 by omega, h0]
      simp [madeCells, lvP, List.getD, List.getElem?_replicate, show j / 2 < n by omega, show j / 2 * 2 < n * 2 by omega]
    · rw [show j = j / 2 * 2 + 1 by omega, h1]
      simp [madeCells, lvH, List.getD, List.getElem?_replicate, show j / 2 < n by omega, show j / 2 * 2 + 1 < n * 2 by omega, show (j / 2 * 2 + 1) % 2 = 1 by omega]
  · rw [List.getElem?_eq_none (by rw [lvC_length]; simp; omega), List.getElem?_eq_none (by simp [madeCells]; omega)]
def LwA (w : World) (A : Option Addr) (l : List (Int × Int)) : Prop :=
  ∀ k, k < l.length → ∃ b o, A = some ⟨b, o, none⟩ ∧ b < w.heap.size ∧ w.cell? ⟨b, o + k * 2, none⟩ = some (.int .i64 (lvP l k)) ∧ w.cell? ⟨b, o + k * 2 + 1, none⟩ = some (.int .i64 (lvH l k))
theorem LwA.below {w w' : World} {A : Option Addr} {l : List (Int × Int)} (h : LwA w A l) (hb : Below w.heap.size w w') : LwA w' A l := by
  intro k hk
  obtain ⟨b, o, rfl, hlt, h0, h1⟩ := h k hk
  exact ⟨b, o, rfl, Nat.lt_of_lt_of_le hlt hb.size, (hb.cell (p := ⟨b, _, none⟩) hlt).trans h0, (hb.cell (p := ⟨b, _, none⟩) hlt).trans h1⟩
theorem LwA.of_own {w : World} {base : Nat} {e : TypeId} {A : Option Addr} {c : Nat} {l : List (Int × Int)} (h : w.ownsRow base e 2 (.slice A l.length c) l.length (lvC l)) : LwA w A l := by
  intro k hk
  rcases h.2 with ⟨h', h0⟩ | ⟨g, cap, cur, h', hb, hg, _⟩
  · omega
  · simp only [Value.slice.injEq, true_and] at h'
    obtain ⟨rfl, rfl⟩ := h'
    obtain ⟨h0, h1⟩ := lvC_at l k hk
    refine ⟨g, 0, rfl, (Array.getElem?_eq_some_iff.1 hg).1, ?_, ?_⟩
    · rw [Nat.zero_add, h.cellAt (k * 2) (by omega), h0]
    · rw [Nat.zero_add, h.cellAt (k * 2 + 1) (by omega), h1]
theorem lvown_set {w : World} {base : Nat} {e : TypeId} {g n c : Nat} {l : List (Int × Int)} (h : w.ownsRow base e 2 (.slice (some ⟨g, 0, none⟩) n c) n (lvC l)) (k : Nat) (a0 : Int) (a1 : Int) :
    ((w.setCell ⟨g, k * 2, none⟩ (.int .i64 a0)).setCell ⟨g, k * 2 + 1, none⟩ (.int .i64 a1)).ownsRow base e 2 (.slice (some ⟨g, 0, none⟩) n c) n (lvC (l.set k (a0, a1))) := by
  rw [lvC_set]
  exact ((h.stored (k * 2) (.int .i64 a0)).1.stored (k * 2 + 1) (.int .i64 a1)).1
def lvup (l : List (Int × Int)) (k : Nat) : List (Int × Int) := l.take k ++ List.replicate (l.length - k) (0, 0)
theorem lvup_length (l : List (Int × Int)) (k : Nat) (h : k ≤ l.length) : (lvup l k).length = l.length := by simp [lvup]; omega
theorem lv_get (l : List (Int × Int)) (k : Nat) (h : k < l.length) : (lvP l k, lvH l k) = l[k] := by simp [lvP, lvH, List.getD, h]
theorem lvup_set (l : List (Int × Int)) (k : Nat) (h : k < l.length) : (lvup l k).set k (lvP l k, lvH l k) = lvup l (k + 1) := by
  have e1 : l.length - k = (l.length - (k + 1)) + 1 := by omega
  have e2 : (lvP l k, lvH l k) = l[k] := lv_get l k h
  rw [lvup, lvup, e1, List.replicate_succ, e2, List.take_succ_eq_append_getElem h, List.set_append_right _ _ (by simp; omega)]
  simp only [List.length_take, show k - min k l.length = 0 by omega, List.set_cons_zero, List.append_assoc, List.cons_append, List.nil_append]
theorem lvup_zero (l : List (Int × Int)) : lvup l 0 = List.replicate l.length (0, 0) := by simp [lvup]
theorem lvup_all (l : List (Int × Int)) : lvup l l.length = l := by simp [lvup]
theorem info66 : (Try.prog.info? 66).map (fun i => (i.zero, i.size, i.bytes)) = some (some (.agg #[.int .i64 0, .int .i64 0]), 2, 16) := by kernel_rfl
end Go.Proofs.Ytcocfnjbgceidaa
namespace Go.Proofs.Ytcocfnjbgceidaa
open Go.RowKit
def lsB (l : List (Int × Int)) : Bool := l.all fun x => lvB x.1 x.2
theorem lv_eta (l : List (Int × Int)) (k : Nat) (h : k < l.length) : (fun x : Int × Int => lvB x.1 x.2) l[k] = lvB (lvP l k) (lvH l k) := by
  rw [← lv_get l k h]
def LvG (l : List (Int × Int)) (k : Nat) : Prop := ∀ j, j < k → lvB (lvP l j) (lvH l j) = true
theorem LvG_succ {l : List (Int × Int)} {k : Nat} (h : LvG l k) (hk : lvB (lvP l k) (lvH l k) = true) : LvG l (k + 1) := fun j hj => by
  rcases Nat.lt_or_ge j k with h1 | h1
  · exact h j h1
  · obtain rfl : j = k := by omega
    exact hk
theorem lsB_yes {l : List (Int × Int)} (h : LvG l l.length) : lsB l = true := by
  unfold lsB
  rw [List.all_eq_true]
  intro x hx
  obtain ⟨i, hi, rfl⟩ := List.mem_iff_getElem.1 hx
  have := lv_eta l i hi
  simp only at this ⊢
  rw [this]
  exact h i hi
theorem lsB_no {l : List (Int × Int)} {k : Nat} (hk : k < l.length) (h : lvB (lvP l k) (lvH l k) = false) : lsB l = false := by
  unfold lsB
  rw [List.all_eq_false]
  refine ⟨l[k], List.getElem_mem hk, ?_⟩
  have := lv_eta l k hk
  simp only at this ⊢
  rw [this, h]
  decide
theorem areLives1_any (x y : Int) (w : World) (hw : LvWF x y) :
    Calls Try.prog 142 #[.agg #[.int .i64 x, .int .i64 y]] w (Says (!lvB x y) w) := by
  have hb0 : Below w.heap.size w (w.alloc (.cells #[.int .i64 x, .int .i64 y] 66)) := (Below.refl _ _).alloc (Nat.le_refl _) _
  have K : ∀ W, Calls Try.prog 143 #[.agg #[.int .i64 x, .int .i64 y]] W (Says (lvB x y) W) := fun W => implValidLives_any x y W hw
  generalize lvB x y = r at K ⊢
  go_enter Try.func142, Try.ntmps142
  go_wp2_with (go_at_call 143; refine (K _).mono ?_; rintro e w' ⟨rfl, hb⟩)
  go_ret
  exact ⟨rfl, by first | exact hb | exact hb0.trans (hb.mono hb0.size)⟩
set_option maxRecDepth 20000 in
set_option maxHeartbeats 1000000 in
theorem indexLives_any (A : Option Addr) (c : Nat) (l : List (Int × Int)) (w : World) (hA : LwA w A l) (hn : l.length ≤ 1048576) (hwf : LwWF l) :
    Calls Try.prog 175 #[.slice A l.length c, .func (.func 142) #[] #[]] w fun e w' => ∃ r : Int, e = .returned (.int .i64 r) ∧ (0 ≤ r ↔ lsB l = false) ∧ Below w.heap.size w w' := by
  go_enter Try.func175, Try.ntmps175
  go_wp2_with fail
  go_loopw [8] (fun i wr => ∃ k : Nat, k ≤ l.length ∧ i = .int .i64 k ∧ LvG l k ∧ Below w.heap.size w wr)
    (fun i _ => l.length - (intOf i).toNat)
  case atStart => exact ⟨0, Nat.zero_le _, rfl, fun j hj => absurd hj (Nat.not_lt_zero _), Below.refl _ _⟩
  case round =>
    obtain ⟨k, hk, rfl, hG, hb⟩ := hrel
    have HG := hide hG
    clear hG
    by_cases hlt : k < l.length
    · obtain ⟨b, o, rfl, hbb, c1, c2⟩ := hA k hlt
      have d1 := (hb.cell (p := ⟨b, o + k * 2, none⟩) hbb).trans c1
      have d2 := (hb.cell (p := ⟨b, o + k * 2 + 1, none⟩) hbb).trans c2
      clear c1 c2
      have K1 := fun W => areLives1_any (lvP l k) (lvH l k) W (hwf k hlt)
      cases hi : lvB (lvP l k) (lvH l k)
      · rw [hi] at K1
        have HI := hide hi
        clear hi hA
        go_wp2_with fail
        refine (K1 _).mono ?_
        rintro e w2 ⟨rfl, hb2⟩
        have hb3 := hb.trans (hb2.mono hb.size)
        go_wp2
        go_ret
        exact ⟨_, rfl, ⟨fun _ => lsB_no hlt HI.out, fun _ => by omega⟩, hb3⟩
      · rw [hi] at K1
        have HI := hide hi
        clear hi hA
        go_wp2_with fail
        refine (K1 _).mono ?_
        rintro e w2 ⟨rfl, hb2⟩
        have hb3 := hb.trans (hb2.mono hb.size)
        go_wp2
        go_roundw
        case rel => exact ⟨k + 1, hlt, by go_num, LvG_succ HG.out HI.out, hb3⟩
        case measure => simp [intOf]; omega
    · obtain rfl : k = l.length := by omega
      have HS := hide (lsB_yes HG.out)
      go_wp2
      go_ret
      exact ⟨_, rfl, ⟨fun h => absurd h (by decide), fun h => by rw [HS.out] at h; cases h⟩, hb⟩
theorem containsLives_any (A : Option Addr) (c : Nat) (l : List (Int × Int)) (w : World) (hA : LwA w A l) (hn : l.length ≤ 1048576) (hwf : LwWF l) :
    Calls Try.prog 141 #[.slice A l.length c, .func (.func 142) #[] #[]] w (Says (!lsB l) w) := by
  go_enter Try.func141, Try.ntmps141
  go_wp2_with fail
  refine (indexLives_any A c l w hA hn hwf).mono ?_
  rintro e w' ⟨r, rfl, hr, hb⟩
  have HR := hide hr
  clear hr
  go_wp2
  go_ret
  refine ⟨ret_bool ?_, hb⟩
  have := HR.out
  cases hs : lsB l
  · simp [this.2 hs]
  · simp
    rcases Int.lt_or_le r 0 with h | h
    · exact h
    · have := this.1 h; rw [hs] at this; cases this
theorem areLives_any (A : Option Addr) (c : Nat) (l : List (Int × Int)) (w : World) (hA : LwA w A l) (hn : l.length ≤ 1048576) (hwf : LwWF l) :
    Calls Try.prog 102 #[.slice A l.length c] w (Says (lsB l) w) := by
  have K := containsLives_any A c l w hA hn hwf
  generalize lsB l = r at K ⊢
  go_enter Try.func102, Try.ntmps102
  go_wp2_with fail
  refine K.mono ?_
  rintro e w' ⟨rfl, hb⟩
  go_wp2
  go_ret
  exact ⟨ret_bool (by cases r <;> rfl), hb⟩
/-- one pair of lives in a block of its own -/
theorem areLives_one (g : Nat) (x y : Int) (w : World) (hB : w.heap[g]? = some (.cells #[.int .i64 x, .int .i64 y] 66 (0, 0))) (hw : LvWF x y) :
    Calls Try.prog 102 #[.slice (some ⟨g, 0, none⟩) 1 1] w (Says (lvB x y) w) := by
  have hlt : g < w.heap.size := (Array.getElem?_eq_some_iff.1 hB).1
  have h := areLives_any (some ⟨g, 0, none⟩) 1 [(x, y)] w (fun k hk => by
    obtain rfl : k = 0 := by simpa using hk
    exact ⟨g, 0, rfl, hlt, (cell_of_row w g 0 _ _ _ hB).trans rfl, (cell_of_row w g 1 _ _ _ hB).trans rfl⟩) (by simp) (fun k hk => by
    obtain rfl : k = 0 := by simpa using hk
    exact hw)
  have e : lsB [(x, y)] = lvB x y := by simp [lsB]
  rw [e] at h
  exact h
end Go.Proofs.Ytcocfnjbgceidaa
