import Derived.Test.YtcocfnjbgceidaaGreatGac
import Derived.Test.YtcocfnjbgceidaaGreatGbk
import Derived.IntWalk
import Derived.Great.BuildSlice
namespace Go.Proofs.YtcocfnjbgceidaaGreat
open Go.RowKit
def lvC (l : List (Int × Int)) : List Value := l.flatMap fun n => [.int .i64 n.1, .int .i64 n.2]
def lvP (l : List (Int × Int)) (k : Nat) : Int := (l.getD k (0, 0)).1
def lvH (l : List (Int × Int)) (k : Nat) : Int := (l.getD k (0, 0)).2
def LwWF (l : List (Int × Int)) : Prop := ∀ k, k < l.length → (-9223372036854775808 ≤ lvP l k ∧ lvP l k ≤ 9223372036854775807) ∧ (-9223372036854775808 ≤ lvH l k ∧ lvH l k ≤ 9223372036854775807)
theorem lvC_nil : lvC [] = [] := rfl
theorem lvC_cons (n : Int × Int) (l : List (Int × Int)) : lvC (n :: l) = .int .i64 n.1 :: .int .i64 n.2 :: lvC l := rfl
theorem lvC_append (l m : List (Int × Int)) : lvC (l ++ m) = lvC l ++ lvC m := by simp [lvC]
theorem lvC_length (l : List (Int × Int)) : (lvC l).length = l.length * 2 := by
  induction l with
  | nil => rfl
  | cons n l ih => simp [lvC_cons, ih]; omega
theorem lvC_at (l : List (Int × Int)) : ∀ k, k < l.length → (lvC l)[k * 2]? = some (.int .i64 (lvP l k)) ∧ (lvC l)[k * 2 + 1]? = some (.int .i64 (lvH l k)) := by
  induction l with
  | nil => intro k h; simp at h
  | cons n l ih =>
    intro k h
    cases k with
    | zero => simp [lvC_cons, lvP, lvH]
    | succ k =>
      have := ih k (by simpa using h)
      rw [show (k + 1) * 2 = k * 2 + 1 + 1 from by omega, show k * 2 + 1 + 1 + 1 = (k * 2 + 1) + 1 + 1 from rfl]
      simpa [lvC_cons, lvP, lvH] using this
theorem lvC_set (l : List (Int × Int)) : ∀ (k : Nat) (a0 : Int) (a1 : Int), lvC (l.set k (a0, a1)) = (((lvC l).set (k * 2) (.int .i64 a0)).set (k * 2 + 1) (.int .i64 a1)) := by
  induction l with
  | nil => intro k a0 a1; simp [lvC_nil]
  | cons n l ih =>
    intro k a0 a1
    cases k with
    | zero => simp [lvC_cons]
    | succ k =>
      rw [show (k + 1) * 2 = k * 2 + 1 + 1 from by omega, show k * 2 + 1 + 1 + 1 = (k * 2 + 1) + 1 + 1 from rfl]
      simp [lvC_cons, ih]
theorem lvC_replicate (n : Nat) : lvC (List.replicate n (0, 0)) = (madeCells #[.int .i64 0, .int .i64 0] (n * 2)).toList := by
  apply List.ext_getElem?
  intro j
  by_cases hj : j < n * 2
  · have hk : j / 2 < (List.replicate n ((0 : Int), (0 : Int))).length := by simp; omega
    obtain ⟨h0, h1⟩ := lvC_at (List.replicate n (0, 0)) (j / 2) hk
    have hm : j % 2 = 0 ∨ j % 2 = 1 := by omega
    rcases hm with h | h
    · rw [show j = j / 2 * 2 by omega, h0]
      simp [madeCells, lvP, List.getD, List.getElem?_replicate, show j / 2 < n by omega, show j / 2 * 2 < n * 2 by omega]
    · rw [show j = j / 2 * 2 + 1 by omega, h1]
      simp [madeCells, lvH, List.getD, List.getElem?_replicate, show j / 2 < n by omega, show j / 2 * 2 + 1 < n * 2 by omega, show (j / 2 * 2 + 1) % 2 = 1 by omega]
  · rw [List.getElem?_eq_none (by rw [lvC_length]; simp; omega), List.getElem?_eq_none (by simp [madeCells]; omega)]
def LwA (w : World) (A : Option Addr) (l : List (Int × Int)) : Prop :=
  ∀ k, k < l.length → ∃ b o, A = some ⟨b, o, none⟩ ∧ b < w.heap.size ∧ w.cell? ⟨b, o + k * 2, none⟩ = some (.int .i64 (lvP l k)) ∧ w.cell? ⟨b, o + k * 2 + 1, none⟩ = some (.int .i64 (lvH l k))
theorem LwA.below {w w' : World} {A : Option Addr} {l : List (Int × Int)} (h : LwA w A l) (hb : Below w.heap.size w w') : LwA w' A l := by
  intro k hk
  obtain ⟨b, o, rfl, hlt, h0, h1⟩ := h k hk
  exact ⟨b, o, rfl, Nat.lt_of_lt_of_le hlt hb.size, (hb.cell (p := ⟨b, _, none⟩) hlt).trans h0, (hb.cell (p := ⟨b, _, none⟩) hlt).trans h1⟩
theorem LwA.of_own {w : World} {base : Nat} {e : TypeId} {A : Option Addr} {c : Nat} {l : List (Int × Int)} (h : w.ownsRow base e 2 (.slice A l.length c) l.length (lvC l)) : LwA w A l := by
  intro k hk
  rcases h.2 with ⟨h', h0⟩ | ⟨g, cap, cur, h', hb, hg, _⟩
  · omega
  · simp only [Value.slice.injEq, true_and] at h'
    obtain ⟨rfl, rfl⟩ := h'
    obtain ⟨h0, h1⟩ := lvC_at l k hk
    refine ⟨g, 0, rfl, (Array.getElem?_eq_some_iff.1 hg).1, ?_, ?_⟩
    · rw [Nat.zero_add, h.cellAt (k * 2) (by omega), h0]
    · rw [Nat.zero_add, h.cellAt (k * 2 + 1) (by omega), h1]
theorem lvown_set {w : World} {base : Nat} {e : TypeId} {g n c : Nat} {l : List (Int × Int)} (h : w.ownsRow base e 2 (.slice (some ⟨g, 0, none⟩) n c) n (lvC l)) (k : Nat) (a0 : Int) (a1 : Int) :
    ((w.setCell ⟨g, k * 2, none⟩ (.int .i64 a0)).setCell ⟨g, k * 2 + 1, none⟩ (.int .i64 a1)).ownsRow base e 2 (.slice (some ⟨g, 0, none⟩) n c) n (lvC (l.set k (a0, a1))) := by
  rw [lvC_set]
  exact ((h.stored (k * 2) (.int .i64 a0)).1.stored (k * 2 + 1) (.int .i64 a1)).1
def lvup (l : List (Int × Int)) (k : Nat) : List (Int × Int) := l.take k ++ List.replicate (l.length - k) (0, 0)
theorem lvup_length (l : List (Int × Int)) (k : Nat) (h : k ≤ l.length) : (lvup l k).length = l.length := by simp [lvup]; omega
theorem lv_get (l : List (Int × Int)) (k : Nat) (h : k < l.length) : (lvP l k, lvH l k) = l[k] := by simp [lvP, lvH, List.getD, h]
theorem lvup_set (l : List (Int × Int)) (k : Nat) (h : k < l.length) : (lvup l k).set k (lvP l k, lvH l k) = lvup l (k + 1) := by
  have e1 : l.length - k = (l.length - (k + 1)) + 1 := by omega
  have e2 : (lvP l k, lvH l k) = l[k] := lv_get l k h
  rw [lvup, lvup, e1, List.replicate_succ, e2, List.take_succ_eq_append_getElem h, List.set_append_right _ _ (by simp; omega)]
  simp only [List.length_take, show k - min k l.length = 0 by omega, List.set_cons_zero, List.append_assoc, List.cons_append, List.nil_append]
theorem lvup_zero (l : List (Int × Int)) : lvup l 0 = List.replicate l.length (0, 0) := by simp [lvup]
theorem lvup_all (l : List (Int × Int)) : lvup l l.length = l := by simp [lvup]
theorem info63 : (Tryz.prog.info? 63).map (fun i => (i.zero, i.size, i.bytes)) = some (some (.agg #[.int .i64 0, .int .i64 0]), 2, 16) := by kernel_rfl
set_option maxHeartbeats 1000000 in
theorem toLivesS_ex (A : Option Addr) (c : Nat) (l : List (Int × Int)) (w : World) (hA : LwA w A l) (hn : l.length ≤ 1048576) :
    Calls Tryz.prog 39 #[.slice A l.length c] w fun e w' => ∃ g : Nat, e = .returned (.slice (some ⟨g, 0, none⟩) l.length l.length) ∧ w.heap.size ≤ g ∧ w'.ownsRow w.heap.size 63 2 (.slice (some ⟨g, 0, none⟩) l.length l.length) l.length (lvC l) ∧ Below w.heap.size w w' := by
  obtain ⟨i0, hi, hz0, hz1, hz2⟩ := info_parts info63
  go_enter Tryz.func39, Tryz.ntmps39
  go_wp2_with (at_make; refine wpList_make_full _ rfl _ _ 74 rfl w.heap.size 63 i0 _ 2 Tryz.underlying74 hi hz0 hz1 _ _ _ _ l.length rfl rfl (by omega) (by omega) (by rw [hz2]; omega) (by unfold maxLen; omega) (by simp) ?_; intro w1 hown1 hgrow1)
  have hb0 : Below w.heap.size w w1 := (Below.refl _ _).grown hgrow1 (Nat.le_refl _) (fun j e => by cases e)
  clear hgrow1
  go_loopw [4] (fun i wr => ∃ k : Nat, k ≤ l.length ∧ i = .int .i64 k ∧ wr.ownsRow w.heap.size 63 2 (.slice (some ⟨w.heap.size, 0, none⟩) l.length l.length) l.length (lvC (lvup l k)) ∧ Below w.heap.size w wr)
    (fun i _ => l.length - (intOf i).toNat)
  case atStart =>
    refine ⟨0, Nat.zero_le _, rfl, ?_, hb0⟩
    rw [lvup_zero, lvC_replicate]
    exact hown1
  case round =>
    obtain ⟨k, hk, rfl, hown, hb⟩ := hrel
    by_cases hlt : k < l.length
    · obtain ⟨b, o, rfl, hbb, c1, c2⟩ := hA k hlt
      have d1 := (hb.cell (p := ⟨b, o + k * 2, none⟩) hbb).trans c1
      have d2 := (hb.cell (p := ⟨b, o + k * 2 + 1, none⟩) hbb).trans c2
      have hs := hb.size
      clear c1 c2 hA hown1 hb0
      go_wp2_with (go_at_call 30; refine (toLives_any _ _ _).mono ?_; rintro e w2 ⟨rfl, hb2⟩; have own2 := own_keep hown hb2; have hcl := lvup_length l k hk; have f1 := (own2.cellAt (k * 2) (by omega)).trans (lvC_at _ k (by omega)).1; have g1 := own2.frozenAt (k * 2); have f2 := (own2.cellAt (k * 2 + 1) (by omega)).trans (lvC_at _ k (by omega)).2; have g2 := own2.frozenAt (k * 2 + 1); have hs2 := hb2.size)
      go_roundw
      case rel => exact ⟨k + 1, hlt, by go_num, lvup_set l k hlt ▸ lvown_set own2 k _ _, (((hb.trans (hb2.mono hs)).setCell (p := ⟨w.heap.size, _, none⟩) (Nat.le_refl _) _).setCell (p := ⟨w.heap.size, _, none⟩) (Nat.le_refl _) _)⟩
      case measure => simp [intOf]; omega
    · obtain rfl : k = l.length := by omega
      go_wp2
      go_ret
      exact ⟨_, rfl, Nat.le_refl _, by rw [lvup_all] at hown; exact hown, hb⟩
theorem eqLives_self (a0 : Int) (a1 : Int) (w : World) :
    Calls Tryz.prog 75 #[.agg #[.int .i64 a0, .int .i64 a1], .agg #[.int .i64 a0, .int .i64 a1]] w fun e w' => e = .returned (.bool true) ∧ Below w.heap.size w w' := by
  go_enter Tryz.func75, Tryz.ntmps75
  go_wp2
  all_goals go_ret
  all_goals exact ⟨rfl, by repeat (first | exact Below.refl _ _ | refine Below.alloc ?_ (by simp <;> omega) _)⟩
set_option maxHeartbeats 1000000 in
theorem eqLivesS_self (A B : Option Addr) (c d : Nat) (l : List (Int × Int)) (w : World) (hA : LwA w A l) (hB : LwA w B l) (hn : l.length ≤ 1048576) :
    Calls Tryz.prog 41 #[.slice A l.length c, .slice B l.length d] w (Says true w) := by
  go_enter Tryz.func41, Tryz.ntmps41
  go_wp2_with fail
  go_loopw [5] (fun i wr => ∃ k : Nat, k ≤ l.length ∧ i = .int .i64 k ∧ Below w.heap.size w wr)
    (fun i _ => l.length - (intOf i).toNat)
  case atStart => exact ⟨0, Nat.zero_le _, rfl, Below.refl _ _⟩
  case round =>
    obtain ⟨k, hk, rfl, hb⟩ := hrel
    by_cases hlt : k < l.length
    · obtain ⟨b, o, rfl, hbb, c1, c2⟩ := hA k hlt
      obtain ⟨b', o', rfl, hbb', e1, e2⟩ := hB k hlt
      have d1 := Later.cell ((hb.cell (p := ⟨b, o + k * 2, none⟩) hbb).trans c1)
      have h1 := Later.cell ((hb.cell (p := ⟨b', o' + k * 2, none⟩) hbb').trans e1)
      have d2 := Later.cell ((hb.cell (p := ⟨b, o + k * 2 + 1, none⟩) hbb).trans c2)
      have h2 := Later.cell ((hb.cell (p := ⟨b', o' + k * 2 + 1, none⟩) hbb').trans e2)
      have hs := hb.size
      clear c1 c2 e1 e2 hA hB
      go_wp2_with fail
      refine wp_region_later (by kernel_rfl) (by kernel_rfl) ?_
      repeat (go_big_quiet_step ((go_at_call 75; exact Later.call (eqLives_self _ _ _))))
      refine wpQuiet_nil ?_
      rintro _ ⟨⟨wq, hq⟩, rfl⟩
      go_wp2
      go_roundw
      case rel => exact ⟨k + 1, by omega, by go_num, hb.trans (hq.mono hs)⟩
      case measure => simp [intOf]; omega
    · obtain rfl : k = l.length := by omega
      go_wp2
      go_ret
      exact ⟨rfl, hb⟩
theorem szLivesS_small (A : Option Addr) (n c : Nat) (l : Int) (h0 : 0 ≤ l) (h1 : l ≤ 1048576) (hn : n ≤ maxLen) (hs : (n : Int) ≤ l) (w : World) :
    Calls Tryz.prog 37 #[.slice A n c, .int .i64 l] w fun e w' => e = .returned (.int .i64 (l - n)) ∧ w = w' := by
  unfold maxLen at hn
  go_enter Tryz.func37, Tryz.ntmps37
  go_wp2
  all_goals go_ret
  all_goals exact ⟨ret_int (by omega), rfl⟩
theorem szLivesS_big (A : Option Addr) (n c : Nat) (l : Int) (h0 : 0 ≤ l) (h1 : l ≤ 1048576) (hn : n ≤ maxLen) (hs : l < (n : Int)) (w : World) :
    Calls Tryz.prog 37 #[.slice A n c, .int .i64 l] w fun e w' => e = .returned (.int .i64 (-1)) ∧ w = w' := by
  unfold maxLen at hn
  go_enter Tryz.func37, Tryz.ntmps37
  go_wp2
  all_goals go_ret
  all_goals exact ⟨ret_int (by omega), rfl⟩
end Go.Proofs.YtcocfnjbgceidaaGreat
namespace Go.Proofs.YtcocfnjbgceidaaGreat
open Go.RowKit
def lsB (l : List (Int × Int)) : Bool := l.all fun x => lvB x.1 x.2
theorem lv_eta (l : List (Int × Int)) (k : Nat) (h : k < l.length) : (fun x : Int × Int => lvB x.1 x.2) l[k] = lvB (lvP l k) (lvH l k) := by
  rw [← lv_get l k h]
def LvG (l : List (Int × Int)) (k : Nat) : Prop := ∀ j, j < k → lvB (lvP l j) (lvH l j) = true
theorem LvG_succ {l : List (Int × Int)} {k : Nat} (h : LvG l k) (hk : lvB (lvP l k) (lvH l k) = true) : LvG l (k + 1) := fun j hj => by
  rcases Nat.lt_or_ge j k with h1 | h1
  · exact h j h1
  · obtain rfl : j = k := by omega
    exact hk
theorem lsB_yes {l : List (Int × Int)} (h : LvG l l.length) : lsB l = true := by
  unfold lsB
  rw [List.all_eq_true]
  intro x hx
  obtain ⟨i, hi, rfl⟩ := List.mem_iff_getElem.1 hx
  have := lv_eta l i hi
  simp only at this ⊢
  rw [this]
  exact h i hi
theorem lsB_no {l : List (Int × Int)} {k : Nat} (hk : k < l.length) (h : lvB (lvP l k) (lvH l k) = false) : lsB l = false := by
  unfold lsB
  rw [List.all_eq_false]
  refine ⟨l[k], List.getElem_mem hk, ?_⟩
  have := lv_eta l k hk
  simp only at this ⊢
  rw [this, h]
  decide
theorem areLives1_any (x y : Int) (w : World) (hw : LvWF x y) :
    Calls Tryz.prog 108 #[.agg #[.int .i64 x, .int .i64 y]] w (Says (!lvB x y) w) := by
  have hb0 : Below w.heap.size w (w.alloc (.cells #[.int .i64 x, .int .i64 y] 63)) := (Below.refl _ _).alloc (Nat.le_refl _) _
  have K : ∀ W, Calls Tryz.prog 109 #[.agg #[.int .i64 x, .int .i64 y]] W (Says (lvB x y) W) := fun W => implValidLives_any x y W hw
  generalize lvB x y = r at K ⊢
  go_enter Tryz.func108, Tryz.ntmps108
  go_wp2_with (go_at_call 109; refine (K _).mono ?_; rintro e w' ⟨rfl, hb⟩)
  go_ret
  exact ⟨rfl, by first | exact hb | exact hb0.trans (hb.mono hb0.size)⟩
set_option maxRecDepth 20000 in
set_option maxHeartbeats 1000000 in
theorem indexLives_any (A : Option Addr) (c : Nat) (l : List (Int × Int)) (w : World) (hA : LwA w A l) (hn : l.length ≤ 1048576) (hwf : LwWF l) :
    Calls Tryz.prog 121 #[.slice A l.length c, .func (.func 108) #[] #[]] w fun e w' => ∃ r : Int, e = .returned (.int .i64 r) ∧ (0 ≤ r ↔ lsB l = false) ∧ Below w.heap.size w w' := by
  go_enter Tryz.func121, Tryz.ntmps121
  go_wp2_with fail
  go_loopw [8] (fun i wr => ∃ k : Nat, k ≤ l.length ∧ i = .int .i64 k ∧ LvG l k ∧ Below w.heap.size w wr)
    (fun i _ => l.length - (intOf i).toNat)
  case atStart => exact ⟨0, Nat.zero_le _, rfl, fun j hj => absurd hj (Nat.not_lt_zero _), Below.refl _ _⟩
  case round =>
    obtain ⟨k, hk, rfl, hG, hb⟩ := hrel
    have HG := hide hG
    clear hG
    by_cases hlt : k < l.length
    · obtain ⟨b, o, rfl, hbb, c1, c2⟩ := hA k hlt
      have d1 := (hb.cell (p := ⟨b, o + k * 2, none⟩) hbb).trans c1
      have d2 := (hb.cell (p := ⟨b, o + k * 2 + 1, none⟩) hbb).trans c2
      clear c1 c2
      have K1 := fun W => areLives1_any (lvP l k) (lvH l k) W (hwf k hlt)
      cases hi : lvB (lvP l k) (lvH l k)
      · rw [hi] at K1
        have HI := hide hi
        clear hi hA
        go_wp2_with fail
        refine (K1 _).mono ?_
        rintro e w2 ⟨rfl, hb2⟩
        have hb3 := hb.trans (hb2.mono hb.size)
        go_wp2
        go_ret
        exact ⟨_, rfl, ⟨fun _ => lsB_no hlt HI.out, fun _ => by omega⟩, hb3⟩
      · rw [hi] at K1
        have HI := hide hi
        clear hi hA
        go_wp2_with fail
        refine (K1 _).mono ?_
        rintro e w2 ⟨rfl, hb2⟩
        have hb3 := hb.trans (hb2.mono hb.size)
        go_wp2
        go_roundw
        case rel => exact ⟨k + 1, hlt, by go_num, LvG_succ HG.out HI.out, hb3⟩
        case measure => simp [intOf]; omega
    · obtain rfl : k = l.length := by omega
      have HS := hide (lsB_yes HG.out)
      go_wp2
      go_ret
      exact ⟨_, rfl, ⟨fun h => absurd h (by decide), fun h => by rw [HS.out] at h; cases h⟩, hb⟩
theorem containsLives_any (A : Option Addr) (c : Nat) (l : List (Int × Int)) (w : World) (hA : LwA w A l) (hn : l.length ≤ 1048576) (hwf : LwWF l) :
    Calls Tryz.prog 107 #[.slice A l.length c, .func (.func 108) #[] #[]] w (Says (!lsB l) w) := by
  go_enter Tryz.func107, Tryz.ntmps107
  go_wp2_with fail
  refine (indexLives_any A c l w hA hn hwf).mono ?_
  rintro e w' ⟨r, rfl, hr, hb⟩
  have HR := hide hr
  clear hr
  go_wp2
  go_ret
  refine ⟨ret_bool ?_, hb⟩
  have := HR.out
  cases hs : lsB l
  · simp [this.2 hs]
  · simp
    rcases Int.lt_or_le r 0 with h | h
    · exact h
    · have := this.1 h; rw [hs] at this; cases this
theorem areLives_any (A : Option Addr) (c : Nat) (l : List (Int × Int)) (w : World) (hA : LwA w A l) (hn : l.length ≤ 1048576) (hwf : LwWF l) :
    Calls Tryz.prog 84 #[.slice A l.length c] w (Says (lsB l) w) := by
  have K := containsLives_any A c l w hA hn hwf
  generalize lsB l = r at K ⊢
  go_enter Tryz.func84, Tryz.ntmps84
  go_wp2_with fail
  refine K.mono ?_
  rintro e w' ⟨rfl, hb⟩
  go_wp2
  go_ret
  exact ⟨ret_bool (by cases r <;> rfl), hb⟩
/-- one pair of lives in a block of its own -/
theorem areLives_one (g : Nat) (x y : Int) (w : World) (hB : w.heap[g]? = some (.cells #[.int .i64 x, .int .i64 y] 63 (0, 0))) (hw : LvWF x y) :
    Calls Tryz.prog 84 #[.slice (some ⟨g, 0, none⟩) 1 1] w (Says (lvB x y) w) := by
  have hlt : g < w.heap.size := (Array.getElem?_eq_some_iff.1 hB).1
  have h := areLives_any (some ⟨g, 0, none⟩) 1 [(x, y)] w (fun k hk => by
    obtain rfl : k = 0 := by simpa using hk
    exact ⟨g, 0, rfl, hlt, (cell_of_row w g 0 _ _ _ hB).trans rfl, (cell_of_row w g 1 _ _ _ hB).trans rfl⟩) (by simp) (fun k hk => by
    obtain rfl : k = 0 := by simpa using hk
    exact hw)
  have e : lsB [(x, y)] = lvB x y := by simp [lsB]
  rw [e] at h
  exact h
end Go.Proofs.YtcocfnjbgceidaaGreat
namespace Go.Proofs.YtcocfnjbgceidaaGreat
open Go.RowKit Go.Maps
def fbV (s : Int) (h : List (Int × Int)) (l : List Wp) (z : List Int) (a b : Int) : Bool := weB s h l z && lvB a b
def fbC (s : Int) (h : List (Int × Int)) (l : List Wp) (z : List Int) (a b : Int) (m : List (Int × Int × Int × Int × Int)) : Int :=
  if fbV s h l z a b then (if 60 < m.length then 3 else if dnK s h.length l z m a b < m.length then 0 else 6) else 1
def fbI (s : Int) (h : List (Int × Int)) (l : List Wp) (z : List Int) (a b : Int) (m : List (Int × Int × Int × Int × Int)) : Int :=
  if fbC s h l z a b m = 0 then (dnK s h.length l z m a b : Int) else 0
theorem dnW_ne {s : Int} {n : Nat} {T : List Wp} {z : List Int} {l : List (Int × Int × Int × Int × Int)} {a b : Int} (h : dnK s n T z l a b < l.length) : dnW s n T z l a b ≠ 0 := by
  have h' : (List.range l.length).findIdx (fun k => decide (dnC s n T z l a b k ≠ 0)) < (List.range l.length).length := by simpa [dnK] using h
  have := List.findIdx_getElem (w := h')
  rw [dnW, if_pos h]
  simpa [dnK] using this
theorem dnW_zero {s : Int} {n : Nat} {T : List Wp} {z : List Int} {l : List (Int × Int × Int × Int × Int)} {a b : Int} (h : ¬ dnK s n T z l a b < l.length) : dnW s n T z l a b = 0 := by
  rw [dnW, if_neg h]
end Go.Proofs.YtcocfnjbgceidaaGreat
