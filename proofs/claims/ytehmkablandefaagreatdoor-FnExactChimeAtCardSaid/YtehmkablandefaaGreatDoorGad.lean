import Derived.Test.YtehmkablandefaaGreatDoorGac
import Derived.Deep.MidRow
import Derived.Great.Ranges
import Derived.Great.BuildSlice
import Derived.Deep.RegionHeld3
namespace Go.Proofs.YtehmkablandefaaGreatDoor
open Go.RowKit

/-- the sections as cells -/
def secC (l : List (Int × Int)) : List Value := l.flatMap fun n => [.int .i16 n.1, .int .i16 n.2]
def secF (l : List (Int × Int)) (k : Nat) : Int := (l.getD k (0, 0)).1
def secS (l : List (Int × Int)) (k : Nat) : Int := (l.getD k (0, 0)).2

theorem secC_nil : secC [] = [] := rfl
theorem secC_cons (n : Int × Int) (l : List (Int × Int)) : secC (n :: l) = .int .i16 n.1 :: .int .i16 n.2 :: secC l := rfl
theorem secC_append (l m : List (Int × Int)) : secC (l ++ m) = secC l ++ secC m := by simp [secC]
theorem secC_length (l : List (Int × Int)) : (secC l).length = l.length * 2 := by
  induction l with
  | nil => rfl
  | cons n l ih => simp [secC_cons, ih]; omega
theorem secC_even (l : List (Int × Int)) : ∀ k, k < l.length → (secC l)[k * 2]? = some (.int .i16 (secF l k)) := by
  induction l with
  | nil => intro k h; simp at h
  | cons n l ih =>
    intro k h
    cases k with
    | zero => simp [secC_cons, secF]
    | succ k =>
      have := ih k (by simpa using h)
      rw [show (k + 1) * 2 = k * 2 + 1 + 1 from by omega]
      simpa [secC_cons, secF] using this
theorem secC_odd (l : List (Int × Int)) : ∀ k, k < l.length → (secC l)[k * 2 + 1]? = some (.int .i16 (secS l k)) := by
  induction l with
  | nil => intro k h; simp at h
  | cons n l ih =>
    intro k h
    cases k with
    | zero => simp [secC_cons, secS]
    | succ k =>
      have := ih k (by simpa using h)
      rw [show (k + 1) * 2 + 1 = k * 2 + 1 + 1 + 1 from by omega]
      simpa [secC_cons, secS] using this
theorem secC_set (l : List (Int × Int)) : ∀ (k : Nat) (a p : Int), secC (l.set k (a, p)) = ((secC l).set (k * 2) (.int .i16 a)).set (k * 2 + 1) (.int .i16 p) := by
  induction l with
  | nil => intro k a p; simp [secC_nil]
  | cons n l ih =>
    intro k a p
    cases k with
    | zero => simp [secC_cons]
    | succ k =>
      rw [show (k + 1) * 2 = k * 2 + 1 + 1 from by omega, show k * 2 + 1 + 1 + 1 = k * 2 + 1 + 1 + 1 from rfl]
      simp [secC_cons, ih]
theorem secC_replicate (n : Nat) : secC (List.replicate n (0, 0)) = (madeCells #[.int .i16 0, .int .i16 0] (n * 2)).toList := by
  apply List.ext_getElem?
  intro j
  by_cases hj : j < n * 2
  · rcases Nat.mod_two_eq_zero_or_one j with h | h
    · obtain ⟨k, rfl⟩ : ∃ k, j = k * 2 := ⟨j / 2, by omega⟩
      rw [secC_even _ k (by simp; omega)]
      simp only [madeCells, secF, List.getD, List.getElem?_replicate]
      rw [if_pos (by omega)]
      simp [hj]
    · obtain ⟨k, rfl⟩ : ∃ k, j = k * 2 + 1 := ⟨j / 2, by omega⟩
      rw [secC_odd _ k (by simp; omega)]
      simp only [madeCells, secS, List.getD, List.getElem?_replicate]
      rw [if_pos (by omega)]
      simp [hj]
  · rw [List.getElem?_eq_none (by rw [secC_length]; simp; omega), List.getElem?_eq_none (by simp [madeCells]; omega)]

/-- a slice's address under which the sections lie -/
def SecA (w : World) (A : Option Addr) (l : List (Int × Int)) : Prop :=
  ∀ k, k < l.length → ∃ b o, A = some ⟨b, o, none⟩ ∧ b < w.heap.size ∧ w.cell? ⟨b, o + k * 2, none⟩ = some (.int .i16 (secF l k)) ∧ w.cell? ⟨b, o + k * 2 + 1, none⟩ = some (.int .i16 (secS l k))

theorem SecA.below {w w' : World} {A : Option Addr} {l : List (Int × Int)} (h : SecA w A l) (hb : Below w.heap.size w w') : SecA w' A l := by
  intro k hk
  obtain ⟨b, o, rfl, hlt, h1, h2⟩ := h k hk
  exact ⟨b, o, rfl, Nat.lt_of_lt_of_le hlt hb.size, (hb.cell (p := ⟨b, _, none⟩) hlt).trans h1, (hb.cell (p := ⟨b, _, none⟩) hlt).trans h2⟩

theorem SecA.of_own {w : World} {base : Nat} {e : TypeId} {A : Option Addr} {c : Nat} {l : List (Int × Int)} (h : w.ownsRow base e 2 (.slice A l.length c) l.length (secC l)) : SecA w A l := by
  intro k hk
  rcases h.2 with ⟨h', h0⟩ | ⟨g, cap, cur, h', hb, hg, _⟩
  · omega
  · simp only [Value.slice.injEq, true_and] at h'
    obtain ⟨rfl, rfl⟩ := h'
    refine ⟨g, 0, rfl, (Array.getElem?_eq_some_iff.1 hg).1, ?_, ?_⟩
    · rw [Nat.zero_add, h.cellAt (k * 2) (by omega), secC_even l k hk]
    · rw [Nat.zero_add, h.cellAt (k * 2 + 1) (by omega), secC_odd l k hk]

theorem secown_set2 {w : World} {base : Nat} {e : TypeId} {g n c : Nat} {l : List (Int × Int)} (h : w.ownsRow base e 2 (.slice (some ⟨g, 0, none⟩) n c) n (secC l)) (k : Nat) (a p : Int) :
    ((w.setCell ⟨g, k * 2, none⟩ (.int .i16 a)).setCell ⟨g, k * 2 + 1, none⟩ (.int .i16 p)).ownsRow base e 2 (.slice (some ⟨g, 0, none⟩) n c) n (secC (l.set k (a, p))) := by
  rw [secC_set]
  exact ((h.stored (k * 2) (.int .i16 a)).1.stored (k * 2 + 1) (.int .i16 p)).1

def secupto (l : List (Int × Int)) (k : Nat) : List (Int × Int) := l.take k ++ List.replicate (l.length - k) (0, 0)
theorem secupto_length (l : List (Int × Int)) (k : Nat) (h : k ≤ l.length) : (secupto l k).length = l.length := by simp [secupto]; omega
theorem secupto_set (l : List (Int × Int)) (k : Nat) (h : k < l.length) : (secupto l k).set k (secF l k, secS l k) = secupto l (k + 1) := by
  have e1 : l.length - k = (l.length - (k + 1)) + 1 := by omega
  have e2 : (secF l k, secS l k) = l[k] := by simp [secF, secS, List.getD, h]
  rw [secupto, secupto, e1, List.replicate_succ, e2, List.take_succ_eq_append_getElem h, List.set_append_right _ _ (by simp; omega)]
  simp only [List.length_take, show k - min k l.length = 0 by omega, List.set_cons_zero, List.append_assoc, List.cons_append, List.nil_append]
theorem secupto_zero (l : List (Int × Int)) : secupto l 0 = List.replicate l.length (0, 0) := by simp [secupto]
theorem secupto_all (l : List (Int × Int)) : secupto l l.length = l := by simp [secupto]

theorem info68 : (Tryz.prog.info? 68).map (fun i => (i.zero, i.size, i.bytes)) = some (some (.agg #[.int .i16 0, .int .i16 0]), 2, 4) := by kernel_rfl

theorem toSection_any (a p : Int) (w : World) :
    Calls Tryz.prog 59 #[.agg #[.int .i16 a, .int .i16 p]] w fun e w' => e = .returned (.agg #[.int .i16 a, .int .i16 p]) ∧ Below w.heap.size w w' := by
  go_enter Tryz.func59, Tryz.ntmps59
  go_wp2
  refine bodyPost_ret (v := .agg #[.int .i16 a, .int .i16 p]) (by simp [results, Tryz.results59, go_sem]) rfl ⟨rfl, ?_⟩
  repeat (first | exact Below.refl _ _ | refine Below.alloc ?_ (by simp <;> omega) _ | refine Below.setCell ?_ (by simp) _)

/-- what toSectionS leaves -/
def MadeSec (w : World) (l : List (Int × Int)) (e : Ending) (w' : World) : Prop :=
  e = .returned (.slice (some ⟨w.heap.size, 0, none⟩) l.length l.length) ∧ w'.ownsRow w.heap.size 68 2 (.slice (some ⟨w.heap.size, 0, none⟩) l.length l.length) l.length (secC l) ∧ Below w.heap.size w w'

set_option maxHeartbeats 400000 in
theorem toSectionS_any (A : Option Addr) (c : Nat) (l : List (Int × Int)) (w : World) (hA : SecA w A l) (hn : l.length ≤ 1048576) :
    Calls Tryz.prog 31 #[.slice A l.length c] w (MadeSec w l) := by
  obtain ⟨i0, hi, hz0, hz1, hz2⟩ := info_parts info68
  go_enter Tryz.func31, Tryz.ntmps31
  go_wp2_with (at_make; refine wpList_make_full _ rfl _ _ 45 rfl w.heap.size 68 i0 _ 2 Tryz.underlying45 hi hz0 hz1 _ _ _ _ l.length rfl rfl (by omega) (by omega) (by rw [hz2]; omega) (by unfold maxLen; omega) (by simp) ?_; intro w1 hown1 hgrow1)
  have hb0 : Below w.heap.size w w1 := (Below.refl _ _).grown hgrow1 (Nat.le_refl _) (fun j e => by cases e)
  clear hgrow1
  go_loopw [4] (fun i wr => ∃ k : Nat, k ≤ l.length ∧ i = .int .i64 k ∧ wr.ownsRow w.heap.size 68 2 (.slice (some ⟨w.heap.size, 0, none⟩) l.length l.length) l.length (secC (secupto l k)) ∧ Below w.heap.size w wr)
    (fun i _ => l.length - (intOf i).toNat)
  case atStart =>
    refine ⟨0, Nat.zero_le _, rfl, ?_, hb0⟩
    rw [secupto_zero, secC_replicate]
    exact hown1
  case round =>
    obtain ⟨k, hk, rfl, hown, hb⟩ := hrel
    by_cases hlt : k < l.length
    · obtain ⟨b, o, rfl, hbb, c1, c2⟩ := hA k hlt
      have d1 := (hb.cell (p := ⟨b, o + k * 2, none⟩) hbb).trans c1
      have d2 := (hb.cell (p := ⟨b, o + k * 2 + 1, none⟩) hbb).trans c2
      have hs := hb.size
      clear c1 c2 hA hown1 hb0
      go_wp2_with (go_at_call 59; refine (toSection_any _ _ _).mono ?_; rintro e w2 ⟨rfl, hb2⟩; have own2 := own_keep hown hb2; have f1 := (own2.cellAt (k * 2) (by omega)).trans (secC_even _ k (by rw [secupto_length _ _ hk]; exact hlt)); have f2 := (own2.cellAt (k * 2 + 1) (by omega)).trans (secC_odd _ k (by rw [secupto_length _ _ hk]; exact hlt)); have f3 := own2.frozenAt (k * 2); have f4 := own2.frozenAt (k * 2 + 1); have hs2 := hb2.size)
      go_roundw
      case rel => exact ⟨k + 1, hlt, by go_num, secupto_set l k hlt ▸ secown_set2 own2 k _ _, ((hb.trans (hb2.mono hs)).setCell (p := ⟨w.heap.size, _, none⟩) (Nat.le_refl _) _).setCell (p := ⟨w.heap.size, _, none⟩) (Nat.le_refl _) _⟩
      case measure => simp [intOf]; omega
    · obtain rfl : k = l.length := by omega
      go_wp2
      go_ret
      exact ⟨rfl, by rw [secupto_all] at hown; exact hown, hb⟩

theorem eqSection_any (a p b q : Int) (w : World) :
    Calls Tryz.prog 73 #[.agg #[.int .i16 a, .int .i16 p], .agg #[.int .i16 b, .int .i16 q]] w fun e w' => e = .returned (.bool (decide (a = b ∧ p = q))) ∧ Below w.heap.size w w' := by
  go_enter Tryz.func73, Tryz.ntmps73
  go_wp2
  all_goals go_ret
  all_goals exact ⟨ret_bool (by simp_all), by repeat (first | exact Below.refl _ _ | refine Below.alloc ?_ (by simp <;> omega) _)⟩
theorem secsame_of (l m : List (Int × Int)) (hl : l.length = m.length) (h : ∀ k, k < l.length → secF l k = secF m k ∧ secS l k = secS m k) : sameB l m = true := by
  refine decide_eq_true (List.ext_getElem hl fun k h1 h2 => ?_)
  have := h k h1
  simp only [secF, secS, List.getD, List.getElem?_eq_getElem h1, List.getElem?_eq_getElem h2, Option.getD_some] at this
  exact Prod.ext this.1 this.2
theorem secsame_not (l m : List (Int × Int)) (k : Nat) (h : ¬ (secF l k = secF m k ∧ secS l k = secS m k)) : sameB l m = false := by
  refine decide_eq_false fun e => h ?_
  rw [e]
  exact ⟨rfl, rfl⟩

set_option maxHeartbeats 400000 in
theorem eqSectionS_any (A B : Option Addr) (c d : Nat) (l m : List (Int × Int)) (w : World) (hA : SecA w A l) (hB : SecA w B m) (hn : l.length ≤ 1048576) (_hm : m.length ≤ 1048576) :
    Calls Tryz.prog 38 #[.slice A l.length c, .slice B m.length d] w (Says (sameB l m) w) := by
  by_cases hlm : l.length = m.length
  · have HL := hide hlm
    have H1 : ((l.length : Int) != (m.length : Int)) = false := by simp [hlm]
    have H2 : (l.length != m.length) = false := by simp [hlm]
    clear hlm
    go_enter Tryz.func38, Tryz.ntmps38
    go_wp2_with fail
    go_loopw [5] (fun i wr => ∃ k : Nat, k ≤ l.length ∧ i = .int .i64 k ∧ (∀ j, j < k → secF l j = secF m j ∧ secS l j = secS m j) ∧ Below w.heap.size w wr)
      (fun i _ => l.length - (intOf i).toNat)
    case atStart =>
      exact ⟨0, Nat.zero_le _, rfl, fun j hj => absurd hj (Nat.not_lt_zero _), Below.refl _ _⟩
    case round =>
      obtain ⟨k, hk, rfl, hG, hb⟩ := hrel
      have HG := hide hG
      clear hG
      by_cases hlt : k < l.length
      · have hlt2 : k < m.length := by rw [← HL.out]; exact hlt
        obtain ⟨b, o, rfl, hbb, c1, c2⟩ := hA k hlt
        obtain ⟨b', o', rfl, hbb', c3, c4⟩ := hB k hlt2
        have d1 := Later.cell ((hb.cell (p := ⟨b, o + k * 2, none⟩) hbb).trans c1)
        have d2 := Later.cell ((hb.cell (p := ⟨b, o + k * 2 + 1, none⟩) hbb).trans c2)
        have d3 := Later.cell ((hb.cell (p := ⟨b', o' + k * 2, none⟩) hbb').trans c3)
        have d4 := Later.cell ((hb.cell (p := ⟨b', o' + k * 2 + 1, none⟩) hbb').trans c4)
        have hs := hb.size
        clear c1 c2 c3 c4 hA hB
        by_cases he : secF l k = secF m k ∧ secS l k = secS m k
        · have HE := hide he
          have HD := hide (decide_eq_true he)
          clear he
          go_wp2_with fail
          refine wp_region_later (by kernel_rfl) (by kernel_rfl) ?_
          repeat (go_big_quiet_step ((go_at_call 73; exact Later.call (HD.out ▸ eqSection_any _ _ _ _ _))))
          refine wpQuiet_nil ?_
          rintro _ ⟨⟨wq, hq⟩, rfl⟩
          go_wp2
          go_roundw
          case rel => exact ⟨k + 1, by omega, by go_num, fun j hj => by
            rcases Nat.lt_or_ge j k with h1 | h1
            · exact HG.out j h1
            · rw [show j = k by omega]; exact HE.out, hb.trans (hq.mono hs)⟩
          case measure => simp [intOf]; omega
        · have HE := hide he
          have HD := hide (decide_eq_false he)
          clear he
          go_wp2_with fail
          refine wp_region_later (by kernel_rfl) (by kernel_rfl) ?_
          repeat (go_big_quiet_step ((go_at_call 73; exact Later.call (HD.out ▸ eqSection_any _ _ _ _ _))))
          refine wpQuiet_nil ?_
          rintro _ ⟨⟨wq, hq⟩, rfl⟩
          go_wp2
          go_ret
          exact ⟨ret_bool (secsame_not l m k HE.out).symm, hb.trans (hq.mono hs)⟩
      · obtain rfl : k = l.length := by omega
        go_wp2
        go_ret
        exact ⟨ret_bool (secsame_of l m HL.out HG.out).symm, hb⟩
  · have H1 : ((l.length : Int) != (m.length : Int)) = true := by simp; omega
    have H2 : (l.length != m.length) = true := by simpa using hlm
    have HL := hide hlm
    clear hlm
    go_enter Tryz.func38, Tryz.ntmps38
    go_wp2
    go_ret
    exact ⟨ret_bool (decide_eq_false fun e => HL.out (by rw [e])).symm, Below.refl _ _⟩
theorem szSectionS_small (A : Option Addr) (n c : Nat) (l : Int) (h0 : 0 ≤ l) (h1 : l ≤ 1048576) (hn : n ≤ maxLen) (hs : (n : Int) ≤ l) (w : World) :
    Calls Tryz.prog 25 #[.slice A n c, .int .i64 l] w fun e w' => e = .returned (.int .i64 (l - n)) ∧ w = w' := by
  unfold maxLen at hn
  go_enter Tryz.func25, Tryz.ntmps25
  go_wp2
  all_goals go_ret
  all_goals exact ⟨ret_int (by omega), rfl⟩
theorem szSectionS_big (A : Option Addr) (n c : Nat) (l : Int) (h0 : 0 ≤ l) (h1 : l ≤ 1048576) (hn : n ≤ maxLen) (hs : l < (n : Int)) (w : World) :
    Calls Tryz.prog 25 #[.slice A n c, .int .i64 l] w fun e w' => e = .returned (.int .i64 (-1)) ∧ w = w' := by
  unfold maxLen at hn
  go_enter Tryz.func25, Tryz.ntmps25
  go_wp2
  all_goals go_ret
  all_goals exact ⟨ret_int (by omega), rfl⟩
end Go.Proofs.YtehmkablandefaaGreatDoor
namespace Go.Proofs.YtehmkablandefaaGreatDoor
open Go.RowKit

/-- block g holds these cells -/
def Bk (w : World) (g : Nat) (t : TypeId) (cs : Array Value) : Prop := w.heap[g]? = some (.cells cs t (0, 0))
theorem Bk.lt {w : World} {g : Nat} {t : TypeId} {cs : Array Value} (h : Bk w g t cs) : g < w.heap.size := (Array.getElem?_eq_some_iff.1 h).1
theorem Bk.cell {w : World} {g : Nat} {t : TypeId} {cs : Array Value} (h : Bk w g t cs) {i : Nat} {v : Value} (hv : cs[i]? = some v) : w.cell? ⟨g, i, none⟩ = some v := (cell_of_row w g i _ _ _ h).trans hv
theorem Bk.frozen {w : World} {g : Nat} {t : TypeId} {cs : Array Value} (h : Bk w g t cs) (i : Nat) : w.frozen? ⟨g, i, none⟩ = false := frozen_of_row w g i _ _ h
theorem Bk.grown {w w' : World} {g : Nat} {t : TypeId} {cs : Array Value} {row : Option Nat} (h : Bk w g t cs) (hg : w.grownBy w' row) (hne : row ≠ some g) : Bk w' g t cs := (hg.block g h.lt (fun e => hne e.symm)).trans h
theorem Bk.keep {w w' : World} {g : Nat} {t : TypeId} {cs : Array Value} (h : Bk w g t cs) (hb : Below w.heap.size w w') : Bk w' g t cs := (hb.block g h.lt).trans h
theorem Bk.other {w : World} {g b k : Nat} {t : TypeId} {cs : Array Value} (h : Bk w g t cs) (hne : g ≠ b) (v : Value) : Bk (w.setCell ⟨b, k, none⟩ v) g t cs := by
  unfold Bk at h ⊢
  rw [← h]
  exact heap_setCell_other w ⟨b, k, none⟩ g v hne
theorem Bk.new (w : World) (t : TypeId) (cs : Array Value) {k : Nat} (h : k = w.heap.size) : Bk (w.alloc (.cells cs t)) k t cs := heap_new' _ _ _ h
theorem Bk.old {w : World} {g : Nat} {t : TypeId} {cs : Array Value} (h : Bk w g t cs) (o : Obj) : Bk (w.alloc o) g t cs := heap_old' h
theorem Bk.range {w : World} {g : Nat} {t : TypeId} {cs : Array Value} (h : Bk w g t cs) (o : Nat) (l : List Value) (hl : ∀ j v, l[j]? = some v → cs[o + j]? = some v) : w.rangeAt g o l := fun j v hv => h.cell (hl j v hv)
theorem Bk.whole {w : World} {g : Nat} {t : TypeId} {cs : Array Value} (h : Bk w g t cs) : w.rangeAt g 0 cs.toList := h.range 0 _ (fun j v hv => by rw [Nat.zero_add]; simpa using hv)
theorem Bk.setRow {w : World} {g : Nat} {t : TypeId} {cs : Array Value} (h : Bk w g t cs) (cs' : Array Value) : Bk (w.setRow g cs') g t cs' := setRow_heap _ _ _ _ _ _ h
theorem below_setRow' {B g : Nat} {w w' : World} {cs : Array Value} (h : Below B w w') (hg : B ≤ g) : Below B w (w'.setRow g cs) :=
  h.trans ⟨rfl, rfl, rfl, by simp, fun k hk => setRow_other _ _ _ _ (by omega)⟩
theorem below_setCells' {B g : Nat} {w w' : World} (h : Below B w w') (hg : B ≤ g) (o : Nat) (cs : List Value) : Below B w (w'.setCells g o cs) := by
  induction cs generalizing w' o with
  | nil => exact h
  | cons v r ih => exact ih (h.setCell (p := ⟨g, o, none⟩) hg v) (o + 1)
theorem range_keep' {w w' : World} {b o : Nat} {cs : List Value} (h : w.rangeAt b o cs) (hb : Below w.heap.size w w') : w'.rangeAt b o cs := fun j v hv =>
  (hb.cell (p := ⟨b, o + j, none⟩) (World.block_lt_of_cell? w _ (h j v hv))).trans (h j v hv)
theorem range_lt' {w : World} {b o : Nat} {v : Value} {cs : List Value} (h : w.rangeAt b o (v :: cs)) : b < w.heap.size := World.block_lt_of_cell? w _ (h 0 v rfl)
end Go.Proofs.YtehmkablandefaaGreatDoor
namespace Go.Proofs.YtehmkablandefaaGreatDoor
open Go.RowKit
/-- szFrame from any number on -/
theorem szFrame_at_small (s : Int) (A : Option Addr) (n c : Nat) (x : Int) (h0 : 0 ≤ x) (h1 : x ≤ 1048576) (hm : n ≤ maxLen) (hs : (n : Int) ≤ x) (w : World) :
    Calls Tryz.prog 6 #[.agg #[.int .i16 s, .slice A n c], .int .i64 x] w fun e w' => e = .returned (.int .i64 (x - n)) ∧ Below w.heap.size w w' := by
  have hb0 : Below w.heap.size w (w.alloc (.cells #[.int .i16 s, .slice A n c] 25)) := (Below.refl _ _).alloc (Nat.le_refl _) _
  have hlt : decide (x - (n : Int) < 0) = false := by simp; omega
  go_enter Tryz.func6, Tryz.ntmps6
  go_wp2_with (go_at_call 24; refine (szHammerS_small A n c x h0 h1 hm hs _).mono ?_; rintro e w' ⟨rfl, rfl⟩)
  go_ret
  exact ⟨rfl, hb0⟩
theorem szFrame_at_big (s : Int) (A : Option Addr) (n c : Nat) (x : Int) (h0 : 0 ≤ x) (h1 : x ≤ 1048576) (hm : n ≤ maxLen) (hs : x < (n : Int)) (w : World) :
    Calls Tryz.prog 6 #[.agg #[.int .i16 s, .slice A n c], .int .i64 x] w fun e w' => e = .returned (.int .i64 (-1)) ∧ Below w.heap.size w w' := by
  have hb0 : Below w.heap.size w (w.alloc (.cells #[.int .i16 s, .slice A n c] 25)) := (Below.refl _ _).alloc (Nat.le_refl _) _
  go_enter Tryz.func6, Tryz.ntmps6
  go_wp2_with (go_at_call 24; refine (szHammerS_big A n c x h0 h1 hm hs _).mono ?_; rintro e w' ⟨rfl, rfl⟩)
  go_ret
  exact ⟨rfl, hb0⟩
end Go.Proofs.YtehmkablandefaaGreatDoor
