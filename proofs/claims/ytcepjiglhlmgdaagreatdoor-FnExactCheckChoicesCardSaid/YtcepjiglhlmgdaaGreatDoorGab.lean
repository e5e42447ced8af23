import Derived.Test.YtcepjiglhlmgdaaGreatDoorGaa
import Derived.Test.YtcepjiglhlmgdaaGreatDoorProg
namespace Go.Proofs.YtcepjiglhlmgdaaGreatDoor
open Go.RowKit

/-- the hammers as cells -/
def hcells (l : List (Int × Int)) : List Value := l.flatMap fun n => [.int .i8 n.1, .int .i8 n.2]
def hPi (l : List (Int × Int)) (k : Nat) : Int := (l.getD k (0, 0)).1
def hRe (l : List (Int × Int)) (k : Nat) : Int := (l.getD k (0, 0)).2

theorem hcells_nil : hcells [] = [] := rfl
theorem hcells_cons (n : Int × Int) (l : List (Int × Int)) : hcells (n :: l) = .int .i8 n.1 :: .int .i8 n.2 :: hcells l := rfl
theorem hcells_append (l m : List (Int × Int)) : hcells (l ++ m) = hcells l ++ hcells m := by simp [hcells]
theorem hcells_length (l : List (Int × Int)) : (hcells l).length = l.length * 2 := by
  induction l with
  | nil => rfl
  | cons n l ih => simp [hcells_cons, ih]; omega
theorem hcells_even (l : List (Int × Int)) : ∀ k, k < l.length → (hcells l)[k * 2]? = some (.int .i8 (hPi l k)) := by
  induction l with
  | nil => intro k h; simp at h
  | cons n l ih =>
    intro k h
    cases k with
    | zero => simp [hcells_cons, hPi]
    | succ k =>
      have := ih k (by simpa using h)
      rw [show (k + 1) * 2 = k * 2 + 1 + 1 from by omega]
      simpa [hcells_cons, hPi] using this
theorem hcells_odd (l : List (Int × Int)) : ∀ k, k < l.length → (hcells l)[k * 2 + 1]? = some (.int .i8 (hRe l k)) := by
  induction l with
  | nil => intro k h; simp at h
  | cons n l ih =>
    intro k h
    cases k with
    | zero => simp [hcells_cons, hRe]
    | succ k =>
      have := ih k (by simpa using h)
      rw [show (k + 1) * 2 + 1 = k * 2 + 1 + 1 + 1 from by omega]
      simpa [hcells_cons, hRe] using this
theorem hcells_set (l : List (Int × Int)) : ∀ (k : Nat) (a p : Int), hcells (l.set k (a, p)) = ((hcells l).set (k * 2) (.int .i8 a)).set (k * 2 + 1) (.int .i8 p) := by
  induction l with
  | nil => intro k a p; simp [hcells_nil]
  | cons n l ih =>
    intro k a p
    cases k with
    | zero => simp [hcells_cons]
    | succ k =>
      rw [show (k + 1) * 2 = k * 2 + 1 + 1 from by omega, show k * 2 + 1 + 1 + 1 = k * 2 + 1 + 1 + 1 from rfl]
      simp [hcells_cons, ih]
theorem hcells_replicate (n : Nat) : hcells (List.replicate n (0, 0)) = (madeCells #[.int .i8 0, .int .i8 0] (n * 2)).toList := by
  apply List.ext_getElem?
  intro j
  by_cases hj : j < n * 2
  · rcases Nat.mod_two_eq_zero_or_one j with h | h
    · obtain ⟨k, rfl⟩ : ∃ k, j = k * 2 := ⟨j / 2, by omega⟩
      rw [hcells_even _ k (by simp; omega)]
      simp only [madeCells, hPi, List.getD, List.getElem?_replicate]
      rw [if_pos (by omega)]
      simp [hj]
    · obtain ⟨k, rfl⟩ : ∃ k, j = k * 2 + 1 := ⟨j / 2, by omega⟩
      rw [hcells_odd _ k (by simp; omega)]
      simp only [madeCells, hRe, List.getD, List.getElem?_replicate]
      rw [if_pos (by omega)]
      simp [hj]
  · rw [List.getElem?_eq_none (by rw [hcells_length]; simp; omega), List.getElem?_eq_none (by simp [madeCells]; omega)]

/-- a slice's address under which the hammers lie -/
def HA (w : World) (A : Option Addr) (l : List (Int × Int)) : Prop :=
  ∀ k, k < l.length → ∃ b o, A = some ⟨b, o, none⟩ ∧ b < w.heap.size ∧ w.cell? ⟨b, o + k * 2, none⟩ = some (.int .i8 (hPi l k)) ∧ w.cell? ⟨b, o + k * 2 + 1, none⟩ = some (.int .i8 (hRe l k))

theorem HA.below {w w' : World} {A : Option Addr} {l : List (Int × Int)} (h : HA w A l) (hb : Below w.heap.size w w') : HA w' A l := by
  intro k hk
  obtain ⟨b, o, rfl, hlt, h1, h2⟩ := h k hk
  exact ⟨b, o, rfl, Nat.lt_of_lt_of_le hlt hb.size, (hb.cell (p := ⟨b, _, none⟩) hlt).trans h1, (hb.cell (p := ⟨b, _, none⟩) hlt).trans h2⟩

theorem HA.of_own {w : World} {base : Nat} {e : TypeId} {A : Option Addr} {c : Nat} {l : List (Int × Int)} (h : w.ownsRow base e 2 (.slice A l.length c) l.length (hcells l)) : HA w A l := by
  intro k hk
  rcases h.2 with ⟨h', h0⟩ | ⟨g, cap, cur, h', hb, hg, _⟩
  · omega
  · simp only [Value.slice.injEq, true_and] at h'
    obtain ⟨rfl, rfl⟩ := h'
    refine ⟨g, 0, rfl, (Array.getElem?_eq_some_iff.1 hg).1, ?_, ?_⟩
    · rw [Nat.zero_add, h.cellAt (k * 2) (by omega), hcells_even l k hk]
    · rw [Nat.zero_add, h.cellAt (k * 2 + 1) (by omega), hcells_odd l k hk]

theorem hown_set2 {w : World} {base : Nat} {e : TypeId} {g n c : Nat} {l : List (Int × Int)} (h : w.ownsRow base e 2 (.slice (some ⟨g, 0, none⟩) n c) n (hcells l)) (k : Nat) (a p : Int) :
    ((w.setCell ⟨g, k * 2, none⟩ (.int .i8 a)).setCell ⟨g, k * 2 + 1, none⟩ (.int .i8 p)).ownsRow base e 2 (.slice (some ⟨g, 0, none⟩) n c) n (hcells (l.set k (a, p))) := by
  rw [hcells_set]
  exact ((h.stored (k * 2) (.int .i8 a)).1.stored (k * 2 + 1) (.int .i8 p)).1

def hupto (l : List (Int × Int)) (k : Nat) : List (Int × Int) := l.take k ++ List.replicate (l.length - k) (0, 0)
theorem hupto_length (l : List (Int × Int)) (k : Nat) (h : k ≤ l.length) : (hupto l k).length = l.length := by simp [hupto]; omega
theorem hupto_set (l : List (Int × Int)) (k : Nat) (h : k < l.length) : (hupto l k).set k (hPi l k, hRe l k) = hupto l (k + 1) := by
  have e1 : l.length - k = (l.length - (k + 1)) + 1 := by omega
  have e2 : (hPi l k, hRe l k) = l[k] := by simp [hPi, hRe, List.getD, h]
  rw [hupto, hupto, e1, List.replicate_succ, e2, List.take_succ_eq_append_getElem h, List.set_append_right _ _ (by simp; omega)]
  simp only [List.length_take, show k - min k l.length = 0 by omega, List.set_cons_zero, List.append_assoc, List.cons_append, List.nil_append]
theorem hupto_zero (l : List (Int × Int)) : hupto l 0 = List.replicate l.length (0, 0) := by simp [hupto]
theorem hupto_all (l : List (Int × Int)) : hupto l l.length = l := by simp [hupto]

end Go.Proofs.YtcepjiglhlmgdaaGreatDoor
namespace Go.Proofs.YtcepjiglhlmgdaaGreatDoor
open Go.RowKit
theorem info88 : (Tryz.prog.info? 88).map (fun i => (i.zero, i.size, i.bytes)) = some (some (.agg #[.int .i8 0, .int .i8 0]), 2, 2) := by kernel_rfl

theorem toHammer_any (a p : Int) (w : World) :
    Calls Tryz.prog 35 #[.agg #[.int .i8 a, .int .i8 p]] w fun e w' => e = .returned (.agg #[.int .i8 a, .int .i8 p]) ∧ Below w.heap.size w w' := by
  go_enter Tryz.func35, Tryz.ntmps35
  go_wp2
  refine bodyPost_ret (v := .agg #[.int .i8 a, .int .i8 p]) (by simp [results, Tryz.results35, go_sem]) rfl ⟨rfl, ?_⟩
  repeat (first | exact Below.refl _ _ | refine Below.alloc ?_ (by simp <;> omega) _ | refine Below.setCell ?_ (by simp) _)

/-- what toHammerS leaves -/
def MadeH (w : World) (l : List (Int × Int)) (e : Ending) (w' : World) : Prop :=
  e = .returned (.slice (some ⟨w.heap.size, 0, none⟩) l.length l.length) ∧ w'.ownsRow w.heap.size 88 2 (.slice (some ⟨w.heap.size, 0, none⟩) l.length l.length) l.length (hcells l) ∧ Below w.heap.size w w'

set_option maxHeartbeats 400000 in
theorem toHammerS_any (A : Option Addr) (c : Nat) (l : List (Int × Int)) (w : World) (hA : HA w A l) (hn : l.length ≤ 1048576) :
    Calls Tryz.prog 21 #[.slice A l.length c] w (MadeH w l) := by
  obtain ⟨i0, hi, hz0, hz1, hz2⟩ := info_parts info88
  go_enter Tryz.func21, Tryz.ntmps21
  go_wp2_with (at_make; refine wpList_make_full _ rfl _ _ 33 rfl w.heap.size 88 i0 _ 2 Tryz.underlying33 hi hz0 hz1 _ _ _ _ l.length rfl rfl (by omega) (by omega) (by rw [hz2]; omega) (by unfold maxLen; omega) (by simp) ?_; intro w1 hown1 hgrow1)
  have hb0 : Below w.heap.size w w1 := (Below.refl _ _).grown hgrow1 (Nat.le_refl _) (fun j e => by cases e)
  clear hgrow1
  go_loopw [4] (fun i wr => ∃ k : Nat, k ≤ l.length ∧ i = .int .i64 k ∧ wr.ownsRow w.heap.size 88 2 (.slice (some ⟨w.heap.size, 0, none⟩) l.length l.length) l.length (hcells (hupto l k)) ∧ Below w.heap.size w wr)
    (fun i _ => l.length - (intOf i).toNat)
  case atStart =>
    refine ⟨0, Nat.zero_le _, rfl, ?_, hb0⟩
    rw [hupto_zero, hcells_replicate]
    exact hown1
  case round =>
    obtain ⟨k, hk, rfl, hown, hb⟩ := hrel
    by_cases hlt : k < l.length
    · obtain ⟨b, o, rfl, hbb, c1, c2⟩ := hA k hlt
      have d1 := (hb.cell (p := ⟨b, o + k * 2, none⟩) hbb).trans c1
      have d2 := (hb.cell (p := ⟨b, o + k * 2 + 1, none⟩) hbb).trans c2
      have hs := hb.size
      clear c1 c2 hA hown1 hb0
      go_wp2_with (go_at_call 35; refine (toHammer_any _ _ _).mono ?_; rintro e w2 ⟨rfl, hb2⟩; have own2 := own_keep hown hb2; have f1 := (own2.cellAt (k * 2) (by omega)).trans (hcells_even _ k (by rw [hupto_length _ _ hk]; exact hlt)); have f2 := (own2.cellAt (k * 2 + 1) (by omega)).trans (hcells_odd _ k (by rw [hupto_length _ _ hk]; exact hlt)); have f3 := own2.frozenAt (k * 2); have f4 := own2.frozenAt (k * 2 + 1); have hs2 := hb2.size)
      go_roundw
      case rel => exact ⟨k + 1, hlt, by go_num, hupto_set l k hlt ▸ hown_set2 own2 k _ _, ((hb.trans (hb2.mono hs)).setCell (p := ⟨w.heap.size, _, none⟩) (Nat.le_refl _) _).setCell (p := ⟨w.heap.size, _, none⟩) (Nat.le_refl _) _⟩
      case measure => simp [intOf]; omega
    · obtain rfl : k = l.length := by omega
      go_wp2
      go_ret
      exact ⟨rfl, by rw [hupto_all] at hown; exact hown, hb⟩

theorem heap_new' (w : World) (o : Obj) (k : Nat) (h : k = w.heap.size) : (w.alloc o).heap[k]? = some o := by subst h; exact heap_alloc_new w o
theorem heap_old' {w : World} {o x : Obj} {k : Nat} (h : w.heap[k]? = some x) : (w.alloc o).heap[k]? = some x := by
  rw [heap_alloc_old w o (Array.getElem?_eq_some_iff.1 h).1]; exact h

theorem own_other {w w' : World} {base g c : Nat} {e : TypeId} {size n : Nat} {xs : List Value} (h : w.ownsRow base e size (.slice (some ⟨g, 0, none⟩) n c) n xs) (hg : w'.heap[g]? = w.heap[g]?) : w'.ownsRow base e size (.slice (some ⟨g, 0, none⟩) n c) n xs := by
  refine ⟨h.1, ?_⟩
  rcases h.2 with h' | ⟨g', cap, cur, h1, h2, h3, r⟩
  · exact Or.inl h'
  · obtain ⟨rfl, rfl⟩ : g = g' ∧ c = cap := by simpa using h1
    exact Or.inr ⟨g, c, cur, h1, h2, hg.trans h3, r⟩

/-- what toFrame leaves: a frame whose hammers lie under an address of its own -/
def MadeF (w : World) (s : Int) (l : List (Int × Int)) (e : Ending) (w' : World) : Prop :=
  ∃ g, e = .returned (.agg #[.int .i16 s, .slice (some ⟨g, 0, none⟩) l.length l.length]) ∧ w.heap.size ≤ g ∧ w'.ownsRow g 88 2 (.slice (some ⟨g, 0, none⟩) l.length l.length) l.length (hcells l) ∧ Below w.heap.size w w'
theorem toFrame_any (s : Int) (A : Option Addr) (c : Nat) (l : List (Int × Int)) (w : World) (hA : HA w A l) (hn : l.length ≤ 1048576) :
    Calls Tryz.prog 9 #[.agg #[.int .i16 s, .slice A l.length c]] w (MadeF w s l) := by
  go_enter Tryz.func9, Tryz.ntmps9
  have hW0 : Below w.heap.size w (((w.alloc (.cells #[.int .i16 s, .slice A l.length c] 25)).alloc (.cells #[.int .i16 0, .slice none 0 0] 35)).alloc (.cells #[.int .i16 s, .slice none 0 0] 35)) := (((Below.refl _ _).alloc (Nat.le_refl _) _).alloc (by simp) _).alloc (by simp; omega) _
  go_wp2_with fail
  refine (toHammerS_any A c l _ (hA.below hW0) hn).mono ?_
  rintro e w2 ⟨rfl, own, hb⟩
  have r1 : w2.heap[w.heap.size + 1 + 1]? = some (.cells #[.int .i16 s, .slice none 0 0] 35 (0, 0)) := (hb.block _ (by simp)).trans (heap_new' _ _ _ (by simp))
  have r2 : w2.heap[w.heap.size + 1]? = some (.cells #[.int .i16 0, .slice none 0 0] 35 (0, 0)) := (hb.block _ (by simp)).trans (heap_old' (heap_new' _ _ _ (by simp)))
  have c1 := cell_of_row _ _ 0 _ _ _ r1
  have c2 := cell_of_row _ _ 1 _ _ _ r1
  have c3 := cell_of_row _ _ 0 _ _ _ r2
  have c4 := cell_of_row _ _ 1 _ _ _ r2
  have f1 := frozen_of_row _ _ 1 _ _ r1
  have f2 := frozen_of_row _ _ 0 _ _ r2
  have f3 := frozen_of_row _ _ 1 _ _ r2
  simp at c1 c2 c3 c4
  go_wp2
  refine bodyPost_ret (v := .agg #[.int .i16 s, .slice (some ⟨w.heap.size + 1 + 1 + 1, 0, none⟩) l.length l.length]) (by simp [results, Tryz.results9, go_sem, c3, c4]) rfl ⟨w.heap.size + 1 + 1 + 1, rfl, by omega, ?_, ?_⟩
  · simp only [World.size_alloc] at own
    exact own_other own (by rw [heap_setCell_other _ _ _ _ (by dsimp only; omega), heap_setCell_other _ _ _ _ (by dsimp only; omega), heap_setCell_other _ _ _ _ (by dsimp only; omega)])
  · exact (((hW0.trans (hb.mono hW0.size)).setCell (p := ⟨_, _, none⟩) (by dsimp only; omega) _).setCell (p := ⟨_, _, none⟩) (by dsimp only; omega) _).setCell (p := ⟨_, _, none⟩) (by dsimp only; omega) _
end Go.Proofs.YtcepjiglhlmgdaaGreatDoor
