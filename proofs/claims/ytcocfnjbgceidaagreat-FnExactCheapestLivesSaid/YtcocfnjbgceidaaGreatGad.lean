import Derived.Test.YtcocfnjbgceidaaGreatGac
import Derived.Deep.MidRow
import Derived.Great.Ranges
import Derived.Great.BuildSlice
import Derived.Deep.RegionHeld3
import Derived.Maps.AppendAt
namespace Go.Proofs.YtcocfnjbgceidaaGreat
open Go.RowKit

/-- the sections as cells -/
def secC (l : List (Int × Int)) : List Value := l.flatMap fun n => [.int .i16 n.1, .int .i16 n.2]
def secF (l : List (Int × Int)) (k : Nat) : Int := (l.getD k (0, 0)).1
def secS (l : List (Int × Int)) (k : Nat) : Int := (l.getD k (0, 0)).2

theorem secC_nil : secC [] = [] := rfl
theorem secC_cons (n : Int × Int) (l : List (Int × Int)) : secC (n :: l) = .int .i16 n.1 :: .int .i16 n.2 :: secC l := rfl
theorem secC_append (l m : List (Int × Int)) : secC (l ++ m) = secC l ++ secC m := by simp [secC]
theorem secC_length (l : List (Int × Int)) : (secC l).length = l.length * 2 := by
  induction l with
  | nil => rfl
  | cons n l ih => simp [secC_cons, ih]; omega
theorem secC_even (l : List (Int × Int)) : ∀ k, k < l.length → (secC l)[k * 2]? = some (.int .i16 (secF l k)) := by
  induction l with
  | nil => intro k h; simp at h
  | cons n l ih =>
    intro k h
    cases k with
    | zero => simp [secC_cons, secF]
    | succ k =>
      have := ih k (by simpa using h)
      rw [show (k + 1) * 2 = k * 2 + 1 + 1 from by omega]
      simpa [secC_cons, secF] using this
theorem secC_odd (l : List (Int × Int)) : ∀ k, k < l.length → (secC l)[k * 2 + 1]? = some (.int .i16 (secS l k)) := by
  induction l with
  | nil => intro k h; simp at h
  | cons n l ih =>
    intro k h
    cases k with
    | zero => simp [secC_cons, secS]
    | succ k =>
      have := ih k (by simpa using h)
      rw [show (k + 1) * 2 + 1 = k * 2 + 1 + 1 + 1 from by omega]
      simpa [secC_cons, secS] using this
theorem secC_set (l : List (Int × Int)) : ∀ (k : Nat) (a p : Int), secC (l.set k (a, p)) = ((secC l).set (k * 2) (.int .i16 a)).set (k * 2 + 1) (.int .i16 p) := by
  induction l with
  | nil => intro k a p; simp [secC_nil]
  | cons n l ih =>
    intro k a p
    cases k with
    | zero => simp [secC_cons]
    | succ k =>
      rw [show (k + 1) * 2 = k * 2 + 1 + 1 from by omega, show k * 2 + 1 + 1 + 1 = k * 2 + 1 + 1 + 1 from rfl]
      simp [secC_cons, ih]
theorem secC_replicate (n : Nat) : secC (List.replicate n (0, 0)) = (madeCells #[.int .i16 0, .int .i16 0] (n * 2)).toList := by
  apply List.ext_getElem?
  intro j
  by_cases hj : j < n * 2
  · rcases Nat.mod_two_eq_zero_or_one j with h | h
    · obtain ⟨k, rfl⟩ : ∃ k, j = k * 2 := ⟨j / 2, by omega⟩
      rw [secC_even _ k (by simp; omega)]
      simp only [madeCells, secF, List.getD, List.getElem?_replicate]
      rw [if_pos (by omega)]
      simp [hj]
    · obtain ⟨k, rfl⟩ : ∃ k, j = k * 2 + 1 := ⟨j / 2, by omega⟩
      rw [secC_odd _ k (by simp; omega)]
      simp only [madeCells, secS, List.getD, List.getElem?_replicate]
      rw [if_pos (by omega)]
      simp [hj]
  · rw [List.getElem?_eq_none (by rw [secC_length]; simp; omega), List.getElem?_eq_none (by simp [madeCells]; omega)]

/-- a slice's address under which the sections lie -/
def SecA (w : World) (A : Option Addr) (l : List (Int × Int)) : Prop :=
  ∀ k, k < l.length → ∃ b o, A = some ⟨b, o, none⟩ ∧ b < w.heap.size ∧ w.cell? ⟨b, o + k * 2, none⟩ = some (.int .i16 (secF l k)) ∧ w.cell? ⟨b, o + k * 2 + 1, none⟩ = some (.int .i16 (secS l k))

theorem SecA.below {w w' : World} {A : Option Addr} {l : List (Int × Int)} (h : SecA w A l) (hb : Below w.heap.size w w') : SecA w' A l := by
  intro k hk
  obtain ⟨b, o, rfl, hlt, h1, h2⟩ := h k hk
  exact ⟨b, o, rfl, Nat.lt_of_lt_of_le hlt hb.size, (hb.cell (p := ⟨b, _, none⟩) hlt).trans h1, (hb.cell (p := ⟨b, _, none⟩) hlt).trans h2⟩

theorem SecA.of_own {w : World} {base : Nat} {e : TypeId} {A : Option Addr} {c : Nat} {l : List (Int × Int)} (h : w.ownsRow base e 2 (.slice A l.length c) l.length (secC l)) : SecA w A l := by
  intro k hk
  rcases h.2 with ⟨h', h0⟩ | ⟨g, cap, cur, h', hb, hg, _⟩
  · omega
  · simp only [Value.slice.injEq, true_and] at h'
    obtain ⟨rfl, rfl⟩ := h'
    refine ⟨g, 0, rfl, (Array.getElem?_eq_some_iff.1 hg).1, ?_, ?_⟩
    · rw [Nat.zero_add, h.cellAt (k * 2) (by omega), secC_even l k hk]
    · rw [Nat.zero_add, h.cellAt (k * 2 + 1) (by omega), secC_odd l k hk]

theorem secown_set2 {w : World} {base : Nat} {e : TypeId} {g n c : Nat} {l : List (Int × Int)} (h : w.ownsRow base e 2 (.slice (some ⟨g, 0, none⟩) n c) n (secC l)) (k : Nat) (a p : Int) :
    ((w.setCell ⟨g, k * 2, none⟩ (.int .i16 a)).setCell ⟨g, k * 2 + 1, none⟩ (.int .i16 p)).ownsRow base e 2 (.slice (some ⟨g, 0, none⟩) n c) n (secC (l.set k (a, p))) := by
  rw [secC_set]
  exact ((h.stored (k * 2) (.int .i16 a)).1.stored (k * 2 + 1) (.int .i16 p)).1

def secupto (l : List (Int × Int)) (k : Nat) : List (Int × Int) := l.take k ++ List.replicate (l.length - k) (0, 0)
theorem secupto_length (l : List (Int × Int)) (k : Nat) (h : k ≤ l.length) : (secupto l k).length = l.length := by simp [secupto]; omega
theorem secupto_set (l : List (Int × Int)) (k : Nat) (h : k < l.length) : (secupto l k).set k (secF l k, secS l k) = secupto l (k + 1) := by
  have e1 : l.length - k = (l.length - (k + 1)) + 1 := by omega
  have e2 : (secF l k, secS l k) = l[k] := by simp [secF, secS, List.getD, h]
  rw [secupto, secupto, e1, List.replicate_succ, e2, List.take_succ_eq_append_getElem h, List.set_append_right _ _ (by simp; omega)]
  simp only [List.length_take, show k - min k l.length = 0 by omega, List.set_cons_zero, List.append_assoc, List.cons_append, List.nil_append]
theorem secupto_zero (l : List (Int × Int)) : secupto l 0 = List.replicate l.length (0, 0) := by simp [secupto]
theorem secupto_all (l : List (Int × Int)) : secupto l l.length = l := by simp [secupto]

theorem secsame_of (l m : List (Int × Int)) (hl : l.length = m.length) (h : ∀ k, k < l.length → secF l k = secF m k ∧ secS l k = secS m k) : sameB l m = true := by
  refine decide_eq_true (List.ext_getElem hl fun k h1 h2 => ?_)
  have := h k h1
  simp only [secF, secS, List.getD, List.getElem?_eq_getElem h1, List.getElem?_eq_getElem h2, Option.getD_some] at this
  exact Prod.ext this.1 this.2
theorem secsame_not (l m : List (Int × Int)) (k : Nat) (h : ¬ (secF l k = secF m k ∧ secS l k = secS m k)) : sameB l m = false := by
  refine decide_eq_false fun e => h ?_
  rw [e]
  exact ⟨rfl, rfl⟩

end Go.Proofs.YtcocfnjbgceidaaGreat
namespace Go.Proofs.YtcocfnjbgceidaaGreat
open Go.RowKit

/-- block g holds these cells -/
def Bk (w : World) (g : Nat) (t : TypeId) (cs : Array Value) : Prop := w.heap[g]? = some (.cells cs t (0, 0))
theorem Bk.lt {w : World} {g : Nat} {t : TypeId} {cs : Array Value} (h : Bk w g t cs) : g < w.heap.size := (Array.getElem?_eq_some_iff.1 h).1
theorem Bk.cell {w : World} {g : Nat} {t : TypeId} {cs : Array Value} (h : Bk w g t cs) {i : Nat} {v : Value} (hv : cs[i]? = some v) : w.cell? ⟨g, i, none⟩ = some v := (cell_of_row w g i _ _ _ h).trans hv
theorem Bk.frozen {w : World} {g : Nat} {t : TypeId} {cs : Array Value} (h : Bk w g t cs) (i : Nat) : w.frozen? ⟨g, i, none⟩ = false := frozen_of_row w g i _ _ h
theorem Bk.grown {w w' : World} {g : Nat} {t : TypeId} {cs : Array Value} {row : Option Nat} (h : Bk w g t cs) (hg : w.grownBy w' row) (hne : row ≠ some g) : Bk w' g t cs := (hg.block g h.lt (fun e => hne e.symm)).trans h
theorem Bk.keep {w w' : World} {g : Nat} {t : TypeId} {cs : Array Value} (h : Bk w g t cs) (hb : Below w.heap.size w w') : Bk w' g t cs := (hb.block g h.lt).trans h
theorem Bk.other {w : World} {g b k : Nat} {t : TypeId} {cs : Array Value} (h : Bk w g t cs) (hne : g ≠ b) (v : Value) : Bk (w.setCell ⟨b, k, none⟩ v) g t cs := by
  unfold Bk at h ⊢
  rw [← h]
  exact heap_setCell_other w ⟨b, k, none⟩ g v hne
theorem Bk.new (w : World) (t : TypeId) (cs : Array Value) {k : Nat} (h : k = w.heap.size) : Bk (w.alloc (.cells cs t)) k t cs := heap_new' _ _ _ h
theorem Bk.old {w : World} {g : Nat} {t : TypeId} {cs : Array Value} (h : Bk w g t cs) (o : Obj) : Bk (w.alloc o) g t cs := heap_old' h
theorem Bk.range {w : World} {g : Nat} {t : TypeId} {cs : Array Value} (h : Bk w g t cs) (o : Nat) (l : List Value) (hl : ∀ j v, l[j]? = some v → cs[o + j]? = some v) : w.rangeAt g o l := fun j v hv => h.cell (hl j v hv)
theorem Bk.whole {w : World} {g : Nat} {t : TypeId} {cs : Array Value} (h : Bk w g t cs) : w.rangeAt g 0 cs.toList := h.range 0 _ (fun j v hv => by rw [Nat.zero_add]; simpa using hv)
theorem Bk.setRow {w : World} {g : Nat} {t : TypeId} {cs : Array Value} (h : Bk w g t cs) (cs' : Array Value) : Bk (w.setRow g cs') g t cs' := setRow_heap _ _ _ _ _ _ h
theorem below_setRow' {B g : Nat} {w w' : World} {cs : Array Value} (h : Below B w w') (hg : B ≤ g) : Below B w (w'.setRow g cs) :=
  h.trans ⟨rfl, rfl, rfl, by simp, fun k hk => setRow_other _ _ _ _ (by omega)⟩
theorem below_setCells' {B g : Nat} {w w' : World} (h : Below B w w') (hg : B ≤ g) (o : Nat) (cs : List Value) : Below B w (w'.setCells g o cs) := by
  induction cs generalizing w' o with
  | nil => exact h
  | cons v r ih => exact ih (h.setCell (p := ⟨g, o, none⟩) hg v) (o + 1)
theorem range_keep' {w w' : World} {b o : Nat} {cs : List Value} (h : w.rangeAt b o cs) (hb : Below w.heap.size w w') : w'.rangeAt b o cs := fun j v hv =>
  (hb.cell (p := ⟨b, o + j, none⟩) (World.block_lt_of_cell? w _ (h j v hv))).trans (h j v hv)
theorem range_lt' {w : World} {b o : Nat} {v : Value} {cs : List Value} (h : w.rangeAt b o (v :: cs)) : b < w.heap.size := World.block_lt_of_cell? w _ (h 0 v rfl)
end Go.Proofs.YtcocfnjbgceidaaGreat
namespace Go.Proofs.YtcocfnjbgceidaaGreat
open Go.RowKit
/-- szFrame from any number on -/
theorem szFrame_at_small (s : Int) (A : Option Addr) (n c : Nat) (x : Int) (h0 : 0 ≤ x) (h1 : x ≤ 1048576) (hm : n ≤ maxLen) (hs : (n : Int) ≤ x) (w : World) :
    Calls Tryz.prog 10 #[.agg #[.int .i16 s, .slice A n c], .int .i64 x] w fun e w' => e = .returned (.int .i64 (x - n)) ∧ Below w.heap.size w w' := by
  have hb0 : Below w.heap.size w (w.alloc (.cells #[.int .i16 s, .slice A n c] 25)) := (Below.refl _ _).alloc (Nat.le_refl _) _
  have hlt : decide (x - (n : Int) < 0) = false := by simp; omega
  go_enter Tryz.func10, Tryz.ntmps10
  go_wp2_with (go_at_call 42; refine (szHammerS_small A n c x h0 h1 hm hs _).mono ?_; rintro e w' ⟨rfl, rfl⟩)
  go_ret
  exact ⟨rfl, hb0⟩
theorem szFrame_at_big (s : Int) (A : Option Addr) (n c : Nat) (x : Int) (h0 : 0 ≤ x) (h1 : x ≤ 1048576) (hm : n ≤ maxLen) (hs : x < (n : Int)) (w : World) :
    Calls Tryz.prog 10 #[.agg #[.int .i16 s, .slice A n c], .int .i64 x] w fun e w' => e = .returned (.int .i64 (-1)) ∧ Below w.heap.size w w' := by
  have hb0 : Below w.heap.size w (w.alloc (.cells #[.int .i16 s, .slice A n c] 25)) := (Below.refl _ _).alloc (Nat.le_refl _) _
  go_enter Tryz.func10, Tryz.ntmps10
  go_wp2_with (go_at_call 42; refine (szHammerS_big A n c x h0 h1 hm hs _).mono ?_; rintro e w' ⟨rfl, rfl⟩)
  go_ret
  exact ⟨rfl, hb0⟩
end Go.Proofs.YtcocfnjbgceidaaGreat
namespace Go.Proofs.YtcocfnjbgceidaaGreat
open Go.RowKit


/-- the set of the first k hammers' pitches, as the walk spells it -/
def belTo (l : List (Int × Int)) : Nat → Int
  | 0 => 0
  | k + 1 => bits .or .u64 (belTo l k) (IntKind.u64.wrap (2 ^ (hPi l k).toNat))
def belI (l : List (Int × Int)) : Int := belTo l l.length
theorem HG.at {s : Int} {l : List (Int × Int)} {n k : Nat} (h : HG s l n) (hk : k < n) : (0 ≤ hPi l k ∧ hPi l k ≤ 47) ∧ (1 ≤ hRe l k ∧ hRe l k ≤ 20 ∧ hRe l k ≤ s) := by
  have := h k hk
  simp only [hamB, inB, Bool.and_eq_true, decide_eq_true_eq] at this
  have hm : mnI s ≤ 20 ∧ mnI s ≤ s := by unfold mnI; split <;> omega
  omega

end Go.Proofs.YtcocfnjbgceidaaGreat
namespace Go.Proofs.YtcocfnjbgceidaaGreat
open Go.RowKit

/-- the tracks ahead of k whose hammer has a pitch -/
def trk (l : List (Int × Int)) (p : Int) (k : Nat) : List Nat := (List.range k).filter fun j => decide (hPi l j = p)
def tcells (ts : List Nat) : List Value := ts.map fun (j : Nat) => .int .i64 (j : Int)
theorem trk_len (l : List (Int × Int)) (p : Int) (k : Nat) : (trk l p k).length ≤ k := by simpa [trk] using List.length_filter_le (fun j => decide (hPi l j = p)) (List.range k)
theorem trk_yes {l : List (Int × Int)} {p : Int} {k : Nat} (h : hPi l k = p) : trk l p (k + 1) = trk l p k ++ [k] := by simp [trk, List.range_succ, List.filter_append, h]
theorem trk_no {l : List (Int × Int)} {p : Int} {k : Nat} (h : ¬ hPi l k = p) : trk l p (k + 1) = trk l p k := by simp [trk, List.range_succ, List.filter_append, h]
def hamN (l : List (Int × Int)) (p : Int) : Nat := (trk l p l.length).length

/-- a slice of the call's own comes back -/
def OwnL (w : World) (xs : List Nat) (e : Ending) (w' : World) : Prop := ∃ (A : Option Addr) (c : Nat), e = .returned (.slice A xs.length c) ∧ w'.ownsRow w.heap.size 2 1 (.slice A xs.length c) xs.length (tcells xs) ∧ Below w.heap.size w w'
theorem own_shape {w : World} {base n : Nat} {e : TypeId} {size : Nat} {v : Value} {xs : List Value} (h : w.ownsRow base e size v n xs) : ∃ A c, v = .slice A n c := by
  rcases h.2 with ⟨h1, h2⟩ | ⟨g, cap, cur, h1, _⟩
  · exact ⟨none, 0, by rw [h1, h2]⟩
  · exact ⟨_, _, h1⟩
/-- ErrInvalid, then ErrRange -/
def cod3 (a b : Bool) : Int := if a then (if b then 0 else 2) else 1
end Go.Proofs.YtcocfnjbgceidaaGreat
namespace Go.Proofs.YtcocfnjbgceidaaGreat
open Go.RowKit

/-- numbers as cells -/
def icells (zs : List Int) : List Value := zs.map fun z => .int .i64 z
def zAt (zs : List Int) (k : Nat) : Int := zs.getD k 0
theorem icells_length (zs : List Int) : (icells zs).length = zs.length := by simp [icells]
theorem icells_get (zs : List Int) (k : Nat) (h : k < zs.length) : (icells zs)[k]? = some (.int .i64 (zAt zs k)) := by simp [icells, zAt, h]
theorem icells_set (zs : List Int) (k : Nat) (z : Int) : (icells zs).set k (.int .i64 z) = icells (zs.set k z) := by simp [icells, List.map_set]
theorem tcells_icells (xs : List Nat) : tcells xs = icells (xs.map fun (x : Nat) => (x : Int)) := by simp [tcells, icells]
/-- a slice's address under which the numbers lie, in blocks below B -/
def SI (w : World) (B : Nat) (A : Option Addr) (zs : List Int) : Prop := ∀ k, k < zs.length → ∃ b, A = some ⟨b, 0, none⟩ ∧ b < B ∧ w.cell? ⟨b, k, none⟩ = some (.int .i64 (zAt zs k))
theorem SI.below {w w' : World} {B : Nat} {A : Option Addr} {zs : List Int} (h : SI w B A zs) (hb : Below B w w') : SI w' B A zs := fun k hk => by
  obtain ⟨b, h1, h2, h3⟩ := h k hk
  exact ⟨b, h1, h2, (hb.cell (p := ⟨b, k, none⟩) h2).trans h3⟩
theorem SI.up {w : World} {B B' : Nat} {A : Option Addr} {zs : List Int} (h : SI w B A zs) (hB : B ≤ B') : SI w B' A zs := fun k hk => by
  obtain ⟨b, h1, h2, h3⟩ := h k hk
  exact ⟨b, h1, by omega, h3⟩
theorem SI.of_own {w : World} {base : Nat} {A : Option Addr} {c : Nat} {zs : List Int} (h : w.ownsRow base 2 1 (.slice A zs.length c) zs.length (icells zs)) : SI w w.heap.size A zs := by
  intro k hk
  rcases h.2 with ⟨h', h0⟩ | ⟨g, cap, cur, h', hb, hg, _⟩
  · omega
  · simp only [Value.slice.injEq, true_and] at h'
    obtain ⟨rfl, rfl⟩ := h'
    refine ⟨g, rfl, (Array.getElem?_eq_some_iff.1 hg).1, ?_⟩
    rw [h.cellAt k (by omega), icells_get zs k hk]

set_option maxHeartbeats 1000000 in
theorem eqInt64S_any (A C : Option Addr) (c d : Nat) (zs : List Int) (B : Nat) (w : World) (hA : SI w B A zs) (hC : SI w B C zs) (hB : B ≤ w.heap.size) (hn : zs.length ≤ 1048576) :
    Calls Tryz.prog 52 #[.slice A zs.length c, .slice C zs.length d] w (Says true w) := by
  have H1 : ((zs.length : Int) != (zs.length : Int)) = false := by simp
  have H2 : (zs.length != zs.length) = false := by simp
  go_enter Tryz.func52, Tryz.ntmps52
  go_wp2_with fail
  go_loopw [5] (fun i wr => ∃ k : Nat, k ≤ zs.length ∧ i = .int .i64 k ∧ Below w.heap.size w wr)
    (fun i _ => zs.length - (intOf i).toNat)
  case atStart => exact ⟨0, Nat.zero_le _, rfl, Below.refl _ _⟩
  case round =>
    obtain ⟨k, hk, rfl, hb⟩ := hrel
    by_cases hlt : k < zs.length
    · obtain ⟨b, rfl, hb1, c1⟩ := hA k hlt
      obtain ⟨b', rfl, hb2, c2⟩ := hC k hlt
      have d1 := Later.cell ((hb.cell (p := ⟨b, k, none⟩) (by dsimp only; omega)).trans c1)
      have d2 := Later.cell ((hb.cell (p := ⟨b', k, none⟩) (by dsimp only; omega)).trans c2)
      have hne : (zAt zs k != zAt zs k) = false := by simp
      have hsz := hb.size
      clear c1 c2 hA hC
      go_wp2_with fail
      refine wp_region_later (by kernel_rfl) (by kernel_rfl) ?_
      repeat (go_big_quiet_step (fail))
      refine wpQuiet_nil ?_
      rintro wz ⟨⟨_, hq⟩, rfl⟩
      go_wp2
      go_roundw
      case rel => exact ⟨k + 1, hlt, by go_num, hb.trans (hq.mono hsz)⟩
      case measure => simp [intOf]; omega
    · obtain rfl : k = zs.length := by omega
      go_wp2
      go_ret
      exact ⟨rfl, hb⟩

/-- the marks: the first k of them, then what was there -/
def mkTo (zs : List Int) (k : Nat) : List Int := (List.range k).map (fun (j : Nat) => (j : Int) + 1) ++ zs.drop k
theorem mkTo_length (zs : List Int) (k : Nat) (h : k ≤ zs.length) : (mkTo zs k).length = zs.length := by simp [mkTo]; omega
theorem mkTo_zero (zs : List Int) : mkTo zs 0 = zs := by simp [mkTo]
theorem mkTo_set (zs : List Int) (k : Nat) (h : k < zs.length) : (mkTo zs k).set k ((k : Int) + 1) = mkTo zs (k + 1) := by
  unfold mkTo
  rw [List.set_append_right _ _ (by simp), List.range_succ, List.map_append, List.length_map, List.length_range, Nat.sub_self, List.drop_eq_getElem_cons h, List.set_cons_zero, List.append_assoc]
  rfl
def mks (n : Nat) : List Int := (List.range n).map (fun (j : Nat) => (j : Int) + 1)
theorem mkTo_all (zs : List Int) : mkTo zs zs.length = mks zs.length := by simp [mkTo, mks]
theorem mks_length (n : Nat) : (mks n).length = n := by simp [mks]
theorem mks_at (n k : Nat) (h : k < n) : zAt (mks n) k = (k : Int) + 1 := by simp [mks, zAt, h]

set_option maxHeartbeats 1000000 in
theorem markInt64S_any (A : Option Addr) (c : Nat) (zs : List Int) (base : Nat) (w : World) (h : w.ownsRow base 2 1 (.slice A zs.length c) zs.length (icells zs)) (hn : zs.length ≤ 1048576) (hbase : base ≤ w.heap.size) :
    Calls Tryz.prog 56 #[.slice A zs.length c, .int .i64 1] w fun e w' => e = .returned (.int .i64 ((zs.length : Int) + 1)) ∧ w'.ownsRow base 2 1 (.slice A zs.length c) zs.length (icells (mks zs.length)) ∧ Below base w w' := by
  go_enter Tryz.func56, Tryz.ntmps56
  go_wp2_with fail
  go_loopw [1, 5] (fun m i wr => ∃ k : Nat, k ≤ zs.length ∧ i = .int .i64 k ∧ m = .int .i64 ((k : Int) + 1) ∧ wr.ownsRow base 2 1 (.slice A zs.length c) zs.length (icells (mkTo zs k)) ∧ Below base w wr)
    (fun _ i _ => zs.length - (intOf i).toNat)
  case atStart => exact ⟨0, Nat.zero_le _, rfl, rfl, by rw [mkTo_zero]; exact h, Below.refl _ _⟩
  case round =>
    obtain ⟨k, hk, rfl, rfl, hown, hb⟩ := hrel
    by_cases hlt : k < zs.length
    · rcases hown.2 with ⟨h', h0⟩ | ⟨g, cap, cur, h', hgb, hg, _⟩
      · omega
      · simp only [Value.slice.injEq, true_and] at h'
        obtain ⟨rfl, rfl⟩ := h'
        have f1 := (hown.cellAt k (by omega)).trans (icells_get _ k (by rw [mkTo_length _ _ hk]; exact hlt))
        have f2 := hown.frozenAt k
        clear hg h
        go_wp2
        go_roundw
        case rel => exact ⟨k + 1, hlt, by go_num, by go_num, by rw [← mkTo_set zs k hlt, ← icells_set]; exact (hown.stored k _).1, hb.setCell (p := ⟨g, _, none⟩) hgb _⟩
        case measure => simp [intOf]; omega
    · obtain rfl : k = zs.length := by omega
      go_wp2
      go_ret
      exact ⟨rfl, by rw [mkTo_all] at hown; exact hown, hb⟩

theorem heldInt64S_any (A : Option Addr) (c n : Nat) (B : Nat) (w : World) (hA : SI w B A (mks n)) (hn : n ≤ 1048576) :
    Calls Tryz.prog 58 #[.slice A n c, .int .i64 1] w fun e w' => e = .returned (.int .i64 ((n : Int) + 1)) ∧ w = w' := by
  go_enter Tryz.func58, Tryz.ntmps58
  go_wp2_with fail
  go_loop [1, 5] (fun m i => ∃ k : Nat, k ≤ n ∧ i = .int .i64 k ∧ m = .int .i64 ((k : Int) + 1))
    (fun _ i => n - (intOf i).toNat)
  case atStart => exact ⟨0, Nat.zero_le _, rfl, rfl⟩
  case round =>
    obtain ⟨k, hk, rfl, rfl⟩ := hrel
    by_cases hlt : k < n
    · obtain ⟨b, rfl, hb1, c1⟩ := hA k (by rw [mks_length]; exact hlt)
      rw [mks_at n k hlt] at c1
      have hne : (((k : Int) + 1) != ((k : Int) + 1)) = false := by simp
      go_wp2
      go_round
      case rel => exact ⟨k + 1, hlt, by go_num, by go_num⟩
      case measure => simp [intOf]; omega
    · obtain rfl : k = n := by omega
      go_wp2
      go_ret
      exact ⟨rfl, rfl⟩
end Go.Proofs.YtcocfnjbgceidaaGreat
