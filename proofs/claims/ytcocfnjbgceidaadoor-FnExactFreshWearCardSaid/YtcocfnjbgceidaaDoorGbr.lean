import Derived.Test.YtcocfnjbgceidaaDoorGbl
import Derived.Test.YtcocfnjbgceidaaDoorGbe
namespace Go.Proofs.YtcocfnjbgceidaaDoor
open Go.RowKit Go.Maps
/-- blocks of their own that are kept, a family of them -/
def Bkf (w : World) (g : Nat → Nat) (t : Nat → TypeId) (cs : Nat → Array Value) : Prop := ∀ i, Bk w (g i) (t i) (cs i)
theorem Bkf.keep {w w' : World} {g : Nat → Nat} {t : Nat → TypeId} {cs : Nat → Array Value} (h : Bkf w g t cs) (hb : Below w.heap.size w w') : Bkf w' g t cs := fun i => (h i).keep hb
theorem Bkf.kept {w w' : World} {g : Nat → Nat} {t : Nat → TypeId} {cs : Nat → Array Value} {b : Nat} (h : Bkf w g t cs) (hg : w.grownBy w' (some b)) (hne : ∀ i, g i ≠ b) : Bkf w' g t cs := fun i => (hg.block (g i) (h i).lt (fun e => hne i (Option.some.inj e))).trans (h i)
theorem Bkf.grown {w w' : World} {g : Nat → Nat} {t : Nat → TypeId} {cs : Nat → Array Value} {row : Option Nat} (h : Bkf w g t cs) (hg : w.grownBy w' row) (hne : ∀ i, row ≠ some (g i)) : Bkf w' g t cs := fun i => (h i).grown hg (hne i)
theorem Bkf.other {w : World} {g : Nat → Nat} {b k : Nat} {t : Nat → TypeId} {cs : Nat → Array Value} (h : Bkf w g t cs) (hne : ∀ i, g i ≠ b) (v : Value) : Bkf (w.setCell ⟨b, k, none⟩ v) g t cs := fun i => (h i).other (hne i) v
theorem Bk.fam {w : World} {g : Nat} {t : TypeId} {cs : Array Value} (h : Bk w g t cs) : Bkf w (fun _ => g) (fun _ => t) (fun _ => cs) := fun _ => h
/-- two blocks as a family -/
def two2 {α : Type} (a b : α) : Nat → α
  | 0 => a
  | _ + 1 => b
theorem Bk.pair {w : World} {g g' : Nat} {t t' : TypeId} {cs cs' : Array Value} (h : Bk w g t cs) (h' : Bk w g' t' cs') : Bkf w (two2 g g') (two2 t t') (two2 cs cs') := fun i => by
  cases i with
  | zero => exact h
  | succ i => exact h'
/-- three blocks as a family -/
def three3 {α : Type} (a b c : α) : Nat → α
  | 0 => a
  | 1 => b
  | _ + 2 => c
theorem Bk.triple {w : World} {g g' g3 : Nat} {t t' t3 : TypeId} {cs cs' cs3 : Array Value} (h : Bk w g t cs) (h' : Bk w g' t' cs') (h3 : Bk w g3 t3 cs3) : Bkf w (three3 g g' g3) (three3 t t' t3) (three3 cs cs' cs3) := fun i => by
  match i with
  | 0 => exact h
  | 1 => exact h'
  | i + 2 => exact h3
end Go.Proofs.YtcocfnjbgceidaaDoor
namespace Go.Proofs.YtcocfnjbgceidaaDoor
open Go.RowKit Go.Maps
theorem map_setCell {w : World} {M g o n : Nat} {D : DataW Unit} {k : TypeId} {R : Value → Option (DataW Unit × List MemPlace)} (h : w.ownsMap Tryd.prog k R M n D) (hne : g ≠ M) (u : Value) : (w.setCell ⟨g, o, none⟩ u).ownsMap Tryd.prog k R M n D := by
  obtain ⟨es, clock, h1, h2⟩ := h
  exact ⟨es, clock, (heap_setCell_other w ⟨g, o, none⟩ M u (fun e => hne e.symm)).trans h1, h2⟩
/-- a hammer made new: the strokes that come of it -/
def rnZ (n : Nat) (z : List Int) (x : Int) : List Int := if inB x 0 ((n : Int) - 1) then z.set x.toNat 0 else z
def rnC (n : Nat) (x : Int) : Int := if inB x 0 ((n : Int) - 1) then 0 else 2
end Go.Proofs.YtcocfnjbgceidaaDoor
namespace Go.Proofs.YtcocfnjbgceidaaDoor
open Go.RowKit Go.Maps
/-- what a hammer's act leaves -/
def DoW (base : Nat) (C : Option Addr) (n q M m : Nat) (z : List Int) (D : DataW Unit) (c : Int) (g2 : Nat) (t2 : TypeId) (cs2 : Array Value) (w : World) (e : Ending) (w' : World) : Prop := e = .returned (.int .i64 c) ∧ w'.ownsRow base 2 1 (.slice C n q) n (icells z) ∧ w'.ownsMap Tryd.prog 68 (plainElem (H := Unit) Tryd.prog 2) M m D ∧ Bk w' g2 t2 cs2 ∧ Below base w w'
end Go.Proofs.YtcocfnjbgceidaaDoor
namespace Go.Proofs.YtcocfnjbgceidaaDoor
open Go.RowKit Go.Maps
def nhC (s : Int) (h : List (Int × Int)) (l : List (Int × Int × Int)) (z : List Int) (x : Int) : Int := if weB s h l z then rnC h.length x else 1
def nhT (s : Int) (h : List (Int × Int)) (l : List (Int × Int × Int)) (z : List Int) (x : Int) : List (Int × Int × Int) := if nhC s h l z x = 0 then l else []
def nhZ (s : Int) (h : List (Int × Int)) (l : List (Int × Int × Int)) (z : List Int) (x : Int) : List Int := if nhC s h l z x = 0 then z.set x.toNat 0 else []
end Go.Proofs.YtcocfnjbgceidaaDoor
namespace Go.Proofs.YtcocfnjbgceidaaDoor
open Go.RowKit Go.Maps
end Go.Proofs.YtcocfnjbgceidaaDoor
namespace Go.Proofs.YtcocfnjbgceidaaDoor
open Go.RowKit Go.Maps
theorem wnA_none {w : World} {l : List (Int × Int × Int)} (h : WnA w none l) : l = [] := by
  rcases Nat.eq_zero_or_pos l.length with e | e
  · exact List.length_eq_zero_iff.1 e
  · obtain ⟨b, o, h1, _⟩ := h 0 e
    cases h1
theorem WnA.cells {w : World} {ad : Addr} {l : List (Int × Int × Int)} (h : WnA w (some ad) l) : ∀ j u, (wnC l)[j]? = some u → w.cell? (ad.add j) = some u := by
  intro j u hu
  have hj : j < (wnC l).length := (List.getElem?_eq_some_iff.1 hu).1
  rw [wnC_length] at hj
  obtain ⟨b, o, e, _, c1, c2, c3⟩ := h (j / 3) (by omega)
  obtain ⟨v1, v2, v3⟩ := wnC_at l (j / 3) (by omega)
  obtain rfl : ad = ⟨b, o, none⟩ := Option.some.inj e
  rw [Addr.add_lit]
  have hm : j % 3 = 0 ∨ j % 3 = 1 ∨ j % 3 = 2 := by omega
  rcases hm with h0 | h0 | h0
  · have e0 : j / 3 * 3 = j := by omega
    rw [e0] at c1 v1
    rw [c1, ← hu, v1]
  · have e0 : j / 3 * 3 + 1 = j := by omega
    have e1 : o + j / 3 * 3 + 1 = o + j := by omega
    rw [e0] at v2
    rw [e1] at c2
    rw [c2, ← hu, v2]
  · have e0 : j / 3 * 3 + 2 = j := by omega
    have e1 : o + j / 3 * 3 + 2 = o + j := by omega
    rw [e0] at v3
    rw [e1] at c3
    rw [c3, ← hu, v3]
theorem wnC_one (l : List (Int × Int × Int)) : ∀ u ∈ wnC l, u.oneCell' = true := by
  intro u hu
  simp only [wnC, List.mem_flatMap] at hu
  obtain ⟨n, _, hu⟩ := hu
  simp at hu
  rcases hu with rfl | rfl | rfl <;> rfl
/-- append of worn pins that lie somewhere to a row of the call's own -/
theorem run_append_wn (w : World) (t : TypeId) (ht : Tryd.prog.underlying t = some (.slice 53)) (base : Nat) (i0 : TypeInfo) (hi : Tryd.prog.info? 53 = some i0)
    (hz0 : i0.zero = some (.agg #[.int .i8 0, .int .i8 0, .int .i64 0])) (hz1 : i0.size = 3) (hz2 : i0.bytes = 16) (v : Value) (n : Nat) (xs : List Value) (hown : w.ownsRow base 53 3 v n xs) (A : Option Addr) (c : Nat) (l : List (Int × Int × Int)) (hA : WnA w A l)
    (hn : n ≤ 4194304) (hl : l.length ≤ 4194304) (hb : base ≤ w.heap.size) :
    ∃ A' c' w', (∀ ty, (Builtin.append_ #[t, t] ty #[v, .slice A l.length c]).run Tryd.prog w = .ok (.slice A' (n + l.length) c') w') ∧ w'.ownsRow base 53 3 (.slice A' (n + l.length) c') (n + l.length) (xs ++ wnC l) ∧ w.grownBy w' v.ownBlock := by
  obtain ⟨Av, cv, rfl⟩ := own_shapeZ hown
  cases A with
  | none =>
    obtain rfl := wnA_none hA
    refine ⟨Av, cv, w, fun ty => ?_, ?_, ?_⟩
    · exact run_append_none w t ty _ i0 ht hi base 3 n _ c xs _ hown rfl
    · simpa [wnC_nil] using hown
    · exact ⟨rfl, rfl, rfl, Nat.le_refl _, fun _ _ _ => rfl⟩
  | some ad =>
    have key : ∀ ty, ∃ v' w', (Builtin.append_ #[t, t] ty #[.slice Av n cv, .slice (some ad) l.length c]).run Tryd.prog w = .ok v' w' ∧ w'.ownsRow base 53 3 v' (n + l.length) (xs ++ wnC l) ∧ w.grownBy w' (Value.slice Av n cv).ownBlock ∧ (v' = .slice none 0 0 ↔ Value.slice Av n cv = .slice none 0 0 ∧ l.length = 0) := fun ty =>
      run_append_own w base t ty 53 i0 (.agg #[.int .i8 0, .int .i8 0, .int .i64 0]) 3 16 ht hi hz0 hz1 hz2 rfl (by decide) _ n xs hown ad l.length c (wnC l) (wnC_length l) (WnA.cells hA) (wnC_one l) (by unfold maxLen; omega) (by omega) hb
    obtain ⟨v', w', hr, h2, h3, _⟩ := key 0
    obtain ⟨A', c', rfl⟩ := own_shapeZ h2
    exact ⟨A', c', w', fun ty => hr, h2, h3⟩
/-- the like for numbers, of a slice that may be nil -/
theorem run_append_zn (w : World) (t : TypeId) (ht : Tryd.prog.underlying t = some (.slice 2)) (base : Nat) (i0 : TypeInfo) (hi : Tryd.prog.info? 2 = some i0)
    (hz0 : i0.zero = some (.int .i64 0)) (hz1 : i0.size = 1) (hz2 : i0.bytes = 8) (v : Value) (n : Nat) (xs : List Value) (hown : w.ownsRow base 2 1 v n xs) (A : Option Addr) (c : Nat) (l : List Int) (hA : SZ w A l)
    (hn : n ≤ 4194304) (hl : l.length ≤ 4194304) (hb : base ≤ w.heap.size) :
    ∃ A' c' w', (∀ ty, (Builtin.append_ #[t, t] ty #[v, .slice A l.length c]).run Tryd.prog w = .ok (.slice A' (n + l.length) c') w') ∧ w'.ownsRow base 2 1 (.slice A' (n + l.length) c') (n + l.length) (xs ++ icells l) ∧ w.grownBy w' v.ownBlock := by
  cases A with
  | none =>
    obtain ⟨Av, cv, rfl⟩ := own_shapeZ hown
    obtain rfl := SZ.none hA
    refine ⟨Av, cv, w, fun ty => ?_, ?_, ?_⟩
    · exact run_append_none w t ty _ i0 ht hi base 1 n _ c xs _ hown rfl
    · simpa [icells] using hown
    · exact ⟨rfl, rfl, rfl, Nat.le_refl _, fun _ _ _ => rfl⟩
  | some ad => exact run_append_z w t ht base i0 hi hz0 hz1 hz2 v n xs hown ad c l hA hn hl hb
end Go.Proofs.YtcocfnjbgceidaaDoor
namespace Go.Proofs.YtcocfnjbgceidaaDoor
open Go.RowKit Go.Maps
theorem own_apart {w : World} {base n m : Nat} {e f : TypeId} {size size' : Nat} {v u : Value} {xs ys : List Value} (h : w.ownsRow base e size v n xs) (h' : w.ownsRow base f size' u m ys) (hne : e ≠ f) : v.ownBlock = none ∨ v.ownBlock ≠ u.ownBlock := by
  rcases h.2 with ⟨rfl, _⟩ | ⟨g, cap, cur, rfl, _, hg, _⟩
  · exact Or.inl rfl
  · right
    rcases h'.2 with ⟨rfl, _⟩ | ⟨g', cap', cur', rfl, _, hg', _⟩
    · simp [Value.ownBlock]
    · intro e1
      have e2 : g = g' := by simpa [Value.ownBlock] using e1
      subst e2
      rw [hg] at hg'
      simp at hg'
      exact hne hg'.2
end Go.Proofs.YtcocfnjbgceidaaDoor
