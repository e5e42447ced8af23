import Derived.Test.YtcocfnjbgceidaaGav
import Derived.Test.YtcocfnjbgceidaaGak
namespace Go.Proofs.Ytcocfnjbgceidaa
open Go.RowKit Go.Maps
/-- blocks of their own that are kept, a family of them -/
def Bkf (w : World) (g : Nat → Nat) (t : Nat → TypeId) (cs : Nat → Array Value) : Prop := ∀ i, Bk w (g i) (t i) (cs i)
theorem Bkf.keep {w w' : World} {g : Nat → Nat} {t : Nat → TypeId} {cs : Nat → Array Value} (h : Bkf w g t cs) (hb : Below w.heap.size w w') : Bkf w' g t cs := fun i => (h i).keep hb
theorem Bkf.kept {w w' : World} {g : Nat → Nat} {t : Nat → TypeId} {cs : Nat → Array Value} {b : Nat} (h : Bkf w g t cs) (hg : w.grownBy w' (some b)) (hne : ∀ i, g i ≠ b) : Bkf w' g t cs := fun i => (hg.block (g i) (h i).lt (fun e => hne i (Option.some.inj e))).trans (h i)
theorem Bkf.grown {w w' : World} {g : Nat → Nat} {t : Nat → TypeId} {cs : Nat → Array Value} {row : Option Nat} (h : Bkf w g t cs) (hg : w.grownBy w' row) (hne : ∀ i, row ≠ some (g i)) : Bkf w' g t cs := fun i => (h i).grown hg (hne i)
theorem Bkf.other {w : World} {g : Nat → Nat} {b k : Nat} {t : Nat → TypeId} {cs : Nat → Array Value} (h : Bkf w g t cs) (hne : ∀ i, g i ≠ b) (v : Value) : Bkf (w.setCell ⟨b, k, none⟩ v) g t cs := fun i => (h i).other (hne i) v
theorem Bk.fam {w : World} {g : Nat} {t : TypeId} {cs : Array Value} (h : Bk w g t cs) : Bkf w (fun _ => g) (fun _ => t) (fun _ => cs) := fun _ => h
/-- two blocks as a family -/
def two2 {α : Type} (a b : α) : Nat → α
  | 0 => a
  | _ + 1 => b
theorem Bk.pair {w : World} {g g' : Nat} {t t' : TypeId} {cs cs' : Array Value} (h : Bk w g t cs) (h' : Bk w g' t' cs') : Bkf w (two2 g g') (two2 t t') (two2 cs cs') := fun i => by
  cases i with
  | zero => exact h
  | succ i => exact h'
/-- three blocks as a family -/
def three3 {α : Type} (a b c : α) : Nat → α
  | 0 => a
  | 1 => b
  | _ + 2 => c
theorem Bk.triple {w : World} {g g' g3 : Nat} {t t' t3 : TypeId} {cs cs' cs3 : Array Value} (h : Bk w g t cs) (h' : Bk w g' t' cs') (h3 : Bk w g3 t3 cs3) : Bkf w (three3 g g' g3) (three3 t t' t3) (three3 cs cs' cs3) := fun i => by
  match i with
  | 0 => exact h
  | 1 => exact h'
  | i + 2 => exact h3
end Go.Proofs.Ytcocfnjbgceidaa
namespace Go.Proofs.Ytcocfnjbgceidaa
open Go.RowKit Go.Maps
theorem map_setCell {w : World} {M g o n : Nat} {D : DataW Unit} {k : TypeId} {R : Value → Option (DataW Unit × List MemPlace)} (h : w.ownsMap Try.prog k R M n D) (hne : g ≠ M) (u : Value) : (w.setCell ⟨g, o, none⟩ u).ownsMap Try.prog k R M n D := by
  obtain ⟨es, clock, h1, h2⟩ := h
  exact ⟨es, clock, (heap_setCell_other w ⟨g, o, none⟩ M u (fun e => hne e.symm)).trans h1, h2⟩
/-- a hammer made new: the strokes that come of it -/
def rnZ (n : Nat) (z : List Int) (x : Int) : List Int := if inB x 0 ((n : Int) - 1) then z.set x.toNat 0 else z
def rnC (n : Nat) (x : Int) : Int := if inB x 0 ((n : Int) - 1) then 0 else 2
set_option maxRecDepth 20000 in
set_option maxHeartbeats 4000000 in
theorem renewing_any (s x : Int) (A : Option Addr) (n c M q base : Nat) (C : Option Addr) (z : List Int) (m : Nat) (D : DataW Unit) (w : World) (hn : n ≤ 1048576) (hzn : z.length = n) (hown : w.ownsRow base 2 1 (.slice C z.length q) z.length (icells z)) (hbase : base ≤ w.heap.size)
    (hM : w.ownsMap Try.prog 175 (plainElem (H := Unit) Try.prog 2) M m D) (hne : ∀ g, C = some ⟨g, 0, none⟩ → g ≠ M) (g2 : Nat → Nat) (t2 : Nat → TypeId) (cs2 : Nat → Array Value) (hB : Bkf w g2 t2 cs2) (ht2 : ∀ i, t2 i ≠ 2) :
    Calls Try.prog 233 #[.agg #[.int .i64 x], .agg #[.int .i64 s, .slice A n c, .map (some M), .slice C z.length q]] w fun e w' => e = .returned (.int .i64 (rnC n x)) ∧ w'.ownsRow base 2 1 (.slice C z.length q) z.length (icells (rnZ n z x)) ∧ w'.ownsMap Try.prog 175 (plainElem (H := Unit) Try.prog 2) M m D ∧ Bkf w' g2 t2 cs2 ∧ Below base w w' := by
  subst hzn
  obtain ⟨X, hX⟩ : ∃ X, X = (w.alloc (.cells #[.int .i64 x] 255)).alloc (.cells #[.int .i64 s, .slice A z.length c, .map (some M), .slice C z.length q] 125) := ⟨_, rfl⟩
  have bX : Below w.heap.size w X := by rw [hX]; exact ((Below.refl _ _).alloc (Nat.le_refl _) _).alloc (by simp) _
  have R0 : Bk X w.heap.size 255 #[.int .i64 x] := by rw [hX]; exact (Bk.new _ _ _ rfl).old _
  have W0 : Bk X (w.heap.size + 1) 125 #[.int .i64 s, .slice A z.length c, .map (some M), .slice C z.length q] := by rw [hX]; exact Bk.new _ _ _ (by simp)

  have own0 := own_keep hown bX
  have map0 := map_keep hM bX
  have B0 := hB.keep bX
  have hg0 := own0.lt
  go_enter Try.func233, Try.ntmps233
  go_upto_region 1 with fail
  rw [← hX]
  clear hX
  have c0 := R0.cell (i := 0) rfl
  have c1 := W0.cell (i := 0) rfl
  have c2 := W0.cell (i := 1) rfl
  go_wp2_with fail
  clear c1 c2
  refine (hasTrack_any s x A z.length c _ hn).mono ?_
  rintro e w2 ⟨rfl, hb2⟩
  have b2 := step_below hb2 bX
  have R2 := R0.keep hb2
  have W2 := W0.keep hb2
  have own2 := own_keep own0 hb2
  have map2 := map_keep map0 hb2
  have B2 := B0.keep hb2
  have hnB := fun i => own_neW own2 (B2 i) (ht2 i)
  clear c0
  cases hin : inB x 0 ((z.length : Int) - 1)
  · have HC := hide (show rnC z.length x = 2 by simp [rnC, hin])
    have HZ := hide (show rnZ z.length z x = z by simp [rnZ, hin])
    clear hin
    go_wp2
    go_ret
    exact ⟨by rw [HC.out]; rfl, by rw [HZ.out]; exact own2, map2, B2, b2.mono hbase⟩
  · have HC := hide (show rnC z.length x = 0 by simp [rnC, hin])
    obtain ⟨k, rfl⟩ : ∃ k : Nat, x = (k : Int) := ⟨x.toNat, by simp [inB] at hin; omega⟩
    have hk : k < z.length := by simp [inB] at hin; omega
    have HZ := hide (show rnZ z.length z (k : Int) = z.set k 0 by simp [rnZ, hin])
    clear hin
    obtain ⟨g, rfl⟩ : ∃ g, C = some ⟨g, 0, none⟩ := by
      rcases own2.2 with ⟨h', h0⟩ | ⟨g', cap, cur, h', hgb, _⟩
      · omega
      · simp at h'
        exact ⟨g', h'.1⟩
    have hgM := hne g rfl
    have hgb := (own2.lt g rfl).1
    have c0 := R2.cell (i := 0) rfl
    have c3 := W2.cell (i := 3) rfl
    have ck := (own2.cellAt k (by omega)).trans (icells_get z k hk)
    have fk := own2.frozenAt k
    have hki : (k : Int) < (z.length : Int) := by omega
    have own3 := (own2.stored k (.int .i64 0)).1
    have map3 := map_setCell (o := k) map2 hgM (.int .i64 0)
    have b3 := (b2.mono hbase).setCell (p := ⟨g, k, none⟩) hgb (.int .i64 0)
    rw [icells_set] at own3
    have B3 := B2.other (b := g) (k := k) (fun i e => hnB i (by rw [e]; rfl)) (.int .i64 0)
    have HO := hide own3
    have HB := hide B3
    clear B3
    have HM := hide map3
    clear own3 map3
    go_wp2
    go_ret
    exact ⟨by rw [HC.out]; rfl, by rw [HZ.out]; exact HO.out, HM.out, HB.out, b3⟩
end Go.Proofs.Ytcocfnjbgceidaa
namespace Go.Proofs.Ytcocfnjbgceidaa
open Go.RowKit Go.Maps
set_option maxRecDepth 20000 in
set_option maxHeartbeats 4000000 in
theorem deedHammer_any (x : Int) (w : World) :
    Calls Try.prog 144 #[.agg #[.int .i8 1, .int .i64 x, .int .i64 0, .int .i64 0, .int .i64 0]] w fun e w' => e = .returned (.iface 255 (.agg #[.int .i64 x])) ∧ Below w.heap.size w w' := by
  have hb0 : Below w.heap.size w (w.alloc (.cells #[.int .i8 1, .int .i64 x, .int .i64 0, .int .i64 0, .int .i64 0] 115)) := (Below.refl _ _).alloc (Nat.le_refl _) _
  go_enter Try.func144, Try.ntmps144
  go_wp2
  go_ret
  exact ⟨rfl, hb0⟩
/-- what a hammer's act leaves -/
def DoW (base : Nat) (C : Option Addr) (n q M m : Nat) (z : List Int) (D : DataW Unit) (c : Int) (g2 : Nat) (t2 : TypeId) (cs2 : Array Value) (w : World) (e : Ending) (w' : World) : Prop := e = .returned (.int .i64 c) ∧ w'.ownsRow base 2 1 (.slice C n q) n (icells z) ∧ w'.ownsMap Try.prog 175 (plainElem (H := Unit) Try.prog 2) M m D ∧ Bk w' g2 t2 cs2 ∧ Below base w w'
set_option maxRecDepth 20000 in
set_option maxHeartbeats 4000000 in
theorem doHammer_any (s x : Int) (A : Option Addr) (n c M q base : Nat) (C : Option Addr) (z : List Int) (m : Nat) (D : DataW Unit) (w : World) (hn : n ≤ 1048576) (hzn : z.length = n) (hown : w.ownsRow base 2 1 (.slice C z.length q) z.length (icells z)) (hbase : base ≤ w.heap.size)
    (hM : w.ownsMap Try.prog 175 (plainElem (H := Unit) Try.prog 2) M m D) (hne : ∀ g, C = some ⟨g, 0, none⟩ → g ≠ M) (g2 : Nat) (t2 : TypeId) (cs2 : Array Value) (hB : Bk w g2 t2 cs2) (ht2 : t2 ≠ 2) :
    Calls Try.prog 105 #[.agg #[.int .i64 s, .slice A n c, .map (some M), .slice C z.length q], .agg #[.int .i8 1, .int .i64 x, .int .i64 0, .int .i64 0, .int .i64 0]] w (DoW base C z.length q M m (rnZ n z x) D (rnC n x) g2 t2 cs2 w) := by
  obtain ⟨X, hX⟩ : ∃ X, X = (w.alloc (.cells #[.int .i64 s, .slice A n c, .map (some M), .slice C z.length q] 125)).alloc (.cells #[.int .i8 1, .int .i64 x, .int .i64 0, .int .i64 0, .int .i64 0] 115) := ⟨_, rfl⟩
  have bX : Below w.heap.size w X := by rw [hX]; exact ((Below.refl _ _).alloc (Nat.le_refl _) _).alloc (by simp) _
  have W0 : Bk X w.heap.size 125 #[.int .i64 s, .slice A n c, .map (some M), .slice C z.length q] := by rw [hX]; exact (Bk.new _ _ _ rfl).old _
  have A0 : Bk X (w.heap.size + 1) 115 #[.int .i8 1, .int .i64 x, .int .i64 0, .int .i64 0, .int .i64 0] := by rw [hX]; exact Bk.new _ _ _ (by simp)
  have own0 := own_keep hown bX
  have map0 := map_keep hM bX
  have HZN := hide hzn
  clear hzn
  obtain ⟨zn, hzn⟩ : ∃ k, k = z.length := ⟨_, rfl⟩
  go_enter Try.func105, Try.ntmps105
  go_upto_region 1 with fail
  rw [← hX]
  clear hX hzn
  have c0 := A0.cell (i := 0) rfl
  have c1 := A0.cell (i := 1) rfl
  have c2 := A0.cell (i := 2) rfl
  have c3 := A0.cell (i := 3) rfl
  have c4 := A0.cell (i := 4) rfl
  go_wp2_with fail
  clear c0 c1 c2 c3 c4
  refine (deedHammer_any x _).mono ?_
  rintro e w2 ⟨rfl, hb2⟩
  have b2 := step_below hb2 bX
  have W2 := W0.keep hb2
  have own2 := own_keep own0 hb2
  have map2 := map_keep map0 hb2
  have c0 := W2.cell (i := 0) rfl
  have c1 := W2.cell (i := 1) rfl
  have c2 := W2.cell (i := 2) rfl
  have c3 := W2.cell (i := 3) rfl
  have KR := renewing_any s x A n c M q base C z m D w2 hn HZN.out own2 (Nat.le_trans hbase b2.size) map2 hne _ _ _ ((hB.keep bX).keep hb2).fam (fun _ => ht2)
  have hm : ∀ (k : Nat) W, (method (k + 1) 255 (.agg #[.int .i64 x]) "loop.example/g01311/impl.on").run Try.prog W = .ok (233, .agg #[.int .i64 x]) W := fun k W => rfl
  go_wp2_with fail
  refine KR.mono ?_
  rintro e w3 ⟨rfl, own3, map3, B3, hb3⟩
  go_wp2
  go_ret
  exact ⟨rfl, own3, map3, B3 0, (b2.mono hbase).trans hb3⟩
end Go.Proofs.Ytcocfnjbgceidaa
namespace Go.Proofs.Ytcocfnjbgceidaa
open Go.RowKit Go.Maps
def nhC (s : Int) (h : List (Int × Int)) (l : List (Int × Int × Int)) (z : List Int) (x : Int) : Int := if weB s h l z then rnC h.length x else 1
def nhT (s : Int) (h : List (Int × Int)) (l : List (Int × Int × Int)) (z : List Int) (x : Int) : List (Int × Int × Int) := if nhC s h l z x = 0 then l else []
def nhZ (s : Int) (h : List (Int × Int)) (l : List (Int × Int × Int)) (z : List Int) (x : Int) : List Int := if nhC s h l z x = 0 then z.set x.toNat 0 else []
end Go.Proofs.Ytcocfnjbgceidaa
namespace Go.Proofs.Ytcocfnjbgceidaa
open Go.RowKit Go.Maps
end Go.Proofs.Ytcocfnjbgceidaa
namespace Go.Proofs.Ytcocfnjbgceidaa
open Go.RowKit Go.Maps
theorem wnA_none {w : World} {l : List (Int × Int × Int)} (h : WnA w none l) : l = [] := by
  rcases Nat.eq_zero_or_pos l.length with e | e
  · exact List.length_eq_zero_iff.1 e
  · obtain ⟨b, o, h1, _⟩ := h 0 e
    cases h1
theorem WnA.cells {w : World} {ad : Addr} {l : List (Int × Int × Int)} (h : WnA w (some ad) l) : ∀ j u, (wnC l)[j]? = some u → w.cell? (ad.add j) = some u := by
  intro j u hu
  have hj : j < (wnC l).length := (List.getElem?_eq_some_iff.1 hu).1
  rw [wnC_length] at hj
  obtain ⟨b, o, e, _, c1, c2, c3⟩ := h (j / 3) (by omega)
  obtain ⟨v1, v2, v3⟩ := wnC_at l (j / 3) (by omega)
  obtain rfl : ad = ⟨b, o, none⟩ := Option.some.inj e
  rw [Addr.add_lit]
  have hm : j % 3 = 0 ∨ j % 3 = 1 ∨ j % 3 = 2 := by omega
  rcases hm with h0 | h0 | h0
  · have e0 : j / 3 * 3 = j := by omega
    rw [e0] at c1 v1
    rw [c1, ← hu, v1]
  · have e0 : j / 3 * 3 + 1 = j := by omega
    have e1 : o + j / 3 * 3 + 1 = o + j := by omega
    rw [e0] at v2
    rw [e1] at c2
    rw [c2, ← hu, v2]
  · have e0 : j / 3 * 3 + 2 = j := by omega
    have e1 : o + j / 3 * 3 + 2 = o + j := by omega
    rw [e0] at v3
    rw [e1] at c3
    rw [c3, ← hu, v3]
theorem wnC_one (l : List (Int × Int × Int)) : ∀ u ∈ wnC l, u.oneCell' = true := by
  intro u hu
  simp only [wnC, List.mem_flatMap] at hu
  obtain ⟨n, _, hu⟩ := hu
  simp at hu
  rcases hu with rfl | rfl | rfl <;> rfl
/-- append of worn pins that lie somewhere to a row of the call's own -/
theorem run_append_wn (w : World) (t : TypeId) (ht : Try.prog.underlying t = some (.slice 136)) (base : Nat) (i0 : TypeInfo) (hi : Try.prog.info? 136 = some i0)
    (hz0 : i0.zero = some (.agg #[.int .i8 0, .int .i8 0, .int .i64 0])) (hz1 : i0.size = 3) (hz2 : i0.bytes = 16) (v : Value) (n : Nat) (xs : List Value) (hown : w.ownsRow base 136 3 v n xs) (A : Option Addr) (c : Nat) (l : List (Int × Int × Int)) (hA : WnA w A l)
    (hn : n ≤ 4194304) (hl : l.length ≤ 4194304) (hb : base ≤ w.heap.size) :
    ∃ A' c' w', (∀ ty, (Builtin.append_ #[t, t] ty #[v, .slice A l.length c]).run Try.prog w = .ok (.slice A' (n + l.length) c') w') ∧ w'.ownsRow base 136 3 (.slice A' (n + l.length) c') (n + l.length) (xs ++ wnC l) ∧ w.grownBy w' v.ownBlock := by
  obtain ⟨Av, cv, rfl⟩ := own_shapeZ hown
  cases A with
  | none =>
    obtain rfl := wnA_none hA
    refine ⟨Av, cv, w, fun ty => ?_, ?_, ?_⟩
    · exact run_append_none w t ty _ i0 ht hi base 3 n _ c xs _ hown rfl
    · simpa [wnC_nil] using hown
    · exact ⟨rfl, rfl, rfl, Nat.le_refl _, fun _ _ _ => rfl⟩
  | some ad =>
    have key : ∀ ty, ∃ v' w', (Builtin.append_ #[t, t] ty #[.slice Av n cv, .slice (some ad) l.length c]).run Try.prog w = .ok v' w' ∧ w'.ownsRow base 136 3 v' (n + l.length) (xs ++ wnC l) ∧ w.grownBy w' (Value.slice Av n cv).ownBlock ∧ (v' = .slice none 0 0 ↔ Value.slice Av n cv = .slice none 0 0 ∧ l.length = 0) := fun ty =>
      run_append_own w base t ty 136 i0 (.agg #[.int .i8 0, .int .i8 0, .int .i64 0]) 3 16 ht hi hz0 hz1 hz2 rfl (by decide) _ n xs hown ad l.length c (wnC l) (wnC_length l) (WnA.cells hA) (wnC_one l) (by unfold maxLen; omega) (by omega) hb
    obtain ⟨v', w', hr, h2, h3, _⟩ := key 0
    obtain ⟨A', c', rfl⟩ := own_shapeZ h2
    exact ⟨A', c', w', fun ty => hr, h2, h3⟩
/-- the like for numbers, of a slice that may be nil -/
theorem run_append_zn (w : World) (t : TypeId) (ht : Try.prog.underlying t = some (.slice 2)) (base : Nat) (i0 : TypeInfo) (hi : Try.prog.info? 2 = some i0)
    (hz0 : i0.zero = some (.int .i64 0)) (hz1 : i0.size = 1) (hz2 : i0.bytes = 8) (v : Value) (n : Nat) (xs : List Value) (hown : w.ownsRow base 2 1 v n xs) (A : Option Addr) (c : Nat) (l : List Int) (hA : SZ w A l)
    (hn : n ≤ 4194304) (hl : l.length ≤ 4194304) (hb : base ≤ w.heap.size) :
    ∃ A' c' w', (∀ ty, (Builtin.append_ #[t, t] ty #[v, .slice A l.length c]).run Try.prog w = .ok (.slice A' (n + l.length) c') w') ∧ w'.ownsRow base 2 1 (.slice A' (n + l.length) c') (n + l.length) (xs ++ icells l) ∧ w.grownBy w' v.ownBlock := by
  cases A with
  | none =>
    obtain ⟨Av, cv, rfl⟩ := own_shapeZ hown
    obtain rfl := SZ.none hA
    refine ⟨Av, cv, w, fun ty => ?_, ?_, ?_⟩
    · exact run_append_none w t ty _ i0 ht hi base 1 n _ c xs _ hown rfl
    · simpa [icells] using hown
    · exact ⟨rfl, rfl, rfl, Nat.le_refl _, fun _ _ _ => rfl⟩
  | some ad => exact run_append_z w t ht base i0 hi hz0 hz1 hz2 v n xs hown ad c l hA hn hl hb
end Go.Proofs.Ytcocfnjbgceidaa
