import Derived.Test.YtcocfnjbgceidaaGreatGau
import Derived.Test.YtcocfnjbgceidaaGreatGat
namespace Go.Proofs.YtcocfnjbgceidaaGreat
open Go.RowKit Go.Maps
/-- how many pins of a list that S picks lie on a track -/
def cntS (T : List Wp) (S : Wp → Bool) (k : Int) : Nat := T.countP fun x => decide (x.2.1 = k) && S x
def turTd (T : List Wp) (t : Int) (S : Wp → Bool) : List Wp := T.map fun x => if S x then (x.1, x.2.1, x.2.2 + t) else x
def turZd (T : List Wp) (z : List Int) (t : Int) (S : Wp → Bool) : List Int := (List.range z.length).map fun (k : Nat) => zAt z k + t * (cntS T S (k : Int) : Int)
def turT (T : List Wp) (t : Int) : List Wp := T.map fun x => (x.1, x.2.1, x.2.2 + t)
def cntP (T : List Wp) (k : Int) : Nat := T.countP fun x => decide (x.2.1 = k)
def turZ (T : List Wp) (z : List Int) (t : Int) : List Int := (List.range z.length).map fun (k : Nat) => zAt z k + t * (cntP T (k : Int) : Int)
/-- nothing has made more than its life -/
def wholeB (T : List Wp) (z : List Int) (p h : Int) : Bool := T.all (fun x => decide (x.2.2 ≤ p)) && z.all (fun y => decide (y ≤ h))
theorem turTd_none (T : List Wp) (t : Int) (S : Wp → Bool) (h : ∀ x ∈ T, S x = false) : turTd T t S = T := by
  unfold turTd
  conv => rhs; rw [← List.map_id T]
  exact List.map_congr_left fun x hx => by simp [h x hx]
theorem turTd_all (T : List Wp) (t : Int) (S : Wp → Bool) (h : ∀ x ∈ T, S x = true) : turTd T t S = turT T t := by
  unfold turTd turT
  exact List.map_congr_left fun x hx => by simp [h x hx]
theorem cntS_none (T : List Wp) (S : Wp → Bool) (k : Int) (h : ∀ x ∈ T, S x = false) : cntS T S k = 0 := by
  unfold cntS
  rw [List.countP_eq_zero]
  intro x hx
  simp [h x hx]
theorem cntS_all (T : List Wp) (S : Wp → Bool) (k : Int) (h : ∀ x ∈ T, S x = true) : cntS T S k = cntP T k := by
  unfold cntS cntP
  refine List.countP_congr fun x hx => ?_
  simp [h x hx]
theorem turZd_none (T : List Wp) (z : List Int) (t : Int) (S : Wp → Bool) (h : ∀ x ∈ T, S x = false) : turZd T z t S = z := by
  unfold turZd
  apply List.ext_getElem
  · simp
  · intro k h1 h2
    simp [cntS_none T S _ h, zAt, List.getD, h2]
theorem turZd_all (T : List Wp) (z : List Int) (t : Int) (S : Wp → Bool) (h : ∀ x ∈ T, S x = true) : turZd T z t S = turZ T z t := by
  unfold turZd turZ
  exact List.map_congr_left fun k _ => by rw [cntS_all T S _ h]
theorem turZd_len (T : List Wp) (z : List Int) (t : Int) (S : Wp → Bool) : (turZd T z t S).length = z.length := by simp [turZd]
theorem turZ_len (T : List Wp) (z : List Int) (t : Int) : (turZ T z t).length = z.length := by simp [turZ]
theorem turZd_at (T : List Wp) (z : List Int) (t : Int) (S : Wp → Bool) {k : Nat} (hk : k < z.length) : zAt (turZd T z t S) k = zAt z k + t * (cntS T S (k : Int) : Int) := by
  simp [turZd, zAt, List.getD, hk]
theorem count_one : ∀ {l : List Wp} {a : Wp}, l.Nodup → a ∈ l → l.count a = 1
  | [], a, _, h => absurd h (by simp)
  | b :: l, a, hn, h => by
    rw [List.nodup_cons] at hn
    rw [List.count_cons]
    rcases List.mem_cons.1 h with rfl | h1
    · rw [List.count_eq_zero_of_not_mem hn.1]
      simp
    · rw [count_one hn.2 h1, if_neg (fun e => hn.1 (by rw [show b = a by simpa using e]; exact h1))]
/-- one pin more -/
theorem cntS_step {T : List Wp} (hT : AscL T) {S S' : Wp → Bool} {y : Wp} (hy : y ∈ T) (h0 : S y = false) (hs : ∀ x ∈ T, S' x = (S x || atP y.1 y.2.1 x)) (k : Int) : cntS T S' k = cntS T S k + if y.2.1 = k then 1 else 0 := by
  have hone : ∀ (T : List Wp), AscL T → (∀ x ∈ T, S' x = (S x || atP y.1 y.2.1 x)) → (∀ x ∈ T, atP y.1 y.2.1 x = true → S x = false) → cntS T S' k = cntS T S k + (if y.2.1 = k then T.countP (atP y.1 y.2.1) else 0) := by
    intro T
    induction T with
    | nil => intro _ _ _; simp [cntS]
    | cons x T ih =>
      intro hT hs hd
      rw [ascL_iff, List.pairwise_cons] at hT
      have h1 := ih (ascL_iff.2 hT.2) (fun z hz => hs z (by simp [hz])) (fun z hz => hd z (by simp [hz]))
      have hx := hs x (by simp)
      unfold cntS at h1 ⊢
      rw [List.countP_cons, List.countP_cons, h1, List.countP_cons, hx]
      cases ha : atP y.1 y.2.1 x
      · simp; omega
      · have hsx := hd x (by simp) ha
        have he := (atP_iff.1 ha).2
        rw [hsx, he]
        by_cases hk : y.2.1 = k
        · simp [hk]; omega
        · simp [hk]
  have hc : T.countP (atP y.1 y.2.1) = 1 := by
    have hn := ascL_nodup hT
    have e : T.countP (atP y.1 y.2.1) = T.count y := by
      rw [List.count_eq_countP]
      refine List.countP_congr fun x hx => ?_
      rw [atP_iff]
      constructor
      · rintro ⟨e1, e2⟩
        simp [ascL_place hT hx hy e1 e2]
      · intro e
        have : x = y := by simpa using e
        rw [this]
        exact ⟨rfl, rfl⟩
    rw [e, count_one hn hy]
  rw [hone T hT hs (fun x hx ha => by
    obtain ⟨e1, e2⟩ := atP_iff.1 ha
    rw [ascL_place hT hx hy e1 e2]
    exact h0), hc]
theorem turZd_step {T : List Wp} (hT : AscL T) {S S' : Wp → Bool} {y : Wp} (hy : y ∈ T) (h0 : S y = false) (hs : ∀ x ∈ T, S' x = (S x || atP y.1 y.2.1 x)) (z : List Int) (t : Int) {k : Nat} (hk : k < z.length) (hky : y.2.1 = (k : Int)) : turZd T z t S' = (turZd T z t S).set k (zAt (turZd T z t S) k + t) := by
  apply List.ext_getElem
  · simp [turZd]
  · intro j h1 h2
    have hj : j < z.length := by simpa [turZd] using h1
    rw [List.getElem_set]
    have e : ∀ S, (turZd T z t S)[j]'(by simpa [turZd] using hj) = zAt z j + t * (cntS T S (j : Int) : Int) := fun S => by simp [turZd]
    rw [e, cntS_step hT hy h0 hs]
    by_cases hjk : k = j
    · subst hjk
      rw [if_pos rfl, turZd_at T z t S hk, if_pos hky]
      have : t * ((cntS T S (k : Int) + 1 : Nat) : Int) = t * (cntS T S (k : Int) : Int) + t := by
        rw [Int.natCast_add, Int.mul_add]
        simp
      omega
    · rw [if_neg hjk, e, if_neg (by omega)]
      rfl
theorem turTd_mem {T : List Wp} {t : Int} {S : Wp → Bool} {x : Wp} : x ∈ turTd T t S ↔ ∃ x0 ∈ T, x = if S x0 then (x0.1, x0.2.1, x0.2.2 + t) else x0 := by
  unfold turTd
  rw [List.mem_map]
  exact ⟨fun ⟨a, h, e⟩ => ⟨a, h, e.symm⟩, fun ⟨a, h, e⟩ => ⟨a, h, e.symm⟩⟩
theorem turTd_place {S : Wp → Bool} (t : Int) (x : Wp) : (if S x then (x.1, x.2.1, x.2.2 + t) else x).1 = x.1 ∧ (if S x then (x.1, x.2.1, x.2.2 + t) else x).2.1 = x.2.1 := by
  split <;> exact ⟨rfl, rfl⟩
theorem turTd_asc {T : List Wp} (h : AscL T) (t : Int) (S : Wp → Bool) : AscL (turTd T t S) := by
  rw [ascL_iff] at h ⊢
  unfold turTd
  rw [List.pairwise_map]
  refine h.imp fun {x y} hxy => ?_
  rw [befP_iff] at hxy ⊢
  rw [(turTd_place t x).1, (turTd_place t x).2, (turTd_place t y).1, (turTd_place t y).2]
  exact hxy
theorem turTd_in8 {T : List Wp} (h : In8 T) (t : Int) (S : Wp → Bool) : In8 (turTd T t S) := fun x hx => by
  obtain ⟨x0, h0, rfl⟩ := turTd_mem.1 hx
  rw [(turTd_place t x0).1, (turTd_place t x0).2]
  exact h x0 h0
theorem readsW_tur {T : List Wp} (hT : AscL T) (h8 : In8 T) {S S' : Wp → Bool} {y : Wp} (hy : y ∈ T) (h0 : S y = false) (hs : ∀ x ∈ T, S' x = (S x || atP y.1 y.2.1 x)) {t : Int} {D : DataW Unit} (hD : ReadsW D (turTd T t S)) (hM : IsMap D) :
    ReadsW (D.put (kP y.1 y.2.1) (.lit (.int .i64 (y.2.2 + t)))) (turTd T t S') := by
  have hyS : S' y = true := by rw [hs y hy, atP_iff.2 ⟨rfl, rfl⟩]; simp
  refine readsW_put hD hM (turTd_in8 h8 t S') (turTd_mem.2 ⟨y, hy, by rw [if_pos hyS]⟩) ?_ ?_ ?_
  · intro x hx e
    obtain ⟨x0, hx0, rfl⟩ := turTd_mem.1 hx
    rw [(turTd_place t x0).1, (turTd_place t x0).2] at e
    obtain rfl := ascL_place hT hx0 hy e.1 e.2
    rw [if_pos hyS]
  · intro x hx e
    obtain ⟨x0, hx0, rfl⟩ := turTd_mem.1 hx
    rw [(turTd_place t x0).1, (turTd_place t x0).2] at e
    refine turTd_mem.2 ⟨x0, hx0, ?_⟩
    rw [hs x0 hx0]
    have : atP y.1 y.2.1 x0 = false := by
      cases ha : atP y.1 y.2.1 x0
      · rfl
      · exact absurd (atP_iff.1 ha) e
    rw [this, Bool.or_false]
  · intro x hx e
    obtain ⟨x0, hx0, rfl⟩ := turTd_mem.1 hx
    rw [(turTd_place t x0).1, (turTd_place t x0).2] at e
    refine turTd_mem.2 ⟨x0, hx0, ?_⟩
    rw [hs x0 hx0]
    have : atP y.1 y.2.1 x0 = false := by
      cases ha : atP y.1 y.2.1 x0
      · rfl
      · exact absurd (atP_iff.1 ha) e
    rw [this, Bool.or_false]
end Go.Proofs.YtcocfnjbgceidaaGreat
namespace Go.Proofs.YtcocfnjbgceidaaGreat
open Go.RowKit Go.Maps
/-- blocks of their own that are kept, a family of them -/
def Bkf (w : World) (g : Nat → Nat) (t : Nat → TypeId) (cs : Nat → Array Value) : Prop := ∀ i, Bk w (g i) (t i) (cs i)
theorem Bkf.keep {w w' : World} {g : Nat → Nat} {t : Nat → TypeId} {cs : Nat → Array Value} (h : Bkf w g t cs) (hb : Below w.heap.size w w') : Bkf w' g t cs := fun i => (h i).keep hb
theorem Bkf.kept {w w' : World} {g : Nat → Nat} {t : Nat → TypeId} {cs : Nat → Array Value} {b : Nat} (h : Bkf w g t cs) (hg : w.grownBy w' (some b)) (hne : ∀ i, g i ≠ b) : Bkf w' g t cs := fun i => (hg.block (g i) (h i).lt (fun e => hne i (Option.some.inj e))).trans (h i)
theorem Bkf.grown {w w' : World} {g : Nat → Nat} {t : Nat → TypeId} {cs : Nat → Array Value} {row : Option Nat} (h : Bkf w g t cs) (hg : w.grownBy w' row) (hne : ∀ i, row ≠ some (g i)) : Bkf w' g t cs := fun i => (h i).grown hg (hne i)
theorem Bkf.other {w : World} {g : Nat → Nat} {b k : Nat} {t : Nat → TypeId} {cs : Nat → Array Value} (h : Bkf w g t cs) (hne : ∀ i, g i ≠ b) (v : Value) : Bkf (w.setCell ⟨b, k, none⟩ v) g t cs := fun i => (h i).other (hne i) v
theorem Bk.fam {w : World} {g : Nat} {t : TypeId} {cs : Array Value} (h : Bk w g t cs) : Bkf w (fun _ => g) (fun _ => t) (fun _ => cs) := fun _ => h
/-- two blocks as a family -/
def two2 {α : Type} (a b : α) : Nat → α
  | 0 => a
  | _ + 1 => b
theorem Bk.pair {w : World} {g g' : Nat} {t t' : TypeId} {cs cs' : Array Value} (h : Bk w g t cs) (h' : Bk w g' t' cs') : Bkf w (two2 g g') (two2 t t') (two2 cs cs') := fun i => by
  cases i with
  | zero => exact h
  | succ i => exact h'
/-- three blocks as a family -/
def three3 {α : Type} (a b c : α) : Nat → α
  | 0 => a
  | 1 => b
  | _ + 2 => c
theorem Bk.triple {w : World} {g g' g3 : Nat} {t t' t3 : TypeId} {cs cs' cs3 : Array Value} (h : Bk w g t cs) (h' : Bk w g' t' cs') (h3 : Bk w g3 t3 cs3) : Bkf w (three3 g g' g3) (three3 t t' t3) (three3 cs cs' cs3) := fun i => by
  match i with
  | 0 => exact h
  | 1 => exact h'
  | i + 2 => exact h3
end Go.Proofs.YtcocfnjbgceidaaGreat
namespace Go.Proofs.YtcocfnjbgceidaaGreat
open Go.RowKit Go.Maps
theorem map_setCell {w : World} {M g o n : Nat} {D : DataW Unit} {k : TypeId} {R : Value → Option (DataW Unit × List MemPlace)} (h : w.ownsMap Tryz.prog k R M n D) (hne : g ≠ M) (u : Value) : (w.setCell ⟨g, o, none⟩ u).ownsMap Tryz.prog k R M n D := by
  obtain ⟨es, clock, h1, h2⟩ := h
  exact ⟨es, clock, (heap_setCell_other w ⟨g, o, none⟩ M u (fun e => hne e.symm)).trans h1, h2⟩
/-- a hammer made new: the strokes that come of it -/
def rnZ (n : Nat) (z : List Int) (x : Int) : List Int := if inB x 0 ((n : Int) - 1) then z.set x.toNat 0 else z
def rnC (n : Nat) (x : Int) : Int := if inB x 0 ((n : Int) - 1) then 0 else 2
set_option maxRecDepth 20000 in
set_option maxHeartbeats 4000000 in
theorem renewing_any (s x : Int) (A : Option Addr) (n c M q base : Nat) (C : Option Addr) (z : List Int) (m : Nat) (D : DataW Unit) (w : World) (hn : n ≤ 1048576) (hzn : z.length = n) (hown : w.ownsRow base 2 1 (.slice C z.length q) z.length (icells z)) (hbase : base ≤ w.heap.size)
    (hM : w.ownsMap Tryz.prog 138 (plainElem (H := Unit) Tryz.prog 2) M m D) (hne : ∀ g, C = some ⟨g, 0, none⟩ → g ≠ M) (g2 : Nat → Nat) (t2 : Nat → TypeId) (cs2 : Nat → Array Value) (hB : Bkf w g2 t2 cs2) (ht2 : ∀ i, t2 i ≠ 2) :
    Calls Tryz.prog 165 #[.agg #[.int .i64 x], .agg #[.int .i64 s, .slice A n c, .map (some M), .slice C z.length q]] w fun e w' => e = .returned (.int .i64 (rnC n x)) ∧ w'.ownsRow base 2 1 (.slice C z.length q) z.length (icells (rnZ n z x)) ∧ w'.ownsMap Tryz.prog 138 (plainElem (H := Unit) Tryz.prog 2) M m D ∧ Bkf w' g2 t2 cs2 ∧ Below base w w' := by
  subst hzn
  obtain ⟨X, hX⟩ : ∃ X, X = (w.alloc (.cells #[.int .i64 x] 173)).alloc (.cells #[.int .i64 s, .slice A z.length c, .map (some M), .slice C z.length q] 106) := ⟨_, rfl⟩
  have bX : Below w.heap.size w X := by rw [hX]; exact ((Below.refl _ _).alloc (Nat.le_refl _) _).alloc (by simp) _
  have R0 : Bk X w.heap.size 173 #[.int .i64 x] := by rw [hX]; exact (Bk.new _ _ _ rfl).old _
  have W0 : Bk X (w.heap.size + 1) 106 #[.int .i64 s, .slice A z.length c, .map (some M), .slice C z.length q] := by rw [hX]; exact Bk.new _ _ _ (by simp)

  have own0 := own_keep hown bX
  have map0 := map_keep hM bX
  have B0 := hB.keep bX
  have hg0 := own0.lt
  go_enter Tryz.func165, Tryz.ntmps165
  go_upto_region 1 with fail
  rw [← hX]
  clear hX
  have c0 := R0.cell (i := 0) rfl
  have c1 := W0.cell (i := 0) rfl
  have c2 := W0.cell (i := 1) rfl
  go_wp2_with fail
  clear c1 c2
  refine (hasTrack_any s x A z.length c _ hn).mono ?_
  rintro e w2 ⟨rfl, hb2⟩
  have b2 := step_below hb2 bX
  have R2 := R0.keep hb2
  have W2 := W0.keep hb2
  have own2 := own_keep own0 hb2
  have map2 := map_keep map0 hb2
  have B2 := B0.keep hb2
  have hnB := fun i => own_neW own2 (B2 i) (ht2 i)
  clear c0
  cases hin : inB x 0 ((z.length : Int) - 1)
  · have HC := hide (show rnC z.length x = 2 by simp [rnC, hin])
    have HZ := hide (show rnZ z.length z x = z by simp [rnZ, hin])
    clear hin
    go_wp2
    go_ret
    exact ⟨by rw [HC.out]; rfl, by rw [HZ.out]; exact own2, map2, B2, b2.mono hbase⟩
  · have HC := hide (show rnC z.length x = 0 by simp [rnC, hin])
    obtain ⟨k, rfl⟩ : ∃ k : Nat, x = (k : Int) := ⟨x.toNat, by simp [inB] at hin; omega⟩
    have hk : k < z.length := by simp [inB] at hin; omega
    have HZ := hide (show rnZ z.length z (k : Int) = z.set k 0 by simp [rnZ, hin])
    clear hin
    obtain ⟨g, rfl⟩ : ∃ g, C = some ⟨g, 0, none⟩ := by
      rcases own2.2 with ⟨h', h0⟩ | ⟨g', cap, cur, h', hgb, _⟩
      · omega
      · simp at h'
        exact ⟨g', h'.1⟩
    have hgM := hne g rfl
    have hgb := (own2.lt g rfl).1
    have c0 := R2.cell (i := 0) rfl
    have c3 := W2.cell (i := 3) rfl
    have ck := (own2.cellAt k (by omega)).trans (icells_get z k hk)
    have fk := own2.frozenAt k
    have hki : (k : Int) < (z.length : Int) := by omega
    have own3 := (own2.stored k (.int .i64 0)).1
    have map3 := map_setCell (o := k) map2 hgM (.int .i64 0)
    have b3 := (b2.mono hbase).setCell (p := ⟨g, k, none⟩) hgb (.int .i64 0)
    rw [icells_set] at own3
    have B3 := B2.other (b := g) (k := k) (fun i e => hnB i (by rw [e]; rfl)) (.int .i64 0)
    have HO := hide own3
    have HB := hide B3
    clear B3
    have HM := hide map3
    clear own3 map3
    go_wp2
    go_ret
    exact ⟨by rw [HC.out]; rfl, by rw [HZ.out]; exact HO.out, HM.out, HB.out, b3⟩
end Go.Proofs.YtcocfnjbgceidaaGreat
namespace Go.Proofs.YtcocfnjbgceidaaGreat
open Go.RowKit Go.Maps
set_option maxRecDepth 20000 in
set_option maxHeartbeats 4000000 in
theorem deedHammer_any (x : Int) (w : World) :
    Calls Tryz.prog 87 #[.agg #[.int .i8 1, .int .i64 x, .int .i64 0, .int .i64 0, .int .i64 0]] w fun e w' => e = .returned (.iface 173 (.agg #[.int .i64 x])) ∧ Below w.heap.size w w' := by
  have hb0 : Below w.heap.size w (w.alloc (.cells #[.int .i8 1, .int .i64 x, .int .i64 0, .int .i64 0, .int .i64 0] 55)) := (Below.refl _ _).alloc (Nat.le_refl _) _
  go_enter Tryz.func87, Tryz.ntmps87
  go_wp2
  go_ret
  exact ⟨rfl, hb0⟩
/-- what a hammer's act leaves -/
def DoW (base : Nat) (C : Option Addr) (n q M m : Nat) (z : List Int) (D : DataW Unit) (c : Int) (g2 : Nat) (t2 : TypeId) (cs2 : Array Value) (w : World) (e : Ending) (w' : World) : Prop := e = .returned (.int .i64 c) ∧ w'.ownsRow base 2 1 (.slice C n q) n (icells z) ∧ w'.ownsMap Tryz.prog 138 (plainElem (H := Unit) Tryz.prog 2) M m D ∧ Bk w' g2 t2 cs2 ∧ Below base w w'
set_option maxRecDepth 20000 in
set_option maxHeartbeats 4000000 in
theorem doHammer_any (s x : Int) (A : Option Addr) (n c M q base : Nat) (C : Option Addr) (z : List Int) (m : Nat) (D : DataW Unit) (w : World) (hn : n ≤ 1048576) (hzn : z.length = n) (hown : w.ownsRow base 2 1 (.slice C z.length q) z.length (icells z)) (hbase : base ≤ w.heap.size)
    (hM : w.ownsMap Tryz.prog 138 (plainElem (H := Unit) Tryz.prog 2) M m D) (hne : ∀ g, C = some ⟨g, 0, none⟩ → g ≠ M) (g2 : Nat) (t2 : TypeId) (cs2 : Array Value) (hB : Bk w g2 t2 cs2) (ht2 : t2 ≠ 2) :
    Calls Tryz.prog 63 #[.agg #[.int .i64 s, .slice A n c, .map (some M), .slice C z.length q], .agg #[.int .i8 1, .int .i64 x, .int .i64 0, .int .i64 0, .int .i64 0]] w (DoW base C z.length q M m (rnZ n z x) D (rnC n x) g2 t2 cs2 w) := by
  obtain ⟨X, hX⟩ : ∃ X, X = (w.alloc (.cells #[.int .i64 s, .slice A n c, .map (some M), .slice C z.length q] 106)).alloc (.cells #[.int .i8 1, .int .i64 x, .int .i64 0, .int .i64 0, .int .i64 0] 55) := ⟨_, rfl⟩
  have bX : Below w.heap.size w X := by rw [hX]; exact ((Below.refl _ _).alloc (Nat.le_refl _) _).alloc (by simp) _
  have W0 : Bk X w.heap.size 106 #[.int .i64 s, .slice A n c, .map (some M), .slice C z.length q] := by rw [hX]; exact (Bk.new _ _ _ rfl).old _
  have A0 : Bk X (w.heap.size + 1) 55 #[.int .i8 1, .int .i64 x, .int .i64 0, .int .i64 0, .int .i64 0] := by rw [hX]; exact Bk.new _ _ _ (by simp)
  have own0 := own_keep hown bX
  have map0 := map_keep hM bX
  have HZN := hide hzn
  clear hzn
  obtain ⟨zn, hzn⟩ : ∃ k, k = z.length := ⟨_, rfl⟩
  go_enter Tryz.func63, Tryz.ntmps63
  go_upto_region 1 with fail
  rw [← hX]
  clear hX hzn
  have c0 := A0.cell (i := 0) rfl
  have c1 := A0.cell (i := 1) rfl
  have c2 := A0.cell (i := 2) rfl
  have c3 := A0.cell (i := 3) rfl
  have c4 := A0.cell (i := 4) rfl
  go_wp2_with fail
  clear c0 c1 c2 c3 c4
  refine (deedHammer_any x _).mono ?_
  rintro e w2 ⟨rfl, hb2⟩
  have b2 := step_below hb2 bX
  have W2 := W0.keep hb2
  have own2 := own_keep own0 hb2
  have map2 := map_keep map0 hb2
  have c0 := W2.cell (i := 0) rfl
  have c1 := W2.cell (i := 1) rfl
  have c2 := W2.cell (i := 2) rfl
  have c3 := W2.cell (i := 3) rfl
  have KR := renewing_any s x A n c M q base C z m D w2 hn HZN.out own2 (Nat.le_trans hbase b2.size) map2 hne _ _ _ ((hB.keep bX).keep hb2).fam (fun _ => ht2)
  have hm : ∀ (k : Nat) W, (method (k + 1) 173 (.agg #[.int .i64 x]) "loop.example/g01311/impl.on").run Tryz.prog W = .ok (165, .agg #[.int .i64 x]) W := fun k W => rfl
  go_wp2_with fail
  refine KR.mono ?_
  rintro e w3 ⟨rfl, own3, map3, B3, hb3⟩
  go_wp2
  go_ret
  exact ⟨rfl, own3, map3, B3 0, (b2.mono hbase).trans hb3⟩
end Go.Proofs.YtcocfnjbgceidaaGreat
