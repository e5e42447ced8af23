import Derived.Test.YtcocfnjbgceidaaGreatGh
import Derived.Test.YtcocfnjbgceidaaGreatGi
import Derived.Lib.AppendZeros
import Derived.Deep.RegionHeld3
import Derived.IntWalk
namespace Go.Proofs.YtcocfnjbgceidaaGreat
open Go.RowKit Go.Maps
/-- a worn pin -/
abbrev Wp := Int × Int × Int
def atP (a b : Int) (x : Wp) : Bool := decide (x.1 = a ∧ x.2.1 = b)
def befP (x y : Wp) : Bool := befW x.1 x.2.1 y.1 y.2.1
theorem atP_iff {a b : Int} {x : Wp} : atP a b x = true ↔ x.1 = a ∧ x.2.1 = b := by simp [atP]
theorem befP_iff {x y : Wp} : befP x y = true ↔ (x.1 < y.1 ∨ x.1 = y.1 ∧ x.2.1 < y.2.1) := by simp [befP, befW]
theorem befP_trans {x y z : Wp} (h1 : befP x y = true) (h2 : befP y z = true) : befP x z = true := befW_trans h1 h2
theorem ascL_iff {T : List Wp} : AscL T ↔ T.Pairwise (fun x y => befP x y = true) := Iff.rfl
/-- a pin in the list set anew -/
def setP (T : List Wp) (a b c : Int) : List Wp := T.map fun x => if atP a b x then (a, b, c) else x
/-- a pin put into the list -/
def insP : List Wp → Wp → List Wp
  | [], x => [x]
  | y :: T, x => if befP y x then y :: insP T x else x :: y :: T
/-- a pin taken out of the list -/
def delP (T : List Wp) (a b : Int) : List Wp := T.filter fun x => !atP a b x
def hasP (T : List Wp) (a b : Int) : Bool := T.any (atP a b)
/-- the turns of the pin at a place -/
def turP (T : List Wp) (a b : Int) : Int := ((T.find? (atP a b)).map (·.2.2)).getD 0

theorem mem_insP {x y : Wp} : ∀ {T : List Wp}, y ∈ insP T x ↔ y = x ∨ y ∈ T
  | [] => by simp [insP]
  | z :: T => by
    unfold insP
    split
    · rw [List.mem_cons, mem_insP, List.mem_cons]
      exact ⟨fun h => by rcases h with h | h | h <;> simp [h], fun h => by rcases h with h | h | h <;> simp [h]⟩
    · simp
theorem insP_asc {x : Wp} : ∀ {T : List Wp}, AscL T → (∀ y ∈ T, ¬ (y.1 = x.1 ∧ y.2.1 = x.2.1)) → AscL (insP T x)
  | [], _, _ => by simp [insP, AscL]
  | y :: T, h, hn => by
    rw [ascL_iff, List.pairwise_cons] at h
    obtain ⟨h1, h2⟩ := h
    unfold insP
    split
    · rename_i hb
      rw [ascL_iff, List.pairwise_cons]
      refine ⟨fun z hz => ?_, insP_asc (ascL_iff.2 h2) fun z hz => hn z (by simp [hz])⟩
      rcases mem_insP.1 hz with rfl | hz
      · exact hb
      · exact h1 z hz
    · rename_i hb
      have hxy : befP x y = true := by
        have h0 := hn y (by simp)
        have hb' : ¬ (y.1 < x.1 ∨ y.1 = x.1 ∧ y.2.1 < x.2.1) := fun e => hb (befP_iff.2 e)
        exact befP_iff.2 (by omega)
      rw [ascL_iff, List.pairwise_cons, List.pairwise_cons]
      refine ⟨fun z hz => ?_, h1, h2⟩
      rcases List.mem_cons.1 hz with rfl | hz
      · exact hxy
      · exact befP_trans hxy (h1 z hz)
theorem setP_asc {T : List Wp} (h : AscL T) (a b c : Int) : AscL (setP T a b c) := by
  rw [ascL_iff] at h ⊢
  unfold setP
  rw [List.pairwise_map]
  refine h.imp fun {x y} hxy => ?_
  have e : ∀ z : Wp, (if atP a b z then (a, b, c) else z).1 = z.1 ∧ (if atP a b z then (a, b, c) else z).2.1 = z.2.1 := fun z => by
    split
    · rename_i h
      have := atP_iff.1 h
      exact ⟨this.1.symm, this.2.symm⟩
    · exact ⟨rfl, rfl⟩
  rw [befP_iff] at hxy ⊢
  rw [(e x).1, (e x).2, (e y).1, (e y).2]
  exact hxy
theorem delP_asc {T : List Wp} (h : AscL T) (a b : Int) : AscL (delP T a b) := List.Pairwise.filter _ h
theorem mem_delP {T : List Wp} {a b : Int} {x : Wp} : x ∈ delP T a b ↔ x ∈ T ∧ ¬ (x.1 = a ∧ x.2.1 = b) := by
  unfold delP
  rw [List.mem_filter]
  refine and_congr_right fun _ => ?_
  rw [← atP_iff]
  cases atP a b x <;> simp
theorem mem_setP {T : List Wp} {a b c : Int} {x : Wp} : x ∈ setP T a b c ↔ (x ∈ T ∧ ¬ (x.1 = a ∧ x.2.1 = b)) ∨ (x = (a, b, c) ∧ hasP T a b = true) := by
  unfold setP hasP
  rw [List.mem_map, List.any_eq_true]
  constructor
  · rintro ⟨y, hy, rfl⟩
    split
    · rename_i h
      exact Or.inr ⟨rfl, y, hy, h⟩
    · rename_i h
      exact Or.inl ⟨hy, fun e => h (atP_iff.2 e)⟩
  · rintro (⟨hx, hn⟩ | ⟨rfl, y, hy, h⟩)
    · exact ⟨x, hx, by rw [if_neg (fun e => hn (atP_iff.1 e))]⟩
    · exact ⟨y, hy, by rw [if_pos h]⟩
theorem hasP_iff {T : List Wp} {a b : Int} : hasP T a b = true ↔ ∃ x ∈ T, x.1 = a ∧ x.2.1 = b := by
  simp [hasP, atP]
theorem hasP_not {T : List Wp} {a b : Int} (h : hasP T a b = false) : ∀ x ∈ T, ¬ (x.1 = a ∧ x.2.1 = b) := fun x hx e => by
  have := hasP_iff.2 ⟨x, hx, e⟩
  rw [h] at this
  cases this
theorem turP_mem {T : List Wp} {a b : Int} (h : hasP T a b = true) : (a, b, turP T a b) ∈ T := by
  obtain ⟨x, hx, h1, h2⟩ := hasP_iff.1 h
  unfold turP
  cases hf : T.find? (atP a b) with
  | none => exact absurd (atP_iff.2 ⟨h1, h2⟩) (List.find?_eq_none.1 hf x hx)
  | some y =>
    obtain ⟨e1, e2⟩ := atP_iff.1 (List.find?_some hf)
    have := List.mem_of_find?_eq_some hf
    rw [Option.map_some, Option.getD_some, ← e1, ← e2]
    exact this
theorem turP_eq {T : List Wp} (hT : AscL T) {x : Wp} (hx : x ∈ T) : turP T x.1 x.2.1 = x.2.2 := by
  have h := turP_mem (hasP_iff.2 ⟨x, hx, rfl, rfl⟩)
  rw [ascL_place hT hx h rfl rfl]
/-- valid pins of a frame's wear -/
def VT (s : Int) (n : Nat) (T : List Wp) : Prop := AscL T ∧ ∀ x ∈ T, plW s n x.1 x.2.1 = true ∧ 0 ≤ x.2.2 ∧ x.2.2 ≤ 1000000
def VZ (z : List Int) : Prop := ∀ y ∈ z, 0 ≤ y ∧ y ≤ 1000000
theorem plW_iff {s : Int} {n : Nat} {a b : Int} : plW s n a b = true ↔ (0 ≤ a ∧ a ≤ s - 1) ∧ 0 ≤ b ∧ b ≤ (n : Int) - 1 := by simp [plW, inB]
theorem VT.in8 {s : Int} {n : Nat} {T : List Wp} (h : VT s n T) (hs : s ≤ 96) (hn : n ≤ 24) : In8 T := fun x hx => by
  have := plW_iff.1 (h.2 x hx).1
  omega
theorem asc_count {s : Int} {n : Nat} (hs : s ≤ 96) (hn : n ≤ 24) : ∀ (T : List Wp) (lo : Int), AscL T → (∀ x ∈ T, plW s n x.1 x.2.1 = true ∧ lo ≤ x.1 * 24 + x.2.1) → (T.length : Int) ≤ max 0 (2304 - lo)
  | [], lo, _, _ => by simp; omega
  | x :: T, lo, h, hv => by
    rw [ascL_iff, List.pairwise_cons] at h
    have h0 := hv x (by simp)
    have h1 := plW_iff.1 h0.1
    have h2 := asc_count hs hn T (x.1 * 24 + x.2.1 + 1) h.2 fun y hy => by
      have hy0 := plW_iff.1 (hv y (by simp [hy])).1
      have := befP_iff.1 (h.1 y hy)
      exact ⟨(hv y (by simp [hy])).1, by omega⟩
    rw [List.length_cons]
    omega
theorem VT.length {s : Int} {n : Nat} {T : List Wp} (h : VT s n T) (hs : s ≤ 96) (hn : n ≤ 24) : T.length ≤ 2304 := by
  have := asc_count hs hn T 0 h.1 fun x hx => ⟨(h.2 x hx).1, by have := plW_iff.1 (h.2 x hx).1; omega⟩
  omega
theorem VT.wf {s : Int} {n : Nat} {T : List Wp} (h : VT s n T) (hs : s ≤ 96) (hn : n ≤ 24) : WnWF T := fun k hk => by
  have hx := List.getElem_mem hk
  have h1 := h.2 _ hx
  have h2 := h.in8 hs hn _ hx
  rw [wn_get T k hk] at h1 h2
  exact ⟨h2.1, h2.2, by simp at h1; omega⟩
theorem VT.ins {s : Int} {n : Nat} {T : List Wp} (h : VT s n T) {a b c : Int} (hp : plW s n a b = true) (hc : 0 ≤ c ∧ c ≤ 1000000) (hn : hasP T a b = false) : VT s n (insP T (a, b, c)) :=
  ⟨insP_asc h.1 (hasP_not hn), fun x hx => by
    rcases mem_insP.1 hx with rfl | hx
    · exact ⟨hp, hc⟩
    · exact h.2 x hx⟩
theorem VT.set {s : Int} {n : Nat} {T : List Wp} (h : VT s n T) {a b c : Int} (hp : plW s n a b = true) (hc : 0 ≤ c ∧ c ≤ 1000000) : VT s n (setP T a b c) :=
  ⟨setP_asc h.1 a b c, fun x hx => by
    rcases mem_setP.1 hx with hx | ⟨rfl, _⟩
    · exact h.2 x hx.1
    · exact ⟨hp, hc⟩⟩
theorem VT.del {s : Int} {n : Nat} {T : List Wp} (h : VT s n T) (a b : Int) : VT s n (delP T a b) :=
  ⟨delP_asc h.1 a b, fun x hx => h.2 x (mem_delP.1 hx).1⟩
/-- what a wear's frame bounds -/
theorem frB_bounds {s : Int} {h : List (Int × Int)} (hf : frB s h = true) : s ≤ 96 ∧ h.length ≤ 24 := by
  simp [frB, inB] at hf
  omega
/-- a valid wear's pins -/
theorem weB_VT {s : Int} {h : List (Int × Int)} {l : List Wp} {z : List Int} (hw : weB s h l z = true) : VT s h.length l ∧ VZ z ∧ z.length = h.length := by
  have h0 := hw
  simp only [weB, Bool.and_eq_true, decide_eq_true_eq] at h0
  obtain ⟨⟨⟨hf, hz⟩, hp⟩, hst⟩ := h0
  have hp' := hp
  rw [pinsB_split, Bool.and_eq_true] at hp'
  refine ⟨⟨ascL_of (ascW_of hp'.1), fun x hx => ?_⟩, fun y hy => ?_, hz⟩
  · obtain ⟨k, hk, rfl⟩ := List.mem_iff_getElem.1 hx
    have := List.all_eq_true.1 hp k (List.mem_range.2 hk)
    simp only [wnOk, Bool.and_eq_true] at this
    rw [wn_get l k hk]
    refine ⟨this.1.1, ?_⟩
    have h2 := this.1.2
    simp [inB] at h2
    exact h2
  · obtain ⟨k, hk, rfl⟩ := List.mem_iff_getElem.1 hy
    have := List.all_eq_true.1 hst k (List.mem_range.2 hk)
    simp [inB, zAt, List.getD, hk] at this
    exact this
/-- the worn state of a wearing -/
def WSt (s : Int) (n base : Nat) (C : Option Addr) (q M N : Nat) (T : List Wp) (z : List Int) (w : World) : Prop :=
  ∃ D : DataW Unit, w.ownsMap Tryz.prog 138 (plainElem (H := Unit) Tryz.prog 2) M N D ∧ ReadsW D T ∧ IsMap D ∧ w.ownsRow base 2 1 (.slice C n q) n (icells z) ∧ z.length = n ∧ VT s n T ∧ VZ z ∧ base ≤ M
theorem WSt.keep {s : Int} {n base : Nat} {C : Option Addr} {q M N : Nat} {T : List Wp} {z : List Int} {w w' : World} (h : WSt s n base C q M N T z w) (hb : Below w.heap.size w w') : WSt s n base C q M N T z w' := by
  obtain ⟨D, h1, h2, h3, h4, h5⟩ := h
  exact ⟨D, map_keep h1 hb, h2, h3, own_keep h4 hb, h5⟩
set_option maxRecDepth 20000 in
theorem readsW_del {D : DataW Unit} {T : List Wp} (hD : ReadsW D T) (hM : IsMap D) (h8 : In8 T) {a b : Int} (ha : -9223372036854775808 ≤ a ∧ a ≤ 9223372036854775807) (hb : -9223372036854775808 ≤ b ∧ b ≤ 9223372036854775807) : ReadsW (D.del (kP a b)) (delP T a b) := by
  have hk := lawP.key (key_place a b ha hb)
  have hne : ∀ x ∈ T, ¬ (x.1 = a ∧ x.2.1 = b) → kP x.1 x.2.1 ≠ kP a b := fun x hx hn e => by
    obtain ⟨x1, x2⟩ := h8 x hx
    exact hn (kP_inj (i64_of8 x1) (i64_of8 x2) ha hb e)
  refine ⟨fun x hx => ?_, fun x hx zd => ?_, fun kl hkl => ?_⟩
  · obtain ⟨h1, h2⟩ := mem_delP.1 hx
    rw [has_del_other (hne x h1 h2)]
    exact hD.1 x h1
  · obtain ⟨h1, h2⟩ := mem_delP.1 hx
    rw [atKey_del_other (hne x h1 h2)]
    exact hD.2.1 x h1 zd
  · by_cases e : kl = kP a b
    · subst e
      rw [has_del_same] at hkl
      cases hkl
    · rw [has_del_other e] at hkl
      obtain ⟨x, hx, rfl⟩ := hD.2.2 kl hkl
      exact ⟨x, mem_delP.2 ⟨hx, fun h => e (by rw [h.1, h.2])⟩, rfl⟩
end Go.Proofs.YtcocfnjbgceidaaGreat
namespace Go.Proofs.YtcocfnjbgceidaaGreat
open Go.RowKit Go.Maps
/-- what a deed leaves -/
def OnP (s : Int) (n base : Nat) (C : Option Addr) (q M N : Nat) (T : List Wp) (z : List Int) (c : Int) (g2 : Nat → Nat) (t2 : Nat → TypeId) (cs2 : Nat → Array Value) (w : World) (e : Ending) (w' : World) : Prop := e = .returned (.int .i64 c) ∧ (c = 0 → WSt s n base C q M N T z w') ∧ Bkf w' g2 t2 cs2 ∧ Below base w w'
theorem bk_kept {w w' : World} {g : Nat} {t : TypeId} {cs : Array Value} {b : Nat} (h : Bk w g t cs) (hg : w.grownBy w' (some b)) (hne : g ≠ b) : Bk w' g t cs := (hg.block g h.lt (fun e => hne (Option.some.inj e))).trans h
theorem map_ne_bk {w : World} {M m g : Nat} {D : DataW Unit} {k t : TypeId} {cs : Array Value} {R : Value → Option (DataW Unit × List MemPlace)} (h : w.ownsMap Tryz.prog k R M m D) (hB : Bk w g t cs) : g ≠ M := fun e => by
  subst e
  obtain ⟨es, clock, h1, _⟩ := h
  have h2 : w.heap[g]? = some (.cells cs t (0, 0)) := hB
  rw [h1] at h2
  cases h2
def plC (s : Int) (n : Nat) (a b : Int) : Int := if plW s n a b then 0 else 2
def plT (T : List Wp) (a b : Int) : List Wp := if hasP T a b then setP T a b 0 else insP T (a, b, 0)
theorem plT_vt {s : Int} {n : Nat} {T : List Wp} (h : VT s n T) {a b : Int} (hp : plW s n a b = true) : VT s n (plT T a b) := by
  unfold plT
  split
  · exact h.set hp (by omega)
  · rename_i h0
    exact h.ins hp (by omega) (by simpa using h0)
theorem readsW_pl {s : Int} {n : Nat} {T : List Wp} (h : VT s n T) (hs : s ≤ 96) (hn : n ≤ 24) {a b : Int} (hp : plW s n a b = true) {D : DataW Unit} (hD : ReadsW D T) (hM : IsMap D) : ReadsW (D.put (kP a b) (.lit (.int .i64 0))) (plT T a b) := by
  refine readsW_put hD hM ((plT_vt h hp).in8 hs hn) ?_ ?_ ?_ ?_
  · unfold plT
    split
    · rename_i h0
      exact mem_setP.2 (Or.inr ⟨rfl, h0⟩)
    · exact mem_insP.2 (Or.inl rfl)
  · intro x hx e
    unfold plT at hx
    split at hx
    · rcases mem_setP.1 hx with ⟨_, h1⟩ | ⟨rfl, _⟩
      · exact absurd e h1
      · rfl
    · rename_i h0
      rcases mem_insP.1 hx with rfl | h1
      · rfl
      · exact absurd e (hasP_not (by simpa using h0) x h1)
  · intro x hx e
    unfold plT at hx
    split at hx
    · rcases mem_setP.1 hx with ⟨h1, _⟩ | ⟨rfl, _⟩
      · exact h1
      · exact absurd ⟨rfl, rfl⟩ e
    · rcases mem_insP.1 hx with rfl | h1
      · exact absurd ⟨rfl, rfl⟩ e
      · exact h1
  · intro x hx e
    unfold plT
    split
    · exact mem_setP.2 (Or.inl ⟨hx, e⟩)
    · exact mem_insP.2 (Or.inr hx)
set_option maxRecDepth 20000 in
set_option maxHeartbeats 4000000 in
theorem placing_any (s : Int) (A : Option Addr) (n c M q N base : Nat) (C : Option Addr) (T : List Wp) (z : List Int) (a b : Int) (w : World) (hs : s ≤ 96) (hn : n ≤ 24) (hs' : -32768 ≤ s) (hSt : WSt s n base C q M N T z w) (hbase : base ≤ w.heap.size) (hN : N ≤ 1099511627776) (g2 : Nat → Nat) (t2 : Nat → TypeId) (cs2 : Nat → Array Value) (hB : Bkf w g2 t2 cs2) :
    Calls Tryz.prog 166 #[.agg #[.int .i64 a, .int .i64 b], .agg #[.int .i64 s, .slice A n c, .map (some M), .slice C n q]] w (OnP s n base C q M (N + 1) (plT T a b) (z) (plC s n a b) g2 t2 cs2 w) := by
  obtain ⟨X, hX⟩ : ∃ X, X = (w.alloc (.cells #[.int .i64 a, .int .i64 b] 175)).alloc (.cells #[.int .i64 s, .slice A n c, .map (some M), .slice C n q] 106) := ⟨_, rfl⟩
  have bX : Below w.heap.size w X := by rw [hX]; exact ((Below.refl _ _).alloc (Nat.le_refl _) _).alloc (by simp) _
  have R0 : Bk X w.heap.size 175 #[.int .i64 a, .int .i64 b] := by rw [hX]; exact (Bk.new _ _ _ rfl).old _
  have W0 : Bk X (w.heap.size + 1) 106 #[.int .i64 s, .slice A n c, .map (some M), .slice C n q] := by rw [hX]; exact Bk.new _ _ _ (by simp)
  have St0 := hSt.keep bX
  have B0 := hB.keep bX
  have hX2 := W0.lt
  go_enter Tryz.func166, Tryz.ntmps166
  go_upto_region 1 with fail
  rw [← hX]
  clear hX
  have r0 := R0.cell (i := 0) rfl
  have r1 := R0.cell (i := 1) rfl
  have w0 := W0.cell (i := 0) rfl
  have w1 := W0.cell (i := 1) rfl
  have KP := fun W => hasPlace_any s a b A n c W ⟨hs', by omega⟩ (by omega)
  cases hp : plW s n a b
  · rw [hp] at KP
    have HC := hide (show plC s n a b = 2 by simp [plC, hp])
    clear hp
    go_wp2_with fail
    refine (KP _).mono ?_
    rintro e w2 ⟨rfl, hb2⟩
    have b2 := step_below hb2 bX
    go_wp2
    go_ret
    exact ⟨by rw [HC.out]; rfl, fun h => absurd h (by rw [HC.out]; decide), B0.keep hb2, b2.mono hbase⟩
  · rw [hp] at KP
    have HC := hide (show plC s n a b = 0 by simp [plC, hp])
    have HP := hide hp
    clear hp
    go_wp2_with fail
    refine (KP _).mono ?_
    rintro e w2 ⟨rfl, hb2⟩
    have b2 := step_below hb2 bX
    have R2 := R0.keep hb2
    have W2 := W0.keep hb2
    have B2 := B0.keep hb2
    obtain ⟨D, hM, hD, hI, hO, hz, hv, hvz, hbM⟩ := St0.keep hb2
    have r0 := R2.cell (i := 0) rfl
    have r1 := R2.cell (i := 1) rfl
    have w2_ := W2.cell (i := 2) rfl
    have hi := plW_iff.1 HP.out
    have HV := hide hv
    have HVZ := hide hvz
    have HD := hide hD
    have hkey := key_place a b (by omega) (by omega)
    have hneB := fun i => map_ne_bk hM (B2 i)
    have hneO := fun g (h : (Value.slice C n q).ownBlock = some g) => map_ne_own hM hO g h
    clear hv hvz hD hi KP
    go_wp2_with (first | (at_mapUpdate; refine wpList_mapUpdate_own _ rfl _ _ _ 102 rfl 138 2 lawP Tryz.underlying102 _ M N D rfl hM (by unfold maxLen; omega) _ _ _ rfl rfl hkey _ [] (plainElem_int Tryz.underlying2 (by decide)) ?_; intro w3 hown3 hgrow3))
    go_ret
    refine ⟨by rw [HC.out]; rfl, fun _ => ⟨_, hown3, readsW_pl HV.out hs hn HP.out HD.out hI, hI.put _ _, hO.kept hgrow3 (Or.inr fun e => hneO _ e rfl), hz, plT_vt HV.out HP.out, HVZ.out, hbM⟩, B2.kept hgrow3 hneB, (b2.mono hbase).grown hgrow3 (Nat.le_trans hbase b2.size) (fun k hk => by cases hk; exact hbM)⟩
end Go.Proofs.YtcocfnjbgceidaaGreat
namespace Go.Proofs.YtcocfnjbgceidaaGreat
open Go.RowKit Go.Maps
def mvC (s : Int) (n : Nat) (T : List Wp) (a b c d : Int) : Int := if plW s n a b && plW s n c d then (if hasP T a b && !hasP T c d then 0 else 4) else 2
def mvT (T : List Wp) (a b c d : Int) : List Wp := insP (delP T a b) (c, d, turP T a b)
theorem has_reads {s : Int} {n : Nat} {T : List Wp} (h : VT s n T) (hs : s ≤ 96) (hn : n ≤ 24) {a b : Int} (hp : plW s n a b = true) {D : DataW Unit} (hD : ReadsW D T) : has D (kP a b) = hasP T a b := by
  have hi := plW_iff.1 hp
  rw [Bool.eq_iff_iff]
  constructor
  · intro h1
    obtain ⟨x, hx, e⟩ := hD.2.2 _ h1
    obtain ⟨x1, x2⟩ := h.in8 hs hn x hx
    obtain ⟨e1, e2⟩ := kP_inj (by omega) (by omega) (i64_of8 x1) (i64_of8 x2) e
    exact hasP_iff.2 ⟨x, hx, e1.symm, e2.symm⟩
  · intro h1
    obtain ⟨x, hx, e1, e2⟩ := hasP_iff.1 h1
    rw [← e1, ← e2]
    exact hD.1 x hx
theorem mvT_vt {s : Int} {n : Nat} {T : List Wp} (h : VT s n T) {a b c d : Int} (hp : plW s n c d = true) (ha : hasP T a b = true) (hc : hasP T c d = false) : VT s n (mvT T a b c d) := by
  refine (h.del a b).ins hp (h.2 _ (turP_mem ha)).2 ?_
  cases hh : hasP (delP T a b) c d
  · rfl
  · obtain ⟨x, hx, e⟩ := hasP_iff.1 hh
    exact absurd e (hasP_not hc x (mem_delP.1 hx).1)
theorem zero64w (w : World) : (zeroValue 2).run Tryz.prog w = .ok (.int .i64 0) w := by kernel_rfl
theorem readsW_mv {s : Int} {n : Nat} {T : List Wp} (h : VT s n T) (hs : s ≤ 96) (hn : n ≤ 24) {a b c d : Int} (hp1 : plW s n a b = true) (hp : plW s n c d = true) (ha : hasP T a b = true) (hc : hasP T c d = false) {D : DataW Unit} (hD : ReadsW D T) (hM : IsMap D) :
    ReadsW ((D.del (kP a b)).put (kP c d) (.lit (.int .i64 (turP T a b)))) (mvT T a b c d) := by
  have hi := plW_iff.1 hp1
  refine readsW_put (readsW_del hD hM (h.in8 hs hn) (by omega) (by omega)) (hM.del _) ((mvT_vt h hp ha hc).in8 hs hn) (mem_insP.2 (Or.inl rfl)) ?_ ?_ ?_
  · intro x hx e
    rcases mem_insP.1 hx with rfl | h1
    · rfl
    · exact absurd e (hasP_not hc x (mem_delP.1 h1).1)
  · intro x hx e
    rcases mem_insP.1 hx with rfl | h1
    · exact absurd ⟨rfl, rfl⟩ e
    · exact h1
  · exact fun x hx _ => mem_insP.2 (Or.inr hx)
set_option maxRecDepth 20000 in
set_option maxHeartbeats 4000000 in
theorem moving_any (s : Int) (A : Option Addr) (n c M q N base : Nat) (C : Option Addr) (T : List Wp) (z : List Int) (a b c2 d2 : Int) (w : World) (hs : s ≤ 96) (hn : n ≤ 24) (hs' : -32768 ≤ s) (hSt : WSt s n base C q M N T z w) (hbase : base ≤ w.heap.size) (hN : N ≤ 1099511627776) (g2 : Nat → Nat) (t2 : Nat → TypeId) (cs2 : Nat → Array Value) (hB : Bkf w g2 t2 cs2) :
    Calls Tryz.prog 167 #[.agg #[.int .i64 a, .int .i64 b, .int .i64 c2, .int .i64 d2], .agg #[.int .i64 s, .slice A n c, .map (some M), .slice C n q]] w (OnP s n base C q M (N + 1) (mvT T a b c2 d2) (z) (mvC s n T a b c2 d2) g2 t2 cs2 w) := by
  obtain ⟨X, hX⟩ : ∃ X, X = (w.alloc (.cells #[.int .i64 a, .int .i64 b, .int .i64 c2, .int .i64 d2] 177)).alloc (.cells #[.int .i64 s, .slice A n c, .map (some M), .slice C n q] 106) := ⟨_, rfl⟩
  have bX : Below w.heap.size w X := by rw [hX]; exact ((Below.refl _ _).alloc (Nat.le_refl _) _).alloc (by simp) _
  have R0 : Bk X w.heap.size 177 #[.int .i64 a, .int .i64 b, .int .i64 c2, .int .i64 d2] := by rw [hX]; exact (Bk.new _ _ _ rfl).old _
  have W0 : Bk X (w.heap.size + 1) 106 #[.int .i64 s, .slice A n c, .map (some M), .slice C n q] := by rw [hX]; exact Bk.new _ _ _ (by simp)
  have St0 := hSt.keep bX
  have B0 := hB.keep bX
  have hX2 := W0.lt
  go_enter Tryz.func167, Tryz.ntmps167
  go_upto_region 1 with fail
  rw [← hX]
  clear hX
  have r0 := R0.cell (i := 0) rfl
  have r1 := R0.cell (i := 1) rfl
  have w0 := W0.cell (i := 0) rfl
  have w1 := W0.cell (i := 1) rfl
  have KP := fun W => hasPlace_any s a b A n c W ⟨hs', by omega⟩ (by omega)
  have KQ := fun W => hasPlace_any s c2 d2 A n c W ⟨hs', by omega⟩ (by omega)
  cases hp : plW s n a b
  · rw [hp] at KP
    have HC := hide (show mvC s n T a b c2 d2 = 2 by simp [mvC, hp])
    clear hp
    go_wp2_with fail
    refine (KP _).mono ?_
    rintro e w2 ⟨rfl, hb2⟩
    have b2 := step_below hb2 bX
    go_wp2
    go_ret
    exact ⟨by rw [HC.out]; rfl, fun h => absurd h (by rw [HC.out]; decide), B0.keep hb2, b2.mono hbase⟩
  rw [hp] at KP
  go_wp2_with fail
  refine (KP _).mono ?_
  rintro e w2 ⟨rfl, hb2⟩
  have b2 := step_below hb2 bX
  have R2 := R0.keep hb2
  have W2 := W0.keep hb2
  have B2 := B0.keep hb2
  have St2 := St0.keep hb2
  clear r0 r1 w0 w1
  have r0 := R2.cell (i := 2) rfl
  have r1 := R2.cell (i := 3) rfl
  have w0 := W2.cell (i := 0) rfl
  have w1 := W2.cell (i := 1) rfl
  go_wp2_with fail
  refine (KQ _).mono ?_
  rintro e w3 ⟨rfl, hb3⟩
  have b3 := step_below hb3 b2
  have R3 := R2.keep hb3
  have W3 := W2.keep hb3
  have B3 := B2.keep hb3
  obtain ⟨D, hM, hD, hI, hO, hz, hv, hvz, hbM⟩ := St2.keep hb3
  clear r0 r1 w0 w1 KP KQ
  cases hq : plW s n c2 d2
  · have HC := hide (show mvC s n T a b c2 d2 = 2 by simp [mvC, hq])
    clear hq hp hD
    go_wp2
    go_ret
    exact ⟨by rw [HC.out]; rfl, fun h => absurd h (by rw [HC.out]; decide), B3, b3.mono hbase⟩
  have hi1 := plW_iff.1 hp
  have hi2 := plW_iff.1 hq
  have hk1 := key_place a b (by omega) (by omega)
  have hk2 := key_place c2 d2 (by omega) (by omega)
  obtain ⟨v1, ps1, look1, hv1⟩ := hM.look_ok lawP Tryz.underlying102 (zero64w _) (plainElem_int (H := Unit) Tryz.underlying2 (wf64 ⟨by decide, by decide⟩)) hk1
  obtain ⟨v2, ps2, look2, hv2⟩ := hM.look_ok lawP Tryz.underlying102 (zero64w _) (plainElem_int (H := Unit) Tryz.underlying2 (wf64 ⟨by decide, by decide⟩)) hk2
  rw [has_reads hv hs hn hp hD] at look1
  rw [has_reads hv hs hn hq hD] at look2
  have hneB := fun i => map_ne_bk hM (B3 i)
  have hneW := map_ne_bk hM W3
  have hneR := map_ne_bk hM R3
  have hneO := fun g (h : (Value.slice C n q).ownBlock = some g) => map_ne_own hM hO g h
  have hMlt := hM.lt
  have HV := hide hv
  have HVZ := hide hvz
  have HD := hide hD
  have HP := hide hp
  have HQ := hide hq
  have HV1 := hide hv1
  have r0 := R3.cell (i := 0) rfl
  have r1 := R3.cell (i := 1) rfl
  have r2 := R3.cell (i := 2) rfl
  have r3 := R3.cell (i := 3) rfl
  have w2_ := W3.cell (i := 2) rfl
  clear hv hvz hD hp hq hv1 hv2 hi1 hi2
  cases ha : hasP T a b
  · rw [ha] at look1
    have HC := hide (show mvC s n T a b c2 d2 = 4 by simp [mvC, HP.out, HQ.out, ha])
    clear ha
    go_wp2
    go_ret
    exact ⟨by rw [HC.out]; rfl, fun h => absurd h (by rw [HC.out]; decide), B3, b3.mono hbase⟩
  rw [ha] at look1
  cases hc : hasP T c2 d2
  rotate_left
  · rw [hc] at look2
    have HC := hide (show mvC s n T a b c2 d2 = 4 by simp [mvC, HP.out, HQ.out, hc])
    clear ha hc
    go_wp2
    go_ret
    exact ⟨by rw [HC.out]; rfl, fun h => absurd h (by rw [HC.out]; decide), B3, b3.mono hbase⟩
  rw [hc] at look2
  have HC := hide (show mvC s n T a b c2 d2 = 0 by simp [mvC, HP.out, HQ.out, hc, ha])
  have HA := hide ha
  have HCC := hide hc
  have hv1 := HV1.out
  rw [HD.out.2.1 _ (turP_mem ha)] at hv1
  obtain ⟨c0, rfl, hc0, hwf0⟩ := plainElem_int_inv Tryz.underlying2 hv1
  obtain ⟨rfl, _⟩ : c0 = turP T a b ∧ ps1 = [] := by simpa using hc0.symm
  clear ha hc hv1 hc0
  have hNm : N < maxLen := by unfold maxLen; omega
  have hvt := plainElem_int (H := Unit) Tryz.underlying2 hwf0
  generalize ht : turP T a b = tt at *
  go_wp2_with (first | (at_delete; refine wpList_delete_own _ rfl _ _ 102 138 rfl 2 lawP Tryz.underlying102 _ M N D rfl hM _ _ rfl hk1 ?_; intro w4 hM4 hturn4; have hg4 := hturn4.grown; have R4 := bk_kept R3 hg4 hneR; have W4 := bk_kept W3 hg4 hneW; have s2 := R4.cell (i := 2) rfl; have s3 := R4.cell (i := 3) rfl; have u2 := W4.cell (i := 2) rfl) | (at_mapUpdate; refine wpList_mapUpdate_own _ rfl _ _ _ 102 rfl 138 2 lawP Tryz.underlying102 _ M N (D.del (kP a b)) rfl hM4 hNm _ _ _ rfl rfl hk2 _ [] hvt ?_; intro w5 hM5 hg5))

  go_ret
  have hbs := Nat.le_trans hbase b3.size
  refine ⟨by rw [HC.out]; rfl, fun _ => ⟨_, hM5, by rw [← ht]; exact readsW_mv HV.out hs hn HP.out HQ.out HA.out HCC.out HD.out hI, (hI.del _).put _ _, (hO.kept hg4 (Or.inr fun e => hneO _ e rfl)).kept hg5 (Or.inr fun e => hneO _ e rfl), hz, mvT_vt HV.out HQ.out HA.out HCC.out, HVZ.out, hbM⟩, (B3.kept hg4 hneB).kept hg5 hneB, ((b3.mono hbase).grown hg4 hbs (fun k hk => by cases hk; exact hbM)).grown hg5 (Nat.le_trans hbs hg4.size) (fun k hk => by cases hk; exact hbM)⟩
end Go.Proofs.YtcocfnjbgceidaaGreat
namespace Go.Proofs.YtcocfnjbgceidaaGreat
open Go.RowKit Go.Maps
theorem vz_set {z : List Int} (h : VZ z) (k : Nat) : VZ (z.set k 0) := fun y hy => by
  rcases List.mem_or_eq_of_mem_set hy with h1 | rfl
  · exact h y h1
  · omega
/-- a hammer made new, as a deed -/
theorem renewOn_any (s : Int) (A : Option Addr) (n c M q N base : Nat) (C : Option Addr) (T : List Wp) (z : List Int) (x : Int) (w : World) (hs : s ≤ 96) (hn : n ≤ 24) (hs' : -32768 ≤ s) (hSt : WSt s n base C q M N T z w) (hbase : base ≤ w.heap.size) (hN : N ≤ 1099511627776) (g2 : Nat → Nat) (t2 : Nat → TypeId) (cs2 : Nat → Array Value) (hB : Bkf w g2 t2 cs2) (ht2 : ∀ i, t2 i ≠ 2) :
    Calls Tryz.prog 165 #[.agg #[.int .i64 x], .agg #[.int .i64 s, .slice A n c, .map (some M), .slice C n q]] w (OnP s n base C q M (N + 1) T (rnZ n z x) (rnC n x) g2 t2 cs2 w) := by
  obtain ⟨D, hM, hD, hI, hO, hz, hv, hvz, hbM⟩ := hSt
  subst hz
  refine (renewing_any s x A z.length c M q base C z N D w (by omega) rfl hO hbase hM (fun g hg => map_ne_own hM hO g (by rw [hg]; rfl)) g2 t2 cs2 hB ht2).mono ?_
  rintro e w' ⟨rfl, hO', hM', hB', hb'⟩
  refine ⟨rfl, fun _ => ⟨D, hM'.mono (Nat.le_succ _), hD, hI, hO', ?_, hv, ?_, hbM⟩, hB', hb'⟩
  · unfold rnZ
    split <;> simp
  · unfold rnZ
    split
    · exact vz_set hvz _
    · exact hvz
set_option maxRecDepth 20000 in
set_option maxHeartbeats 4000000 in
theorem deed_pin (a b c2 d2 : Int) (w : World) :
    Calls Tryz.prog 87 #[.agg #[.int .i8 2, .int .i64 a, .int .i64 b, .int .i64 c2, .int .i64 d2]] w fun e w' => e = .returned (.iface 175 (.agg #[.int .i64 a, .int .i64 b])) ∧ Below w.heap.size w w' := by
  have hb0 : Below w.heap.size w (w.alloc (.cells #[.int .i8 2, .int .i64 a, .int .i64 b, .int .i64 c2, .int .i64 d2] 55)) := (Below.refl _ _).alloc (Nat.le_refl _) _
  go_enter Tryz.func87, Tryz.ntmps87
  go_wp2
  go_ret
  exact ⟨rfl, hb0⟩
set_option maxRecDepth 20000 in
set_option maxHeartbeats 4000000 in
theorem do_pin (s : Int) (A : Option Addr) (n c M q N base : Nat) (C : Option Addr) (T : List Wp) (z : List Int) (a b c2 d2 : Int) (w : World) (hs : s ≤ 96) (hn : n ≤ 24) (hs' : -32768 ≤ s) (hSt : WSt s n base C q M N T z w) (hbase : base ≤ w.heap.size) (hN : N ≤ 1099511627776) (g2 : Nat → Nat) (t2 : Nat → TypeId) (cs2 : Nat → Array Value) (hB : Bkf w g2 t2 cs2) :
    Calls Tryz.prog 63 #[.agg #[.int .i64 s, .slice A n c, .map (some M), .slice C n q], .agg #[.int .i8 2, .int .i64 a, .int .i64 b, .int .i64 c2, .int .i64 d2]] w (OnP s n base C q M (N + 1) (plT T a b) (z) (plC s n a b) g2 t2 cs2 w) := by
  obtain ⟨X, hX⟩ : ∃ X, X = (w.alloc (.cells #[.int .i64 s, .slice A n c, .map (some M), .slice C n q] 106)).alloc (.cells #[.int .i8 2, .int .i64 a, .int .i64 b, .int .i64 c2, .int .i64 d2] 55) := ⟨_, rfl⟩
  have bX : Below w.heap.size w X := by rw [hX]; exact ((Below.refl _ _).alloc (Nat.le_refl _) _).alloc (by simp) _
  have W0 : Bk X w.heap.size 106 #[.int .i64 s, .slice A n c, .map (some M), .slice C n q] := by rw [hX]; exact (Bk.new _ _ _ rfl).old _
  have A0 : Bk X (w.heap.size + 1) 55 #[.int .i8 2, .int .i64 a, .int .i64 b, .int .i64 c2, .int .i64 d2] := by rw [hX]; exact Bk.new _ _ _ (by simp)
  have St0 := hSt.keep bX
  have B0 := hB.keep bX
  go_enter Tryz.func63, Tryz.ntmps63
  go_upto_region 1 with fail
  rw [← hX]
  clear hX
  have c0 := A0.cell (i := 0) rfl
  have c1 := A0.cell (i := 1) rfl
  have c2_ := A0.cell (i := 2) rfl
  have c3 := A0.cell (i := 3) rfl
  have c4 := A0.cell (i := 4) rfl
  go_wp2_with fail
  clear c0 c1 c2_ c3 c4
  refine (deed_pin a b c2 d2 _).mono ?_
  rintro e w2 ⟨rfl, hb2⟩
  have b2 := step_below hb2 bX
  have W2 := W0.keep hb2
  have c0 := W2.cell (i := 0) rfl
  have c1 := W2.cell (i := 1) rfl
  have c2_ := W2.cell (i := 2) rfl
  have c3 := W2.cell (i := 3) rfl
  have KR := placing_any s A n c M q N base C T z a b w2 hs hn hs' (St0.keep hb2) (Nat.le_trans hbase b2.size) hN g2 t2 cs2 (B0.keep hb2)
  have hm : ∀ (k : Nat) W, (method (k + 1) 175 (.agg #[.int .i64 a, .int .i64 b]) "loop.example/g01311/impl.on").run Tryz.prog W = .ok (166, .agg #[.int .i64 a, .int .i64 b]) W := fun k W => rfl
  go_wp2_with fail
  refine KR.mono ?_
  rintro e w3 ⟨rfl, hst3, B3, hb3⟩
  go_wp2
  go_ret
  exact ⟨rfl, hst3, B3, (b2.mono hbase).trans hb3⟩
set_option maxRecDepth 20000 in
set_option maxHeartbeats 4000000 in
theorem deed_move (a b c2 d2 : Int) (w : World) :
    Calls Tryz.prog 87 #[.agg #[.int .i8 3, .int .i64 a, .int .i64 b, .int .i64 c2, .int .i64 d2]] w fun e w' => e = .returned (.iface 177 (.agg #[.int .i64 a, .int .i64 b, .int .i64 c2, .int .i64 d2])) ∧ Below w.heap.size w w' := by
  have hb0 : Below w.heap.size w (w.alloc (.cells #[.int .i8 3, .int .i64 a, .int .i64 b, .int .i64 c2, .int .i64 d2] 55)) := (Below.refl _ _).alloc (Nat.le_refl _) _
  go_enter Tryz.func87, Tryz.ntmps87
  go_wp2
  go_ret
  exact ⟨rfl, hb0⟩
set_option maxRecDepth 20000 in
set_option maxHeartbeats 4000000 in
theorem do_move (s : Int) (A : Option Addr) (n c M q N base : Nat) (C : Option Addr) (T : List Wp) (z : List Int) (a b c2 d2 : Int) (w : World) (hs : s ≤ 96) (hn : n ≤ 24) (hs' : -32768 ≤ s) (hSt : WSt s n base C q M N T z w) (hbase : base ≤ w.heap.size) (hN : N ≤ 1099511627776) (g2 : Nat → Nat) (t2 : Nat → TypeId) (cs2 : Nat → Array Value) (hB : Bkf w g2 t2 cs2) :
    Calls Tryz.prog 63 #[.agg #[.int .i64 s, .slice A n c, .map (some M), .slice C n q], .agg #[.int .i8 3, .int .i64 a, .int .i64 b, .int .i64 c2, .int .i64 d2]] w (OnP s n base C q M (N + 1) (mvT T a b c2 d2) (z) (mvC s n T a b c2 d2) g2 t2 cs2 w) := by
  obtain ⟨X, hX⟩ : ∃ X, X = (w.alloc (.cells #[.int .i64 s, .slice A n c, .map (some M), .slice C n q] 106)).alloc (.cells #[.int .i8 3, .int .i64 a, .int .i64 b, .int .i64 c2, .int .i64 d2] 55) := ⟨_, rfl⟩
  have bX : Below w.heap.size w X := by rw [hX]; exact ((Below.refl _ _).alloc (Nat.le_refl _) _).alloc (by simp) _
  have W0 : Bk X w.heap.size 106 #[.int .i64 s, .slice A n c, .map (some M), .slice C n q] := by rw [hX]; exact (Bk.new _ _ _ rfl).old _
  have A0 : Bk X (w.heap.size + 1) 55 #[.int .i8 3, .int .i64 a, .int .i64 b, .int .i64 c2, .int .i64 d2] := by rw [hX]; exact Bk.new _ _ _ (by simp)
  have St0 := hSt.keep bX
  have B0 := hB.keep bX
  go_enter Tryz.func63, Tryz.ntmps63
  go_upto_region 1 with fail
  rw [← hX]
  clear hX
  have c0 := A0.cell (i := 0) rfl
  have c1 := A0.cell (i := 1) rfl
  have c2_ := A0.cell (i := 2) rfl
  have c3 := A0.cell (i := 3) rfl
  have c4 := A0.cell (i := 4) rfl
  go_wp2_with fail
  clear c0 c1 c2_ c3 c4
  refine (deed_move a b c2 d2 _).mono ?_
  rintro e w2 ⟨rfl, hb2⟩
  have b2 := step_below hb2 bX
  have W2 := W0.keep hb2
  have c0 := W2.cell (i := 0) rfl
  have c1 := W2.cell (i := 1) rfl
  have c2_ := W2.cell (i := 2) rfl
  have c3 := W2.cell (i := 3) rfl
  have KR := moving_any s A n c M q N base C T z a b c2 d2 w2 hs hn hs' (St0.keep hb2) (Nat.le_trans hbase b2.size) hN g2 t2 cs2 (B0.keep hb2)
  have hm : ∀ (k : Nat) W, (method (k + 1) 177 (.agg #[.int .i64 a, .int .i64 b, .int .i64 c2, .int .i64 d2]) "loop.example/g01311/impl.on").run Tryz.prog W = .ok (167, .agg #[.int .i64 a, .int .i64 b, .int .i64 c2, .int .i64 d2]) W := fun k W => rfl
  go_wp2_with fail
  refine KR.mono ?_
  rintro e w3 ⟨rfl, hst3, B3, hb3⟩
  go_wp2
  go_ret
  exact ⟨rfl, hst3, B3, (b2.mono hbase).trans hb3⟩
set_option maxRecDepth 20000 in
set_option maxHeartbeats 4000000 in
theorem deed_hammer (a b c2 d2 : Int) (w : World) :
    Calls Tryz.prog 87 #[.agg #[.int .i8 1, .int .i64 a, .int .i64 b, .int .i64 c2, .int .i64 d2]] w fun e w' => e = .returned (.iface 173 (.agg #[.int .i64 a])) ∧ Below w.heap.size w w' := by
  have hb0 : Below w.heap.size w (w.alloc (.cells #[.int .i8 1, .int .i64 a, .int .i64 b, .int .i64 c2, .int .i64 d2] 55)) := (Below.refl _ _).alloc (Nat.le_refl _) _
  go_enter Tryz.func87, Tryz.ntmps87
  go_wp2
  go_ret
  exact ⟨rfl, hb0⟩
set_option maxRecDepth 20000 in
set_option maxHeartbeats 4000000 in
theorem do_hammer (s : Int) (A : Option Addr) (n c M q N base : Nat) (C : Option Addr) (T : List Wp) (z : List Int) (a b c2 d2 : Int) (w : World) (hs : s ≤ 96) (hn : n ≤ 24) (hs' : -32768 ≤ s) (hSt : WSt s n base C q M N T z w) (hbase : base ≤ w.heap.size) (hN : N ≤ 1099511627776) (g2 : Nat → Nat) (t2 : Nat → TypeId) (cs2 : Nat → Array Value) (hB : Bkf w g2 t2 cs2) (ht2 : ∀ i, t2 i ≠ 2) :
    Calls Tryz.prog 63 #[.agg #[.int .i64 s, .slice A n c, .map (some M), .slice C n q], .agg #[.int .i8 1, .int .i64 a, .int .i64 b, .int .i64 c2, .int .i64 d2]] w (OnP s n base C q M (N + 1) (T) (rnZ n z a) (rnC n a) g2 t2 cs2 w) := by
  obtain ⟨X, hX⟩ : ∃ X, X = (w.alloc (.cells #[.int .i64 s, .slice A n c, .map (some M), .slice C n q] 106)).alloc (.cells #[.int .i8 1, .int .i64 a, .int .i64 b, .int .i64 c2, .int .i64 d2] 55) := ⟨_, rfl⟩
  have bX : Below w.heap.size w X := by rw [hX]; exact ((Below.refl _ _).alloc (Nat.le_refl _) _).alloc (by simp) _
  have W0 : Bk X w.heap.size 106 #[.int .i64 s, .slice A n c, .map (some M), .slice C n q] := by rw [hX]; exact (Bk.new _ _ _ rfl).old _
  have A0 : Bk X (w.heap.size + 1) 55 #[.int .i8 1, .int .i64 a, .int .i64 b, .int .i64 c2, .int .i64 d2] := by rw [hX]; exact Bk.new _ _ _ (by simp)
  have St0 := hSt.keep bX
  have B0 := hB.keep bX
  go_enter Tryz.func63, Tryz.ntmps63
  go_upto_region 1 with fail
  rw [← hX]
  clear hX
  have c0 := A0.cell (i := 0) rfl
  have c1 := A0.cell (i := 1) rfl
  have c2_ := A0.cell (i := 2) rfl
  have c3 := A0.cell (i := 3) rfl
  have c4 := A0.cell (i := 4) rfl
  go_wp2_with fail
  clear c0 c1 c2_ c3 c4
  refine (deed_hammer a b c2 d2 _).mono ?_
  rintro e w2 ⟨rfl, hb2⟩
  have b2 := step_below hb2 bX
  have W2 := W0.keep hb2
  have c0 := W2.cell (i := 0) rfl
  have c1 := W2.cell (i := 1) rfl
  have c2_ := W2.cell (i := 2) rfl
  have c3 := W2.cell (i := 3) rfl
  have KR := renewOn_any s A n c M q N base C T z a w2 hs hn hs' (St0.keep hb2) (Nat.le_trans hbase b2.size) hN g2 t2 cs2 (B0.keep hb2) ht2
  have hm : ∀ (k : Nat) W, (method (k + 1) 173 (.agg #[.int .i64 a]) "loop.example/g01311/impl.on").run Tryz.prog W = .ok (165, .agg #[.int .i64 a]) W := fun k W => rfl
  go_wp2_with fail
  refine KR.mono ?_
  rintro e w3 ⟨rfl, hst3, B3, hb3⟩
  go_wp2
  go_ret
  exact ⟨rfl, hst3, B3, (b2.mono hbase).trans hb3⟩
/-- what an act on a wear comes to -/
def waC (s : Int) (h : List (Int × Int)) (l : List Wp) (z : List Int) (code : Int) : Int := if weB s h l z then code else 1
def waT (s : Int) (h : List (Int × Int)) (l : List Wp) (z : List Int) (code : Int) (T : List Wp) : List Wp := if waC s h l z code = 0 then T else []
def waZ (s : Int) (h : List (Int × Int)) (l : List Wp) (z : List Int) (code : Int) (y : List Int) : List Int := if waC s h l z code = 0 then y else []
theorem wst_start {s : Int} {h : List (Int × Int)} {l : List Wp} {z : List Int} (hw : weB s h l z = true) (hlw : WnWF l) {base q M : Nat} {C : Option Addr} {w : World} (hM : w.ownsMap Tryz.prog 138 (plainElem (H := Unit) Tryz.prog 2) M l.length (mapW l l.length)) (hO : w.ownsRow base 2 1 (.slice C z.length q) z.length (icells z)) (hb : base ≤ M) : WSt s h.length base C q M l.length l z w := by
  obtain ⟨h1, h2, h3⟩ := weB_VT hw
  have hpb : pinsB s h.length l = true := by
    simp only [weB, Bool.and_eq_true] at hw
    exact hw.1.2
  rw [pinsB_split, Bool.and_eq_true] at hpb
  exact ⟨_, hM, readsW_map hlw (ascW_of hpb.1), mapW_isMap l _, by rw [h3] at hO; exact hO, h3, h1, h2, hb⟩
theorem weB_fr {s : Int} {h : List (Int × Int)} {l : List Wp} {z : List Int} (hw : weB s h l z = true) : s ≤ 96 ∧ h.length ≤ 24 := by
  simp only [weB, Bool.and_eq_true] at hw
  exact frB_bounds hw.1.1.1
set_option maxRecDepth 20000 in
set_option maxHeartbeats 8000000 in
theorem doWear_gen (s : Int) (A : Option Addr) (c : Nat) (h : List (Int × Int)) (P : Option Addr) (d : Nat) (l : List Wp) (U : Option Addr) (v : Nat) (z : List Int) (k a b c2 d2 code : Int) (T' : List Wp) (z' : List Int) (w : World)
    (hA : HA w A h) (hn : h.length ≤ 1048576) (hwf : HWF h) (hs : -32768 ≤ s ∧ s ≤ 32767) (hL : WnA w P l) (hU : SZ w U z) (hl : l.length ≤ 1048576) (hz : z.length ≤ 1048576) (hlw : WnWF l) (hzw : ZWF z)
    (KD : weB s h l z = true → ∀ (base M q : Nat) (C A' : Option Addr) (c' : Nat) (W : World), WSt s h.length base C q M l.length l z W → base ≤ W.heap.size → ∀ (g2 : Nat → Nat) (t2 : Nat → TypeId) (cs2 : Nat → Array Value), Bkf W g2 t2 cs2 → (∀ i, t2 i ≠ 2) → Calls Tryz.prog 63 #[.agg #[.int .i64 s, .slice A' h.length c', .map (some M), .slice C h.length q], .agg #[.int .i8 k, .int .i64 a, .int .i64 b, .int .i64 c2, .int .i64 d2]] W (OnP s h.length base C q M (l.length + 1) T' z' code g2 t2 cs2 W)) :
    Calls Tryz.prog 27 #[.agg #[.int .i16 s, .slice A h.length c], .agg #[.slice P l.length d, .slice U z.length v], .agg #[.int .i8 k, .int .i64 a, .int .i64 b, .int .i64 c2, .int .i64 d2]] w (WeC (waT s h l z code T') (waZ s h l z code z') (waC s h l z code) w) := by
  obtain ⟨X, hX⟩ : ∃ X, X = (((w.alloc (.cells #[.int .i16 s, .slice A h.length c] 39)).alloc (.cells #[.slice P l.length d, .slice U z.length v] 34)).alloc (.cells #[.int .i8 k, .int .i64 a, .int .i64 b, .int .i64 c2, .int .i64 d2] 55)).alloc (.cells #[.slice none 0 0, .slice none 0 0] 34) := ⟨_, rfl⟩
  have hb0 : Below w.heap.size w X := by rw [hX]; exact ((((Below.refl _ _).alloc (Nat.le_refl _) _).alloc (by simp) _).alloc (by simp; omega) _).alloc (by simp; omega) _
  have P0 : Bk X w.heap.size 39 #[.int .i16 s, .slice A h.length c] := by rw [hX]; exact (((Bk.new _ _ _ rfl).old _).old _).old _
  have P1 : Bk X (w.heap.size + 1) 34 #[.slice P l.length d, .slice U z.length v] := by rw [hX]; exact ((Bk.new _ _ _ (by simp)).old _).old _
  have P2 : Bk X (w.heap.size + 1 + 1) 55 #[.int .i8 k, .int .i64 a, .int .i64 b, .int .i64 c2, .int .i64 d2] := by rw [hX]; exact (Bk.new _ _ _ (by simp)).old _
  have P3 : Bk X (w.heap.size + 1 + 1 + 1) 34 #[.slice none 0 0, .slice none 0 0] := by rw [hX]; exact Bk.new _ _ _ (by simp)
  have hX3 := P3.lt
  have KW := wearingFor_any s A c h P d l U v z (.slice none 0 0) true X (hA.below hb0) hn hwf hs (hL.below hb0) (hU.below hb0) hl hz hlw hzw (fun W _ => areLives_nil W)
  rw [Bool.and_true] at KW
  go_enter Tryz.func27, Tryz.ntmps27
  go_upto_region 1 with fail
  rw [← hX]
  clear hX
  have c0 := P0.cell (i := 0) rfl
  have c1 := P0.cell (i := 1) rfl
  have c2_ := P1.cell (i := 0) rfl
  have c3 := P1.cell (i := 1) rfl
  go_wp2_with fail
  refine KW.mono ?_
  rintro e w2 ⟨he, hb2⟩
  have b2 := step_below hb2 hb0
  have Q2 := P2.keep hb2
  have Q3 := P3.keep hb2
  have hs2 := hb2.size
  clear KW c0 c1 c2_ c3
  rcases he with ⟨h1, rfl⟩ | ⟨h1, M, C, q, rfl, hMw, own, ownz⟩
  · have HX := hide (show waC s h l z code = 1 by simp [waC, h1])
    have HT := hide (show waT s h l z code T' = [] by rw [waT, if_neg (by rw [HX.out]; decide)])
    have HZZ := hide (show waZ s h l z code z' = [] by rw [waZ, if_neg (by rw [HX.out]; decide)])
    obtain ⟨Y, hY⟩ : ∃ Y, Y = w2.alloc (.cells #[.int .i64 0, .slice none 0 0, .map none, .slice none 0 0] 106) := ⟨_, rfl⟩
    have hbY : Below w2.heap.size w2 Y := by rw [hY]; exact (Below.refl _ _).alloc (Nat.le_refl _) _
    have bY := step_below hbY b2
    have HZ := hide (show Y.heap[w.heap.size + 1 + 1 + 1]? = some (.cells #[.slice none 0 0, .slice none 0 0] 34 (0, 0)) from Q3.keep hbY)
    clear h1
    go_upto_region 2 with fail
    rw [← hY]
    clear hY
    go_wp2_with (first | (with_reducible refine wpList_build0 rfl rfl ?_) | (with_reducible refine wpList_store_row rfl 34 (.tmp 6) (.tmp 19) rfl (w.heap.size + 1 + 1 + 1) #[.slice none 0 0, .slice none 0 0] rfl rfl 34 _ HZ.out (infoWear _ _) (szWear _ _ _ _) (oneWear _ _ _ _ _ _) ?_))
    exact bodyPost_ret (v := .tuple #[.agg #[.slice none 0 0, .slice none 0 0], .int .i64 1]) (results_we Tryz.results27 _ _ (w.heap.size + 1 + 1 + 1) 34 #[.slice none 0 0, .slice none 0 0] _ rfl (by simp [Act.put]) (by simp [Act.put]) (setRow_heap _ _ _ _ _ _ HZ.out)) rfl ⟨none, 0, none, 0, by rw [HX.out, HT.out, HZZ.out]; rfl, by rw [HT.out]; exact World.ownsRow_nil _ _ _ _, by rw [HZZ.out]; exact World.ownsRow_nil _ _ _ _, below_setRow bY (by omega)⟩
  · have hzn : z.length = h.length := (weB_VT h1).2.2
    obtain ⟨hs96, hn24⟩ := weB_fr h1
    have st2 := wst_start h1 hlw own ownz hMw
    rw [hzn]
    rw [hzn] at ownz
    obtain ⟨Y, hY⟩ : ∃ Y, Y = w2.alloc (.cells #[.int .i64 s, .slice A h.length c, .map (some M), .slice C h.length q] 106) := ⟨_, rfl⟩
    have hbY : Below w2.heap.size w2 Y := by rw [hY]; exact (Below.refl _ _).alloc (Nat.le_refl _) _
    have bY := step_below hbY b2
    have G0 : Bk Y w2.heap.size 106 #[.int .i64 s, .slice A h.length c, .map (some M), .slice C h.length q] := by rw [hY]; exact Bk.new _ _ _ rfl
    go_upto_region 2 with fail
    rw [← hY]
    clear hY
    have hXY : X.heap.size ≤ Y.heap.size := Nat.le_trans hs2 hbY.size
    have KDo := KD h1 X.heap.size M q C A c Y (st2.keep hbY) hXY _ _ _ G0.fam (fun _ => by decide)
    have HWE := hide h1
    have Q4 := (Q2.keep hbY)
    have Z4 := (Q3.keep hbY)
    have e0 := G0.cell (i := 0) rfl
    have e1 := G0.cell (i := 1) rfl
    have e2 := G0.cell (i := 2) rfl
    have e3 := G0.cell (i := 3) rfl
    have a0 := Q4.cell (i := 0) rfl
    have a1 := Q4.cell (i := 1) rfl
    have a2 := Q4.cell (i := 2) rfl
    have a3 := Q4.cell (i := 3) rfl
    have a4 := Q4.cell (i := 4) rfl
    clear h1 hzn own ownz st2
    go_wp2_with fail
    refine KDo.mono ?_
    rintro e w5 ⟨rfl, hst5, G5f, hb5⟩
    have G5 : Bk w5 w2.heap.size 106 #[.int .i64 s, .slice A h.length c, .map (some M), .slice C h.length q] := G5f 0
    clear G5f
    have b5 : Below w.heap.size w w5 := bY.trans (hb5.mono (by have := hb0.size; omega))
    have Z5 : Bk w5 (w.heap.size + 1 + 1 + 1) 34 #[.slice none 0 0, .slice none 0 0] := (hb5.block _ (by omega)).trans Z4
    clear e0 e1 e2 e3 a0 a1 a2 a3 a4 KDo
    by_cases hc0 : code = 0
    · subst hc0
      have HX := hide (show waC s h l z 0 = 0 by simp [waC, HWE.out])
      have HT := hide (show waT s h l z 0 T' = T' by rw [waT, if_pos HX.out])
      have HZZ := hide (show waZ s h l z 0 z' = z' by rw [waZ, if_pos HX.out])
      obtain ⟨D, hM5, hD5, hI5, hO5, hz5, hv5, hvz5, hbM5⟩ := hst5 rfl
      have KM := madeWear_any M C z' q (l.length + 1) D T' w5 hM5 hD5 (Nat.le_trans hM5.size_le (by have := (weB_VT HWE.out).1.length hs96 hn24; omega)) hv5.1 (hv5.in8 hs96 hn24) (SZ.of_own (c := q) (by rw [hz5]; exact hO5)) (by omega)
      rw [hz5] at KM
      have e2 := G5.cell (i := 2) rfl
      have e3 := G5.cell (i := 3) rfl
      have hs5 : X.heap.size ≤ w5.heap.size := Nat.le_trans hXY (by have := hb5.size; omega)
      have HZ5 := hide hz5
      clear Z4 Q3 P3 hM5 hD5 hO5 hst5 hv5 hvz5 hz5
      go_wp2_with fail
      refine KM.mono ?_
      rintro e w6 ⟨P1, q1, P2, q2, rfl, ownP, ownC, hb6⟩
      have b6 := step_below hb6 b5
      rw [HZ5.out] at ownC ⊢
      have HZ := hide (show w6.heap[w.heap.size + 1 + 1 + 1]? = some (.cells #[.slice none 0 0, .slice none 0 0] 34 (0, 0)) from Z5.keep hb6)
      have owP := own_base (own_keepW ownP (show w.heap.size + 1 + 1 + 1 < w5.heap.size by omega) #[.slice P1 T'.length q1, .slice P2 h.length q2]) (show w.heap.size ≤ w5.heap.size by omega)
      have owC := own_base (own_keepW ownC (show w.heap.size + 1 + 1 + 1 < w5.heap.size by omega) #[.slice P1 T'.length q1, .slice P2 h.length q2]) (show w.heap.size ≤ w5.heap.size by omega)
      clear Z5 e2 e3 KM
      go_wp2_with (with_reducible refine wpList_store_row rfl 34 (.tmp 6) (.tmp 29) rfl (w.heap.size + 1 + 1 + 1) #[.slice P1 T'.length q1, .slice P2 h.length q2] rfl rfl 34 _ HZ.out (infoWear _ _) (szWear _ _ _ _) (oneWear _ _ _ _ _ _) ?_)
      exact bodyPost_ret (v := .tuple #[.agg #[.slice P1 T'.length q1, .slice P2 h.length q2], .int .i64 0]) (results_we Tryz.results27 _ _ (w.heap.size + 1 + 1 + 1) 34 #[.slice P1 T'.length q1, .slice P2 h.length q2] _ rfl (by simp [Act.put]) (by simp [Act.put]) (setRow_heap _ _ _ _ _ _ HZ.out)) rfl ⟨P1, q1, P2, q2, by rw [HX.out, HT.out, HZZ.out, HZ5.out], by rw [HT.out]; exact owP, by rw [HZZ.out, HZ5.out]; exact owC, below_setRow b6 (by omega)⟩
    · have HX := hide (show waC s h l z code = code by simp [waC, HWE.out])
      have HT := hide (show waT s h l z code T' = [] by rw [waT, if_neg (by rw [HX.out]; exact hc0)])
      have HZZ := hide (show waZ s h l z code z' = [] by rw [waZ, if_neg (by rw [HX.out]; exact hc0)])
      have HZ := hide (show w5.heap[w.heap.size + 1 + 1 + 1]? = some (.cells #[.slice none 0 0, .slice none 0 0] 34 (0, 0)) from Z5)
      have hne : (code != 0) = true := by simp [hc0]
      clear Z5 Z4 Q3 P3 hst5
      go_wp2_with (first | (with_reducible refine wpList_build0 rfl rfl ?_) | (with_reducible refine wpList_store_row rfl 34 (.tmp 6) (.tmp 25) rfl (w.heap.size + 1 + 1 + 1) #[.slice none 0 0, .slice none 0 0] rfl rfl 34 _ HZ.out (infoWear _ _) (szWear _ _ _ _) (oneWear _ _ _ _ _ _) ?_))
      exact bodyPost_ret (v := .tuple #[.agg #[.slice none 0 0, .slice none 0 0], .int .i64 code]) (results_we Tryz.results27 _ _ (w.heap.size + 1 + 1 + 1) 34 #[.slice none 0 0, .slice none 0 0] _ rfl (by simp [Act.put]) (by simp [Act.put]) (setRow_heap _ _ _ _ _ _ HZ.out)) rfl ⟨none, 0, none, 0, by rw [HX.out, HT.out, HZZ.out]; rfl, by rw [HT.out]; exact World.ownsRow_nil _ _ _ _, by rw [HZZ.out]; exact World.ownsRow_nil _ _ _ _, below_setRow b5 (by omega)⟩
end Go.Proofs.YtcocfnjbgceidaaGreat
namespace Go.Proofs.YtcocfnjbgceidaaGreat
open Go.RowKit Go.Maps
set_option maxRecDepth 20000 in
set_option maxHeartbeats 8000000 in
theorem implNewPin_any (s : Int) (A : Option Addr) (c : Nat) (h : List (Int × Int)) (P : Option Addr) (d : Nat) (l : List Wp) (U : Option Addr) (v : Nat) (z : List Int) (a b : Int) (w : World)
    (hA : HA w A h) (hn : h.length ≤ 1048576) (hwf : HWF h) (hs : -32768 ≤ s ∧ s ≤ 32767) (hL : WnA w P l) (hU : SZ w U z) (hl : l.length ≤ 1048576) (hz : z.length ≤ 1048576) (hlw : WnWF l) (hzw : ZWF z) :
    Calls Tryz.prog 22 #[.agg #[.int .i16 s, .slice A h.length c], .agg #[.slice P l.length d, .slice U z.length v], .int .i64 a, .int .i64 b] w (WeC (waT s h l z (plC s h.length a b) (plT l a b)) (waZ s h l z (plC s h.length a b) (z)) (waC s h l z (plC s h.length a b)) w) := by
  obtain ⟨X, hX⟩ : ∃ X, X = ((w.alloc (.cells #[.int .i16 s, .slice A h.length c] 39)).alloc (.cells #[.slice P l.length d, .slice U z.length v] 34)).alloc (.cells #[.slice none 0 0, .slice none 0 0] 34) := ⟨_, rfl⟩
  have hb0 : Below w.heap.size w X := by rw [hX]; exact (((Below.refl _ _).alloc (Nat.le_refl _) _).alloc (by simp) _).alloc (by simp; omega) _
  have P0 : Bk X w.heap.size 39 #[.int .i16 s, .slice A h.length c] := by rw [hX]; exact ((Bk.new _ _ _ rfl).old _).old _
  have P1 : Bk X (w.heap.size + 1) 34 #[.slice P l.length d, .slice U z.length v] := by rw [hX]; exact (Bk.new _ _ _ (by simp)).old _
  have P3 : Bk X (w.heap.size + 1 + 1) 34 #[.slice none 0 0, .slice none 0 0] := by rw [hX]; exact Bk.new _ _ _ (by simp)
  have hX3 := P3.lt
  have KW := doWear_gen s A c h P d l U v z 2 a b 0 0 (plC s h.length a b) (plT l a b) (z) X (hA.below hb0) hn hwf hs (hL.below hb0) (hU.below hb0) hl hz hlw hzw (fun hw base M q C A' c' W hst hbase g2 t2 cs2 hB ht2 => do_pin s A' h.length c' M q l.length base C l z a b 0 0 W (weB_fr hw).1 (weB_fr hw).2 hs.1 hst hbase (by omega) g2 t2 cs2 hB)
  generalize waC s h l z (plC s h.length a b) = rc at *
  generalize waT s h l z (plC s h.length a b) (plT l a b) = rT at *
  generalize waZ s h l z (plC s h.length a b) (z) = rz at *
  go_enter Tryz.func22, Tryz.ntmps22
  go_upto_region 1 with fail
  rw [← hX]
  clear hX
  have c0 := P0.cell (i := 0) rfl
  have c1 := P0.cell (i := 1) rfl
  have c2_ := P1.cell (i := 0) rfl
  have c3 := P1.cell (i := 1) rfl
  go_wp2_with fail
  refine KW.mono ?_
  rintro e w6 ⟨Q1, q1, Q2, q2, rfl, ownP, ownC, hb6⟩
  have b6 := step_below hb6 hb0
  have HZ := hide (show w6.heap[(w.heap.size + 1 + 1)]? = some (.cells #[.slice none 0 0, .slice none 0 0] 34 (0, 0)) from P3.keep hb6)
  have owP := own_base (own_keepW ownP (show (w.heap.size + 1 + 1) < X.heap.size by omega) #[.slice Q1 rT.length q1, .slice Q2 rz.length q2]) (show w.heap.size ≤ X.heap.size by omega)
  have owC := own_base (own_keepW ownC (show (w.heap.size + 1 + 1) < X.heap.size by omega) #[.slice Q1 rT.length q1, .slice Q2 rz.length q2]) (show w.heap.size ≤ X.heap.size by omega)
  clear c0 c1 c2_ c3 KW
  go_wp2_with (with_reducible refine wpList_store_row rfl 34 (.tmp 8) (.tmp 16) rfl (w.heap.size + 1 + 1) #[.slice Q1 rT.length q1, .slice Q2 rz.length q2] rfl rfl 34 _ HZ.out (infoWear _ _) (szWear _ _ _ _) (oneWear _ _ _ _ _ _) ?_)
  exact bodyPost_ret (v := .tuple #[.agg #[.slice Q1 rT.length q1, .slice Q2 rz.length q2], .int .i64 rc]) (results_we Tryz.results22 _ _ (w.heap.size + 1 + 1) 34 #[.slice Q1 rT.length q1, .slice Q2 rz.length q2] _ rfl (by simp [Act.put]) (by simp [Act.put]) (setRow_heap _ _ _ _ _ _ HZ.out)) rfl ⟨Q1, q1, Q2, q2, rfl, owP, owC, below_setRow b6 (by omega)⟩
set_option maxRecDepth 20000 in
set_option maxHeartbeats 8000000 in
theorem implMovePin_any (s : Int) (A : Option Addr) (c : Nat) (h : List (Int × Int)) (P : Option Addr) (d : Nat) (l : List Wp) (U : Option Addr) (v : Nat) (z : List Int) (a b c2 d2 : Int) (w : World)
    (hA : HA w A h) (hn : h.length ≤ 1048576) (hwf : HWF h) (hs : -32768 ≤ s ∧ s ≤ 32767) (hL : WnA w P l) (hU : SZ w U z) (hl : l.length ≤ 1048576) (hz : z.length ≤ 1048576) (hlw : WnWF l) (hzw : ZWF z) :
    Calls Tryz.prog 24 #[.agg #[.int .i16 s, .slice A h.length c], .agg #[.slice P l.length d, .slice U z.length v], .int .i64 a, .int .i64 b, .int .i64 c2, .int .i64 d2] w (WeC (waT s h l z (mvC s h.length l a b c2 d2) (mvT l a b c2 d2)) (waZ s h l z (mvC s h.length l a b c2 d2) (z)) (waC s h l z (mvC s h.length l a b c2 d2)) w) := by
  obtain ⟨X, hX⟩ : ∃ X, X = ((w.alloc (.cells #[.int .i16 s, .slice A h.length c] 39)).alloc (.cells #[.slice P l.length d, .slice U z.length v] 34)).alloc (.cells #[.slice none 0 0, .slice none 0 0] 34) := ⟨_, rfl⟩
  have hb0 : Below w.heap.size w X := by rw [hX]; exact (((Below.refl _ _).alloc (Nat.le_refl _) _).alloc (by simp) _).alloc (by simp; omega) _
  have P0 : Bk X w.heap.size 39 #[.int .i16 s, .slice A h.length c] := by rw [hX]; exact ((Bk.new _ _ _ rfl).old _).old _
  have P1 : Bk X (w.heap.size + 1) 34 #[.slice P l.length d, .slice U z.length v] := by rw [hX]; exact (Bk.new _ _ _ (by simp)).old _
  have P3 : Bk X (w.heap.size + 1 + 1) 34 #[.slice none 0 0, .slice none 0 0] := by rw [hX]; exact Bk.new _ _ _ (by simp)
  have hX3 := P3.lt
  have KW := doWear_gen s A c h P d l U v z 3 a b c2 d2 (mvC s h.length l a b c2 d2) (mvT l a b c2 d2) (z) X (hA.below hb0) hn hwf hs (hL.below hb0) (hU.below hb0) hl hz hlw hzw (fun hw base M q C A' c' W hst hbase g2 t2 cs2 hB ht2 => do_move s A' h.length c' M q l.length base C l z a b c2 d2 W (weB_fr hw).1 (weB_fr hw).2 hs.1 hst hbase (by omega) g2 t2 cs2 hB)
  generalize waC s h l z (mvC s h.length l a b c2 d2) = rc at *
  generalize waT s h l z (mvC s h.length l a b c2 d2) (mvT l a b c2 d2) = rT at *
  generalize waZ s h l z (mvC s h.length l a b c2 d2) (z) = rz at *
  go_enter Tryz.func24, Tryz.ntmps24
  go_upto_region 1 with fail
  rw [← hX]
  clear hX
  have c0 := P0.cell (i := 0) rfl
  have c1 := P0.cell (i := 1) rfl
  have c2_ := P1.cell (i := 0) rfl
  have c3 := P1.cell (i := 1) rfl
  go_wp2_with fail
  refine KW.mono ?_
  rintro e w6 ⟨Q1, q1, Q2, q2, rfl, ownP, ownC, hb6⟩
  have b6 := step_below hb6 hb0
  have HZ := hide (show w6.heap[(w.heap.size + 1 + 1)]? = some (.cells #[.slice none 0 0, .slice none 0 0] 34 (0, 0)) from P3.keep hb6)
  have owP := own_base (own_keepW ownP (show (w.heap.size + 1 + 1) < X.heap.size by omega) #[.slice Q1 rT.length q1, .slice Q2 rz.length q2]) (show w.heap.size ≤ X.heap.size by omega)
  have owC := own_base (own_keepW ownC (show (w.heap.size + 1 + 1) < X.heap.size by omega) #[.slice Q1 rT.length q1, .slice Q2 rz.length q2]) (show w.heap.size ≤ X.heap.size by omega)
  clear c0 c1 c2_ c3 KW
  go_wp2_with (with_reducible refine wpList_store_row rfl 34 (.tmp 12) (.tmp 22) rfl (w.heap.size + 1 + 1) #[.slice Q1 rT.length q1, .slice Q2 rz.length q2] rfl rfl 34 _ HZ.out (infoWear _ _) (szWear _ _ _ _) (oneWear _ _ _ _ _ _) ?_)
  exact bodyPost_ret (v := .tuple #[.agg #[.slice Q1 rT.length q1, .slice Q2 rz.length q2], .int .i64 rc]) (results_we Tryz.results24 _ _ (w.heap.size + 1 + 1) 34 #[.slice Q1 rT.length q1, .slice Q2 rz.length q2] _ rfl (by simp [Act.put]) (by simp [Act.put]) (setRow_heap _ _ _ _ _ _ HZ.out)) rfl ⟨Q1, q1, Q2, q2, rfl, owP, owC, below_setRow b6 (by omega)⟩
end Go.Proofs.YtcocfnjbgceidaaGreat
namespace Go.Proofs.YtcocfnjbgceidaaGreat
open Go.RowKit Go.Maps
/-- the address of a slice's tail of worn pins -/
def tlA (A : Option Addr) (c k : Nat) : Option Addr := if c = k then A else A.map (·.add (k * 3))
theorem tl_run (A : Option Addr) (n c k : Nat) (hk : k ≤ n) (hc : n ≤ c) (w : World) : (Instr.slice 32 (.slice A n c) (some (.int .i64 k)) none none).run Tryz.prog w = .ok (.slice (tlA A c k) (n - k) (c - k)) w := by
  have hsz : (sizeOf 97).run Tryz.prog w = .ok 3 w := by kernel_rfl
  simp [Instr.slice, run_underlying Tryz.underlying32, Instr.sliceBounds, Instr.sliceBound, asIntOf, Result.andThen, hk, hsz, tlA]
theorem hd_run (A : Option Addr) (n c k : Nat) (hk : k ≤ c) (w : World) : (Instr.slice 32 (.slice A n c) none (some (.int .i64 k)) none).run Tryz.prog w = .ok (.slice (tlA A c 0) k c) w := by
  have hsz : (sizeOf 97).run Tryz.prog w = .ok 3 w := by kernel_rfl
  simp [Instr.slice, run_underlying Tryz.underlying32, Instr.sliceBounds, Instr.sliceBound, asIntOf, Result.andThen, hk, hsz, tlA]
theorem own_one {w : World} {base : Nat} (hb : base ≤ w.heap.size) (a b c : Int) : (w.alloc (.cells #[.int .i8 a, .int .i8 b, .int .i64 c] 97)).ownsRow base 97 3 (.slice (some ⟨w.heap.size, 0, none⟩) 1 1) 1 (wnC [(a, b, c)]) :=
  ⟨by simp [wnC], .inr ⟨w.heap.size, 1, _, rfl, hb, heap_alloc_new w _, Nat.le_refl _, by unfold maxLen; omega, by simp, by simp [wnC]⟩⟩
theorem wnS_drop (l : List Wp) (k j : Nat) : wnS (l.drop k) j = wnS l (k + j) ∧ wnT (l.drop k) j = wnT l (k + j) ∧ wnP (l.drop k) j = wnP l (k + j) := by simp [wnS, wnT, wnP, List.getD]
theorem wnS_take (l : List Wp) (k j : Nat) (h : j < k) : wnS (l.take k) j = wnS l j ∧ wnT (l.take k) j = wnT l j ∧ wnP (l.take k) j = wnP l j := by simp [wnS, wnT, wnP, List.getD, List.getElem?_take, h]
theorem WnA.tl {w : World} {A : Option Addr} {l : List Wp} (h : WnA w A l) (c k : Nat) (hc : l.length ≤ c) : WnA w (tlA A c k) (l.drop k) := by
  intro j hj
  rw [List.length_drop] at hj
  obtain ⟨b, o, rfl, hb, h1, h2, h3⟩ := h (k + j) (by omega)
  obtain ⟨e1, e2, e3⟩ := wnS_drop l k j
  rw [tlA, if_neg (by omega)]
  refine ⟨b, o + k * 3, by simp [Addr.add], hb, ?_, ?_, ?_⟩
  · rw [e1, ← h1]; congr 2; omega
  · rw [e2, ← h2]; congr 2; omega
  · rw [e3, ← h3]; congr 2; omega
theorem WnA.hd {w : World} {A : Option Addr} {l : List Wp} (h : WnA w A l) (c k : Nat) : WnA w (tlA A c 0) (l.take k) := by
  intro j hj
  rw [List.length_take] at hj
  obtain ⟨b, o, rfl, hb, h1, h2, h3⟩ := h j (by omega)
  obtain ⟨e1, e2, e3⟩ := wnS_take l k j (by omega)
  refine ⟨b, o, ?_, hb, by rw [e1]; exact h1, by rw [e2]; exact h2, by rw [e3]; exact h3⟩
  unfold tlA
  split <;> simp [Addr.add]
def PutG (l : List Wp) (x : Wp) (k : Nat) : Prop := ∀ j, j < k → befW (wnS l j) (wnT l j) x.1 x.2.1 = true
theorem insP_at : ∀ (l : List Wp) (x : Wp) (k : Nat), k ≤ l.length → PutG l x k → (k < l.length → befW (wnS l k) (wnT l k) x.1 x.2.1 = false) → insP l x = l.take k ++ x :: l.drop k
  | [], x, k, hk, _, _ => by
    obtain rfl : k = 0 := by simpa using hk
    simp [insP]
  | y :: l, x, 0, _, _, hn => by
    have := hn (by simp)
    simp [wnS, wnT] at this
    unfold insP
    rw [if_neg (by simp [befP, this])]
    simp
  | y :: l, x, k + 1, hk, hg, hn => by
    have h0 := hg 0 (by omega)
    simp [wnS, wnT] at h0
    unfold insP
    rw [if_pos (by simp [befP, h0]), insP_at l x k (by simpa using hk) (fun j hj => by simpa [wnS, wnT] using hg (j + 1) (by omega)) (fun h => by simpa [wnS, wnT] using hn (by simpa using h))]
    simp
/-- the place of a pin in a list, -1 if there is none -/
def fiJ (l : List Wp) (a b : Int) : Int := if hasP l a b then ((l.findIdx (atP a b) : Nat) : Int) else -1
def NoneG (l : List Wp) (a b : Int) (k : Nat) : Prop := ∀ j, j < k → ¬ (wnS l j = a ∧ wnT l j = b)
theorem fiJ_hit {l : List Wp} {a b : Int} {k : Nat} (hk : k < l.length) (hg : NoneG l a b k) (h1 : wnS l k = a) (h2 : wnT l k = b) : fiJ l a b = k := by
  have e : l.findIdx (atP a b) = k := by
    rw [List.findIdx_eq hk]
    refine ⟨by rw [wn_get l k hk]; simp [atP, h1, h2], fun j hj => ?_⟩
    have := hg j hj
    rw [wn_get l j (by omega)]
    simpa [atP] using this
  have hh : hasP l a b = true := hasP_iff.2 ⟨l[k], List.getElem_mem hk, by rw [wn_get l k hk]; exact ⟨h1, h2⟩⟩
  rw [fiJ, if_pos hh, e]
theorem fiJ_miss {l : List Wp} {a b : Int} (hg : NoneG l a b l.length) : fiJ l a b = -1 := by
  have hh : hasP l a b = false := by
    cases h : hasP l a b
    · rfl
    · obtain ⟨x, hx, e⟩ := hasP_iff.1 h
      obtain ⟨k, hk, rfl⟩ := List.mem_iff_getElem.1 hx
      rw [wn_get l k hk] at e
      exact absurd e (hg k hk)
  rw [fiJ, if_neg (by rw [hh]; decide)]
set_option maxRecDepth 20000 in
set_option maxHeartbeats 2000000 in
theorem l06Find_any (g : Nat) (P : Option Addr) (d : Nat) (l : List Wp) (a b : Int) (w : World) (hP : w.cell? ⟨g, 0, none⟩ = some (.slice P l.length d)) (hL : WnA w P l) (hl : l.length ≤ 1048576) (hlw : WnWF l) :
    Calls Tryz.prog 60 #[.pointer (some ⟨g, 0, none⟩), .int .i64 a, .int .i64 b] w fun e w' => e = .returned (.int .i64 (fiJ l a b)) ∧ w = w' := by
  go_enter Tryz.func60, Tryz.ntmps60
  go_wp2_with fail
  go_loop [7] (fun i => ∃ k : Nat, k ≤ l.length ∧ i = .int .i64 k ∧ NoneG l a b k) (fun i => l.length - (intOf i).toNat)
  case atStart => exact ⟨0, Nat.zero_le _, rfl, fun j hj => absurd hj (Nat.not_lt_zero _)⟩
  case round =>
    obtain ⟨k, hk, rfl, hG⟩ := hrel
    have HG := hide hG
    clear hG
    by_cases hlt : k < l.length
    · obtain ⟨b', o, rfl, hbb, c1, c2, c3⟩ := hL k hlt
      obtain ⟨⟨m1, m2⟩, ⟨m3, m4⟩, _⟩ := hlw k hlt
      have hki : (k : Int) < (l.length : Int) := by omega
      clear hL hlw c3
      by_cases h1 : wnS l k = a
      · subst h1
        by_cases h2 : wnT l k = b
        · subst h2
          have HX := hide (fiJ_hit hlt HG.out rfl rfl)
          go_wp2
          go_ret
          exact ⟨ret_int HX.out.symm, rfl⟩
        · have HN : Hid (NoneG l (wnS l k) b (k + 1)) := hide (fun j hj => by
            rcases Nat.lt_or_ge j k with h | h
            · exact HG.out j h
            · obtain rfl : j = k := by omega
              exact fun e => h2 e.2)
          have hb2 : (wnT l k == b) = false := by simpa using h2
          go_wp2
          go_round
          case rel => exact ⟨k + 1, hlt, by go_num, HN.out⟩
          case measure => simp [intOf]; omega
      · have HN : Hid (NoneG l a b (k + 1)) := hide (fun j hj => by
          rcases Nat.lt_or_ge j k with h | h
          · exact HG.out j h
          · obtain rfl : j = k := by omega
            exact fun e => h1 e.1)
        have hb1 : (wnS l k == a) = false := by simpa using h1
        go_wp2
        go_round
        case rel => exact ⟨k + 1, hlt, by go_num, HN.out⟩
        case measure => simp [intOf]; omega
    · obtain rfl : k = l.length := by omega
      have HX := hide (fiJ_miss HG.out)
      go_wp2
      go_ret
      exact ⟨ret_int HX.out.symm, rfl⟩
set_option maxRecDepth 20000 in
set_option maxHeartbeats 4000000 in
theorem l06Put_any (P : Option Addr) (d : Nat) (l : List Wp) (a b c : Int) (w : World) (hL : WnA w P l) (hl : l.length ≤ 1048576) (hd : l.length ≤ d) (hlw : WnWF l) :
    Calls Tryz.prog 61 #[.slice P l.length d, .agg #[.int .i8 a, .int .i8 b, .int .i64 c]] w (OwnWn w (insP l (a, b, c))) := by
  obtain ⟨i0, hi, hz0, hz1, hz2⟩ := info_parts info97
  obtain ⟨X, hX⟩ : ∃ X, X = w.alloc (.cells #[.int .i8 a, .int .i8 b, .int .i64 c] 97) := ⟨_, rfl⟩
  have b0 : Below w.heap.size w X := by rw [hX]; exact (Below.refl _ _).alloc (Nat.le_refl _) _
  have P0 : Bk X w.heap.size 97 #[.int .i8 a, .int .i8 b, .int .i64 c] := by rw [hX]; exact Bk.new _ _ _ rfl
  have hX1 := P0.lt
  go_enter Tryz.func61, Tryz.ntmps61
  go_upto_region 1 with fail
  rw [← hX]
  clear hX
  go_wp2_with fail
  go_loopw [5] (fun i wr => ∃ k : Nat, k ≤ l.length ∧ i = .int .i64 k ∧ PutG l (a, b, c) k ∧ Below X.heap.size X wr)
    (fun i _ => l.length - (intOf i).toNat)
  case atStart => exact ⟨0, Nat.zero_le _, rfl, fun j hj => absurd hj (Nat.not_lt_zero _), Below.refl _ _⟩
  case round =>
    obtain ⟨k, hk, rfl, hG, hb⟩ := hrel
    have HG := hide hG
    have bw := b0.trans (hb.mono b0.size)
    have Pk := P0.keep hb
    have f0 := Later.cell (Pk.cell (i := 0) rfl)
    have f1 := Later.cell (Pk.cell (i := 1) rfl)
    have f2 := Later.cell (Pk.cell (i := 2) rfl)
    have hs := hb.size
    clear hG
    have stop : (k < l.length → befW (wnS l k) (wnT l k) a b = false) → True := fun _ => trivial
    by_cases hlt : k < l.length
    · obtain ⟨b', o, rfl, hbb, c1, c2, c3⟩ := hL k hlt
      have d1 := Later.cell ((bw.cell (p := ⟨b', o + k * 3, none⟩) hbb).trans c1)
      have d2 := Later.cell ((bw.cell (p := ⟨b', o + k * 3 + 1, none⟩) hbb).trans c2)
      have d3 := Later.cell ((bw.cell (p := ⟨b', o + k * 3 + 2, none⟩) hbb).trans c3)
      have hki : (k : Int) < (l.length : Int) := by omega
      have K0 := fun W => l06Before_any (wnS l k) (wnT l k) (wnP l k) a b c W
      clear c1 c2 c3
      cases hbf : befW (wnS l k) (wnT l k) a b
      · rw [hbf] at K0
        have HN := hide (insP_at l (a, b, c) k hk HG.out (fun _ => hbf))
        clear hbf
        go_wp2_with fail
        refine wp_region_later (by kernel_rfl) (by kernel_rfl) ?_
        repeat (go_big_quiet_step ((go_at_call 77; exact Later.call (K0 _))))
        refine wpQuiet_nil ?_
        rintro wq ⟨⟨_, hq⟩, rfl⟩
        go_wp2_with fail
        have bq := bw.trans (hq.mono bw.size)
        have Pq := P0.keep ((hb.trans (hq.mono hs)))
        have hLq := hL.below bq
        obtain ⟨v2, hv2⟩ : ∃ X, X = wq.drew := ⟨_, rfl⟩
        have tb2 : Below w.heap.size w v2 := by rw [hv2]; exact bq.drew
        have P2 : Bk v2 w.heap.size 97 #[.int .i8 a, .int .i8 b, .int .i64 c] := by rw [hv2]; exact Pq.keep (Below.refl _ _).drew
        have gw2 : w.heap.size < v2.heap.size := P2.lt
        refine wp_region_held_drew (S := fun w' => w'.cell? ⟨w.heap.size, 0, none⟩ = some (.int .i8 a) ∧ w'.cell? ⟨w.heap.size, 1, none⟩ = some (.int .i8 b) ∧ w'.cell? ⟨w.heap.size, 2, none⟩ = some (.int .i64 c)) (by kernel_rfl) (by rw [← hv2]; exact ⟨P2.cell (i := 0) rfl, P2.cell (i := 1) rfl, P2.cell (i := 2) rfl⟩) fun hS1 => ?_
        rw [← hv2] at hS1 ⊢
        clear hv2
        have tl := fun W => tl_run (some ⟨b', o, none⟩) l.length d k hk hd W
        refine wpAnyH_take (i := 0) (v := .agg #[.int .i8 a, .int .i8 b, .int .i64 c]) rfl (by kernel_rfl) (by kernel_rfl) (by kernel_rfl) (fun _ _ _ h => h) (Or.inl ⟨by rfl, fun w' h => ?_⟩) hS1 ?_
        · obtain ⟨c0, c1, c2⟩ := h
          go_simp
        change wpAnyH _ _ _ _ _ _ _ (Act.put _ (some 21) _) _
        simp only [Act.put, List.setIfInBounds_toArray, List.set_cons_zero, List.set_cons_succ]
        refine wpAnyH_take (i := 2) (v := .slice (some ⟨b', o, none⟩) l.length d) rfl (by kernel_rfl) (by kernel_rfl) (by kernel_rfl) (fun _ _ _ h => h) (Or.inl ⟨by rfl, fun w' _ => by go_simp⟩) hS1 ?_
        change wpAnyH _ _ _ _ _ _ _ (Act.put _ (some 23) _) _
        simp only [Act.put, List.setIfInBounds_toArray, List.set_cons_zero, List.set_cons_succ]
        refine wpAnyH_take (i := 3) (v := .int .i64 (k : Nat)) rfl (by kernel_rfl) (by kernel_rfl) (by kernel_rfl) (fun _ _ _ h => h) (Or.inl ⟨by rfl, fun w' _ => by go_simp⟩) hS1 ?_
        change wpAnyH _ _ _ _ _ _ _ (Act.put _ (some 24) _) _
        simp only [Act.put, List.setIfInBounds_toArray, List.set_cons_zero, List.set_cons_succ]
        refine wpAnyH_take (i := 4) (v := .slice (tlA (some ⟨b', o, none⟩) d k) (l.length - k) (d - k)) rfl (by kernel_rfl) (by kernel_rfl) (by kernel_rfl) (fun _ _ _ h => h) (Or.inl ⟨by rfl, fun w' _ => by go_simp⟩) hS1 ?_
        change wpAnyH _ _ _ _ _ _ _ (Act.put _ (some 25) _) _
        simp only [Act.put, List.setIfInBounds_toArray, List.set_cons_zero, List.set_cons_succ]
        refine wpAnyH_ready (rs := [1]) (by kernel_rfl) (by simp) (AllReadyH.cons rfl ?_ AllReadyH.nil)
        have own3 := own_one (Nat.le_of_lt gw2) a b c
        have hb3 : Below v2.heap.size v2 (v2.alloc (.cells #[.int .i8 a, .int .i8 b, .int .i64 c] 97)) := (Below.refl _ _).alloc (Nat.le_refl _) _
        obtain ⟨v3, hX3⟩ : ∃ X, X = v2.alloc (.cells #[.int .i8 a, .int .i8 b, .int .i64 c] 97) := ⟨_, rfl⟩
        rw [← hX3] at own3 hb3
        have tb3 := tb2.trans (hb3.mono tb2.size)
        have P3 := P2.keep hb3
        intro K hK
        rw [if_pos (by rfl)]
        go_simp
        rw [← hX3]
        clear hX3
        refine hK.out _ _ ⟨P3.cell (i := 0) rfl, P3.cell (i := 1) rfl, P3.cell (i := 2) rfl⟩ (fun hS3 => ?_)
        clear hK K
        try (change wpAnyH _ _ _ _ _ _ _ (Act.put _ (some 22) _) _)
        try simp only [Act.put, List.setIfInBounds_toArray, List.set_cons_zero, List.set_cons_succ]
        refine wpAnyH_ready (rs := [5]) (by kernel_rfl) (by simp) (AllReadyH.cons rfl ?_ AllReadyH.nil)
        obtain ⟨A1, c1, v4, hr4, own4, gr4⟩ := run_append_wn v3 32 Tryz.underlying32 w.heap.size i0 hi hz0 hz1 hz2 _ 1 _ own3 (tlA (some ⟨b', o, none⟩) d k) (d - k) (l.drop k) ((hL.below tb3).tl d k hd) (by omega) (by rw [List.length_drop]; omega) tb3.size
        have hgb : ∀ j, (Value.slice (some ⟨v2.heap.size, 0, none⟩) 1 1).ownBlock = some j → w.heap.size < j := fun j hj => by simp [Value.ownBlock] at hj; omega
        have tb4 : Below w.heap.size w v4 := tb3.grown gr4 tb3.size (fun j hj => Nat.le_of_lt (hgb j hj))
        have P4 := P3.grown gr4 (fun e => by have := hgb _ e; omega)
        have own4' : v4.ownsRow w.heap.size 97 3 (.slice A1 ((a, b, c) :: l.drop k).length c1) ((a, b, c) :: l.drop k).length (wnC ((a, b, c) :: l.drop k)) := by
          have e : ((a, b, c) :: l.drop k).length = 1 + (l.drop k).length := by simp; omega
          rw [e]
          exact own4
        intro K hK
        rw [if_pos (by rfl)]
        rw [List.length_drop] at hr4
        refine Lib.wp_append_run v3 (.tmp 22) (.tmp 25) 32 32 rfl _ _ rfl rfl _ _ (hr4 _) ?_
        clear hr4 gr4 own4
        refine hK.out _ _ ⟨P4.cell (i := 0) rfl, P4.cell (i := 1) rfl, P4.cell (i := 2) rfl⟩ (fun hS4 => ?_)
        clear hK K
        change wpAnyH _ _ _ _ _ _ _ (Act.put _ (some 26) _) _
        simp only [Act.put, List.setIfInBounds_toArray, List.set_cons_zero, List.set_cons_succ]
        refine wpAnyH_take (i := 6) (v := .slice A1 (1 + (l.length - k)) c1) rfl (by kernel_rfl) (by kernel_rfl) (by kernel_rfl) (fun _ _ _ h => h) (Or.inl ⟨by rfl, fun w' _ => by go_simp⟩) hS4 ?_
        change wpAnyH _ _ _ _ _ _ _ (Act.put _ (some 6) _) _
        simp only [Act.put, List.setIfInBounds_toArray, List.set_cons_zero, List.set_cons_succ]
        refine wpAnyH_done (by kernel_rfl) ?_ _
        obtain ⟨m, hm⟩ : ∃ m, m = 1 + (l.length - k) := ⟨_, rfl⟩
        have hml : ((a, b, c) :: l.drop k).length = m := by rw [List.length_cons, List.length_drop, hm]; omega
        rw [hml] at own4'
        rw [← hm]
        have hd2 := fun W => hd_run (some ⟨b', o, none⟩) l.length d k (Nat.le_trans hk hd) W
        obtain ⟨v5, hX5⟩ : ∃ X, X = v4.alloc (.cells #[] 97) := ⟨_, rfl⟩
        have hb5 : Below v4.heap.size v4 v5 := by rw [hX5]; exact (Below.refl _ _).alloc (Nat.le_refl _) _
        have tb5 := tb4.trans (hb5.mono tb4.size)
        have hE : v5.ownsRow v4.heap.size 97 3 (.slice (some ⟨v4.heap.size, 0, none⟩) 0 0) 0 [] := by rw [hX5]; exact World.ownsRow_made v4 #[] 0 (Nat.le_refl _) (by unfold maxLen; omega) (by simp)
        obtain ⟨A2, c2_, v6, hr6, own6, gr6⟩ := run_append_wn v5 32 Tryz.underlying32 v4.heap.size i0 hi hz0 hz1 hz2 _ 0 [] hE (tlA (some ⟨b', o, none⟩) d 0) d (l.take k) ((hL.below tb5).hd d k) (by omega) (by rw [List.length_take]; omega) hb5.size
        simp only [Nat.zero_add, List.nil_append] at hr6 own6
        have ht : (l.take k).length = k := by rw [List.length_take]; omega
        rw [ht] at hr6 own6
        have hgb6 : ∀ j, (Value.slice (some ⟨v4.heap.size, 0, none⟩) 0 0).ownBlock = some j → v4.heap.size ≤ j := fun j hj => by simp [Value.ownBlock] at hj; omega
        have hb6 : Below v4.heap.size v4 v6 := hb5.grown gr6 hb5.size hgb6
        have tb6 := tb4.trans (hb6.mono tb4.size)
        have own46 := own_keep own4' hb6
        obtain ⟨A3, c3_, v7, hr7, own7, gr7⟩ := run_append_wn v6 32 Tryz.underlying32 v4.heap.size i0 hi hz0 hz1 hz2 _ k _ own6 A1 c1 ((a, b, c) :: l.drop k) (WnA.of_own (by rw [hml]; exact own46)) (by omega) (by rw [hml]; omega) hb6.size
        rw [hml] at hr7 own7
        have tb7 : Below w.heap.size w v7 := tb6.grown gr7 tb6.size (fun j hj => Nat.le_trans tb4.size (own6.lt j hj).1)
        rw [← wnC_append, ← HN.out] at own7
        have hfin : (insP l (a, b, c)).length = k + m := by rw [HN.out, List.length_append, List.length_take, hml]; omega
        have HF := hide hfin
        clear hS1 hS3 hS4 P2 P3 P4 own3 own4' own6 own46 hE gr6 gr7 tb5 tb6 hb5 hb6 hml hm ht hfin tl
        subst hX5
        go_upto_region 5 with fail
        go_wp2_with (first | (at_builtin; with_reducible refine Lib.wpList_append_run _ rfl (.tmp 27) (.tmp 30) _ _ rfl _ _ rfl rfl _ _ (hr6 _) ?_) | (at_builtin; with_reducible refine Lib.wpList_append_run _ rfl (.tmp 31) (.tmp 32) _ _ rfl _ _ rfl rfl _ _ (hr7 _) ?_))
        go_ret
        exact ⟨A3, c3_, by rw [HF.out] <;> rfl, by rw [HF.out]; exact own_base own7 tb4.size, tb7⟩
      · rw [hbf] at K0
        have HN : Hid (PutG l (a, b, c) (k + 1)) := hide (fun j hj => by
          rcases Nat.lt_or_ge j k with h | h
          · exact HG.out j h
          · obtain rfl : j = k := by omega
            exact hbf)
        clear hbf
        go_wp2_with fail
        refine wp_region_later (by kernel_rfl) (by kernel_rfl) ?_
        repeat (go_big_quiet_step ((go_at_call 77; exact Later.call (K0 _))))
        refine wpQuiet_nil ?_
        rintro wq ⟨⟨_, hq⟩, rfl⟩
        go_wp2
        go_roundw
        case rel => exact ⟨k + 1, hlt, by go_num, HN.out, hb.trans (hq.mono hs)⟩
        case measure => simp [intOf]; omega
    · have HN := hide (insP_at l (a, b, c) k hk HG.out (fun h => absurd h hlt))
      have hki : ¬ ((k : Int) < (l.length : Int)) := by omega
      go_wp2_with fail
      refine wp_region_later (by kernel_rfl) (by kernel_rfl) ?_
      repeat (go_big_quiet_step (fail))
      refine wpQuiet_nil ?_
      rintro wq ⟨⟨_, hq⟩, rfl⟩
      go_wp2_with fail
      have bq := bw.trans (hq.mono bw.size)
      have Pq := P0.keep ((hb.trans (hq.mono hs)))
      have hLq := hL.below bq
      obtain ⟨v2, hv2⟩ : ∃ X, X = wq.drew := ⟨_, rfl⟩
      have tb2 : Below w.heap.size w v2 := by rw [hv2]; exact bq.drew
      have P2 : Bk v2 w.heap.size 97 #[.int .i8 a, .int .i8 b, .int .i64 c] := by rw [hv2]; exact Pq.keep (Below.refl _ _).drew
      have gw2 : w.heap.size < v2.heap.size := P2.lt
      refine wp_region_held_drew (S := fun w' => w'.cell? ⟨w.heap.size, 0, none⟩ = some (.int .i8 a) ∧ w'.cell? ⟨w.heap.size, 1, none⟩ = some (.int .i8 b) ∧ w'.cell? ⟨w.heap.size, 2, none⟩ = some (.int .i64 c)) (by kernel_rfl) (by rw [← hv2]; exact ⟨P2.cell (i := 0) rfl, P2.cell (i := 1) rfl, P2.cell (i := 2) rfl⟩) fun hS1 => ?_
      rw [← hv2] at hS1 ⊢
      clear hv2
      have tl := fun W => tl_run P l.length d k hk hd W
      refine wpAnyH_take (i := 0) (v := .agg #[.int .i8 a, .int .i8 b, .int .i64 c]) rfl (by kernel_rfl) (by kernel_rfl) (by kernel_rfl) (fun _ _ _ h => h) (Or.inl ⟨by rfl, fun w' h => ?_⟩) hS1 ?_
      · obtain ⟨c0, c1, c2⟩ := h
        go_simp
      change wpAnyH _ _ _ _ _ _ _ (Act.put _ (some 21) _) _
      simp only [Act.put, List.setIfInBounds_toArray, List.set_cons_zero, List.set_cons_succ]
      refine wpAnyH_take (i := 2) (v := .slice P l.length d) rfl (by kernel_rfl) (by kernel_rfl) (by kernel_rfl) (fun _ _ _ h => h) (Or.inl ⟨by rfl, fun w' _ => by go_simp⟩) hS1 ?_
      change wpAnyH _ _ _ _ _ _ _ (Act.put _ (some 23) _) _
      simp only [Act.put, List.setIfInBounds_toArray, List.set_cons_zero, List.set_cons_succ]
      refine wpAnyH_take (i := 3) (v := .int .i64 (k : Nat)) rfl (by kernel_rfl) (by kernel_rfl) (by kernel_rfl) (fun _ _ _ h => h) (Or.inl ⟨by rfl, fun w' _ => by go_simp⟩) hS1 ?_
      change wpAnyH _ _ _ _ _ _ _ (Act.put _ (some 24) _) _
      simp only [Act.put, List.setIfInBounds_toArray, List.set_cons_zero, List.set_cons_succ]
      refine wpAnyH_take (i := 4) (v := .slice (tlA P d k) (l.length - k) (d - k)) rfl (by kernel_rfl) (by kernel_rfl) (by kernel_rfl) (fun _ _ _ h => h) (Or.inl ⟨by rfl, fun w' _ => by go_simp⟩) hS1 ?_
      change wpAnyH _ _ _ _ _ _ _ (Act.put _ (some 25) _) _
      simp only [Act.put, List.setIfInBounds_toArray, List.set_cons_zero, List.set_cons_succ]
      refine wpAnyH_ready (rs := [1]) (by kernel_rfl) (by simp) (AllReadyH.cons rfl ?_ AllReadyH.nil)
      have own3 := own_one (Nat.le_of_lt gw2) a b c
      have hb3 : Below v2.heap.size v2 (v2.alloc (.cells #[.int .i8 a, .int .i8 b, .int .i64 c] 97)) := (Below.refl _ _).alloc (Nat.le_refl _) _
      obtain ⟨v3, hX3⟩ : ∃ X, X = v2.alloc (.cells #[.int .i8 a, .int .i8 b, .int .i64 c] 97) := ⟨_, rfl⟩
      rw [← hX3] at own3 hb3
      have tb3 := tb2.trans (hb3.mono tb2.size)
      have P3 := P2.keep hb3
      intro K hK
      rw [if_pos (by rfl)]
      go_simp
      rw [← hX3]
      clear hX3
      refine hK.out _ _ ⟨P3.cell (i := 0) rfl, P3.cell (i := 1) rfl, P3.cell (i := 2) rfl⟩ (fun hS3 => ?_)
      clear hK K
      try (change wpAnyH _ _ _ _ _ _ _ (Act.put _ (some 22) _) _)
      try simp only [Act.put, List.setIfInBounds_toArray, List.set_cons_zero, List.set_cons_succ]
      refine wpAnyH_ready (rs := [5]) (by kernel_rfl) (by simp) (AllReadyH.cons rfl ?_ AllReadyH.nil)
      obtain ⟨A1, c1, v4, hr4, own4, gr4⟩ := run_append_wn v3 32 Tryz.underlying32 w.heap.size i0 hi hz0 hz1 hz2 _ 1 _ own3 (tlA P d k) (d - k) (l.drop k) ((hL.below tb3).tl d k hd) (by omega) (by rw [List.length_drop]; omega) tb3.size
      have hgb : ∀ j, (Value.slice (some ⟨v2.heap.size, 0, none⟩) 1 1).ownBlock = some j → w.heap.size < j := fun j hj => by simp [Value.ownBlock] at hj; omega
      have tb4 : Below w.heap.size w v4 := tb3.grown gr4 tb3.size (fun j hj => Nat.le_of_lt (hgb j hj))
      have P4 := P3.grown gr4 (fun e => by have := hgb _ e; omega)
      have own4' : v4.ownsRow w.heap.size 97 3 (.slice A1 ((a, b, c) :: l.drop k).length c1) ((a, b, c) :: l.drop k).length (wnC ((a, b, c) :: l.drop k)) := by
        have e : ((a, b, c) :: l.drop k).length = 1 + (l.drop k).length := by simp; omega
        rw [e]
        exact own4
      intro K hK
      rw [if_pos (by rfl)]
      rw [List.length_drop] at hr4
      refine Lib.wp_append_run v3 (.tmp 22) (.tmp 25) 32 32 rfl _ _ rfl rfl _ _ (hr4 _) ?_
      clear hr4 gr4 own4
      refine hK.out _ _ ⟨P4.cell (i := 0) rfl, P4.cell (i := 1) rfl, P4.cell (i := 2) rfl⟩ (fun hS4 => ?_)
      clear hK K
      change wpAnyH _ _ _ _ _ _ _ (Act.put _ (some 26) _) _
      simp only [Act.put, List.setIfInBounds_toArray, List.set_cons_zero, List.set_cons_succ]
      refine wpAnyH_take (i := 6) (v := .slice A1 (1 + (l.length - k)) c1) rfl (by kernel_rfl) (by kernel_rfl) (by kernel_rfl) (fun _ _ _ h => h) (Or.inl ⟨by rfl, fun w' _ => by go_simp⟩) hS4 ?_
      change wpAnyH _ _ _ _ _ _ _ (Act.put _ (some 6) _) _
      simp only [Act.put, List.setIfInBounds_toArray, List.set_cons_zero, List.set_cons_succ]
      refine wpAnyH_done (by kernel_rfl) ?_ _
      obtain ⟨m, hm⟩ : ∃ m, m = 1 + (l.length - k) := ⟨_, rfl⟩
      have hml : ((a, b, c) :: l.drop k).length = m := by rw [List.length_cons, List.length_drop, hm]; omega
      rw [hml] at own4'
      rw [← hm]
      have hd2 := fun W => hd_run P l.length d k (Nat.le_trans hk hd) W
      obtain ⟨v5, hX5⟩ : ∃ X, X = v4.alloc (.cells #[] 97) := ⟨_, rfl⟩
      have hb5 : Below v4.heap.size v4 v5 := by rw [hX5]; exact (Below.refl _ _).alloc (Nat.le_refl _) _
      have tb5 := tb4.trans (hb5.mono tb4.size)
      have hE : v5.ownsRow v4.heap.size 97 3 (.slice (some ⟨v4.heap.size, 0, none⟩) 0 0) 0 [] := by rw [hX5]; exact World.ownsRow_made v4 #[] 0 (Nat.le_refl _) (by unfold maxLen; omega) (by simp)
      obtain ⟨A2, c2_, v6, hr6, own6, gr6⟩ := run_append_wn v5 32 Tryz.underlying32 v4.heap.size i0 hi hz0 hz1 hz2 _ 0 [] hE (tlA P d 0) d (l.take k) ((hL.below tb5).hd d k) (by omega) (by rw [List.length_take]; omega) hb5.size
      simp only [Nat.zero_add, List.nil_append] at hr6 own6
      have ht : (l.take k).length = k := by rw [List.length_take]; omega
      rw [ht] at hr6 own6
      have hgb6 : ∀ j, (Value.slice (some ⟨v4.heap.size, 0, none⟩) 0 0).ownBlock = some j → v4.heap.size ≤ j := fun j hj => by simp [Value.ownBlock] at hj; omega
      have hb6 : Below v4.heap.size v4 v6 := hb5.grown gr6 hb5.size hgb6
      have tb6 := tb4.trans (hb6.mono tb4.size)
      have own46 := own_keep own4' hb6
      obtain ⟨A3, c3_, v7, hr7, own7, gr7⟩ := run_append_wn v6 32 Tryz.underlying32 v4.heap.size i0 hi hz0 hz1 hz2 _ k _ own6 A1 c1 ((a, b, c) :: l.drop k) (WnA.of_own (by rw [hml]; exact own46)) (by omega) (by rw [hml]; omega) hb6.size
      rw [hml] at hr7 own7
      have tb7 : Below w.heap.size w v7 := tb6.grown gr7 tb6.size (fun j hj => Nat.le_trans tb4.size (own6.lt j hj).1)
      rw [← wnC_append, ← HN.out] at own7
      have hfin : (insP l (a, b, c)).length = k + m := by rw [HN.out, List.length_append, List.length_take, hml]; omega
      have HF := hide hfin
      clear hS1 hS3 hS4 P2 P3 P4 own3 own4' own6 own46 hE gr6 gr7 tb5 tb6 hb5 hb6 hml hm ht hfin tl
      subst hX5
      go_upto_region 5 with fail
      go_wp2_with (first | (at_builtin; with_reducible refine Lib.wpList_append_run _ rfl (.tmp 27) (.tmp 30) _ _ rfl _ _ rfl rfl _ _ (hr6 _) ?_) | (at_builtin; with_reducible refine Lib.wpList_append_run _ rfl (.tmp 31) (.tmp 32) _ _ rfl _ _ rfl rfl _ _ (hr7 _) ?_))
      go_ret
      exact ⟨A3, c3_, by rw [HF.out] <;> rfl, by rw [HF.out]; exact own_base own7 tb4.size, tb7⟩
end Go.Proofs.YtcocfnjbgceidaaGreat
namespace Go.Proofs.YtcocfnjbgceidaaGreat
open Go.RowKit Go.Maps
theorem place_uniq {l : List Wp} (h : AscL l) {i j : Nat} (hi : i < l.length) (hj : j < l.length) (h1 : l[i].1 = l[j].1) (h2 : l[i].2.1 = l[j].2.1) : i = j := by
  rcases Nat.lt_trichotomy i j with hl | hl | hl
  · have := befP_iff.1 (List.pairwise_iff_getElem.1 h i j hi hj hl)
    omega
  · exact hl
  · have := befP_iff.1 (List.pairwise_iff_getElem.1 h j i hj hi hl)
    omega
theorem set_setP {l : List Wp} (h : AscL l) {i : Nat} (hi : i < l.length) {a b : Int} (h1 : l[i].1 = a) (h2 : l[i].2.1 = b) (c : Int) : l.set i (a, b, c) = setP l a b c := by
  apply List.ext_getElem
  · simp [setP]
  · intro j hj1 hj2
    have hj : j < l.length := by simpa using hj1
    rw [List.getElem_set]
    simp only [setP, List.getElem_map]
    by_cases e : i = j
    · subst e
      rw [if_pos rfl, if_pos (atP_iff.2 ⟨h1, h2⟩)]
    · rw [if_neg e, if_neg (fun hh => e (by
        obtain ⟨q1, q2⟩ := atP_iff.1 hh
        exact place_uniq h hi hj (h1.trans q1.symm) (h2.trans q2.symm)))]
theorem erase_delP {l : List Wp} (h : AscL l) {i : Nat} (hi : i < l.length) {a b : Int} (h1 : l[i].1 = a) (h2 : l[i].2.1 = b) : l.take i ++ l.drop (i + 1) = delP l a b := by
  have e1 : delP (l.take i) a b = l.take i := by
    unfold delP
    rw [List.filter_eq_self]
    intro x hx
    obtain ⟨j, hj, rfl⟩ := List.mem_iff_getElem.1 hx
    rw [List.length_take] at hj
    rw [List.getElem_take]
    cases hh : atP a b l[j]
    · rfl
    · obtain ⟨q1, q2⟩ := atP_iff.1 hh
      have := place_uniq h hi (show j < l.length by omega) (h1.trans q1.symm) (h2.trans q2.symm)
      omega
  have e2 : delP (l.drop (i + 1)) a b = l.drop (i + 1) := by
    unfold delP
    rw [List.filter_eq_self]
    intro x hx
    obtain ⟨j, hj, rfl⟩ := List.mem_iff_getElem.1 hx
    rw [List.length_drop] at hj
    rw [List.getElem_drop]
    cases hh : atP a b l[i + 1 + j]
    · rfl
    · obtain ⟨q1, q2⟩ := atP_iff.1 hh
      have := place_uniq h hi (show i + 1 + j < l.length by omega) (h1.trans q1.symm) (h2.trans q2.symm)
      omega
  have e3 : l = l.take i ++ l[i] :: l.drop (i + 1) := by simp
  have e4 : delP l a b = delP (l.take i) a b ++ delP (l.drop (i + 1)) a b := by
    conv => lhs; rw [e3]
    unfold delP
    rw [List.filter_append, List.filter_cons, if_neg (by rw [atP_iff.2 ⟨h1, h2⟩]; decide)]
  rw [e4, e1, e2]
theorem fiJ_at {l : List Wp} {a b : Int} (h : hasP l a b = true) : ∃ i : Nat, fiJ l a b = i ∧ ∃ hi : i < l.length, l[i].1 = a ∧ l[i].2.1 = b := by
  obtain ⟨x, hx, h1, h2⟩ := hasP_iff.1 h
  have hlt := List.findIdx_lt_length_of_exists (p := atP a b) ⟨x, hx, atP_iff.2 ⟨h1, h2⟩⟩
  exact ⟨l.findIdx (atP a b), by rw [fiJ, if_pos h], hlt, atP_iff.1 (List.findIdx_getElem (w := hlt))⟩
theorem set_selfW {α : Type} {l : List α} {k : Nat} {v : α} (h : l[k]? = some v) : l.set k v = l := by
  obtain ⟨hk, rfl⟩ := List.getElem?_eq_some_iff.1 h
  exact List.set_getElem_self hk
theorem fiJ_no {l : List Wp} {a b : Int} (h : hasP l a b = false) : fiJ l a b = -1 := by rw [fiJ, if_neg (by rw [h]; decide)]
set_option maxRecDepth 20000 in
set_option maxHeartbeats 8000000 in
theorem specNewPin_any (s : Int) (A : Option Addr) (c : Nat) (h : List (Int × Int)) (P : Option Addr) (d : Nat) (l : List Wp) (U : Option Addr) (v : Nat) (z : List Int) (a b : Int) (w : World)
    (hA : HA w A h) (hn : h.length ≤ 1048576) (hwf : HWF h) (hs : -32768 ≤ s ∧ s ≤ 32767) (hL : WnA w P l) (hU : SZ w U z) (hl : l.length ≤ 1048576) (hz : z.length ≤ 1048576) (hlw : WnWF l) (hzw : ZWF z) :
    Calls Tryz.prog 21 #[.agg #[.int .i16 s, .slice A h.length c], .agg #[.slice P l.length d, .slice U z.length v], .int .i64 a, .int .i64 b] w (WeC (waT s h l z (plC s h.length a b) (plT l a b)) (waZ s h l z (plC s h.length a b) z) (waC s h l z (plC s h.length a b)) w) := by
  obtain ⟨X, hX⟩ : ∃ X, X = ((w.alloc (.cells #[.int .i16 s, .slice A h.length c] 39)).alloc (.cells #[.slice P l.length d, .slice U z.length v] 34)).alloc (.cells #[.slice none 0 0, .slice none 0 0] 34) := ⟨_, rfl⟩
  have hb0 : Below w.heap.size w X := by rw [hX]; exact (((Below.refl _ _).alloc (Nat.le_refl _) _).alloc (by simp) _).alloc (by simp; omega) _
  have P0 : Bk X w.heap.size 39 #[.int .i16 s, .slice A h.length c] := by rw [hX]; exact ((Bk.new _ _ _ rfl).old _).old _
  have P1 : Bk X (w.heap.size + 1) 34 #[.slice P l.length d, .slice U z.length v] := by rw [hX]; exact (Bk.new _ _ _ (by simp)).old _
  have P3 : Bk X (w.heap.size + 1 + 1) 34 #[.slice none 0 0, .slice none 0 0] := by rw [hX]; exact Bk.new _ _ _ (by simp)
  have hX3 := P3.lt
  have KW := l06Ok_any w.heap.size (w.heap.size + 1) s A c h P d l U v z X ⟨P0.cell (i := 0) rfl, P0.cell (i := 1) rfl⟩ (P1.cell (i := 0) rfl) (P1.cell (i := 1) rfl) (hA.below hb0) (hL.below hb0) (hU.below hb0) hn hl hz hwf hs hlw
  go_enter Tryz.func21, Tryz.ntmps21
  go_upto_region 1 with fail
  rw [← hX]
  clear hX
  go_wp2_with fail
  refine KW.mono ?_
  rintro e w2 ⟨rfl, hb2⟩
  have b2 := step_below hb2 hb0
  have Q0 := P0.keep hb2
  have Q1 := P1.keep hb2
  have Q3 := P3.keep hb2
  have hs2 := hb2.size
  have KPl := l06Place_any w.heap.size s A h.length c a b w2 ⟨Q0.cell (i := 0) rfl, Q0.cell (i := 1) rfl⟩ hs hn
  clear KW
  cases hwe : weB s h l z
  · skip
    clear KPl
    have HX := hide (show waC s h l z (plC s h.length a b) = 1 by simp [waC, hwe])
    have HT := hide (show waT s h l z (plC s h.length a b) (plT l a b) = [] by rw [waT, if_neg (by rw [HX.out]; decide)])
    have HZZ := hide (show waZ s h l z (plC s h.length a b) z = [] by rw [waZ, if_neg (by rw [HX.out]; decide)])
    have HZ := hide (show w2.heap[(w.heap.size + 1 + 1)]? = some (.cells #[.slice none 0 0, .slice none 0 0] 34 (0, 0)) from Q3)
    go_wp2_with (first | (with_reducible refine wpList_build0 rfl rfl ?_) | (with_reducible refine wpList_store_row rfl 34 (.tmp 8) (.tmp 14) rfl (w.heap.size + 1 + 1) #[.slice none 0 0, .slice none 0 0] rfl rfl 34 _ HZ.out (infoWear _ _) (szWear _ _ _ _) (oneWear _ _ _ _ _ _) ?_))
    exact bodyPost_ret (v := .tuple #[.agg #[.slice none 0 0, .slice none 0 0], .int .i64 1]) (results_we Tryz.results21 _ _ (w.heap.size + 1 + 1) 34 #[.slice none 0 0, .slice none 0 0] _ rfl (by simp [Act.put]) (by simp [Act.put]) (setRow_heap _ _ _ _ _ _ HZ.out)) rfl ⟨none, 0, none, 0, by rw [HX.out, HT.out, HZZ.out]; rfl, by rw [HT.out]; exact World.ownsRow_nil _ _ _ _, by rw [HZZ.out]; exact World.ownsRow_nil _ _ _ _, below_setRow b2 (by omega)⟩
  go_wp2_with fail
  refine KPl.mono ?_
  rintro e w3 ⟨rfl, hb3⟩
  have b3 := step_below hb3 b2
  have R1 := Q1.keep hb3
  have R3 := Q3.keep hb3
  have hs3 := hb3.size
  clear KPl
  cases hpl : plW s h.length a b
  · skip
    have HX := hide (show waC s h l z (plC s h.length a b) = 2 by simp [waC, hwe, plC, hpl])
    have HT := hide (show waT s h l z (plC s h.length a b) (plT l a b) = [] by rw [waT, if_neg (by rw [HX.out]; decide)])
    have HZZ := hide (show waZ s h l z (plC s h.length a b) z = [] by rw [waZ, if_neg (by rw [HX.out]; decide)])
    have HZ := hide (show w3.heap[(w.heap.size + 1 + 1)]? = some (.cells #[.slice none 0 0, .slice none 0 0] 34 (0, 0)) from R3)
    go_wp2_with (first | (with_reducible refine wpList_build0 rfl rfl ?_) | (with_reducible refine wpList_store_row rfl 34 (.tmp 8) (.tmp 19) rfl (w.heap.size + 1 + 1) #[.slice none 0 0, .slice none 0 0] rfl rfl 34 _ HZ.out (infoWear _ _) (szWear _ _ _ _) (oneWear _ _ _ _ _ _) ?_))
    exact bodyPost_ret (v := .tuple #[.agg #[.slice none 0 0, .slice none 0 0], .int .i64 2]) (results_we Tryz.results21 _ _ (w.heap.size + 1 + 1) 34 #[.slice none 0 0, .slice none 0 0] _ rfl (by simp [Act.put]) (by simp [Act.put]) (setRow_heap _ _ _ _ _ _ HZ.out)) rfl ⟨none, 0, none, 0, by rw [HX.out, HT.out, HZZ.out]; rfl, by rw [HT.out]; exact World.ownsRow_nil _ _ _ _, by rw [HZZ.out]; exact World.ownsRow_nil _ _ _ _, below_setRow b3 (by omega)⟩
  have hasc := (weB_VT hwe).1.1
  have hfr := weB_fr hwe
  have hin := plW_iff.1 hpl
  have hwa : IntKind.i8.wrap a = a := w8_wrap (by omega)
  have hwb : IntKind.i8.wrap b = b := w8_wrap (by omega)
  have HX := hide (show waC s h l z (plC s h.length a b) = 0 by simp [waC, hwe, plC, hpl])
  have HZZ := hide (show waZ s h l z (plC s h.length a b) z = z by rw [waZ, if_pos HX.out])
  have KC := l06Copy_any (w.heap.size + 1) P d l U v z w3 (R1.cell (i := 0) rfl) (R1.cell (i := 1) rfl) ((hL.below hb0).below (hb2.trans (hb3.mono hb2.size))) ((hU.below hb0).below (hb2.trans (hb3.mono hb2.size))) hl hz
  go_wp2_with fail
  refine KC.mono ?_
  rintro e w4 ⟨P1', q1, P2', q2, rfl, ownP, ownC, hb4⟩
  have b4 := step_below hb4 b3
  have S1 := R1.keep hb4
  have S3 := R3.keep hb4
  clear KC
  obtain ⟨Y, hY⟩ : ∃ Y, Y = w4.alloc (.cells #[.slice P1' l.length q1, .slice P2' z.length q2] 34) := ⟨_, rfl⟩
  have hbY : Below w4.heap.size w4 Y := by rw [hY]; exact (Below.refl _ _).alloc (Nat.le_refl _) _
  have bY := step_below hbY b4
  have SY1 := S1.keep hbY
  have SY := S3.keep hbY
  have oP := own_keep ownP hbY
  have oC := own_keep ownC hbY
  have NY : Bk Y w4.heap.size 34 #[.slice P1' l.length q1, .slice P2' z.length q2] := by rw [hY]; exact Bk.new _ _ _ rfl
  have hYw4 := NY.lt
  have hs4 := hb4.size
  go_upto_region 6 with (first | (with_reducible refine wpList_store_newA rfl 34 (.tmp 10) (.tmp 20) rfl #[.slice P1' l.length q1, .slice P2' z.length q2] rfl rfl 34 _ (infoWear _ _) (szWear _ _ _ _) (oneWear _ _ _ _ _ _) ?_))
  rw [← hY]
  clear hY
  have hLY := (hL.below hb0).below (hb2.trans ((hb3.trans ((hb4.trans (hbY.mono hb4.size)).mono hs3)).mono hs2))
  have KF := l06Find_any (w.heap.size + 1) P d l a b Y (SY1.cell (i := 0) rfl) hLY hl hlw
  go_wp2_with fail
  refine KF.mono ?_
  rintro e _ ⟨rfl, rfl⟩
  clear KF
  cases hhas : hasP l a b
  · have HF := hide (fiJ_no hhas)
    have HT := hide (show waT s h l z (plC s h.length a b) (plT l a b) = insP l (a, b, 0) by rw [waT, if_pos HX.out]; simp [plT, hhas])
    have hq1 : l.length ≤ q1 := by
      rcases oP.2 with ⟨h', h0⟩ | ⟨g', cap, cur, h', hgb, _, hcap, _⟩
      · omega
      · simp at h'
        omega
    have KPt := l06Put_any P1' q1 l a b 0 Y (WnA.of_own oP) hl hq1 hlw
    have n0 := NY.cell (i := 0) rfl
    have f0 := NY.frozen 0
    rw [HF.out]
    clear hhas hwe hpl hin
    go_wp2_with fail
    refine KPt.mono ?_
    rintro e w6 ⟨P6, q6, rfl, ownP6, hb6⟩
    have b6 := step_below hb6 bY
    have N6 := NY.keep hb6
    have S6 := SY.keep hb6
    have oC6 := own_keep oC hb6
    have c0 := N6.cell (i := 0) rfl
    have c1 := N6.cell (i := 1) rfl
    have f0 := N6.frozen 0
    have hneC : (Value.slice P2' z.length q2).ownBlock ≠ some w4.heap.size := own_neW oC6 N6 (by decide)
    have hneP : (Value.slice P6 (insP l (a, b, 0)).length q6).ownBlock ≠ some w4.heap.size := own_neW ownP6 N6 (by decide)
    clear KPt n0
    obtain ⟨V, hV⟩ : ∃ V, V = w6.setCell ⟨w4.heap.size, 0, none⟩ (.slice P6 (insP l (a, b, 0)).length q6) := ⟨_, rfl⟩
    have NV : Bk V w4.heap.size 34 #[.slice P6 (insP l (a, b, 0)).length q6, .slice P2' z.length q2] := by rw [hV]; exact heap_setCell_same w6 w4.heap.size 0 _ _ _ N6
    have SV : Bk V (w.heap.size + 1 + 1) 34 #[.slice none 0 0, .slice none 0 0] := by rw [hV]; exact S6.other (k := 0) (by omega) _
    have oCV := own_setW (o := 0) oC6 hneC (.slice P6 (insP l (a, b, 0)).length q6)
    have oPV := own_setW (o := 0) ownP6 hneP (.slice P6 (insP l (a, b, 0)).length q6)
    have bV : Below w.heap.size w V := by rw [hV]; exact b6.setCell (p := ⟨w4.heap.size, 0, none⟩) (by dsimp only; omega) _
    rw [← hV] at oCV oPV
    go_upto_region 11 with fail
    rw [← hV]
    clear hV c0 c1 f0
    have m0 := NV.cell (i := 0) rfl
    have m1 := NV.cell (i := 1) rfl
    have HZ := hide (show V.heap[w.heap.size + 1 + 1]? = some (.cells #[.slice none 0 0, .slice none 0 0] 34 (0, 0)) from SV)
    have owP := own_base (own_keepW oPV (show w.heap.size + 1 + 1 < Y.heap.size by omega) #[.slice P6 (insP l (a, b, 0)).length q6, .slice P2' z.length q2]) (show w.heap.size ≤ Y.heap.size by omega)
    have owC := own_base (own_keepW oCV (show w.heap.size + 1 + 1 < w3.heap.size by omega) #[.slice P6 (insP l (a, b, 0)).length q6, .slice P2' z.length q2]) (show w.heap.size ≤ w3.heap.size by omega)
    go_wp2_with (with_reducible refine wpList_store_row rfl 34 (.tmp 8) (.tmp 41) rfl (w.heap.size + 1 + 1) #[.slice P6 (insP l (a, b, 0)).length q6, .slice P2' z.length q2] rfl rfl 34 _ HZ.out (infoWear _ _) (szWear _ _ _ _) (oneWear _ _ _ _ _ _) ?_)
    exact bodyPost_ret (v := .tuple #[.agg #[.slice P6 (insP l (a, b, 0)).length q6, .slice P2' z.length q2], .int .i64 0]) (results_we Tryz.results21 _ _ (w.heap.size + 1 + 1) 34 #[.slice P6 (insP l (a, b, 0)).length q6, .slice P2' z.length q2] _ rfl (by simp [Act.put]) (by simp [Act.put]) (setRow_heap _ _ _ _ _ _ HZ.out)) rfl ⟨P6, q6, P2', q2, by rw [HX.out, HT.out, HZZ.out], by rw [HT.out]; exact owP, by rw [HZZ.out]; exact owC, below_setRow bV (by omega)⟩
  · obtain ⟨i, hi, hil, hi1, hi2⟩ := fiJ_at hhas
    have HF := hide hi
    have hst := set_setP hasc hil hi1 hi2 0
    have HT := hide (show waT s h l z (plC s h.length a b) (plT l a b) = l.set i (a, b, 0) by rw [waT, if_pos HX.out, hst]; simp [plT, hhas])
    have hii : (0 : Int) ≤ (i : Int) := by omega
    have hiL : (i : Int) < (l.length : Int) := by omega
    rw [HF.out]
    obtain ⟨gp, rfl⟩ : ∃ gp, P1' = some ⟨gp, 0, none⟩ := by
      rcases oP.2 with ⟨h', h0⟩ | ⟨g', cap, cur, h', hgb, _⟩
      · omega
      · simp at h'
        exact ⟨g', h'.1⟩
    have hgp := oP.lt gp rfl
    obtain ⟨e1, e2, e3⟩ := wnC_at l i hil
    rw [wn_get l i hil] at hi1 hi2
    simp only at hi1 hi2
    have ck := (oP.cellAt (i * 3 + 2) (by omega)).trans e3
    have fk := oP.frozenAt (i * 3 + 2)
    have n0 := NY.cell (i := 0) rfl
    have hne1 : w4.heap.size ≠ gp := fun e => own_neW oP NY (by decide) (by rw [e]; rfl)
    have hneC : (Value.slice P2' z.length q2).ownBlock ≠ some gp := by
      rcases own_apart oC oP (by decide) with hh | hh
      · rw [hh]; simp
      · exact hh
    have oP2 := (oP.stored (i * 3 + 2) (.int .i64 0)).1
    have hset : (wnC l).set (i * 3 + 2) (.int .i64 0) = wnC (l.set i (a, b, 0)) := by
      rw [wnC_set]
      congr 1
      rw [← hi1, ← hi2]
      have q1 : (wnC l)[i * 3]? = some (.int .i8 (wnS l i)) := e1
      rw [set_selfW q1]
      rw [set_selfW e2]
    rw [hset] at oP2
    have oC2 := own_setW (o := i * 3 + 2) oC hneC (.int .i64 0)
    have N2 := NY.other (k := i * 3 + 2) hne1 (.int .i64 0)
    have S2 := SY.other (k := i * 3 + 2) (show w.heap.size + 1 + 1 ≠ gp by omega) (.int .i64 0)
    have bZ := bY.setCell (p := ⟨gp, i * 3 + 2, none⟩) (by dsimp only; omega) (.int .i64 0)
    obtain ⟨V, hV⟩ : ∃ V, V = Y.setCell ⟨gp, i * 3 + 2, none⟩ (.int .i64 0) := ⟨_, rfl⟩
    have HC := hide oC2
    have HP := hide oP2
    clear oC2 oP2 hhas hwe hpl hin hi hst hset e1 e2 e3
    go_upto_region 9 with fail
    rw [← hV] at HC HP N2 S2 bZ ⊢
    clear hV
    have m0 := N2.cell (i := 0) rfl
    have m1 := N2.cell (i := 1) rfl
    have hll : (l.set i (a, b, 0)).length = l.length := by simp
    have HLL := hide hll
    have HZ := hide (show V.heap[w.heap.size + 1 + 1]? = some (.cells #[.slice none 0 0, .slice none 0 0] 34 (0, 0)) from S2)
    have owP := own_base (own_keepW HP.out (show w.heap.size + 1 + 1 < w3.heap.size by omega) #[.slice (some ⟨gp, 0, none⟩) l.length q1, .slice P2' z.length q2]) (show w.heap.size ≤ w3.heap.size by omega)
    have owC := own_base (own_keepW HC.out (show w.heap.size + 1 + 1 < w3.heap.size by omega) #[.slice (some ⟨gp, 0, none⟩) l.length q1, .slice P2' z.length q2]) (show w.heap.size ≤ w3.heap.size by omega)
    clear n0 ck fk hll
    go_wp2_with (with_reducible refine wpList_store_row rfl 34 (.tmp 8) (.tmp 31) rfl (w.heap.size + 1 + 1) #[.slice (some ⟨gp, 0, none⟩) l.length q1, .slice P2' z.length q2] rfl rfl 34 _ HZ.out (infoWear _ _) (szWear _ _ _ _) (oneWear _ _ _ _ _ _) ?_)
    exact bodyPost_ret (v := .tuple #[.agg #[.slice (some ⟨gp, 0, none⟩) l.length q1, .slice P2' z.length q2], .int .i64 0]) (results_we Tryz.results21 _ _ (w.heap.size + 1 + 1) 34 #[.slice (some ⟨gp, 0, none⟩) l.length q1, .slice P2' z.length q2] _ rfl (by simp [Act.put]) (by simp [Act.put]) (setRow_heap _ _ _ _ _ _ HZ.out)) rfl ⟨some ⟨gp, 0, none⟩, q1, P2', q2, by rw [HX.out, HT.out, HZZ.out, HLL.out], by rw [HT.out, HLL.out]; exact owP, by rw [HZZ.out]; exact owC, below_setRow bZ (by omega)⟩
end Go.Proofs.YtcocfnjbgceidaaGreat
namespace Go.Proofs.YtcocfnjbgceidaaGreat
open Go.RowKit Go.Maps
set_option maxRecDepth 20000 in
set_option maxHeartbeats 8000000 in
theorem specMovePin_any (s : Int) (A : Option Addr) (c : Nat) (h : List (Int × Int)) (P : Option Addr) (d : Nat) (l : List Wp) (U : Option Addr) (v : Nat) (z : List Int) (a b c2 d2 : Int) (w : World)
    (hA : HA w A h) (hn : h.length ≤ 1048576) (hwf : HWF h) (hs : -32768 ≤ s ∧ s ≤ 32767) (hL : WnA w P l) (hU : SZ w U z) (hl : l.length ≤ 1048576) (hz : z.length ≤ 1048576) (hlw : WnWF l) (hzw : ZWF z) :
    Calls Tryz.prog 23 #[.agg #[.int .i16 s, .slice A h.length c], .agg #[.slice P l.length d, .slice U z.length v], .int .i64 a, .int .i64 b, .int .i64 c2, .int .i64 d2] w (WeC (waT s h l z (mvC s h.length l a b c2 d2) (mvT l a b c2 d2)) (waZ s h l z (mvC s h.length l a b c2 d2) z) (waC s h l z (mvC s h.length l a b c2 d2)) w) := by
  obtain ⟨i0, hi0, hz0, hz1, hz2⟩ := info_parts info97
  obtain ⟨X, hX⟩ : ∃ X, X = ((w.alloc (.cells #[.int .i16 s, .slice A h.length c] 39)).alloc (.cells #[.slice P l.length d, .slice U z.length v] 34)).alloc (.cells #[.slice none 0 0, .slice none 0 0] 34) := ⟨_, rfl⟩
  have hb0 : Below w.heap.size w X := by rw [hX]; exact (((Below.refl _ _).alloc (Nat.le_refl _) _).alloc (by simp) _).alloc (by simp; omega) _
  have P0 : Bk X w.heap.size 39 #[.int .i16 s, .slice A h.length c] := by rw [hX]; exact ((Bk.new _ _ _ rfl).old _).old _
  have P1 : Bk X (w.heap.size + 1) 34 #[.slice P l.length d, .slice U z.length v] := by rw [hX]; exact (Bk.new _ _ _ (by simp)).old _
  have P3 : Bk X (w.heap.size + 1 + 1) 34 #[.slice none 0 0, .slice none 0 0] := by rw [hX]; exact Bk.new _ _ _ (by simp)
  have hX3 := P3.lt
  have KW := l06Ok_any w.heap.size (w.heap.size + 1) s A c h P d l U v z X ⟨P0.cell (i := 0) rfl, P0.cell (i := 1) rfl⟩ (P1.cell (i := 0) rfl) (P1.cell (i := 1) rfl) (hA.below hb0) (hL.below hb0) (hU.below hb0) hn hl hz hwf hs hlw
  go_enter Tryz.func23, Tryz.ntmps23
  go_upto_region 1 with fail
  rw [← hX]
  clear hX
  go_wp2_with fail
  refine KW.mono ?_
  rintro e w2 ⟨rfl, hb2⟩
  have b2 := step_below hb2 hb0
  have Q0 := P0.keep hb2
  have Q1 := P1.keep hb2
  have Q3 := P3.keep hb2
  have hs2 := hb2.size
  have KPl := l06Place_any w.heap.size s A h.length c a b w2 ⟨Q0.cell (i := 0) rfl, Q0.cell (i := 1) rfl⟩ hs hn
  clear KW
  cases hwe : weB s h l z
  · skip
    clear KPl
    have HX := hide (show waC s h l z (mvC s h.length l a b c2 d2) = 1 by simp [waC, hwe])
    have HT := hide (show waT s h l z (mvC s h.length l a b c2 d2) (mvT l a b c2 d2) = [] by rw [waT, if_neg (by rw [HX.out]; decide)])
    have HZZ := hide (show waZ s h l z (mvC s h.length l a b c2 d2) z = [] by rw [waZ, if_neg (by rw [HX.out]; decide)])
    have HZ := hide (show w2.heap[(w.heap.size + 1 + 1)]? = some (.cells #[.slice none 0 0, .slice none 0 0] 34 (0, 0)) from Q3)
    go_wp2_with (first | (with_reducible refine wpList_build0 rfl rfl ?_) | (with_reducible refine wpList_store_row rfl 34 (.tmp 12) (.tmp 19) rfl (w.heap.size + 1 + 1) #[.slice none 0 0, .slice none 0 0] rfl rfl 34 _ HZ.out (infoWear _ _) (szWear _ _ _ _) (oneWear _ _ _ _ _ _) ?_))
    exact bodyPost_ret (v := .tuple #[.agg #[.slice none 0 0, .slice none 0 0], .int .i64 1]) (results_we Tryz.results23 _ _ (w.heap.size + 1 + 1) 34 #[.slice none 0 0, .slice none 0 0] _ rfl (by simp [Act.put]) (by simp [Act.put]) (setRow_heap _ _ _ _ _ _ HZ.out)) rfl ⟨none, 0, none, 0, by rw [HX.out, HT.out, HZZ.out]; rfl, by rw [HT.out]; exact World.ownsRow_nil _ _ _ _, by rw [HZZ.out]; exact World.ownsRow_nil _ _ _ _, below_setRow b2 (by omega)⟩
  go_wp2_with fail
  refine KPl.mono ?_
  rintro e w3 ⟨rfl, hb3⟩
  have b3 := step_below hb3 b2
  have R0 := Q0.keep hb3
  have R1 := Q1.keep hb3
  have R3 := Q3.keep hb3
  have hs3 := hb3.size
  clear KPl
  cases hpl : plW s h.length a b
  · skip
    have HX := hide (show waC s h l z (mvC s h.length l a b c2 d2) = 2 by simp [waC, hwe, mvC, hpl])
    have HT := hide (show waT s h l z (mvC s h.length l a b c2 d2) (mvT l a b c2 d2) = [] by rw [waT, if_neg (by rw [HX.out]; decide)])
    have HZZ := hide (show waZ s h l z (mvC s h.length l a b c2 d2) z = [] by rw [waZ, if_neg (by rw [HX.out]; decide)])
    have HZ := hide (show w3.heap[(w.heap.size + 1 + 1)]? = some (.cells #[.slice none 0 0, .slice none 0 0] 34 (0, 0)) from R3)
    go_wp2_with (first | (with_reducible refine wpList_build0 rfl rfl ?_) | (with_reducible refine wpList_store_row rfl 34 (.tmp 12) (.tmp 30) rfl (w.heap.size + 1 + 1) #[.slice none 0 0, .slice none 0 0] rfl rfl 34 _ HZ.out (infoWear _ _) (szWear _ _ _ _) (oneWear _ _ _ _ _ _) ?_))
    exact bodyPost_ret (v := .tuple #[.agg #[.slice none 0 0, .slice none 0 0], .int .i64 2]) (results_we Tryz.results23 _ _ (w.heap.size + 1 + 1) 34 #[.slice none 0 0, .slice none 0 0] _ rfl (by simp [Act.put]) (by simp [Act.put]) (setRow_heap _ _ _ _ _ _ HZ.out)) rfl ⟨none, 0, none, 0, by rw [HX.out, HT.out, HZZ.out]; rfl, by rw [HT.out]; exact World.ownsRow_nil _ _ _ _, by rw [HZZ.out]; exact World.ownsRow_nil _ _ _ _, below_setRow b3 (by omega)⟩
  have KPm := l06Place_any w.heap.size s A h.length c c2 d2 w3 ⟨R0.cell (i := 0) rfl, R0.cell (i := 1) rfl⟩ hs hn
  go_wp2_with fail
  refine KPm.mono ?_
  rintro e w4 ⟨rfl, hb4⟩
  have b4 := step_below hb4 b3
  have S1 := R1.keep hb4
  have S3 := R3.keep hb4
  have hs4 := hb4.size
  clear KPm
  cases hpm : plW s h.length c2 d2
  · skip
    have HX := hide (show waC s h l z (mvC s h.length l a b c2 d2) = 2 by simp [waC, hwe, mvC, hpl, hpm])
    have HT := hide (show waT s h l z (mvC s h.length l a b c2 d2) (mvT l a b c2 d2) = [] by rw [waT, if_neg (by rw [HX.out]; decide)])
    have HZZ := hide (show waZ s h l z (mvC s h.length l a b c2 d2) z = [] by rw [waZ, if_neg (by rw [HX.out]; decide)])
    have HZ := hide (show w4.heap[(w.heap.size + 1 + 1)]? = some (.cells #[.slice none 0 0, .slice none 0 0] 34 (0, 0)) from S3)
    go_wp2_with (first | (with_reducible refine wpList_build0 rfl rfl ?_) | (with_reducible refine wpList_store_row rfl 34 (.tmp 12) (.tmp 30) rfl (w.heap.size + 1 + 1) #[.slice none 0 0, .slice none 0 0] rfl rfl 34 _ HZ.out (infoWear _ _) (szWear _ _ _ _) (oneWear _ _ _ _ _ _) ?_))
    exact bodyPost_ret (v := .tuple #[.agg #[.slice none 0 0, .slice none 0 0], .int .i64 2]) (results_we Tryz.results23 _ _ (w.heap.size + 1 + 1) 34 #[.slice none 0 0, .slice none 0 0] _ rfl (by simp [Act.put]) (by simp [Act.put]) (setRow_heap _ _ _ _ _ _ HZ.out)) rfl ⟨none, 0, none, 0, by rw [HX.out, HT.out, HZZ.out]; rfl, by rw [HT.out]; exact World.ownsRow_nil _ _ _ _, by rw [HZZ.out]; exact World.ownsRow_nil _ _ _ _, below_setRow b4 (by omega)⟩
  have hasc := (weB_VT hwe).1.1
  have hvt := (weB_VT hwe).1
  have hfr := weB_fr hwe
  have hin := plW_iff.1 hpl
  have hin2 := plW_iff.1 hpm
  have hwa : IntKind.i8.wrap c2 = c2 := w8_wrap (by omega)
  have hwb : IntKind.i8.wrap d2 = d2 := w8_wrap (by omega)
  have hL4 := (hL.below hb0).below (hb2.trans ((hb3.trans (hb4.mono hs3)).mono hs2))
  have hU4 := (hU.below hb0).below (hb2.trans ((hb3.trans (hb4.mono hs3)).mono hs2))
  have KF := l06Find_any (w.heap.size + 1) P d l a b w4 (S1.cell (i := 0) rfl) hL4 hl hlw
  have KG := l06Find_any (w.heap.size + 1) P d l c2 d2 w4 (S1.cell (i := 0) rfl) hL4 hl hlw
  go_wp2_with fail
  refine KF.mono ?_
  rintro e _ ⟨rfl, rfl⟩
  clear KF
  cases hhas : hasP l a b
  · have HF := hide (fiJ_no hhas)
    rw [HF.out]
    have HX := hide (show waC s h l z (mvC s h.length l a b c2 d2) = 4 by simp [waC, hwe, mvC, hpl, hpm, hhas])
    have HT := hide (show waT s h l z (mvC s h.length l a b c2 d2) (mvT l a b c2 d2) = [] by rw [waT, if_neg (by rw [HX.out]; decide)])
    have HZZ := hide (show waZ s h l z (mvC s h.length l a b c2 d2) z = [] by rw [waZ, if_neg (by rw [HX.out]; decide)])
    have HZ := hide (show w4.heap[(w.heap.size + 1 + 1)]? = some (.cells #[.slice none 0 0, .slice none 0 0] 34 (0, 0)) from S3)
    go_wp2_with (first | (with_reducible refine wpList_build0 rfl rfl ?_) | (with_reducible refine wpList_store_row rfl 34 (.tmp 12) (.tmp 42) rfl (w.heap.size + 1 + 1) #[.slice none 0 0, .slice none 0 0] rfl rfl 34 _ HZ.out (infoWear _ _) (szWear _ _ _ _) (oneWear _ _ _ _ _ _) ?_))
    exact bodyPost_ret (v := .tuple #[.agg #[.slice none 0 0, .slice none 0 0], .int .i64 4]) (results_we Tryz.results23 _ _ (w.heap.size + 1 + 1) 34 #[.slice none 0 0, .slice none 0 0] _ rfl (by simp [Act.put]) (by simp [Act.put]) (setRow_heap _ _ _ _ _ _ HZ.out)) rfl ⟨none, 0, none, 0, by rw [HX.out, HT.out, HZZ.out]; rfl, by rw [HT.out]; exact World.ownsRow_nil _ _ _ _, by rw [HZZ.out]; exact World.ownsRow_nil _ _ _ _, below_setRow b4 (by omega)⟩
  obtain ⟨i, hi, hil, hi1, hi2⟩ := fiJ_at hhas
  have HF := hide hi
  have hii : ¬ (i : Int) < 0 := by omega
  rw [HF.out]
  cases hha2 : hasP l c2 d2
  rotate_left
  · obtain ⟨i', hi', hil', _⟩ := fiJ_at hha2
    have hii' : (0 : Int) ≤ (i' : Int) := by omega
    rw [hi'] at KG
    go_wp2_with fail
    refine KG.mono ?_
    rintro e _ ⟨rfl, rfl⟩
    clear KG hi'
    have HX := hide (show waC s h l z (mvC s h.length l a b c2 d2) = 4 by simp [waC, hwe, mvC, hpl, hpm, hhas, hha2])
    have HT := hide (show waT s h l z (mvC s h.length l a b c2 d2) (mvT l a b c2 d2) = [] by rw [waT, if_neg (by rw [HX.out]; decide)])
    have HZZ := hide (show waZ s h l z (mvC s h.length l a b c2 d2) z = [] by rw [waZ, if_neg (by rw [HX.out]; decide)])
    have HZ := hide (show w4.heap[(w.heap.size + 1 + 1)]? = some (.cells #[.slice none 0 0, .slice none 0 0] 34 (0, 0)) from S3)
    go_wp2_with (first | (with_reducible refine wpList_build0 rfl rfl ?_) | (with_reducible refine wpList_store_row rfl 34 (.tmp 12) (.tmp 42) rfl (w.heap.size + 1 + 1) #[.slice none 0 0, .slice none 0 0] rfl rfl 34 _ HZ.out (infoWear _ _) (szWear _ _ _ _) (oneWear _ _ _ _ _ _) ?_))
    exact bodyPost_ret (v := .tuple #[.agg #[.slice none 0 0, .slice none 0 0], .int .i64 4]) (results_we Tryz.results23 _ _ (w.heap.size + 1 + 1) 34 #[.slice none 0 0, .slice none 0 0] _ rfl (by simp [Act.put]) (by simp [Act.put]) (setRow_heap _ _ _ _ _ _ HZ.out)) rfl ⟨none, 0, none, 0, by rw [HX.out, HT.out, HZZ.out]; rfl, by rw [HT.out]; exact World.ownsRow_nil _ _ _ _, by rw [HZZ.out]; exact World.ownsRow_nil _ _ _ _, below_setRow b4 (by omega)⟩
  have HG := hide (fiJ_no hha2)
  rw [HG.out] at KG
  go_wp2_with fail
  refine KG.mono ?_
  rintro e _ ⟨rfl, rfl⟩
  clear KG
  have HX := hide (show waC s h l z (mvC s h.length l a b c2 d2) = 0 by simp [waC, hwe, mvC, hpl, hpm, hhas, hha2])
  have HZZ := hide (show waZ s h l z (mvC s h.length l a b c2 d2) z = z by rw [waZ, if_pos HX.out])
  have hdel := erase_delP hasc hil hi1 hi2
  have htur : turP l a b = wnP l i := by
    have := turP_eq hasc (List.getElem_mem hil)
    rw [hi1, hi2] at this
    rw [this, wn_get l i hil]
  have HT := hide (show waT s h l z (mvC s h.length l a b c2 d2) (mvT l a b c2 d2) = insP (delP l a b) (c2, d2, wnP l i) by rw [waT, if_pos HX.out, mvT, htur])
  have HDL := hide hdel
  have hwfd : WnWF (delP l a b) := (hvt.del a b).wf hfr.1 hfr.2
  have hdl : (delP l a b).length ≤ l.length := List.length_filter_le _ _
  have KC := l06Copy_any (w.heap.size + 1) P d l U v z w4 (S1.cell (i := 0) rfl) (S1.cell (i := 1) rfl) hL4 hU4 hl hz
  have hiL : (i : Int) < (l.length : Int) := by omega
  clear hwe hpl hpm hin hin2 hhas hha2 hdel htur hasc hvt
  go_wp2_with fail
  refine KC.mono ?_
  rintro e w5 ⟨P1', q1, P2', q2, rfl, ownP, ownC, hb5⟩
  have b5 := step_below hb5 b4
  have T1 := S1.keep hb5
  have T3 := S3.keep hb5
  clear KC
  obtain ⟨Y, hY⟩ : ∃ Y, Y = w5.alloc (.cells #[.slice P1' l.length q1, .slice P2' z.length q2] 34) := ⟨_, rfl⟩
  have hbY : Below w5.heap.size w5 Y := by rw [hY]; exact (Below.refl _ _).alloc (Nat.le_refl _) _
  have bY := step_below hbY b5
  have SY1 := T1.keep hbY
  have SY3 := T3.keep hbY
  have oP := own_keep ownP hbY
  have oC := own_keep ownC hbY
  have NY : Bk Y w5.heap.size 34 #[.slice P1' l.length q1, .slice P2' z.length q2] := by rw [hY]; exact Bk.new _ _ _ rfl
  have hYw5 := NY.lt
  have hs5 := hb5.size
  have hLY := hL4.below (hb5.trans (hbY.mono hs5))
  have hq1 : l.length ≤ q1 := by
    rcases oP.2 with ⟨h', h0⟩ | ⟨g', cap, cur, h', hgb, _, hcap, _⟩
    · omega
    · simp at h'
      omega
  obtain ⟨G, hG⟩ : ∃ G, G = w5.heap.size := ⟨_, rfl⟩
  have hGw : w4.heap.size ≤ G := by omega
  go_upto_region 9 with (first | (with_reducible refine wpList_store_newA rfl 34 (.tmp 15) (.tmp 43) rfl #[.slice P1' l.length q1, .slice P2' z.length q2] rfl rfl 34 _ (infoWear _ _) (szWear _ _ _ _) (oneWear _ _ _ _ _ _) ?_))
  rw [← hY]
  rw [← hG] at NY hYw5 ⊢
  clear hY hG
  have hwi : IntKind.i64.wrap ((i : Int) + 1) = (i : Int) + 1 := IntWalk.i64_in _ (by omega)
  obtain ⟨v2, hv2⟩ : ∃ X, X = Y.drew := ⟨_, rfl⟩
  have tb2 : Below Y.heap.size Y v2 := by rw [hv2]; exact (Below.refl _ _).drew
  have N2 := NY.keep tb2
  have oP2 := own_keep oP tb2
  have tl := fun W => tl_run P1' l.length q1 (i + 1) (by omega) hq1 W
  have hd2 := fun W => hd_run P1' l.length q1 i (by omega) W
  have tl' : ∀ W, (Instr.slice 32 (.slice P1' l.length q1) (some (.int .i64 ((i : Int) + 1))) none none).run Tryz.prog W = .ok (.slice (tlA P1' q1 (i + 1)) (l.length - (i + 1)) (q1 - (i + 1))) W := fun W => by have := tl W; rwa [show ((i + 1 : Nat) : Int) = (i : Int) + 1 by omega] at this
  refine wp_region_held_drew (S := fun w' => w'.cell? ⟨G, 0, none⟩ = some (.slice P1' l.length q1)) (by kernel_rfl) (by rw [← hv2]; exact N2.cell (i := 0) rfl) fun hS1 => ?_
  rw [← hv2] at hS1 ⊢
  clear hv2 tl
  refine wpAnyH_take (i := 1) (v := .pointer (some ⟨G, 0, none⟩)) rfl (by kernel_rfl) (by kernel_rfl) (by kernel_rfl) (fun _ _ _ h => h) (Or.inl ⟨by rfl, fun w' _ => by go_simp⟩) hS1 ?_
  change wpAnyH _ _ _ _ _ _ _ (Act.put _ (some 45) _) _
  simp only [Act.put, List.setIfInBounds_toArray, List.set_cons_zero, List.set_cons_succ]
  refine wpAnyH_take (i := 2) (v := .slice P1' l.length q1) rfl (by kernel_rfl) (by kernel_rfl) (by kernel_rfl) (fun _ _ _ h => h) (Or.inl ⟨by rfl, fun w' h => ?_⟩) hS1 ?_
  · have c0 := h
    clear h
    go_simp
  change wpAnyH _ _ _ _ _ _ _ (Act.put _ (some 46) _) _
  simp only [Act.put, List.setIfInBounds_toArray, List.set_cons_zero, List.set_cons_succ]
  refine wpAnyH_take (i := 3) (v := .int .i64 (i : Nat)) rfl (by kernel_rfl) (by kernel_rfl) (by kernel_rfl) (fun _ _ _ h => h) (Or.inl ⟨by rfl, fun w' _ => by go_simp⟩) hS1 ?_
  change wpAnyH _ _ _ _ _ _ _ (Act.put _ (some 47) _) _
  simp only [Act.put, List.setIfInBounds_toArray, List.set_cons_zero, List.set_cons_succ]
  refine wpAnyH_take (i := 4) (v := .slice (tlA P1' q1 0) i q1) rfl (by kernel_rfl) (by kernel_rfl) (by kernel_rfl) (fun _ _ _ h => h) (Or.inl ⟨by rfl, fun w' _ => by go_simp⟩) hS1 ?_
  change wpAnyH _ _ _ _ _ _ _ (Act.put _ (some 48) _) _
  simp only [Act.put, List.setIfInBounds_toArray, List.set_cons_zero, List.set_cons_succ]
  refine wpAnyH_take (i := 6) (v := .pointer (some ⟨G, 0, none⟩)) rfl (by kernel_rfl) (by kernel_rfl) (by kernel_rfl) (fun _ _ _ h => h) (Or.inl ⟨by rfl, fun w' _ => by go_simp⟩) hS1 ?_
  change wpAnyH _ _ _ _ _ _ _ (Act.put _ (some 50) _) _
  simp only [Act.put, List.setIfInBounds_toArray, List.set_cons_zero, List.set_cons_succ]
  refine wpAnyH_take (i := 7) (v := .slice P1' l.length q1) rfl (by kernel_rfl) (by kernel_rfl) (by kernel_rfl) (fun _ _ _ h => h) (Or.inl ⟨by rfl, fun w' h => ?_⟩) hS1 ?_
  · have c0 := h
    clear h
    go_simp
  change wpAnyH _ _ _ _ _ _ _ (Act.put _ (some 51) _) _
  simp only [Act.put, List.setIfInBounds_toArray, List.set_cons_zero, List.set_cons_succ]
  refine wpAnyH_take (i := 8) (v := .int .i64 (i : Nat)) rfl (by kernel_rfl) (by kernel_rfl) (by kernel_rfl) (fun _ _ _ h => h) (Or.inl ⟨by rfl, fun w' _ => by go_simp⟩) hS1 ?_
  change wpAnyH _ _ _ _ _ _ _ (Act.put _ (some 52) _) _
  simp only [Act.put, List.setIfInBounds_toArray, List.set_cons_zero, List.set_cons_succ]
  refine wpAnyH_take (i := 9) (v := .int .i64 ((i : Int) + 1)) rfl (by kernel_rfl) (by kernel_rfl) (by kernel_rfl) (fun _ _ _ h => h) (Or.inl ⟨by rfl, fun w' _ => by go_simp⟩) hS1 ?_
  change wpAnyH _ _ _ _ _ _ _ (Act.put _ (some 53) _) _
  simp only [Act.put, List.setIfInBounds_toArray, List.set_cons_zero, List.set_cons_succ]
  refine wpAnyH_take (i := 10) (v := .slice (tlA P1' q1 (i + 1)) (l.length - (i + 1)) (q1 - (i + 1))) rfl (by kernel_rfl) (by kernel_rfl) (by kernel_rfl) (fun _ _ _ h => h) (Or.inl ⟨by rfl, fun w' _ => by go_simp⟩) hS1 ?_
  change wpAnyH _ _ _ _ _ _ _ (Act.put _ (some 54) _) _
  simp only [Act.put, List.setIfInBounds_toArray, List.set_cons_zero, List.set_cons_succ]
  refine wpAnyH_ready (rs := [0]) (by kernel_rfl) (by simp) (AllReadyH.cons rfl ?_ AllReadyH.nil)
  obtain ⟨v3, hX3⟩ : ∃ X, X = v2.alloc (.cells #[] 97) := ⟨_, rfl⟩
  have hb3' : Below v2.heap.size v2 v3 := by rw [hX3]; exact (Below.refl _ _).alloc (Nat.le_refl _) _
  have tb3 := tb2.trans (hb3'.mono tb2.size)
  have hE : v3.ownsRow v2.heap.size 97 3 (.slice (some ⟨v2.heap.size, 0, none⟩) 0 0) 0 [] := by rw [hX3]; exact World.ownsRow_made v2 #[] 0 (Nat.le_refl _) (by unfold maxLen; omega) (by simp)
  have N3 := N2.keep hb3'
  have oP3 := own_keep oP2 hb3'
  intro K hK
  rw [if_pos (by rfl)]
  go_simp
  rw [← hX3]
  clear hX3
  refine hK.out _ _ (N3.cell (i := 0) rfl) (fun hS3 => ?_)
  clear hK K
  refine wpAnyH_ready (rs := [5]) (by kernel_rfl) (by simp) (AllReadyH.cons rfl ?_ AllReadyH.nil)
  obtain ⟨A4, c4, v4, hr4, own4, gr4⟩ := run_append_wn v3 32 Tryz.underlying32 v2.heap.size i0 hi0 hz0 hz1 hz2 _ 0 [] hE (tlA P1' q1 0) q1 (l.take i) ((WnA.of_own oP3).hd q1 i) (by omega) (by rw [List.length_take]; omega) hb3'.size
  simp only [Nat.zero_add, List.nil_append] at hr4 own4
  have hti : (l.take i).length = i := by rw [List.length_take]; omega
  rw [hti] at hr4 own4
  have hb4' : Below v2.heap.size v2 v4 := hb3'.grown gr4 hb3'.size (fun j hj => (hE.lt j hj).1)
  have N4 := N2.keep hb4'
  have oP4 := own_keep oP2 hb4'
  intro K hK
  rw [if_pos (by rfl)]
  refine Lib.wp_append_run v3 (.tmp 44) (.tmp 48) 32 32 rfl _ _ rfl rfl _ _ (hr4 _) ?_
  clear hr4 gr4
  refine hK.out _ _ (N4.cell (i := 0) rfl) (fun hS4 => ?_)
  clear hK K
  change wpAnyH _ _ _ _ _ _ _ (Act.put _ (some 49) _) _
  simp only [Act.put, List.setIfInBounds_toArray, List.set_cons_zero, List.set_cons_succ]
  refine wpAnyH_ready (rs := [11]) (by kernel_rfl) (by simp) (AllReadyH.cons rfl ?_ AllReadyH.nil)
  obtain ⟨A5, c5, v5, hr5, own5, gr5⟩ := run_append_wn v4 32 Tryz.underlying32 v2.heap.size i0 hi0 hz0 hz1 hz2 _ i _ own4 (tlA P1' q1 (i + 1)) (q1 - (i + 1)) (l.drop (i + 1)) ((WnA.of_own oP4).tl q1 (i + 1) hq1) (by omega) (by rw [List.length_drop]; omega) hb4'.size
  have hdn : (l.drop (i + 1)).length = l.length - (i + 1) := List.length_drop
  rw [hdn] at hr5
  have hb5' : Below v2.heap.size v2 v5 := hb4'.grown gr5 hb4'.size (fun j hj => (own4.lt j hj).1)
  rw [← wnC_append, HDL.out] at own5
  have hdlen : i + (l.drop (i + 1)).length = (delP l a b).length := by rw [← HDL.out, List.length_append, hti]
  rw [hdlen] at own5
  rw [hdn] at hdlen
  rw [hdlen] at hr5
  have N5 := N2.keep hb5'
  intro K hK
  rw [if_pos (by rfl)]
  refine Lib.wp_append_run v4 (.tmp 49) (.tmp 54) 32 32 rfl _ _ rfl rfl _ _ (hr5 _) ?_
  clear hr5 gr5
  refine hK.out _ _ (N5.cell (i := 0) rfl) (fun hS5 => ?_)
  clear hK K
  change wpAnyH _ _ _ _ _ _ _ (Act.put _ (some 55) _) _
  simp only [Act.put, List.setIfInBounds_toArray, List.set_cons_zero, List.set_cons_succ]
  refine wpAnyH_take (i := 12) (v := .slice A5 (delP l a b).length c5) rfl (by kernel_rfl) (by kernel_rfl) (by kernel_rfl) (fun _ _ _ h => h) (Or.inl ⟨by rfl, fun w' _ => by go_simp⟩) hS5 ?_
  change wpAnyH _ _ _ _ _ _ _ (Act.put _ (some 16) _) _
  simp only [Act.put, List.setIfInBounds_toArray, List.set_cons_zero, List.set_cons_succ]
  refine wpAnyH_done (by kernel_rfl) ?_ _
  have tb5 : Below Y.heap.size Y v5 := tb2.trans (hb5'.mono tb2.size)
  have b5v := step_below tb5 bY
  have U1 := SY1.keep tb5
  have U3 := SY3.keep tb5
  have NN := NY.keep tb5
  have oC5 := own_keep oC tb5
  have hL5 := hLY.below tb5
  have hc5 : (delP l a b).length ≤ c5 := by
    rcases own5.2 with ⟨h', h0⟩ | ⟨g', cap, cur, h', hgb, _, hcap, _⟩
    · omega
    · simp at h'
      omega
  have KPt := l06Put_any A5 c5 (delP l a b) c2 d2 (wnP l i) v5 (WnA.of_own own5) (by omega) hc5 hwfd
  obtain ⟨pb, po, hPe, hpb, x1, x2, x3⟩ := hL5 i hil
  subst hPe
  have u0 := U1.cell (i := 0) rfl
  have hvs := tb5.size
  clear hS1 hS3 hS4 hS5 N2 N3 N4 N5 oP2 oP3 oP4 own4 hE hb3' hb4' tb3 tl' hd2 hti hdn hdlen x1 x2
  go_wp2_with fail
  refine KPt.mono ?_
  rintro e w6 ⟨P6, q6, rfl, ownP6, hb6⟩
  have b6 := step_below hb6 b5v
  have N6 := NN.keep hb6
  have S6 := U3.keep hb6
  have oC6 := own_keep oC5 hb6
  have c0 := N6.cell (i := 0) rfl
  have f0 := N6.frozen 0
  have hneC : (Value.slice P2' z.length q2).ownBlock ≠ some G := own_neW oC6 N6 (by decide)
  obtain ⟨rT, hrT⟩ : ∃ rT, rT = insP (delP l a b) (c2, d2, wnP l i) := ⟨_, rfl⟩
  rw [← hrT] at ownP6 HT ⊢
  have hneP : (Value.slice P6 rT.length q6).ownBlock ≠ some G := own_neW ownP6 N6 (by decide)
  clear KPt u0 hrT
  obtain ⟨V, hV⟩ : ∃ V, V = w6.setCell ⟨G, 0, none⟩ (.slice P6 rT.length q6) := ⟨_, rfl⟩
  have NV : Bk V G 34 #[.slice P6 rT.length q6, .slice P2' z.length q2] := by rw [hV]; exact heap_setCell_same w6 G 0 _ _ _ N6
  have SV : Bk V (w.heap.size + 1 + 1) 34 #[.slice none 0 0, .slice none 0 0] := by rw [hV]; exact S6.other (k := 0) (by omega) _
  have oCV := own_setW (o := 0) oC6 hneC (.slice P6 rT.length q6)
  have oPV := own_setW (o := 0) ownP6 hneP (.slice P6 rT.length q6)
  have bV : Below w.heap.size w V := by rw [hV]; exact b6.setCell (p := ⟨G, 0, none⟩) (by dsimp only; omega) _
  rw [← hV] at oCV oPV
  go_upto_region 11 with fail
  rw [← hV]
  clear hV c0 f0
  have m0 := NV.cell (i := 0) rfl
  have m1 := NV.cell (i := 1) rfl
  have HZ := hide (show V.heap[w.heap.size + 1 + 1]? = some (.cells #[.slice none 0 0, .slice none 0 0] 34 (0, 0)) from SV)
  have owP := own_base (own_keepW oPV (show w.heap.size + 1 + 1 < v5.heap.size by omega) #[.slice P6 rT.length q6, .slice P2' z.length q2]) (show w.heap.size ≤ v5.heap.size by omega)
  have owC := own_base (own_keepW oCV (show w.heap.size + 1 + 1 < w4.heap.size by omega) #[.slice P6 rT.length q6, .slice P2' z.length q2]) (show w.heap.size ≤ w4.heap.size by omega)
  go_wp2_with (with_reducible refine wpList_store_row rfl 34 (.tmp 12) (.tmp 70) rfl (w.heap.size + 1 + 1) #[.slice P6 rT.length q6, .slice P2' z.length q2] rfl rfl 34 _ HZ.out (infoWear _ _) (szWear _ _ _ _) (oneWear _ _ _ _ _ _) ?_)
  exact bodyPost_ret (v := .tuple #[.agg #[.slice P6 rT.length q6, .slice P2' z.length q2], .int .i64 0]) (results_we Tryz.results23 _ _ (w.heap.size + 1 + 1) 34 #[.slice P6 rT.length q6, .slice P2' z.length q2] _ rfl (by simp [Act.put]) (by simp [Act.put]) (setRow_heap _ _ _ _ _ _ HZ.out)) rfl ⟨P6, q6, P2', q2, by rw [HX.out, HT.out, HZZ.out], by rw [HT.out]; exact owP, by rw [HZZ.out]; exact owC, below_setRow bV (by omega)⟩
end Go.Proofs.YtcocfnjbgceidaaGreat
namespace Go.Proofs.YtcocfnjbgceidaaGreat
open Go.RowKit Go.Maps
theorem nhT_len (s : Int) (h : List (Int × Int)) (l : List Wp) (z : List Int) (x : Int) (hl : l.length ≤ 1048576) : (nhT s h l z x).length ≤ 1048576 := by
  unfold nhT
  split
  · exact hl
  · simp
theorem nhZ_len (s : Int) (h : List (Int × Int)) (l : List Wp) (z : List Int) (x : Int) (hz : z.length ≤ 1048576) : (nhZ s h l z x).length ≤ 1048576 := by
  unfold nhZ
  split
  · simpa using hz
  · simp
theorem insP_len (x : Wp) : ∀ l : List Wp, (insP l x).length = l.length + 1
  | [] => rfl
  | y :: l => by
    unfold insP
    split <;> simp [insP_len x l]
theorem waZ_len (s : Int) (h : List (Int × Int)) (l : List Wp) (z : List Int) (c : Int) (hz : z.length ≤ 1048576) : (waZ s h l z c z).length ≤ 1048576 := by
  unfold waZ
  split
  · exact hz
  · simp
theorem wa_valid {s : Int} {h : List (Int × Int)} {l : List Wp} {z : List Int} {c : Int} (hc : waC s h l z c = 0) : weB s h l z = true := by
  unfold waC at hc
  split at hc
  · assumption
  · omega
theorem wa_small {s : Int} {h : List (Int × Int)} {l : List Wp} {z : List Int} {c : Int} (hc : waC s h l z c = 0) : l.length ≤ 2304 := by
  have hw := wa_valid hc
  exact (weB_VT hw).1.length (weB_fr hw).1 (weB_fr hw).2
theorem npT_len (s : Int) (h : List (Int × Int)) (l : List Wp) (z : List Int) (a b : Int) (hl : l.length ≤ 1048576) : (waT s h l z (plC s h.length a b) (plT l a b)).length ≤ 1048576 := by
  unfold waT
  split
  · rename_i hc
    have := wa_small hc
    unfold plT
    split
    · simpa [setP] using hl
    · rw [insP_len]; omega
  · simp
theorem mvT_len (s : Int) (h : List (Int × Int)) (l : List Wp) (z : List Int) (a b c d : Int) (hl : l.length ≤ 1048576) : (waT s h l z (mvC s h.length l a b c d) (mvT l a b c d)).length ≤ 1048576 := by
  unfold waT
  split
  · rename_i hc
    have := wa_small hc
    unfold mvT
    rw [insP_len]
    have h2 : (delP l a b).length ≤ l.length := List.length_filter_le _ _
    omega
  · simp
end Go.Proofs.YtcocfnjbgceidaaGreat
