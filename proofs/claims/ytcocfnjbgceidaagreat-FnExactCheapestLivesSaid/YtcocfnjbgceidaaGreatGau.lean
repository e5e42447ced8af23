import Derived.Test.YtcocfnjbgceidaaGreatGat
import Derived.Test.YtcocfnjbgceidaaGreatGaa
import Derived.Maps.RangeWalk
import Derived.Maps.OwnSet
import Derived.WideKeyEntry
namespace Go.Proofs.YtcocfnjbgceidaaGreat
open Go.RowKit Go.Maps
/-- a worn pin -/
abbrev Wp := Int × Int × Int
def atP (a b : Int) (x : Wp) : Bool := decide (x.1 = a ∧ x.2.1 = b)
def befP (x y : Wp) : Bool := befW x.1 x.2.1 y.1 y.2.1
theorem atP_iff {a b : Int} {x : Wp} : atP a b x = true ↔ x.1 = a ∧ x.2.1 = b := by simp [atP]
theorem befP_iff {x y : Wp} : befP x y = true ↔ (x.1 < y.1 ∨ x.1 = y.1 ∧ x.2.1 < y.2.1) := by simp [befP, befW]
theorem befP_trans {x y z : Wp} (h1 : befP x y = true) (h2 : befP y z = true) : befP x z = true := befW_trans h1 h2
theorem ascL_iff {T : List Wp} : AscL T ↔ T.Pairwise (fun x y => befP x y = true) := Iff.rfl
/-- a pin in the list set anew -/
def setP (T : List Wp) (a b c : Int) : List Wp := T.map fun x => if atP a b x then (a, b, c) else x
/-- a pin put into the list -/
def insP : List Wp → Wp → List Wp
  | [], x => [x]
  | y :: T, x => if befP y x then y :: insP T x else x :: y :: T
/-- a pin taken out of the list -/
def delP (T : List Wp) (a b : Int) : List Wp := T.filter fun x => !atP a b x
def hasP (T : List Wp) (a b : Int) : Bool := T.any (atP a b)
/-- the turns of the pin at a place -/
def turP (T : List Wp) (a b : Int) : Int := ((T.find? (atP a b)).map (·.2.2)).getD 0

theorem mem_insP {x y : Wp} : ∀ {T : List Wp}, y ∈ insP T x ↔ y = x ∨ y ∈ T
  | [] => by simp [insP]
  | z :: T => by
    unfold insP
    split
    · rw [List.mem_cons, mem_insP, List.mem_cons]
      exact ⟨fun h => by rcases h with h | h | h <;> simp [h], fun h => by rcases h with h | h | h <;> simp [h]⟩
    · simp
theorem insP_asc {x : Wp} : ∀ {T : List Wp}, AscL T → (∀ y ∈ T, ¬ (y.1 = x.1 ∧ y.2.1 = x.2.1)) → AscL (insP T x)
  | [], _, _ => by simp [insP, AscL]
  | y :: T, h, hn => by
    rw [ascL_iff, List.pairwise_cons] at h
    obtain ⟨h1, h2⟩ := h
    unfold insP
    split
    · rename_i hb
      rw [ascL_iff, List.pairwise_cons]
      refine ⟨fun z hz => ?_, insP_asc (ascL_iff.2 h2) fun z hz => hn z (by simp [hz])⟩
      rcases mem_insP.1 hz with rfl | hz
      · exact hb
      · exact h1 z hz
    · rename_i hb
      have hxy : befP x y = true := by
        have h0 := hn y (by simp)
        have hb' : ¬ (y.1 < x.1 ∨ y.1 = x.1 ∧ y.2.1 < x.2.1) := fun e => hb (befP_iff.2 e)
        exact befP_iff.2 (by omega)
      rw [ascL_iff, List.pairwise_cons, List.pairwise_cons]
      refine ⟨fun z hz => ?_, h1, h2⟩
      rcases List.mem_cons.1 hz with rfl | hz
      · exact hxy
      · exact befP_trans hxy (h1 z hz)
theorem setP_asc {T : List Wp} (h : AscL T) (a b c : Int) : AscL (setP T a b c) := by
  rw [ascL_iff] at h ⊢
  unfold setP
  rw [List.pairwise_map]
  refine h.imp fun {x y} hxy => ?_
  have e : ∀ z : Wp, (if atP a b z then (a, b, c) else z).1 = z.1 ∧ (if atP a b z then (a, b, c) else z).2.1 = z.2.1 := fun z => by
    split
    · rename_i h
      have := atP_iff.1 h
      exact ⟨this.1.symm, this.2.symm⟩
    · exact ⟨rfl, rfl⟩
  rw [befP_iff] at hxy ⊢
  rw [(e x).1, (e x).2, (e y).1, (e y).2]
  exact hxy
theorem delP_asc {T : List Wp} (h : AscL T) (a b : Int) : AscL (delP T a b) := List.Pairwise.filter _ h
theorem mem_delP {T : List Wp} {a b : Int} {x : Wp} : x ∈ delP T a b ↔ x ∈ T ∧ ¬ (x.1 = a ∧ x.2.1 = b) := by
  unfold delP
  rw [List.mem_filter]
  refine and_congr_right fun _ => ?_
  rw [← atP_iff]
  cases atP a b x <;> simp
theorem mem_setP {T : List Wp} {a b c : Int} {x : Wp} : x ∈ setP T a b c ↔ (x ∈ T ∧ ¬ (x.1 = a ∧ x.2.1 = b)) ∨ (x = (a, b, c) ∧ hasP T a b = true) := by
  unfold setP hasP
  rw [List.mem_map, List.any_eq_true]
  constructor
  · rintro ⟨y, hy, rfl⟩
    split
    · rename_i h
      exact Or.inr ⟨rfl, y, hy, h⟩
    · rename_i h
      exact Or.inl ⟨hy, fun e => h (atP_iff.2 e)⟩
  · rintro (⟨hx, hn⟩ | ⟨rfl, y, hy, h⟩)
    · exact ⟨x, hx, by rw [if_neg (fun e => hn (atP_iff.1 e))]⟩
    · exact ⟨y, hy, by rw [if_pos h]⟩
theorem hasP_iff {T : List Wp} {a b : Int} : hasP T a b = true ↔ ∃ x ∈ T, x.1 = a ∧ x.2.1 = b := by
  simp [hasP, atP]
theorem hasP_not {T : List Wp} {a b : Int} (h : hasP T a b = false) : ∀ x ∈ T, ¬ (x.1 = a ∧ x.2.1 = b) := fun x hx e => by
  have := hasP_iff.2 ⟨x, hx, e⟩
  rw [h] at this
  cases this
theorem turP_mem {T : List Wp} {a b : Int} (h : hasP T a b = true) : (a, b, turP T a b) ∈ T := by
  obtain ⟨x, hx, h1, h2⟩ := hasP_iff.1 h
  unfold turP
  cases hf : T.find? (atP a b) with
  | none => exact absurd (atP_iff.2 ⟨h1, h2⟩) (List.find?_eq_none.1 hf x hx)
  | some y =>
    obtain ⟨e1, e2⟩ := atP_iff.1 (List.find?_some hf)
    have := List.mem_of_find?_eq_some hf
    rw [Option.map_some, Option.getD_some, ← e1, ← e2]
    exact this
theorem turP_eq {T : List Wp} (hT : AscL T) {x : Wp} (hx : x ∈ T) : turP T x.1 x.2.1 = x.2.2 := by
  have h := turP_mem (hasP_iff.2 ⟨x, hx, rfl, rfl⟩)
  rw [ascL_place hT hx h rfl rfl]
/-- valid pins of a frame's wear -/
def VT (s : Int) (n : Nat) (T : List Wp) : Prop := AscL T ∧ ∀ x ∈ T, plW s n x.1 x.2.1 = true ∧ 0 ≤ x.2.2 ∧ x.2.2 ≤ 1000000
def VZ (z : List Int) : Prop := ∀ y ∈ z, 0 ≤ y ∧ y ≤ 1000000
theorem plW_iff {s : Int} {n : Nat} {a b : Int} : plW s n a b = true ↔ (0 ≤ a ∧ a ≤ s - 1) ∧ 0 ≤ b ∧ b ≤ (n : Int) - 1 := by simp [plW, inB]
theorem VT.in8 {s : Int} {n : Nat} {T : List Wp} (h : VT s n T) (hs : s ≤ 96) (hn : n ≤ 24) : In8 T := fun x hx => by
  have := plW_iff.1 (h.2 x hx).1
  omega
theorem asc_count {s : Int} {n : Nat} (hs : s ≤ 96) (hn : n ≤ 24) : ∀ (T : List Wp) (lo : Int), AscL T → (∀ x ∈ T, plW s n x.1 x.2.1 = true ∧ lo ≤ x.1 * 24 + x.2.1) → (T.length : Int) ≤ max 0 (2304 - lo)
  | [], lo, _, _ => by simp; omega
  | x :: T, lo, h, hv => by
    rw [ascL_iff, List.pairwise_cons] at h
    have h0 := hv x (by simp)
    have h1 := plW_iff.1 h0.1
    have h2 := asc_count hs hn T (x.1 * 24 + x.2.1 + 1) h.2 fun y hy => by
      have hy0 := plW_iff.1 (hv y (by simp [hy])).1
      have := befP_iff.1 (h.1 y hy)
      exact ⟨(hv y (by simp [hy])).1, by omega⟩
    rw [List.length_cons]
    omega
theorem VT.length {s : Int} {n : Nat} {T : List Wp} (h : VT s n T) (hs : s ≤ 96) (hn : n ≤ 24) : T.length ≤ 2304 := by
  have := asc_count hs hn T 0 h.1 fun x hx => ⟨(h.2 x hx).1, by have := plW_iff.1 (h.2 x hx).1; omega⟩
  omega
theorem VT.wf {s : Int} {n : Nat} {T : List Wp} (h : VT s n T) (hs : s ≤ 96) (hn : n ≤ 24) : WnWF T := fun k hk => by
  have hx := List.getElem_mem hk
  have h1 := h.2 _ hx
  have h2 := h.in8 hs hn _ hx
  rw [wn_get T k hk] at h1 h2
  exact ⟨h2.1, h2.2, by simp at h1; omega⟩
theorem VT.ins {s : Int} {n : Nat} {T : List Wp} (h : VT s n T) {a b c : Int} (hp : plW s n a b = true) (hc : 0 ≤ c ∧ c ≤ 1000000) (hn : hasP T a b = false) : VT s n (insP T (a, b, c)) :=
  ⟨insP_asc h.1 (hasP_not hn), fun x hx => by
    rcases mem_insP.1 hx with rfl | hx
    · exact ⟨hp, hc⟩
    · exact h.2 x hx⟩
theorem VT.set {s : Int} {n : Nat} {T : List Wp} (h : VT s n T) {a b c : Int} (hp : plW s n a b = true) (hc : 0 ≤ c ∧ c ≤ 1000000) : VT s n (setP T a b c) :=
  ⟨setP_asc h.1 a b c, fun x hx => by
    rcases mem_setP.1 hx with hx | ⟨rfl, _⟩
    · exact h.2 x hx.1
    · exact ⟨hp, hc⟩⟩
theorem VT.del {s : Int} {n : Nat} {T : List Wp} (h : VT s n T) (a b : Int) : VT s n (delP T a b) :=
  ⟨delP_asc h.1 a b, fun x hx => h.2 x (mem_delP.1 hx).1⟩
/-- what a wear's frame bounds -/
theorem frB_bounds {s : Int} {h : List (Int × Int)} (hf : frB s h = true) : s ≤ 96 ∧ h.length ≤ 24 := by
  simp [frB, inB] at hf
  omega
/-- a valid wear's pins -/
theorem weB_VT {s : Int} {h : List (Int × Int)} {l : List Wp} {z : List Int} (hw : weB s h l z = true) : VT s h.length l ∧ VZ z ∧ z.length = h.length := by
  have h0 := hw
  simp only [weB, Bool.and_eq_true, decide_eq_true_eq] at h0
  obtain ⟨⟨⟨hf, hz⟩, hp⟩, hst⟩ := h0
  have hp' := hp
  rw [pinsB_split, Bool.and_eq_true] at hp'
  refine ⟨⟨ascL_of (ascW_of hp'.1), fun x hx => ?_⟩, fun y hy => ?_, hz⟩
  · obtain ⟨k, hk, rfl⟩ := List.mem_iff_getElem.1 hx
    have := List.all_eq_true.1 hp k (List.mem_range.2 hk)
    simp only [wnOk, Bool.and_eq_true] at this
    rw [wn_get l k hk]
    refine ⟨this.1.1, ?_⟩
    have h2 := this.1.2
    simp [inB] at h2
    exact h2
  · obtain ⟨k, hk, rfl⟩ := List.mem_iff_getElem.1 hy
    have := List.all_eq_true.1 hst k (List.mem_range.2 hk)
    simp [inB, zAt, List.getD, hk] at this
    exact this
/-- the worn state of a wearing -/
def WSt (s : Int) (n base : Nat) (C : Option Addr) (q M N : Nat) (T : List Wp) (z : List Int) (w : World) : Prop :=
  ∃ D : DataW Unit, w.ownsMap Tryz.prog 138 (plainElem (H := Unit) Tryz.prog 2) M N D ∧ ReadsW D T ∧ IsMap D ∧ w.ownsRow base 2 1 (.slice C n q) n (icells z) ∧ z.length = n ∧ VT s n T ∧ VZ z ∧ base ≤ M
theorem WSt.keep {s : Int} {n base : Nat} {C : Option Addr} {q M N : Nat} {T : List Wp} {z : List Int} {w w' : World} (h : WSt s n base C q M N T z w) (hb : Below w.heap.size w w') : WSt s n base C q M N T z w' := by
  obtain ⟨D, h1, h2, h3, h4, h5⟩ := h
  exact ⟨D, map_keep h1 hb, h2, h3, own_keep h4 hb, h5⟩
set_option maxRecDepth 20000 in
theorem readsW_del {D : DataW Unit} {T : List Wp} (hD : ReadsW D T) (hM : IsMap D) (h8 : In8 T) {a b : Int} (ha : -9223372036854775808 ≤ a ∧ a ≤ 9223372036854775807) (hb : -9223372036854775808 ≤ b ∧ b ≤ 9223372036854775807) : ReadsW (D.del (kP a b)) (delP T a b) := by
  have hk := lawP.key (key_place a b ha hb)
  have hne : ∀ x ∈ T, ¬ (x.1 = a ∧ x.2.1 = b) → kP x.1 x.2.1 ≠ kP a b := fun x hx hn e => by
    obtain ⟨x1, x2⟩ := h8 x hx
    exact hn (kP_inj (i64_of8 x1) (i64_of8 x2) ha hb e)
  refine ⟨fun x hx => ?_, fun x hx zd => ?_, fun kl hkl => ?_⟩
  · obtain ⟨h1, h2⟩ := mem_delP.1 hx
    rw [has_del_other (hne x h1 h2)]
    exact hD.1 x h1
  · obtain ⟨h1, h2⟩ := mem_delP.1 hx
    rw [atKey_del_other (hne x h1 h2)]
    exact hD.2.1 x h1 zd
  · by_cases e : kl = kP a b
    · subst e
      rw [has_del_same] at hkl
      cases hkl
    · rw [has_del_other e] at hkl
      obtain ⟨x, hx, rfl⟩ := hD.2.2 kl hkl
      exact ⟨x, mem_delP.2 ⟨hx, fun h => e (by rw [h.1, h.2])⟩, rfl⟩
end Go.Proofs.YtcocfnjbgceidaaGreat
namespace Go.Proofs.YtcocfnjbgceidaaGreat
open Go Go.ChangeMaps Go.MapKept Go.WideShapes Go.Maps
open Go.WideElems (Fit rd rg pl rd_key rd_val rg_of other_key findIdx_born findIdx_arr modify_last set_self)
theorem leftOf_len (a : Array MapEntry) (seen : Array Nat) : (leftOf a seen).size = ((a.toList.map (·.born)).filter fun e => !seen.contains e).length := by
  unfold leftOf
  rw [List.filter_map, List.length_map, ← Array.toList_filter, Array.length_toList]
  rfl
theorem set_permW {α : Type} (l : List α) (j : Nat) (h : j < l.length) (a : α) : (l.set j a).Perm (a :: l.eraseIdx j) := by
  rw [List.set_eq_take_append_cons_drop, if_pos h, List.eraseIdx_eq_take_drop_succ]
  exact List.perm_middle
theorem setBlock_self {w : World} {b : Nat} {es : Array MapEntry} {clock : Nat} (hb : w.heap[b]? = some (.map es clock)) : setBlock w b (.map es clock) = w := by
  unfold setBlock
  congr 1
  apply Array.ext_getElem?
  intro i
  rw [Array.getElem?_setIfInBounds]
  split
  · rename_i h
    subst h
    split
    · exact hb.symm
    · rename_i h2
      rw [Array.getElem?_eq_none (by omega)]
  · rfl
/-- 'm[k] op= v' at a key that is there, while the map is ranged over: the entry is found, the map as it is; then the value is stored, and who is left stays -/
theorem ranges_entry {P : Program} {k t e : TypeId} {R : Value → Option (DataW Unit × List MemPlace)} {w : World} {b r n : Nat} {D : DataW Unit} {left : Lit → Bool} {cnt : Nat} (h : w.ranges P k R b r n D left cnt) (K : Keyed P k) (ht : P.underlying t = some (.map k e))
    {key : Value} {kl : Lit} (hkey : keyOf P k key = some kl) (hhas : has D kl = true) :
    ∃ (es : Array MapEntry) (clock : Nat) (v0 : Value) (st : Nat) (y : DataW Unit × List MemPlace), w.heap[b]? = some (.map es clock) ∧ R v0 = some y ∧ (∀ zd, D.atKey kl zd = y.1) ∧
      (∀ w', w'.heap[b]? = some (.map es clock) → (Instr.lookup t (.map (some b)) key false).run P w' = .ok v0 w' ∧ (Instr.mapEntry t (.map (some b)) key).run P w' = .ok (.tuple #[v0, goInt st]) w') ∧
      ∀ (val : Value) (d : DataW Unit) (ps : List MemPlace) (w' : World), R val = some (d, ps) → w'.ranges P k R b r n D left cnt → w'.heap[b]? = some (.map es clock) →
        ∃ w'', (Instr.entryStore t (.map (some b)) (goInt st) val).run P w' = .ok () w'' ∧ w''.ranges P k R b r n (D.put kl d) left cnt ∧ w'.grownBy w'' (some b) ∧ w''.heap.size = w'.heap.size := by
  obtain ⟨es, clock, since, seen, c0, hb, F, hs, hD, hr, hold, hcnt, hl1, hl2, hsc, hsk⟩ := h
  subst hD
  obtain ⟨s1, s2, s3⟩ := F.stamped
  rcases K.find w hkey es.toList F.keys with ⟨h1, h2⟩ | ⟨j, e0, h1, h2, h3⟩
  · exfalso
    obtain ⟨p, hp, hpk⟩ := List.any_eq_true.1 hhas
    obtain ⟨x, hx, rfl⟩ := List.mem_map.1 (mem_sorted.1 hp)
    have hkx := WideAt.sameKey_eq hpk
    obtain ⟨y, hy⟩ := F.reads x hx
    have m1 := rd_key hy
    rw [rg_of hy] at hkx
    rw [hkx] at m1
    exact h2 x hx (K.inj m1 hkey)
  · have hj : es[j]? = some e0 := by simpa using h2
    have hjl : j < es.toList.length := (List.getElem?_eq_some_iff.1 h2).1
    have hm0 : e0 ∈ es.toList := List.mem_of_getElem? h2
    obtain ⟨y0, hy0⟩ := F.reads e0 hm0
    obtain ⟨zv, hzv, hdv⟩ := rd_val hy0
    have hat := atKey_sorted (es.toList.map (rg P k R)) (Maps.fit_rising K F) kl (K.key hkey)
    have hrg0 : (rg P k R e0).1 = kl := by
      have m1 := rd_key hy0
      rw [h3, hkey] at m1
      rw [rg_of hy0]
      exact (Option.some.inj m1).symm
    refine ⟨es, clock, e0.val, e0.born, zv, hb, hzv, fun zd => ?_, fun w' hb' => ?_, fun val d ps w' hv hrg' hb' => ?_⟩
    · rw [hat.2 (rg P k R e0) (List.mem_map.2 ⟨e0, hm0, rfl⟩) hrg0, rg_of hy0, hdv]
    · rcases K.find w' hkey es.toList F.keys with ⟨q1, q2⟩ | ⟨j', e0', q1, q2, q3⟩
      · exact absurd h3 (q2 e0 hm0)
      · have hm0' := List.mem_of_getElem? q2
        obtain rfl : e0' = e0 := entry_eq_of_key ((stamped_iff es clock).1 F.stamped).2.2 hm0' hm0 (q3.trans h3.symm)
        have hj' : es[j']? = some e0' := by simpa using q2
        have hsame : es.modify j' (fun e => { e with key := key }) = es := by
          apply Array.ext'
          rw [Array.toList_modify, modify_eq_set _ _ _ _ q2]
          have : ({ e0' with key := key } : MapEntry) = e0' := by rw [← h3]
          rw [this]
          exact set_self _ _ _ q2
        refine ⟨?_, ?_⟩
        · simp [Instr.lookup, run_underlying ht, MapKept.run_getObj_map hb', K.check w' _ hkey, q1, Result.andThen]
        · have := setBlock_self hb'
          simp [Instr.mapEntry, run_underlying ht, MapKept.run_getObj_map hb', K.check w' false hkey, q1, hj', h3, K.stays w' hkey, hsame, MapKept.run_setObj_map _ hb', Result.andThen]
          simpa [setBlock] using this
    · obtain ⟨es1, clock1, since', seen', c0', hb1, F1, hs1, hD1, hr', hold', hcnt', hl1', hl2', hsc', hsk'⟩ := hrg'
      rw [hb'] at hb1
      obtain ⟨rfl, rfl⟩ : es = es1 ∧ clock = clock1 := by simpa using hb1
      have hidx : es.findIdx? (fun e => ((e.born : Nat) : Int) == ((e0.born : Nat) : Int)) = some j := by
        rw [findIdx_arr]
        exact findIdx_born s2 h2
      have hmod : es.modify j (fun e => { e with val := val }) = es.modify j (fun e' => { e' with key := key, val := val }) := by
        apply Array.ext'
        rw [Array.toList_modify, Array.toList_modify, modify_eq_set _ _ _ _ h2, modify_eq_set _ _ _ _ h2, ← h3]
      have hkeyf : ∀ e', es[j]? = some e' → ({ e' with key := key, val := val } : MapEntry).key = e'.key := fun e' he' => by rw [hj] at he'; cases he'; exact h3.symm
      have hlist : (es.modify j (fun e' => { e' with key := key, val := val })).toList = es.toList.set j { e0 with key := key, val := val } := by rw [Array.toList_modify, modify_eq_set _ _ _ _ h2]
      have who : ∀ x ∈ es.toList.set j { e0 with key := key, val := val }, x = { e0 with key := key, val := val } ∨ (x ∈ es.toList ∧ x.key ≠ key) := by
        intro x hx
        obtain ⟨i, hi, ex⟩ := List.getElem_of_mem hx
        rw [List.getElem_set] at ex
        split at ex
        · exact Or.inl ex.symm
        · rename_i hne
          have hi' : i < es.toList.length := by simpa using hi
          refine Or.inr ⟨ex ▸ List.getElem_mem hi', ?_⟩
          rw [← h3]
          exact other_key F h2 (by rw [List.getElem?_eq_getElem hi', ex]) (fun e1 => hne e1.symm)
      have hnewrd := Go.WideElems.rd_mk (P := P) (k := k) (R := R) (born := e0.born) hkey hv
      have F' : Fit P k R (es.modify j (fun e' => { e' with key := key, val := val })) clock := by
        refine ⟨by simpa using F.size, stamped_modify F.stamped _ _ (fun _ _ => rfl) (fun e' _ he' => hkeyf e' he'), ?_⟩
        intro x hx
        rw [hlist] at hx
        rcases who x hx with rfl | ⟨hx', hne⟩
        · exact ⟨_, hnewrd⟩
        · exact F.reads x hx'
      have hput : ((es.modify j (fun e' => { e' with key := key, val := val })).toList.map (rg P k R)).foldr DataW.insert [] = putKey kl d ((es.toList.map (rg P k R)).foldr DataW.insert []) := by
        refine Maps.sorted_put K.one ⟨key, hkey⟩ (Maps.fit_keys F) (Maps.fit_apart K F) ?_
        rw [Maps.filter_one K F hkey h2 h3, hlist, List.map_set, rg_of hnewrd]
        exact set_permW _ _ (by simpa using hjl) _
      have hborn : (es.modify j (fun e' => { e' with key := key, val := val })).toList.map (·.born) = es.toList.map (·.born) := by
        rw [hlist, List.map_set]
        exact set_self _ _ _ (by simp [h2])
      have hkeys : ∀ x ∈ (es.modify j (fun e' => { e' with key := key, val := val })).toList, ∃ x0 ∈ es.toList, x0.born = x.born ∧ (rg P k R x0).1 = (rg P k R x).1 := fun x hx => by
        rw [hlist] at hx
        rcases who x hx with rfl | ⟨hx', _⟩
        · refine ⟨e0, hm0, rfl, ?_⟩
          rw [hrg0, rg_of hnewrd]
        · exact ⟨x, hx', rfl, rfl⟩
      refine ⟨setBlock w' b (.map (es.modify j (fun e' => { e' with key := key, val := val })) clock), ?_, ⟨_, clock, since', seen', c0', heap_setBlock_same hb' _, F', by simpa using hs1, by rw [hD1, DataW.put_eq, hput], (heap_setBlock_other hb' _ (fun e1 => ?_)).trans hr', fun x hx => ?_, ?_, fun x hx => ?_, fun q hq => ?_, hsc', hsk'⟩, ⟨rfl, rfl, rfl, by simp [setBlock], fun i _ hi => heap_setBlock_other hb' _ (fun e => hi (by rw [e]))⟩, by simp [setBlock]⟩
      · simp [Instr.entryStore, MapKept.run_getObj_map hb', asInt, asIntOf, goInt, hidx, hmod, MapKept.run_setObj_map _ hb', Result.andThen, setBlock]
      · rw [← e1, hr'] at hb'
        cases hb'
      · obtain ⟨x0, hx0, e1, _⟩ := hkeys x hx
        rw [← e1]
        exact hold' x0 hx0
      · rw [leftOf_len, hborn, ← leftOf_len, hcnt']
      · obtain ⟨x0, hx0, e1, e2⟩ := hkeys x hx
        rw [← e2, ← e1]
        exact hl1' x0 hx0
      · obtain ⟨x0, hx0, rfl⟩ := hl2' q hq
        by_cases hh : x0.key = key
        · refine ⟨{ e0 with key := key, val := val }, ?_, ?_⟩
          · rw [hlist]
            exact List.mem_iff_getElem.2 ⟨j, by simpa using hjl, by simp⟩
          · obtain rfl : x0 = e0 := entry_eq_of_key ((stamped_iff es clock).1 F.stamped).2.2 hx0 hm0 (hh.trans h3.symm)
            rw [hrg0, rg_of hnewrd]
        · refine ⟨x0, ?_, rfl⟩
          rw [hlist]
          obtain ⟨i, hi, hie⟩ := List.getElem_of_mem hx0
          refine List.mem_iff_getElem.2 ⟨i, by simpa using hi, ?_⟩
          rw [List.getElem_set_ne (fun e1 => hh (by subst e1; rw [← hie]; have := List.getElem?_eq_some_iff.1 h2; rw [this.2]; exact h3))]
          exact hie
end Go.Proofs.YtcocfnjbgceidaaGreat
