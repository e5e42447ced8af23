import Derived.Test.YtcocfnjbgceidaaGau
import Derived.Test.YtcocfnjbgceidaaWfr
import Derived.Test.YtcocfnjbgceidaaGaq
namespace Go.Proofs.Ytcocfnjbgceidaa
open Go.RowKit Go.Maps
theorem infoWe2 : (Try.prog.info? 64).map (·.size) = some 2 := by kernel_rfl
theorem infoWear (a b : Value) : (Try.prog.info? 64).map (·.size) = some (#[a, b] : Array Value).size := by kernel_rfl
theorem szWear (a b c d : Value) : (#[a, b] : Array Value).size = (#[c, d] : Array Value).size := rfl
theorem oneWear (A : Option Addr) (n c : Nat) (B : Option Addr) (m d : Nat) : (#[.slice A n c, .slice B m d] : Array Value).all (·.oneCell') = true := by simp [Value.oneCell']
theorem own_keepW {w : World} {base g n : Nat} {e : TypeId} {size : Nat} {v : Value} {xs : List Value} (h : w.ownsRow base e size v n xs) (hg : g < base) (cs : Array Value) : (w.setRow g cs).ownsRow base e size v n xs :=
  h.kept (row := some g) ⟨rfl, rfl, rfl, by simp, fun k _ hk => setRow_other _ _ _ _ (fun e => hk (by rw [e]))⟩ (by
    cases hv : v.ownBlock with
    | none => exact Or.inl rfl
    | some k => exact Or.inr (fun e => by have h1 := h.lt k hv; cases e; omega))
/-- a wear of the call's own -/
def OwnWear (w : World) (T : List (Int × Int × Int)) (zs : List Int) (e : Ending) (w' : World) : Prop := ∃ (P1 : Option Addr) (q1 : Nat) (P2 : Option Addr) (q2 : Nat), e = .returned (.agg #[.slice P1 T.length q1, .slice P2 zs.length q2]) ∧ w'.ownsRow w.heap.size 136 3 (.slice P1 T.length q1) T.length (wnC T) ∧ w'.ownsRow w.heap.size 2 1 (.slice P2 zs.length q2) zs.length (icells zs) ∧ Below w.heap.size w w'
end Go.Proofs.Ytcocfnjbgceidaa
namespace Go.Proofs.Ytcocfnjbgceidaa
open Go.RowKit Go.Maps
theorem befW_trans {a p b q c r : Int} (h1 : befW a p b q = true) (h2 : befW b q c r = true) : befW a p c r = true := by
  simp only [befW, decide_eq_true_eq] at *
  omega
theorem ascW_lt {l : List (Int × Int × Int)} (h : AscW l l.length) (i : Nat) : ∀ m, i + 1 + m < l.length → befW (wnS l i) (wnT l i) (wnS l (i + 1 + m)) (wnT l (i + 1 + m)) = true
  | 0, hm => by have := h (i + 1) hm (by omega); simpa using this
  | m + 1, hm => by
    have h1 := ascW_lt h i m (by omega)
    have h2 := h (i + 1 + (m + 1)) hm (by omega)
    rw [show i + 1 + (m + 1) - 1 = i + 1 + m by omega] at h2
    exact befW_trans h1 h2
theorem wn_get (l : List (Int × Int × Int)) (i : Nat) (h : i < l.length) : l[i] = (wnS l i, wnT l i, wnP l i) := by
  simp [wnS, wnT, wnP, List.getD, h]
theorem ascL_of {l : List (Int × Int × Int)} (h : AscW l l.length) : AscL l := by
  refine List.pairwise_iff_getElem.2 fun i j hi hj hij => ?_
  rw [wn_get l i hi, wn_get l j hj]
  have := ascW_lt h i (j - (i + 1)) (by omega)
  rwa [show i + 1 + (j - (i + 1)) = j by omega] at this
theorem in8_of {l : List (Int × Int × Int)} (hw : WnWF l) : In8 l := fun x hx => by
  obtain ⟨i, hi, rfl⟩ := List.mem_iff_getElem.1 hx
  obtain ⟨h1, h2, _⟩ := hw i hi
  rw [wn_get l i hi]
  exact ⟨h1, h2⟩
set_option maxRecDepth 20000 in
theorem mapW_at {l : List (Int × Int × Int)} (hw : WnWF l) (h : AscW l l.length) : ∀ k, k ≤ l.length → ∀ j, j < k → ∀ zd, (mapW l k).atKey (kP (wnS l j) (wnT l j)) zd = .lit (.int .i64 (wnP l j))
  | 0, _, j, hj, _ => absurd hj (Nat.not_lt_zero j)
  | k + 1, hk, j, hj, zd => by
    obtain ⟨m1, m2, _⟩ := hw k (by omega)
    obtain ⟨n1, n2, _⟩ := hw j (by omega)
    rcases Nat.lt_or_ge j k with h1 | h1
    · have hne : kP (wnS l j) (wnT l j) ≠ kP (wnS l k) (wnT l k) := fun e => by
        obtain ⟨e1, e2⟩ := kP_inj (i64_of8 n1) (i64_of8 n2) (i64_of8 m1) (i64_of8 m2) e
        have hb := ascW_lt h j (k - (j + 1)) (by omega)
        rw [show j + 1 + (k - (j + 1)) = k by omega, e1, e2] at hb
        simp [befW] at hb
      rw [mapW, atKey_put_other hne]
      exact mapW_at hw h k (by omega) j h1 zd
    · obtain rfl : j = k := by omega
      rw [mapW]
      exact atKey_put_same (mapW_isMap l j) (lawP.key (key_place _ _ (i64_of8 m1) (i64_of8 m2))) _ _
theorem readsW_map {l : List (Int × Int × Int)} (hw : WnWF l) (h : AscW l l.length) : ReadsW (mapW l l.length) l := by
  refine ⟨fun x hx => ?_, fun x hx zd => ?_, fun kl hk => ?_⟩
  · obtain ⟨i, hi, rfl⟩ := List.mem_iff_getElem.1 hx
    rw [wn_get l i hi]
    exact mapW_has' hw _ (Nat.le_refl _) i hi
  · obtain ⟨i, hi, rfl⟩ := List.mem_iff_getElem.1 hx
    rw [wn_get l i hi]
    exact mapW_at hw h _ (Nat.le_refl _) i hi zd
  · obtain ⟨j, hj, e⟩ := mapW_has hw _ (Nat.le_refl _) kl hk
    exact ⟨l[j], List.getElem_mem hj, by rw [wn_get l j hj]; exact e⟩
set_option maxRecDepth 20000 in
/-- a map with one key's value set reads as the list with that pin set or put in -/
theorem readsW_put {D : DataW Unit} {T T' : List (Int × Int × Int)} (hD : ReadsW D T) (hM : IsMap D) (h8 : In8 T') {a b c : Int} (hin : (a, b, c) ∈ T')
    (hT : ∀ x ∈ T', x.1 = a ∧ x.2.1 = b → x.2.2 = c) (h1 : ∀ x ∈ T', ¬ (x.1 = a ∧ x.2.1 = b) → x ∈ T) (h2 : ∀ x ∈ T, ¬ (x.1 = a ∧ x.2.1 = b) → x ∈ T') : ReadsW (D.put (kP a b) (.lit (.int .i64 c))) T' := by
  obtain ⟨ha, hb⟩ := h8 _ hin
  have hk := lawP.key (key_place a b (i64_of8 ha) (i64_of8 hb))
  have hne : ∀ x ∈ T', ¬ (x.1 = a ∧ x.2.1 = b) → kP x.1 x.2.1 ≠ kP a b := fun x hx hn e => by
    obtain ⟨x1, x2⟩ := h8 x hx
    exact hn (kP_inj (i64_of8 x1) (i64_of8 x2) (i64_of8 ha) (i64_of8 hb) e)
  refine ⟨fun x hx => ?_, fun x hx zd => ?_, fun kl hkl => ?_⟩
  · by_cases e : x.1 = a ∧ x.2.1 = b
    · rw [e.1, e.2]
      exact has_put_same hM hk _
    · rw [has_put_other (hne x hx e)]
      exact hD.1 x (h1 x hx e)
  · by_cases e : x.1 = a ∧ x.2.1 = b
    · rw [e.1, e.2, hT x hx e]
      exact atKey_put_same hM hk _ _
    · rw [atKey_put_other (hne x hx e)]
      exact hD.2.1 x (h1 x hx e) zd
  · by_cases e : kl = kP a b
    · exact ⟨_, hin, e⟩
    · rw [has_put_other e] at hkl
      obtain ⟨x, hx, ex⟩ := hD.2.2 kl hkl
      exact ⟨x, h2 x hx (fun h => e (by rw [ex, h.1, h.2])), ex⟩
end Go.Proofs.Ytcocfnjbgceidaa
namespace Go.Proofs.Ytcocfnjbgceidaa
open Go.RowKit Go.Maps
theorem sz_own {w : World} {base q : Nat} {C : Option Addr} {z : List Int} (h : w.ownsRow base 2 1 (.slice C z.length q) z.length (icells z)) : SZ w C z := by
  intro k hk
  rcases h.2 with ⟨h', h0⟩ | ⟨g, cap, cur, h', hgb, hg, _⟩
  · omega
  · simp only [Value.slice.injEq, true_and] at h'
    obtain ⟨rfl, rfl⟩ := h'
    refine ⟨g, 0, rfl, (Array.getElem?_eq_some_iff.1 hg).1, ?_⟩
    rw [Nat.zero_add]
    exact (h.cellAt k (by omega)).trans (icells_get z k hk)
theorem ascW_of {l : List (Int × Int × Int)} (h : ascW l = true) : AscW l l.length := by
  simp only [ascW, wnAsc, List.all_eq_true, List.mem_range] at h
  intro j hj hj0
  have := h j hj
  simpa [Nat.pos_iff_ne_zero.1 hj0, Nat.ne_of_gt hj0] using this
theorem map_ne_own {w : World} {M n m base size : Nat} {D : DataW Unit} {k : TypeId} {R : Value → Option (DataW Unit × List MemPlace)} (h : w.ownsMap Try.prog k R M m D) {e : TypeId} {v : Value} {xs : List Value} (ho : w.ownsRow base e size v n xs) : ∀ g, v.ownBlock = some g → g ≠ M := by
  intro g hv e1
  subst e1
  obtain ⟨es, clock, h1, _⟩ := h
  rcases ho.2 with ⟨rfl, _⟩ | ⟨g', cap, cur, rfl, _, hg, _⟩
  · cases hv
  · have e2 : g' = g := by simpa [Value.ownBlock] using hv
    subst e2
    rw [hg] at h1
    cases h1
theorem results_we {fn : Func} {p r : Tmp} (h : fn.results = #[.cell p 64, .tmp r]) (tmps : Array Value) (w : World) (g : Nat) (t : TypeId) (cs : Array Value) (c : Value) (hi : cs.size = 2)
    (hp : tmps.getD p undef = .pointer (some ⟨g, 0, none⟩)) (hr : tmps.getD r undef = c) (hg : w.heap[g]? = some (.cells cs t (0, 0))) :
    (results fn tmps).run Try.prog w = .ok (.tuple #[.agg cs, c]) w := by
  have hp' : tmps[p]?.getD undef = .pointer (some ⟨g, 0, none⟩) := by simpa using hp
  have hr' : tmps[r]?.getD undef = c := by simpa using hr
  simp [results, h, hp', hr', asAddr, run_loadVar_row w g t 64 cs (0, 0) _ hg Try.underlying64 rfl (by rw [hi]; exact infoWe2)]
/-- a wear of the call's own and a code -/
def WeC (T : List (Int × Int × Int)) (zs : List Int) (k : Int) (w : World) (e : Ending) (w' : World) : Prop := ∃ (P1 : Option Addr) (q1 : Nat) (P2 : Option Addr) (q2 : Nat), e = .returned (.tuple #[.agg #[.slice P1 T.length q1, .slice P2 zs.length q2], .int .i64 k]) ∧ w'.ownsRow w.heap.size 136 3 (.slice P1 T.length q1) T.length (wnC T) ∧ w'.ownsRow w.heap.size 2 1 (.slice P2 zs.length q2) zs.length (icells zs) ∧ Below w.heap.size w w'
end Go.Proofs.Ytcocfnjbgceidaa
namespace Go.Proofs.Ytcocfnjbgceidaa
open Go.RowKit Go.Maps
/-- a worn pin -/
abbrev Wp := Int × Int × Int
def atP (a b : Int) (x : Wp) : Bool := decide (x.1 = a ∧ x.2.1 = b)
def befP (x y : Wp) : Bool := befW x.1 x.2.1 y.1 y.2.1
theorem atP_iff {a b : Int} {x : Wp} : atP a b x = true ↔ x.1 = a ∧ x.2.1 = b := by simp [atP]
theorem befP_iff {x y : Wp} : befP x y = true ↔ (x.1 < y.1 ∨ x.1 = y.1 ∧ x.2.1 < y.2.1) := by simp [befP, befW]
theorem befP_trans {x y z : Wp} (h1 : befP x y = true) (h2 : befP y z = true) : befP x z = true := befW_trans h1 h2
theorem ascL_iff {T : List Wp} : AscL T ↔ T.Pairwise (fun x y => befP x y = true) := Iff.rfl
/-- a pin in the list set anew -/
def setP (T : List Wp) (a b c : Int) : List Wp := T.map fun x => if atP a b x then (a, b, c) else x
/-- a pin put into the list -/
def insP : List Wp → Wp → List Wp
  | [], x => [x]
  | y :: T, x => if befP y x then y :: insP T x else x :: y :: T
/-- a pin taken out of the list -/
def delP (T : List Wp) (a b : Int) : List Wp := T.filter fun x => !atP a b x
def hasP (T : List Wp) (a b : Int) : Bool := T.any (atP a b)
/-- the turns of the pin at a place -/
def turP (T : List Wp) (a b : Int) : Int := ((T.find? (atP a b)).map (·.2.2)).getD 0

theorem mem_insP {x y : Wp} : ∀ {T : List Wp}, y ∈ insP T x ↔ y = x ∨ y ∈ T
  | [] => by simp [insP]
  | z :: T => by
    unfold insP
    split
    · rw [List.mem_cons, mem_insP, List.mem_cons]
      exact ⟨fun h => by rcases h with h | h | h <;> simp [h], fun h => by rcases h with h | h | h <;> simp [h]⟩
    · simp
theorem insP_asc {x : Wp} : ∀ {T : List Wp}, AscL T → (∀ y ∈ T, ¬ (y.1 = x.1 ∧ y.2.1 = x.2.1)) → AscL (insP T x)
  | [], _, _ => by simp [insP, AscL]
  | y :: T, h, hn => by
    rw [ascL_iff, List.pairwise_cons] at h
    obtain ⟨h1, h2⟩ := h
    unfold insP
    split
    · rename_i hb
      rw [ascL_iff, List.pairwise_cons]
      refine ⟨fun z hz => ?_, insP_asc (ascL_iff.2 h2) fun z hz => hn z (by simp [hz])⟩
      rcases mem_insP.1 hz with rfl | hz
      · exact hb
      · exact h1 z hz
    · rename_i hb
      have hxy : befP x y = true := by
        have h0 := hn y (by simp)
        have hb' : ¬ (y.1 < x.1 ∨ y.1 = x.1 ∧ y.2.1 < x.2.1) := fun e => hb (befP_iff.2 e)
        exact befP_iff.2 (by omega)
      rw [ascL_iff, List.pairwise_cons, List.pairwise_cons]
      refine ⟨fun z hz => ?_, h1, h2⟩
      rcases List.mem_cons.1 hz with rfl | hz
      · exact hxy
      · exact befP_trans hxy (h1 z hz)
theorem setP_asc {T : List Wp} (h : AscL T) (a b c : Int) : AscL (setP T a b c) := by
  rw [ascL_iff] at h ⊢
  unfold setP
  rw [List.pairwise_map]
  refine h.imp fun {x y} hxy => ?_
  have e : ∀ z : Wp, (if atP a b z then (a, b, c) else z).1 = z.1 ∧ (if atP a b z then (a, b, c) else z).2.1 = z.2.1 := fun z => by
    split
    · rename_i h
      have := atP_iff.1 h
      exact ⟨this.1.symm, this.2.symm⟩
    · exact ⟨rfl, rfl⟩
  rw [befP_iff] at hxy ⊢
  rw [(e x).1, (e x).2, (e y).1, (e y).2]
  exact hxy
theorem delP_asc {T : List Wp} (h : AscL T) (a b : Int) : AscL (delP T a b) := List.Pairwise.filter _ h
theorem mem_delP {T : List Wp} {a b : Int} {x : Wp} : x ∈ delP T a b ↔ x ∈ T ∧ ¬ (x.1 = a ∧ x.2.1 = b) := by
  unfold delP
  rw [List.mem_filter]
  refine and_congr_right fun _ => ?_
  rw [← atP_iff]
  cases atP a b x <;> simp
theorem mem_setP {T : List Wp} {a b c : Int} {x : Wp} : x ∈ setP T a b c ↔ (x ∈ T ∧ ¬ (x.1 = a ∧ x.2.1 = b)) ∨ (x = (a, b, c) ∧ hasP T a b = true) := by
  unfold setP hasP
  rw [List.mem_map, List.any_eq_true]
  constructor
  · rintro ⟨y, hy, rfl⟩
    split
    · rename_i h
      exact Or.inr ⟨rfl, y, hy, h⟩
    · rename_i h
      exact Or.inl ⟨hy, fun e => h (atP_iff.2 e)⟩
  · rintro (⟨hx, hn⟩ | ⟨rfl, y, hy, h⟩)
    · exact ⟨x, hx, by rw [if_neg (fun e => hn (atP_iff.1 e))]⟩
    · exact ⟨y, hy, by rw [if_pos h]⟩
theorem hasP_iff {T : List Wp} {a b : Int} : hasP T a b = true ↔ ∃ x ∈ T, x.1 = a ∧ x.2.1 = b := by
  simp [hasP, atP]
theorem hasP_not {T : List Wp} {a b : Int} (h : hasP T a b = false) : ∀ x ∈ T, ¬ (x.1 = a ∧ x.2.1 = b) := fun x hx e => by
  have := hasP_iff.2 ⟨x, hx, e⟩
  rw [h] at this
  cases this
theorem turP_mem {T : List Wp} {a b : Int} (h : hasP T a b = true) : (a, b, turP T a b) ∈ T := by
  obtain ⟨x, hx, h1, h2⟩ := hasP_iff.1 h
  unfold turP
  cases hf : T.find? (atP a b) with
  | none => exact absurd (atP_iff.2 ⟨h1, h2⟩) (List.find?_eq_none.1 hf x hx)
  | some y =>
    obtain ⟨e1, e2⟩ := atP_iff.1 (List.find?_some hf)
    have := List.mem_of_find?_eq_some hf
    rw [Option.map_some, Option.getD_some, ← e1, ← e2]
    exact this
theorem turP_eq {T : List Wp} (hT : AscL T) {x : Wp} (hx : x ∈ T) : turP T x.1 x.2.1 = x.2.2 := by
  have h := turP_mem (hasP_iff.2 ⟨x, hx, rfl, rfl⟩)
  rw [ascL_place hT hx h rfl rfl]
/-- valid pins of a frame's wear -/
def VT (s : Int) (n : Nat) (T : List Wp) : Prop := AscL T ∧ ∀ x ∈ T, plW s n x.1 x.2.1 = true ∧ 0 ≤ x.2.2 ∧ x.2.2 ≤ 1000000
def VZ (z : List Int) : Prop := ∀ y ∈ z, 0 ≤ y ∧ y ≤ 1000000
theorem plW_iff {s : Int} {n : Nat} {a b : Int} : plW s n a b = true ↔ (0 ≤ a ∧ a ≤ s - 1) ∧ 0 ≤ b ∧ b ≤ (n : Int) - 1 := by simp [plW, inB]
theorem VT.in8 {s : Int} {n : Nat} {T : List Wp} (h : VT s n T) (hs : s ≤ 96) (hn : n ≤ 24) : In8 T := fun x hx => by
  have := plW_iff.1 (h.2 x hx).1
  omega
theorem asc_count {s : Int} {n : Nat} (hs : s ≤ 96) (hn : n ≤ 24) : ∀ (T : List Wp) (lo : Int), AscL T → (∀ x ∈ T, plW s n x.1 x.2.1 = true ∧ lo ≤ x.1 * 24 + x.2.1) → (T.length : Int) ≤ max 0 (2304 - lo)
  | [], lo, _, _ => by simp; omega
  | x :: T, lo, h, hv => by
    rw [ascL_iff, List.pairwise_cons] at h
    have h0 := hv x (by simp)
    have h1 := plW_iff.1 h0.1
    have h2 := asc_count hs hn T (x.1 * 24 + x.2.1 + 1) h.2 fun y hy => by
      have hy0 := plW_iff.1 (hv y (by simp [hy])).1
      have := befP_iff.1 (h.1 y hy)
      exact ⟨(hv y (by simp [hy])).1, by omega⟩
    rw [List.length_cons]
    omega
theorem VT.length {s : Int} {n : Nat} {T : List Wp} (h : VT s n T) (hs : s ≤ 96) (hn : n ≤ 24) : T.length ≤ 2304 := by
  have := asc_count hs hn T 0 h.1 fun x hx => ⟨(h.2 x hx).1, by have := plW_iff.1 (h.2 x hx).1; omega⟩
  omega
theorem VT.wf {s : Int} {n : Nat} {T : List Wp} (h : VT s n T) (hs : s ≤ 96) (hn : n ≤ 24) : WnWF T := fun k hk => by
  have hx := List.getElem_mem hk
  have h1 := h.2 _ hx
  have h2 := h.in8 hs hn _ hx
  rw [wn_get T k hk] at h1 h2
  exact ⟨h2.1, h2.2, by simp at h1; omega⟩
theorem VT.ins {s : Int} {n : Nat} {T : List Wp} (h : VT s n T) {a b c : Int} (hp : plW s n a b = true) (hc : 0 ≤ c ∧ c ≤ 1000000) (hn : hasP T a b = false) : VT s n (insP T (a, b, c)) :=
  ⟨insP_asc h.1 (hasP_not hn), fun x hx => by
    rcases mem_insP.1 hx with rfl | hx
    · exact ⟨hp, hc⟩
    · exact h.2 x hx⟩
theorem VT.set {s : Int} {n : Nat} {T : List Wp} (h : VT s n T) {a b c : Int} (hp : plW s n a b = true) (hc : 0 ≤ c ∧ c ≤ 1000000) : VT s n (setP T a b c) :=
  ⟨setP_asc h.1 a b c, fun x hx => by
    rcases mem_setP.1 hx with hx | ⟨rfl, _⟩
    · exact h.2 x hx.1
    · exact ⟨hp, hc⟩⟩
theorem VT.del {s : Int} {n : Nat} {T : List Wp} (h : VT s n T) (a b : Int) : VT s n (delP T a b) :=
  ⟨delP_asc h.1 a b, fun x hx => h.2 x (mem_delP.1 hx).1⟩
/-- what a wear's frame bounds -/
theorem frB_bounds {s : Int} {h : List (Int × Int)} (hf : frB s h = true) : s ≤ 96 ∧ h.length ≤ 24 := by
  simp [frB, inB] at hf
  omega
/-- a valid wear's pins -/
theorem weB_VT {s : Int} {h : List (Int × Int)} {l : List Wp} {z : List Int} (hw : weB s h l z = true) : VT s h.length l ∧ VZ z ∧ z.length = h.length := by
  have h0 := hw
  simp only [weB, Bool.and_eq_true, decide_eq_true_eq] at h0
  obtain ⟨⟨⟨hf, hz⟩, hp⟩, hst⟩ := h0
  have hp' := hp
  rw [pinsB_split, Bool.and_eq_true] at hp'
  refine ⟨⟨ascL_of (ascW_of hp'.1), fun x hx => ?_⟩, fun y hy => ?_, hz⟩
  · obtain ⟨k, hk, rfl⟩ := List.mem_iff_getElem.1 hx
    have := List.all_eq_true.1 hp k (List.mem_range.2 hk)
    simp only [wnOk, Bool.and_eq_true] at this
    rw [wn_get l k hk]
    refine ⟨this.1.1, ?_⟩
    have h2 := this.1.2
    simp [inB] at h2
    exact h2
  · obtain ⟨k, hk, rfl⟩ := List.mem_iff_getElem.1 hy
    have := List.all_eq_true.1 hst k (List.mem_range.2 hk)
    simp [inB, zAt, List.getD, hk] at this
    exact this
/-- the worn state of a wearing -/
def WSt (s : Int) (n base : Nat) (C : Option Addr) (q M N : Nat) (T : List Wp) (z : List Int) (w : World) : Prop :=
  ∃ D : DataW Unit, w.ownsMap Try.prog 175 (plainElem (H := Unit) Try.prog 2) M N D ∧ ReadsW D T ∧ IsMap D ∧ w.ownsRow base 2 1 (.slice C n q) n (icells z) ∧ z.length = n ∧ VT s n T ∧ VZ z ∧ base ≤ M
theorem WSt.keep {s : Int} {n base : Nat} {C : Option Addr} {q M N : Nat} {T : List Wp} {z : List Int} {w w' : World} (h : WSt s n base C q M N T z w) (hb : Below w.heap.size w w') : WSt s n base C q M N T z w' := by
  obtain ⟨D, h1, h2, h3, h4, h5⟩ := h
  exact ⟨D, map_keep h1 hb, h2, h3, own_keep h4 hb, h5⟩
set_option maxRecDepth 20000 in
theorem readsW_del {D : DataW Unit} {T : List Wp} (hD : ReadsW D T) (hM : IsMap D) (h8 : In8 T) {a b : Int} (ha : -9223372036854775808 ≤ a ∧ a ≤ 9223372036854775807) (hb : -9223372036854775808 ≤ b ∧ b ≤ 9223372036854775807) : ReadsW (D.del (kP a b)) (delP T a b) := by
  have hk := lawP.key (key_place a b ha hb)
  have hne : ∀ x ∈ T, ¬ (x.1 = a ∧ x.2.1 = b) → kP x.1 x.2.1 ≠ kP a b := fun x hx hn e => by
    obtain ⟨x1, x2⟩ := h8 x hx
    exact hn (kP_inj (i64_of8 x1) (i64_of8 x2) ha hb e)
  refine ⟨fun x hx => ?_, fun x hx zd => ?_, fun kl hkl => ?_⟩
  · obtain ⟨h1, h2⟩ := mem_delP.1 hx
    rw [has_del_other (hne x h1 h2)]
    exact hD.1 x h1
  · obtain ⟨h1, h2⟩ := mem_delP.1 hx
    rw [atKey_del_other (hne x h1 h2)]
    exact hD.2.1 x h1 zd
  · by_cases e : kl = kP a b
    · subst e
      rw [has_del_same] at hkl
      cases hkl
    · rw [has_del_other e] at hkl
      obtain ⟨x, hx, rfl⟩ := hD.2.2 kl hkl
      exact ⟨x, mem_delP.2 ⟨hx, fun h => e (by rw [h.1, h.2])⟩, rfl⟩
end Go.Proofs.Ytcocfnjbgceidaa
