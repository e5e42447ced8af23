import Derived.Test.YtcocfnjbgceidaaGaa
import Derived.Maps.RangeWalk
import Derived.Maps.OwnSet
import Derived.WideKeyEntry
import Derived.Test.YtcocfnjbgceidaaGav
namespace Go.Proofs.Ytcocfnjbgceidaa
open Go Go.ChangeMaps Go.MapKept Go.WideShapes Go.Maps
open Go.WideElems (Fit rd rg pl rd_key rd_val rg_of other_key findIdx_born findIdx_arr modify_last set_self)
theorem leftOf_len (a : Array MapEntry) (seen : Array Nat) : (leftOf a seen).size = ((a.toList.map (·.born)).filter fun e => !seen.contains e).length := by
  unfold leftOf
  rw [List.filter_map, List.length_map, ← Array.toList_filter, Array.length_toList]
  rfl
theorem set_permW {α : Type} (l : List α) (j : Nat) (h : j < l.length) (a : α) : (l.set j a).Perm (a :: l.eraseIdx j) := by
  rw [List.set_eq_take_append_cons_drop, if_pos h, List.eraseIdx_eq_take_drop_succ]
  exact List.perm_middle
theorem setBlock_self {w : World} {b : Nat} {es : Array MapEntry} {clock : Nat} (hb : w.heap[b]? = some (.map es clock)) : setBlock w b (.map es clock) = w := by
  unfold setBlock
  congr 1
  apply Array.ext_getElem?
  intro i
  rw [Array.getElem?_setIfInBounds]
  split
  · rename_i h
    subst h
    split
    · exact hb.symm
    · rename_i h2
      rw [Array.getElem?_eq_none (by omega)]
  · rfl
/-- 'm[k] op= v' at a key that is there, while the map is ranged over: the entry is found, the map as it is; then the value is stored, and who is left stays -/
theorem ranges_entry {P : Program} {k t e : TypeId} {R : Value → Option (DataW Unit × List MemPlace)} {w : World} {b r n : Nat} {D : DataW Unit} {left : Lit → Bool} {cnt : Nat} (h : w.ranges P k R b r n D left cnt) (K : Keyed P k) (ht : P.underlying t = some (.map k e))
    {key : Value} {kl : Lit} (hkey : keyOf P k key = some kl) (hhas : has D kl = true) :
    ∃ (es : Array MapEntry) (clock : Nat) (v0 : Value) (st : Nat) (y : DataW Unit × List MemPlace), w.heap[b]? = some (.map es clock) ∧ R v0 = some y ∧ (∀ zd, D.atKey kl zd = y.1) ∧
      (∀ w', w'.heap[b]? = some (.map es clock) → (Instr.lookup t (.map (some b)) key false).run P w' = .ok v0 w' ∧ (Instr.mapEntry t (.map (some b)) key).run P w' = .ok (.tuple #[v0, goInt st]) w') ∧
      ∀ (val : Value) (d : DataW Unit) (ps : List MemPlace) (w' : World), R val = some (d, ps) → w'.ranges P k R b r n D left cnt → w'.heap[b]? = some (.map es clock) →
        ∃ w'', (Instr.entryStore t (.map (some b)) (goInt st) val).run P w' = .ok () w'' ∧ w''.ranges P k R b r n (D.put kl d) left cnt ∧ w'.grownBy w'' (some b) ∧ w''.heap.size = w'.heap.size := by
  obtain ⟨es, clock, since, seen, c0, hb, F, hs, hD, hr, hold, hcnt, hl1, hl2, hsc, hsk⟩ := h
  subst hD
  obtain ⟨s1, s2, s3⟩ := F.stamped
  rcases K.find w hkey es.toList F.keys with ⟨h1, h2⟩ | ⟨j, e0, h1, h2, h3⟩
  · exfalso
    obtain ⟨p, hp, hpk⟩ := List.any_eq_true.1 hhas
    obtain ⟨x, hx, rfl⟩ := List.mem_map.1 (mem_sorted.1 hp)
    have hkx := WideAt.sameKey_eq hpk
    obtain ⟨y, hy⟩ := F.reads x hx
    have m1 := rd_key hy
    rw [rg_of hy] at hkx
    rw [hkx] at m1
    exact h2 x hx (K.inj m1 hkey)
  · have hj : es[j]? = some e0 := by simpa using h2
    have hjl : j < es.toList.length := (List.getElem?_eq_some_iff.1 h2).1
    have hm0 : e0 ∈ es.toList := List.mem_of_getElem? h2
    obtain ⟨y0, hy0⟩ := F.reads e0 hm0
    obtain ⟨zv, hzv, hdv⟩ := rd_val hy0
    have hat := atKey_sorted (es.toList.map (rg P k R)) (Maps.fit_rising K F) kl (K.key hkey)
    have hrg0 : (rg P k R e0).1 = kl := by
      have m1 := rd_key hy0
      rw [h3, hkey] at m1
      rw [rg_of hy0]
      exact (Option.some.inj m1).symm
    refine ⟨es, clock, e0.val, e0.born, zv, hb, hzv, fun zd => ?_, fun w' hb' => ?_, fun val d ps w' hv hrg' hb' => ?_⟩
    · rw [hat.2 (rg P k R e0) (List.mem_map.2 ⟨e0, hm0, rfl⟩) hrg0, rg_of hy0, hdv]
    · rcases K.find w' hkey es.toList F.keys with ⟨q1, q2⟩ | ⟨j', e0', q1, q2, q3⟩
      · exact absurd h3 (q2 e0 hm0)
      · have hm0' := List.mem_of_getElem? q2
        obtain rfl : e0' = e0 := entry_eq_of_key ((stamped_iff es clock).1 F.stamped).2.2 hm0' hm0 (q3.trans h3.symm)
        have hj' : es[j']? = some e0' := by simpa using q2
        have hsame : es.modify j' (fun e => { e with key := key }) = es := by
          apply Array.ext'
          rw [Array.toList_modify, modify_eq_set _ _ _ _ q2]
          have : ({ e0' with key := key } : MapEntry) = e0' := by rw [← h3]
          rw [this]
          exact set_self _ _ _ q2
        refine ⟨?_, ?_⟩
        · simp [Instr.lookup, run_underlying ht, MapKept.run_getObj_map hb', K.check w' _ hkey, q1, Result.andThen]
        · have := setBlock_self hb'
          simp [Instr.mapEntry, run_underlying ht, MapKept.run_getObj_map hb', K.check w' false hkey, q1, hj', h3, K.stays w' hkey, hsame, MapKept.run_setObj_map _ hb', Result.andThen]
          simpa [setBlock] using this
    · obtain ⟨es1, clock1, since', seen', c0', hb1, F1, hs1, hD1, hr', hold', hcnt', hl1', hl2', hsc', hsk'⟩ := hrg'
      rw [hb'] at hb1
      obtain ⟨rfl, rfl⟩ : es = es1 ∧ clock = clock1 := by simpa using hb1
      have hidx : es.findIdx? (fun e => ((e.born : Nat) : Int) == ((e0.born : Nat) : Int)) = some j := by
        rw [findIdx_arr]
        exact findIdx_born s2 h2
      have hmod : es.modify j (fun e => { e with val := val }) = es.modify j (fun e' => { e' with key := key, val := val }) := by
        apply Array.ext'
        rw [Array.toList_modify, Array.toList_modify, modify_eq_set _ _ _ _ h2, modify_eq_set _ _ _ _ h2, ← h3]
      have hkeyf : ∀ e', es[j]? = some e' → ({ e' with key := key, val := val } : MapEntry).key = e'.key := fun e' he' => by rw [hj] at he'; cases he'; exact h3.symm
      have hlist : (es.modify j (fun e' => { e' with key := key, val := val })).toList = es.toList.set j { e0 with key := key, val := val } := by rw [Array.toList_modify, modify_eq_set _ _ _ _ h2]
      have who : ∀ x ∈ es.toList.set j { e0 with key := key, val := val }, x = { e0 with key := key, val := val } ∨ (x ∈ es.toList ∧ x.key ≠ key) := by
        intro x hx
        obtain ⟨i, hi, ex⟩ := List.getElem_of_mem hx
        rw [List.getElem_set] at ex
        split at ex
        · exact Or.inl ex.symm
        · rename_i hne
          have hi' : i < es.toList.length := by simpa using hi
          refine Or.inr ⟨ex ▸ List.getElem_mem hi', ?_⟩
          rw [← h3]
          exact other_key F h2 (by rw [List.getElem?_eq_getElem hi', ex]) (fun e1 => hne e1.symm)
      have hnewrd := Go.WideElems.rd_mk (P := P) (k := k) (R := R) (born := e0.born) hkey hv
      have F' : Fit P k R (es.modify j (fun e' => { e' with key := key, val := val })) clock := by
        refine ⟨by simpa using F.size, stamped_modify F.stamped _ _ (fun _ _ => rfl) (fun e' _ he' => hkeyf e' he'), ?_⟩
        intro x hx
        rw [hlist] at hx
        rcases who x hx with rfl | ⟨hx', hne⟩
        · exact ⟨_, hnewrd⟩
        · exact F.reads x hx'
      have hput : ((es.modify j (fun e' => { e' with key := key, val := val })).toList.map (rg P k R)).foldr DataW.insert [] = putKey kl d ((es.toList.map (rg P k R)).foldr DataW.insert []) := by
        refine Maps.sorted_put K.one ⟨key, hkey⟩ (Maps.fit_keys F) (Maps.fit_apart K F) ?_
        rw [Maps.filter_one K F hkey h2 h3, hlist, List.map_set, rg_of hnewrd]
        exact set_permW _ _ (by simpa using hjl) _
      have hborn : (es.modify j (fun e' => { e' with key := key, val := val })).toList.map (·.born) = es.toList.map (·.born) := by
        rw [hlist, List.map_set]
        exact set_self _ _ _ (by simp [h2])
      have hkeys : ∀ x ∈ (es.modify j (fun e' => { e' with key := key, val := val })).toList, ∃ x0 ∈ es.toList, x0.born = x.born ∧ (rg P k R x0).1 = (rg P k R x).1 := fun x hx => by
        rw [hlist] at hx
        rcases who x hx with rfl | ⟨hx', _⟩
        · refine ⟨e0, hm0, rfl, ?_⟩
          rw [hrg0, rg_of hnewrd]
        · exact ⟨x, hx', rfl, rfl⟩
      refine ⟨setBlock w' b (.map (es.modify j (fun e' => { e' with key := key, val := val })) clock), ?_, ⟨_, clock, since', seen', c0', heap_setBlock_same hb' _, F', by simpa using hs1, by rw [hD1, DataW.put_eq, hput], (heap_setBlock_other hb' _ (fun e1 => ?_)).trans hr', fun x hx => ?_, ?_, fun x hx => ?_, fun q hq => ?_, hsc', hsk'⟩, ⟨rfl, rfl, rfl, by simp [setBlock], fun i _ hi => heap_setBlock_other hb' _ (fun e => hi (by rw [e]))⟩, by simp [setBlock]⟩
      · simp [Instr.entryStore, MapKept.run_getObj_map hb', asInt, asIntOf, goInt, hidx, hmod, MapKept.run_setObj_map _ hb', Result.andThen, setBlock]
      · rw [← e1, hr'] at hb'
        cases hb'
      · obtain ⟨x0, hx0, e1, _⟩ := hkeys x hx
        rw [← e1]
        exact hold' x0 hx0
      · rw [leftOf_len, hborn, ← leftOf_len, hcnt']
      · obtain ⟨x0, hx0, e1, e2⟩ := hkeys x hx
        rw [← e2, ← e1]
        exact hl1' x0 hx0
      · obtain ⟨x0, hx0, rfl⟩ := hl2' q hq
        by_cases hh : x0.key = key
        · refine ⟨{ e0 with key := key, val := val }, ?_, ?_⟩
          · rw [hlist]
            exact List.mem_iff_getElem.2 ⟨j, by simpa using hjl, by simp⟩
          · obtain rfl : x0 = e0 := entry_eq_of_key ((stamped_iff es clock).1 F.stamped).2.2 hx0 hm0 (hh.trans h3.symm)
            rw [hrg0, rg_of hnewrd]
        · refine ⟨x0, ?_, rfl⟩
          rw [hlist]
          obtain ⟨i, hi, hie⟩ := List.getElem_of_mem hx0
          refine List.mem_iff_getElem.2 ⟨i, by simpa using hi, ?_⟩
          rw [List.getElem_set_ne (fun e1 => hh (by subst e1; rw [← hie]; have := List.getElem?_eq_some_iff.1 h2; rw [this.2]; exact h3))]
          exact hie
end Go.Proofs.Ytcocfnjbgceidaa
namespace Go.Proofs.Ytcocfnjbgceidaa
open Go.RowKit Go.Maps
/-- how many pins of a list that S picks lie on a track -/
def cntS (T : List Wp) (S : Wp → Bool) (k : Int) : Nat := T.countP fun x => decide (x.2.1 = k) && S x
def turTd (T : List Wp) (t : Int) (S : Wp → Bool) : List Wp := T.map fun x => if S x then (x.1, x.2.1, x.2.2 + t) else x
def turZd (T : List Wp) (z : List Int) (t : Int) (S : Wp → Bool) : List Int := (List.range z.length).map fun (k : Nat) => zAt z k + t * (cntS T S (k : Int) : Int)
def turT (T : List Wp) (t : Int) : List Wp := T.map fun x => (x.1, x.2.1, x.2.2 + t)
def cntP (T : List Wp) (k : Int) : Nat := T.countP fun x => decide (x.2.1 = k)
def turZ (T : List Wp) (z : List Int) (t : Int) : List Int := (List.range z.length).map fun (k : Nat) => zAt z k + t * (cntP T (k : Int) : Int)
/-- nothing has made more than its life -/
def wholeB (T : List Wp) (z : List Int) (p h : Int) : Bool := T.all (fun x => decide (x.2.2 ≤ p)) && z.all (fun y => decide (y ≤ h))
theorem turTd_none (T : List Wp) (t : Int) (S : Wp → Bool) (h : ∀ x ∈ T, S x = false) : turTd T t S = T := by
  unfold turTd
  conv => rhs; rw [← List.map_id T]
  exact List.map_congr_left fun x hx => by simp [h x hx]
theorem turTd_all (T : List Wp) (t : Int) (S : Wp → Bool) (h : ∀ x ∈ T, S x = true) : turTd T t S = turT T t := by
  unfold turTd turT
  exact List.map_congr_left fun x hx => by simp [h x hx]
theorem cntS_none (T : List Wp) (S : Wp → Bool) (k : Int) (h : ∀ x ∈ T, S x = false) : cntS T S k = 0 := by
  unfold cntS
  rw [List.countP_eq_zero]
  intro x hx
  simp [h x hx]
theorem cntS_all (T : List Wp) (S : Wp → Bool) (k : Int) (h : ∀ x ∈ T, S x = true) : cntS T S k = cntP T k := by
  unfold cntS cntP
  refine List.countP_congr fun x hx => ?_
  simp [h x hx]
theorem turZd_none (T : List Wp) (z : List Int) (t : Int) (S : Wp → Bool) (h : ∀ x ∈ T, S x = false) : turZd T z t S = z := by
  unfold turZd
  apply List.ext_getElem
  · simp
  · intro k h1 h2
    simp [cntS_none T S _ h, zAt, List.getD, h2]
theorem turZd_all (T : List Wp) (z : List Int) (t : Int) (S : Wp → Bool) (h : ∀ x ∈ T, S x = true) : turZd T z t S = turZ T z t := by
  unfold turZd turZ
  exact List.map_congr_left fun k _ => by rw [cntS_all T S _ h]
theorem turZd_len (T : List Wp) (z : List Int) (t : Int) (S : Wp → Bool) : (turZd T z t S).length = z.length := by simp [turZd]
theorem turZ_len (T : List Wp) (z : List Int) (t : Int) : (turZ T z t).length = z.length := by simp [turZ]
theorem turZd_at (T : List Wp) (z : List Int) (t : Int) (S : Wp → Bool) {k : Nat} (hk : k < z.length) : zAt (turZd T z t S) k = zAt z k + t * (cntS T S (k : Int) : Int) := by
  simp [turZd, zAt, List.getD, hk]
theorem count_one : ∀ {l : List Wp} {a : Wp}, l.Nodup → a ∈ l → l.count a = 1
  | [], a, _, h => absurd h (by simp)
  | b :: l, a, hn, h => by
    rw [List.nodup_cons] at hn
    rw [List.count_cons]
    rcases List.mem_cons.1 h with rfl | h1
    · rw [List.count_eq_zero_of_not_mem hn.1]
      simp
    · rw [count_one hn.2 h1, if_neg (fun e => hn.1 (by rw [show b = a by simpa using e]; exact h1))]
/-- one pin more -/
theorem cntS_step {T : List Wp} (hT : AscL T) {S S' : Wp → Bool} {y : Wp} (hy : y ∈ T) (h0 : S y = false) (hs : ∀ x ∈ T, S' x = (S x || atP y.1 y.2.1 x)) (k : Int) : cntS T S' k = cntS T S k + if y.2.1 = k then 1 else 0 := by
  have hone : ∀ (T : List Wp), AscL T → (∀ x ∈ T, S' x = (S x || atP y.1 y.2.1 x)) → (∀ x ∈ T, atP y.1 y.2.1 x = true → S x = false) → cntS T S' k = cntS T S k + (if y.2.1 = k then T.countP (atP y.1 y.2.1) else 0) := by
    intro T
    induction T with
    | nil => intro _ _ _; simp [cntS]
    | cons x T ih =>
      intro hT hs hd
      rw [ascL_iff, List.pairwise_cons] at hT
      have h1 := ih (ascL_iff.2 hT.2) (fun z hz => hs z (by simp [hz])) (fun z hz => hd z (by simp [hz]))
      have hx := hs x (by simp)
      unfold cntS at h1 ⊢
      rw [List.countP_cons, List.countP_cons, h1, List.countP_cons, hx]
      cases ha : atP y.1 y.2.1 x
      · simp; omega
      · have hsx := hd x (by simp) ha
        have he := (atP_iff.1 ha).2
        rw [hsx, he]
        by_cases hk : y.2.1 = k
        · simp [hk]; omega
        · simp [hk]
  have hc : T.countP (atP y.1 y.2.1) = 1 := by
    have hn := ascL_nodup hT
    have e : T.countP (atP y.1 y.2.1) = T.count y := by
      rw [List.count_eq_countP]
      refine List.countP_congr fun x hx => ?_
      rw [atP_iff]
      constructor
      · rintro ⟨e1, e2⟩
        simp [ascL_place hT hx hy e1 e2]
      · intro e
        have : x = y := by simpa using e
        rw [this]
        exact ⟨rfl, rfl⟩
    rw [e, count_one hn hy]
  rw [hone T hT hs (fun x hx ha => by
    obtain ⟨e1, e2⟩ := atP_iff.1 ha
    rw [ascL_place hT hx hy e1 e2]
    exact h0), hc]
theorem turZd_step {T : List Wp} (hT : AscL T) {S S' : Wp → Bool} {y : Wp} (hy : y ∈ T) (h0 : S y = false) (hs : ∀ x ∈ T, S' x = (S x || atP y.1 y.2.1 x)) (z : List Int) (t : Int) {k : Nat} (hk : k < z.length) (hky : y.2.1 = (k : Int)) : turZd T z t S' = (turZd T z t S).set k (zAt (turZd T z t S) k + t) := by
  apply List.ext_getElem
  · simp [turZd]
  · intro j h1 h2
    have hj : j < z.length := by simpa [turZd] using h1
    rw [List.getElem_set]
    have e : ∀ S, (turZd T z t S)[j]'(by simpa [turZd] using hj) = zAt z j + t * (cntS T S (j : Int) : Int) := fun S => by simp [turZd]
    rw [e, cntS_step hT hy h0 hs]
    by_cases hjk : k = j
    · subst hjk
      rw [if_pos rfl, turZd_at T z t S hk, if_pos hky]
      have : t * ((cntS T S (k : Int) + 1 : Nat) : Int) = t * (cntS T S (k : Int) : Int) + t := by
        rw [Int.natCast_add, Int.mul_add]
        simp
      omega
    · rw [if_neg hjk, e, if_neg (by omega)]
      rfl
theorem turTd_mem {T : List Wp} {t : Int} {S : Wp → Bool} {x : Wp} : x ∈ turTd T t S ↔ ∃ x0 ∈ T, x = if S x0 then (x0.1, x0.2.1, x0.2.2 + t) else x0 := by
  unfold turTd
  rw [List.mem_map]
  exact ⟨fun ⟨a, h, e⟩ => ⟨a, h, e.symm⟩, fun ⟨a, h, e⟩ => ⟨a, h, e.symm⟩⟩
theorem turTd_place {S : Wp → Bool} (t : Int) (x : Wp) : (if S x then (x.1, x.2.1, x.2.2 + t) else x).1 = x.1 ∧ (if S x then (x.1, x.2.1, x.2.2 + t) else x).2.1 = x.2.1 := by
  split <;> exact ⟨rfl, rfl⟩
theorem turTd_asc {T : List Wp} (h : AscL T) (t : Int) (S : Wp → Bool) : AscL (turTd T t S) := by
  rw [ascL_iff] at h ⊢
  unfold turTd
  rw [List.pairwise_map]
  refine h.imp fun {x y} hxy => ?_
  rw [befP_iff] at hxy ⊢
  rw [(turTd_place t x).1, (turTd_place t x).2, (turTd_place t y).1, (turTd_place t y).2]
  exact hxy
theorem turTd_in8 {T : List Wp} (h : In8 T) (t : Int) (S : Wp → Bool) : In8 (turTd T t S) := fun x hx => by
  obtain ⟨x0, h0, rfl⟩ := turTd_mem.1 hx
  rw [(turTd_place t x0).1, (turTd_place t x0).2]
  exact h x0 h0
theorem readsW_tur {T : List Wp} (hT : AscL T) (h8 : In8 T) {S S' : Wp → Bool} {y : Wp} (hy : y ∈ T) (h0 : S y = false) (hs : ∀ x ∈ T, S' x = (S x || atP y.1 y.2.1 x)) {t : Int} {D : DataW Unit} (hD : ReadsW D (turTd T t S)) (hM : IsMap D) :
    ReadsW (D.put (kP y.1 y.2.1) (.lit (.int .i64 (y.2.2 + t)))) (turTd T t S') := by
  have hyS : S' y = true := by rw [hs y hy, atP_iff.2 ⟨rfl, rfl⟩]; simp
  refine readsW_put hD hM (turTd_in8 h8 t S') (turTd_mem.2 ⟨y, hy, by rw [if_pos hyS]⟩) ?_ ?_ ?_
  · intro x hx e
    obtain ⟨x0, hx0, rfl⟩ := turTd_mem.1 hx
    rw [(turTd_place t x0).1, (turTd_place t x0).2] at e
    obtain rfl := ascL_place hT hx0 hy e.1 e.2
    rw [if_pos hyS]
  · intro x hx e
    obtain ⟨x0, hx0, rfl⟩ := turTd_mem.1 hx
    rw [(turTd_place t x0).1, (turTd_place t x0).2] at e
    refine turTd_mem.2 ⟨x0, hx0, ?_⟩
    rw [hs x0 hx0]
    have : atP y.1 y.2.1 x0 = false := by
      cases ha : atP y.1 y.2.1 x0
      · rfl
      · exact absurd (atP_iff.1 ha) e
    rw [this, Bool.or_false]
  · intro x hx e
    obtain ⟨x0, hx0, rfl⟩ := turTd_mem.1 hx
    rw [(turTd_place t x0).1, (turTd_place t x0).2] at e
    refine turTd_mem.2 ⟨x0, hx0, ?_⟩
    rw [hs x0 hx0]
    have : atP y.1 y.2.1 x0 = false := by
      cases ha : atP y.1 y.2.1 x0
      · rfl
      · exact absurd (atP_iff.1 ha) e
    rw [this, Bool.or_false]
end Go.Proofs.Ytcocfnjbgceidaa
