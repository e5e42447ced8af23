import Derived.Test.YtcocfnjbgceidaaGreatGa
import Derived.Maps.RangeWalk
import Derived.Maps.OwnSet
import Derived.WideKeyEntry
import Derived.Test.YtcocfnjbgceidaaGreatGj
import Derived.IntWalk
import Derived.Deep.RegionHeld3
import Derived.StillTail
import Derived.StillTailTactics
import Derived.Test.YtcocfnjbgceidaaGreatGi
import Derived.Test.YtcocfnjbgceidaaGreatGh
import Derived.Deep.CutRange
import Derived.Test.YtcocfnjbgceidaaGreatGc
namespace Go.Proofs.YtcocfnjbgceidaaGreat
open Go Go.ChangeMaps Go.MapKept Go.WideShapes Go.Maps
open Go.WideElems (Fit rd rg pl rd_key rd_val rg_of other_key findIdx_born findIdx_arr modify_last set_self)
theorem leftOf_len (a : Array MapEntry) (seen : Array Nat) : (leftOf a seen).size = ((a.toList.map (·.born)).filter fun e => !seen.contains e).length := by
  unfold leftOf
  rw [List.filter_map, List.length_map, ← Array.toList_filter, Array.length_toList]
  rfl
theorem set_permW {α : Type} (l : List α) (j : Nat) (h : j < l.length) (a : α) : (l.set j a).Perm (a :: l.eraseIdx j) := by
  rw [List.set_eq_take_append_cons_drop, if_pos h, List.eraseIdx_eq_take_drop_succ]
  exact List.perm_middle
theorem setBlock_self {w : World} {b : Nat} {es : Array MapEntry} {clock : Nat} (hb : w.heap[b]? = some (.map es clock)) : setBlock w b (.map es clock) = w := by
  unfold setBlock
  congr 1
  apply Array.ext_getElem?
  intro i
  rw [Array.getElem?_setIfInBounds]
  split
  · rename_i h
    subst h
    split
    · exact hb.symm
    · rename_i h2
      rw [Array.getElem?_eq_none (by omega)]
  · rfl
/-- 'm[k] op= v' at a key that is there, while the map is ranged over: the entry is found, the map as it is; then the value is stored, and who is left stays -/
theorem ranges_entry {P : Program} {k t e : TypeId} {R : Value → Option (DataW Unit × List MemPlace)} {w : World} {b r n : Nat} {D : DataW Unit} {left : Lit → Bool} {cnt : Nat} (h : w.ranges P k R b r n D left cnt) (K : Keyed P k) (ht : P.underlying t = some (.map k e))
    {key : Value} {kl : Lit} (hkey : keyOf P k key = some kl) (hhas : has D kl = true) :
    ∃ (es : Array MapEntry) (clock : Nat) (v0 : Value) (st : Nat) (y : DataW Unit × List MemPlace), w.heap[b]? = some (.map es clock) ∧ R v0 = some y ∧ (∀ zd, D.atKey kl zd = y.1) ∧
      (∀ w', w'.heap[b]? = some (.map es clock) → (Instr.lookup t (.map (some b)) key false).run P w' = .ok v0 w' ∧ (Instr.mapEntry t (.map (some b)) key).run P w' = .ok (.tuple #[v0, goInt st]) w') ∧
      ∀ (val : Value) (d : DataW Unit) (ps : List MemPlace) (w' : World), R val = some (d, ps) → w'.ranges P k R b r n D left cnt → w'.heap[b]? = some (.map es clock) →
        ∃ w'', (Instr.entryStore t (.map (some b)) (goInt st) val).run P w' = .ok () w'' ∧ w''.ranges P k R b r n (D.put kl d) left cnt ∧ w'.grownBy w'' (some b) ∧ w''.heap.size = w'.heap.size := by
  obtain ⟨es, clock, since, seen, c0, hb, F, hs, hD, hr, hold, hcnt, hl1, hl2, hsc, hsk⟩ := h
  subst hD
  obtain ⟨s1, s2, s3⟩ := F.stamped
  rcases K.find w hkey es.toList F.keys with ⟨h1, h2⟩ | ⟨j, e0, h1, h2, h3⟩
  · exfalso
    obtain ⟨p, hp, hpk⟩ := List.any_eq_true.1 hhas
    obtain ⟨x, hx, rfl⟩ := List.mem_map.1 (mem_sorted.1 hp)
    have hkx := WideAt.sameKey_eq hpk
    obtain ⟨y, hy⟩ := F.reads x hx
    have m1 := rd_key hy
    rw [rg_of hy] at hkx
    rw [hkx] at m1
    exact h2 x hx (K.inj m1 hkey)
  · have hj : es[j]? = some e0 := by simpa using h2
    have hjl : j < es.toList.length := (List.getElem?_eq_some_iff.1 h2).1
    have hm0 : e0 ∈ es.toList := List.mem_of_getElem? h2
    obtain ⟨y0, hy0⟩ := F.reads e0 hm0
    obtain ⟨zv, hzv, hdv⟩ := rd_val hy0
    have hat := atKey_sorted (es.toList.map (rg P k R)) (Maps.fit_rising K F) kl (K.key hkey)
    have hrg0 : (rg P k R e0).1 = kl := by
      have m1 := rd_key hy0
      rw [h3, hkey] at m1
      rw [rg_of hy0]
      exact (Option.some.inj m1).symm
    refine ⟨es, clock, e0.val, e0.born, zv, hb, hzv, fun zd => ?_, fun w' hb' => ?_, fun val d ps w' hv hrg' hb' => ?_⟩
    · rw [hat.2 (rg P k R e0) (List.mem_map.2 ⟨e0, hm0, rfl⟩) hrg0, rg_of hy0, hdv]
    · rcases K.find w' hkey es.toList F.keys with ⟨q1, q2⟩ | ⟨j', e0', q1, q2, q3⟩
      · exact absurd h3 (q2 e0 hm0)
      · have hm0' := List.mem_of_getElem? q2
        obtain rfl : e0' = e0 := entry_eq_of_key ((stamped_iff es clock).1 F.stamped).2.2 hm0' hm0 (q3.trans h3.symm)
        have hj' : es[j']? = some e0' := by simpa using q2
        have hsame : es.modify j' (fun e => { e with key := key }) = es := by
          apply Array.ext'
          rw [Array.toList_modify, modify_eq_set _ _ _ _ q2]
          have : ({ e0' with key := key } : MapEntry) = e0' := by rw [← h3]
          rw [this]
          exact set_self _ _ _ q2
        refine ⟨?_, ?_⟩
        · simp [Instr.lookup, run_underlying ht, MapKept.run_getObj_map hb', K.check w' _ hkey, q1, Result.andThen]
        · have := setBlock_self hb'
          simp [Instr.mapEntry, run_underlying ht, MapKept.run_getObj_map hb', K.check w' false hkey, q1, hj', h3, K.stays w' hkey, hsame, MapKept.run_setObj_map _ hb', Result.andThen]
          simpa [setBlock] using this
    · obtain ⟨es1, clock1, since', seen', c0', hb1, F1, hs1, hD1, hr', hold', hcnt', hl1', hl2', hsc', hsk'⟩ := hrg'
      rw [hb'] at hb1
      obtain ⟨rfl, rfl⟩ : es = es1 ∧ clock = clock1 := by simpa using hb1
      have hidx : es.findIdx? (fun e => ((e.born : Nat) : Int) == ((e0.born : Nat) : Int)) = some j := by
        rw [findIdx_arr]
        exact findIdx_born s2 h2
      have hmod : es.modify j (fun e => { e with val := val }) = es.modify j (fun e' => { e' with key := key, val := val }) := by
        apply Array.ext'
        rw [Array.toList_modify, Array.toList_modify, modify_eq_set _ _ _ _ h2, modify_eq_set _ _ _ _ h2, ← h3]
      have hkeyf : ∀ e', es[j]? = some e' → ({ e' with key := key, val := val } : MapEntry).key = e'.key := fun e' he' => by rw [hj] at he'; cases he'; exact h3.symm
      have hlist : (es.modify j (fun e' => { e' with key := key, val := val })).toList = es.toList.set j { e0 with key := key, val := val } := by rw [Array.toList_modify, modify_eq_set _ _ _ _ h2]
      have who : ∀ x ∈ es.toList.set j { e0 with key := key, val := val }, x = { e0 with key := key, val := val } ∨ (x ∈ es.toList ∧ x.key ≠ key) := by
        intro x hx
        obtain ⟨i, hi, ex⟩ := List.getElem_of_mem hx
        rw [List.getElem_set] at ex
        split at ex
        · exact Or.inl ex.symm
        · rename_i hne
          have hi' : i < es.toList.length := by simpa using hi
          refine Or.inr ⟨ex ▸ List.getElem_mem hi', ?_⟩
          rw [← h3]
          exact other_key F h2 (by rw [List.getElem?_eq_getElem hi', ex]) (fun e1 => hne e1.symm)
      have hnewrd := Go.WideElems.rd_mk (P := P) (k := k) (R := R) (born := e0.born) hkey hv
      have F' : Fit P k R (es.modify j (fun e' => { e' with key := key, val := val })) clock := by
        refine ⟨by simpa using F.size, stamped_modify F.stamped _ _ (fun _ _ => rfl) (fun e' _ he' => hkeyf e' he'), ?_⟩
        intro x hx
        rw [hlist] at hx
        rcases who x hx with rfl | ⟨hx', hne⟩
        · exact ⟨_, hnewrd⟩
        · exact F.reads x hx'
      have hput : ((es.modify j (fun e' => { e' with key := key, val := val })).toList.map (rg P k R)).foldr DataW.insert [] = putKey kl d ((es.toList.map (rg P k R)).foldr DataW.insert []) := by
        refine Maps.sorted_put K.one ⟨key, hkey⟩ (Maps.fit_keys F) (Maps.fit_apart K F) ?_
        rw [Maps.filter_one K F hkey h2 h3, hlist, List.map_set, rg_of hnewrd]
        exact set_permW _ _ (by simpa using hjl) _
      have hborn : (es.modify j (fun e' => { e' with key := key, val := val })).toList.map (·.born) = es.toList.map (·.born) := by
        rw [hlist, List.map_set]
        exact set_self _ _ _ (by simp [h2])
      have hkeys : ∀ x ∈ (es.modify j (fun e' => { e' with key := key, val := val })).toList, ∃ x0 ∈ es.toList, x0.born = x.born ∧ (rg P k R x0).1 = (rg P k R x).1 := fun x hx => by
        rw [hlist] at hx
        rcases who x hx with rfl | ⟨hx', _⟩
        · refine ⟨e0, hm0, rfl, ?_⟩
          rw [hrg0, rg_of hnewrd]
        · exact ⟨x, hx', rfl, rfl⟩
      refine ⟨setBlock w' b (.map (es.modify j (fun e' => { e' with key := key, val := val })) clock), ?_, ⟨_, clock, since', seen', c0', heap_setBlock_same hb' _, F', by simpa using hs1, by rw [hD1, DataW.put_eq, hput], (heap_setBlock_other hb' _ (fun e1 => ?_)).trans hr', fun x hx => ?_, ?_, fun x hx => ?_, fun q hq => ?_, hsc', hsk'⟩, ⟨rfl, rfl, rfl, by simp [setBlock], fun i _ hi => heap_setBlock_other hb' _ (fun e => hi (by rw [e]))⟩, by simp [setBlock]⟩
      · simp [Instr.entryStore, MapKept.run_getObj_map hb', asInt, asIntOf, goInt, hidx, hmod, MapKept.run_setObj_map _ hb', Result.andThen, setBlock]
      · rw [← e1, hr'] at hb'
        cases hb'
      · obtain ⟨x0, hx0, e1, _⟩ := hkeys x hx
        rw [← e1]
        exact hold' x0 hx0
      · rw [leftOf_len, hborn, ← leftOf_len, hcnt']
      · obtain ⟨x0, hx0, e1, e2⟩ := hkeys x hx
        rw [← e2, ← e1]
        exact hl1' x0 hx0
      · obtain ⟨x0, hx0, rfl⟩ := hl2' q hq
        by_cases hh : x0.key = key
        · refine ⟨{ e0 with key := key, val := val }, ?_, ?_⟩
          · rw [hlist]
            exact List.mem_iff_getElem.2 ⟨j, by simpa using hjl, by simp⟩
          · obtain rfl : x0 = e0 := entry_eq_of_key ((stamped_iff es clock).1 F.stamped).2.2 hx0 hm0 (hh.trans h3.symm)
            rw [hrg0, rg_of hnewrd]
        · refine ⟨x0, ?_, rfl⟩
          rw [hlist]
          obtain ⟨i, hi, hie⟩ := List.getElem_of_mem hx0
          refine List.mem_iff_getElem.2 ⟨i, by simpa using hi, ?_⟩
          rw [List.getElem_set_ne (fun e1 => hh (by subst e1; rw [← hie]; have := List.getElem?_eq_some_iff.1 h2; rw [this.2]; exact h3))]
          exact hie
end Go.Proofs.YtcocfnjbgceidaaGreat
namespace Go.Proofs.YtcocfnjbgceidaaGreat
open Go.RowKit Go.Maps
/-- how many pins of a list that S picks lie on a track -/
def cntS (T : List Wp) (S : Wp → Bool) (k : Int) : Nat := T.countP fun x => decide (x.2.1 = k) && S x
def turTd (T : List Wp) (t : Int) (S : Wp → Bool) : List Wp := T.map fun x => if S x then (x.1, x.2.1, x.2.2 + t) else x
def turZd (T : List Wp) (z : List Int) (t : Int) (S : Wp → Bool) : List Int := (List.range z.length).map fun (k : Nat) => zAt z k + t * (cntS T S (k : Int) : Int)
def turT (T : List Wp) (t : Int) : List Wp := T.map fun x => (x.1, x.2.1, x.2.2 + t)
def cntP (T : List Wp) (k : Int) : Nat := T.countP fun x => decide (x.2.1 = k)
def turZ (T : List Wp) (z : List Int) (t : Int) : List Int := (List.range z.length).map fun (k : Nat) => zAt z k + t * (cntP T (k : Int) : Int)
/-- nothing has made more than its life -/
def wholeB (T : List Wp) (z : List Int) (p h : Int) : Bool := T.all (fun x => decide (x.2.2 ≤ p)) && z.all (fun y => decide (y ≤ h))
theorem turTd_none (T : List Wp) (t : Int) (S : Wp → Bool) (h : ∀ x ∈ T, S x = false) : turTd T t S = T := by
  unfold turTd
  conv => rhs; rw [← List.map_id T]
  exact List.map_congr_left fun x hx => by simp [h x hx]
theorem turTd_all (T : List Wp) (t : Int) (S : Wp → Bool) (h : ∀ x ∈ T, S x = true) : turTd T t S = turT T t := by
  unfold turTd turT
  exact List.map_congr_left fun x hx => by simp [h x hx]
theorem cntS_none (T : List Wp) (S : Wp → Bool) (k : Int) (h : ∀ x ∈ T, S x = false) : cntS T S k = 0 := by
  unfold cntS
  rw [List.countP_eq_zero]
  intro x hx
  simp [h x hx]
theorem cntS_all (T : List Wp) (S : Wp → Bool) (k : Int) (h : ∀ x ∈ T, S x = true) : cntS T S k = cntP T k := by
  unfold cntS cntP
  refine List.countP_congr fun x hx => ?_
  simp [h x hx]
theorem turZd_none (T : List Wp) (z : List Int) (t : Int) (S : Wp → Bool) (h : ∀ x ∈ T, S x = false) : turZd T z t S = z := by
  unfold turZd
  apply List.ext_getElem
  · simp
  · intro k h1 h2
    simp [cntS_none T S _ h, zAt, List.getD, h2]
theorem turZd_all (T : List Wp) (z : List Int) (t : Int) (S : Wp → Bool) (h : ∀ x ∈ T, S x = true) : turZd T z t S = turZ T z t := by
  unfold turZd turZ
  exact List.map_congr_left fun k _ => by rw [cntS_all T S _ h]
theorem turZd_len (T : List Wp) (z : List Int) (t : Int) (S : Wp → Bool) : (turZd T z t S).length = z.length := by simp [turZd]
theorem turZ_len (T : List Wp) (z : List Int) (t : Int) : (turZ T z t).length = z.length := by simp [turZ]
theorem turZd_at (T : List Wp) (z : List Int) (t : Int) (S : Wp → Bool) {k : Nat} (hk : k < z.length) : zAt (turZd T z t S) k = zAt z k + t * (cntS T S (k : Int) : Int) := by
  simp [turZd, zAt, List.getD, hk]
theorem count_one : ∀ {l : List Wp} {a : Wp}, l.Nodup → a ∈ l → l.count a = 1
  | [], a, _, h => absurd h (by simp)
  | b :: l, a, hn, h => by
    rw [List.nodup_cons] at hn
    rw [List.count_cons]
    rcases List.mem_cons.1 h with rfl | h1
    · rw [List.count_eq_zero_of_not_mem hn.1]
      simp
    · rw [count_one hn.2 h1, if_neg (fun e => hn.1 (by rw [show b = a by simpa using e]; exact h1))]
/-- one pin more -/
theorem cntS_step {T : List Wp} (hT : AscL T) {S S' : Wp → Bool} {y : Wp} (hy : y ∈ T) (h0 : S y = false) (hs : ∀ x ∈ T, S' x = (S x || atP y.1 y.2.1 x)) (k : Int) : cntS T S' k = cntS T S k + if y.2.1 = k then 1 else 0 := by
  have hone : ∀ (T : List Wp), AscL T → (∀ x ∈ T, S' x = (S x || atP y.1 y.2.1 x)) → (∀ x ∈ T, atP y.1 y.2.1 x = true → S x = false) → cntS T S' k = cntS T S k + (if y.2.1 = k then T.countP (atP y.1 y.2.1) else 0) := by
    intro T
    induction T with
    | nil => intro _ _ _; simp [cntS]
    | cons x T ih =>
      intro hT hs hd
      rw [ascL_iff, List.pairwise_cons] at hT
      have h1 := ih (ascL_iff.2 hT.2) (fun z hz => hs z (by simp [hz])) (fun z hz => hd z (by simp [hz]))
      have hx := hs x (by simp)
      unfold cntS at h1 ⊢
      rw [List.countP_cons, List.countP_cons, h1, List.countP_cons, hx]
      cases ha : atP y.1 y.2.1 x
      · simp; omega
      · have hsx := hd x (by simp) ha
        have he := (atP_iff.1 ha).2
        rw [hsx, he]
        by_cases hk : y.2.1 = k
        · simp [hk]; omega
        · simp [hk]
  have hc : T.countP (atP y.1 y.2.1) = 1 := by
    have hn := ascL_nodup hT
    have e : T.countP (atP y.1 y.2.1) = T.count y := by
      rw [List.count_eq_countP]
      refine List.countP_congr fun x hx => ?_
      rw [atP_iff]
      constructor
      · rintro ⟨e1, e2⟩
        simp [ascL_place hT hx hy e1 e2]
      · intro e
        have : x = y := by simpa using e
        rw [this]
        exact ⟨rfl, rfl⟩
    rw [e, count_one hn hy]
  rw [hone T hT hs (fun x hx ha => by
    obtain ⟨e1, e2⟩ := atP_iff.1 ha
    rw [ascL_place hT hx hy e1 e2]
    exact h0), hc]
theorem turZd_step {T : List Wp} (hT : AscL T) {S S' : Wp → Bool} {y : Wp} (hy : y ∈ T) (h0 : S y = false) (hs : ∀ x ∈ T, S' x = (S x || atP y.1 y.2.1 x)) (z : List Int) (t : Int) {k : Nat} (hk : k < z.length) (hky : y.2.1 = (k : Int)) : turZd T z t S' = (turZd T z t S).set k (zAt (turZd T z t S) k + t) := by
  apply List.ext_getElem
  · simp [turZd]
  · intro j h1 h2
    have hj : j < z.length := by simpa [turZd] using h1
    rw [List.getElem_set]
    have e : ∀ S, (turZd T z t S)[j]'(by simpa [turZd] using hj) = zAt z j + t * (cntS T S (j : Int) : Int) := fun S => by simp [turZd]
    rw [e, cntS_step hT hy h0 hs]
    by_cases hjk : k = j
    · subst hjk
      rw [if_pos rfl, turZd_at T z t S hk, if_pos hky]
      have : t * ((cntS T S (k : Int) + 1 : Nat) : Int) = t * (cntS T S (k : Int) : Int) + t := by
        rw [Int.natCast_add, Int.mul_add]
        simp
      omega
    · rw [if_neg hjk, e, if_neg (by omega)]
      rfl
theorem turTd_mem {T : List Wp} {t : Int} {S : Wp → Bool} {x : Wp} : x ∈ turTd T t S ↔ ∃ x0 ∈ T, x = if S x0 then (x0.1, x0.2.1, x0.2.2 + t) else x0 := by
  unfold turTd
  rw [List.mem_map]
  exact ⟨fun ⟨a, h, e⟩ => ⟨a, h, e.symm⟩, fun ⟨a, h, e⟩ => ⟨a, h, e.symm⟩⟩
theorem turTd_place {S : Wp → Bool} (t : Int) (x : Wp) : (if S x then (x.1, x.2.1, x.2.2 + t) else x).1 = x.1 ∧ (if S x then (x.1, x.2.1, x.2.2 + t) else x).2.1 = x.2.1 := by
  split <;> exact ⟨rfl, rfl⟩
theorem turTd_asc {T : List Wp} (h : AscL T) (t : Int) (S : Wp → Bool) : AscL (turTd T t S) := by
  rw [ascL_iff] at h ⊢
  unfold turTd
  rw [List.pairwise_map]
  refine h.imp fun {x y} hxy => ?_
  rw [befP_iff] at hxy ⊢
  rw [(turTd_place t x).1, (turTd_place t x).2, (turTd_place t y).1, (turTd_place t y).2]
  exact hxy
theorem turTd_in8 {T : List Wp} (h : In8 T) (t : Int) (S : Wp → Bool) : In8 (turTd T t S) := fun x hx => by
  obtain ⟨x0, h0, rfl⟩ := turTd_mem.1 hx
  rw [(turTd_place t x0).1, (turTd_place t x0).2]
  exact h x0 h0
theorem readsW_tur {T : List Wp} (hT : AscL T) (h8 : In8 T) {S S' : Wp → Bool} {y : Wp} (hy : y ∈ T) (h0 : S y = false) (hs : ∀ x ∈ T, S' x = (S x || atP y.1 y.2.1 x)) {t : Int} {D : DataW Unit} (hD : ReadsW D (turTd T t S)) (hM : IsMap D) :
    ReadsW (D.put (kP y.1 y.2.1) (.lit (.int .i64 (y.2.2 + t)))) (turTd T t S') := by
  have hyS : S' y = true := by rw [hs y hy, atP_iff.2 ⟨rfl, rfl⟩]; simp
  refine readsW_put hD hM (turTd_in8 h8 t S') (turTd_mem.2 ⟨y, hy, by rw [if_pos hyS]⟩) ?_ ?_ ?_
  · intro x hx e
    obtain ⟨x0, hx0, rfl⟩ := turTd_mem.1 hx
    rw [(turTd_place t x0).1, (turTd_place t x0).2] at e
    obtain rfl := ascL_place hT hx0 hy e.1 e.2
    rw [if_pos hyS]
  · intro x hx e
    obtain ⟨x0, hx0, rfl⟩ := turTd_mem.1 hx
    rw [(turTd_place t x0).1, (turTd_place t x0).2] at e
    refine turTd_mem.2 ⟨x0, hx0, ?_⟩
    rw [hs x0 hx0]
    have : atP y.1 y.2.1 x0 = false := by
      cases ha : atP y.1 y.2.1 x0
      · rfl
      · exact absurd (atP_iff.1 ha) e
    rw [this, Bool.or_false]
  · intro x hx e
    obtain ⟨x0, hx0, rfl⟩ := turTd_mem.1 hx
    rw [(turTd_place t x0).1, (turTd_place t x0).2] at e
    refine turTd_mem.2 ⟨x0, hx0, ?_⟩
    rw [hs x0 hx0]
    have : atP y.1 y.2.1 x0 = false := by
      cases ha : atP y.1 y.2.1 x0
      · rfl
      · exact absurd (atP_iff.1 ha) e
    rw [this, Bool.or_false]
end Go.Proofs.YtcocfnjbgceidaaGreat
namespace Go.Proofs.YtcocfnjbgceidaaGreat
open Go.RowKit Go.Maps
theorem any_hit {z : List Int} {p : Int → Bool} {k : Nat} (hk : k < z.length) (h : p (zAt z k) = true) : z.any p = true := by
  rw [List.any_eq_true]
  exact ⟨z[k], List.getElem_mem hk, by simpa [zAt, List.getD, hk] using h⟩
theorem any_miss {z : List Int} {p : Int → Bool} (h : ∀ j, j < z.length → p (zAt z j) = false) : z.any p = false := by
  rw [List.any_eq_false]
  intro x hx
  obtain ⟨k, hk, rfl⟩ := List.mem_iff_getElem.1 hx
  have := h k hk
  simp [zAt, List.getD, hk] at this
  simp [this]
set_option maxRecDepth 20000 in
set_option maxHeartbeats 1000000 in
theorem indexInt_gen (g : Nat) (cb : Array Value) (U : Option Addr) (v : Nat) (z : List Int) (p : Int → Bool) (w : World) (hU : SZ w U z) (hz : z.length ≤ 1048576) (eg : ∀ args w, (callFunc g args).run Tryz.prog w = .ok (.enter g args) w)
    (hf : ∀ W, Below w.heap.size w W → ∀ i, i < z.length → Calls Tryz.prog g (#[.int .i64 (zAt z i)] ++ cb) W fun e w' => e = .returned (.bool (p (zAt z i))) ∧ Below W.heap.size W w') :
    Calls Tryz.prog 120 #[.slice U z.length v, .func (.func g) #[] cb] w fun e w' => ∃ r : Int, e = .returned (.int .i64 r) ∧ (0 ≤ r ↔ z.any p = true) ∧ Below w.heap.size w w' := by
  have HF := hide hf
  clear hf
  go_enter Tryz.func120, Tryz.ntmps120
  go_wp2_with fail
  go_loopw [8] (fun i wr => ∃ k : Nat, k ≤ z.length ∧ i = .int .i64 k ∧ (∀ j, j < k → p (zAt z j) = false) ∧ Below w.heap.size w wr)
    (fun i _ => z.length - (intOf i).toNat)
  case atStart => exact ⟨0, Nat.zero_le _, rfl, fun j hj => absurd hj (Nat.not_lt_zero _), Below.refl _ _⟩
  case round =>
    obtain ⟨k, hk, rfl, hG, hb⟩ := hrel
    have HG := hide hG
    clear hG
    by_cases hlt : k < z.length
    · obtain ⟨b, o, rfl, hbb, c1⟩ := hU k hlt
      have d1 := (hb.cell (p := ⟨b, o + k, none⟩) hbb).trans c1
      have KF := HF.out wr hb k hlt
      cases hi : p (zAt z k)
      · rw [hi] at KF
        have HI := hide hi
        clear hi hU c1
        go_wp2_with fail
        refine KF.mono ?_
        rintro e w1 ⟨rfl, hb1⟩
        have b1 := step_below hb1 hb
        go_wp2_with fail
        go_roundw
        case rel => exact ⟨k + 1, hlt, by go_num, fun j hj => by
          rcases Nat.lt_or_ge j k with h | h
          · exact HG.out j h
          · obtain rfl : j = k := by omega
            exact HI.out, b1⟩
        case measure => simp [intOf]; omega
      · rw [hi] at KF
        have HI := hide (any_hit hlt hi)
        clear hi hU c1
        go_wp2_with fail
        refine KF.mono ?_
        rintro e w1 ⟨rfl, hb1⟩
        have b1 := step_below hb1 hb
        go_wp2
        go_ret
        exact ⟨_, rfl, ⟨fun _ => HI.out, fun _ => by omega⟩, b1⟩
    · obtain rfl : k = z.length := by omega
      have HS := hide (any_miss HG.out)
      go_wp2
      go_ret
      exact ⟨_, rfl, ⟨fun h => absurd h (by decide), fun h => by rw [HS.out] at h; cases h⟩, hb⟩
theorem containsInt_gen (g : Nat) (cb : Array Value) (U : Option Addr) (v : Nat) (z : List Int) (p : Int → Bool) (w : World) (hU : SZ w U z) (hz : z.length ≤ 1048576) (eg : ∀ args w, (callFunc g args).run Tryz.prog w = .ok (.enter g args) w)
    (hf : ∀ W, Below w.heap.size w W → ∀ i, i < z.length → Calls Tryz.prog g (#[.int .i64 (zAt z i)] ++ cb) W fun e w' => e = .returned (.bool (p (zAt z i))) ∧ Below W.heap.size W w') :
    Calls Tryz.prog 105 #[.slice U z.length v, .func (.func g) #[] cb] w (Says (z.any p) w) := by
  go_enter Tryz.func105, Tryz.ntmps105
  go_wp2_with fail
  refine (indexInt_gen g cb U v z p w hU hz eg hf).mono ?_
  rintro e w' ⟨r, rfl, hr, hb⟩
  have HR := hide hr
  clear hr
  go_wp2
  go_ret
  refine ⟨ret_bool ?_, hb⟩
  have := HR.out
  cases hs : z.any p
  · simp
    rcases Int.lt_or_le r 0 with h | h
    · exact h
    · have := this.1 h; rw [hs] at this; cases this
  · simp [this.2 hs]
theorem exceeds1_any (g : Nat) (x a b : Int) (w : World) (h1 : w.cell? ⟨g, 1, none⟩ = some (.int .i64 b)) :
    Calls Tryz.prog 112 #[.int .i64 x, .pointer (some ⟨g, 0, none⟩)] w fun e w' => e = .returned (.bool (decide (b < x))) ∧ Below w.heap.size w w' := by
  go_enter Tryz.func112, Tryz.ntmps112
  go_wp2
  go_ret
  exact ⟨rfl, Below.refl _ _⟩
theorem all_not_any (z : List Int) (b : Int) : z.all (fun y => decide (y ≤ b)) = !z.any (fun y => decide (b < y)) := by
  rw [Bool.eq_iff_iff]
  simp
set_option maxRecDepth 20000 in
set_option maxHeartbeats 4000000 in
theorem exceeds_any (M : Nat) (C : Option Addr) (zq n : Nat) (z : List Int) (D : DataW Unit) (T : List Wp) (a b : Int) (w : World) (hown : w.ownsMap Tryz.prog 138 (plainElem Tryz.prog 2) M n D) (hD : ReadsW D T) (hZ : SZ w C z) (hz : z.length ≤ 1048576) :
    Calls Tryz.prog 91 #[.agg #[.map (some M), .slice C z.length zq], .agg #[.int .i64 a, .int .i64 b]] w (Says (!wholeB T z a b) w) := by
  obtain ⟨X, hX⟩ : ∃ X, X = (w.alloc (.cells #[.map (some M), .slice C z.length zq] 104)).alloc (.cells #[.int .i64 a, .int .i64 b] 63) := ⟨_, rfl⟩
  have hb0 : Below w.heap.size w X := by rw [hX]; exact ((Below.refl _ _).alloc (Nat.le_refl _) _).alloc (by simp) _
  have P0 : Bk X w.heap.size 104 #[.map (some M), .slice C z.length zq] := by rw [hX]; exact (Bk.new _ _ _ rfl).old _
  have P1 : Bk X (w.heap.size + 1) 63 #[.int .i64 a, .int .i64 b] := by rw [hX]; exact Bk.new _ _ _ (by simp)
  have ownX := map_keep hown hb0
  have hMl := hown.lt
  have hX1 := P1.lt
  have HD := hide hD
  have hZX := hZ.below hb0
  go_enter Tryz.func91, Tryz.ntmps91
  go_upto_region 1 with fail
  rw [← hX]
  clear hX hD
  have c0 := P0.cell (i := 0) rfl
  go_wp2_with (at_range; refine wpList_range_own _ rfl _ 102 rfl 138 2 lawP Tryz.underlying102 _ M _ _ rfl ownX ?_; intro w0 hrg0 hg0 hs0)
  go_frame
  obtain ⟨R, hR⟩ : ∃ R, R = X.heap.size := ⟨_, rfl⟩
  rw [← hR] at hrg0 ⊢
  have hbR : Below X.heap.size X w0 := (Below.refl _ _).grown hg0 (Nat.le_refl _) (fun j hj => by cases hj)
  have hRX : X.heap.size ≤ R := by omega
  clear hR hs0 c0 ownX hg0
  go_loopw [6, 10] (fun _ _ wr => ∃ (left : Lit → Bool) (cnt : Nat), wr.ranges Tryz.prog 138 (plainElem (H := Unit) Tryz.prog 2) M R n D left cnt ∧ (∀ x ∈ T, left (kP x.1 x.2.1) = false → x.2.2 ≤ a) ∧ Below X.heap.size X wr)
    (fun _ _ wr => wr.rangeLeft M R)
  case atStart =>
    refine ⟨_, _, hrg0, ?_, hbR⟩
    intro x hx h
    rw [HD.out.1 x hx] at h
    cases h
  case round =>
    obtain ⟨left, cnt, hrg, hL, hb⟩ := hrel
    have HL := hide hL
    have Q0 := P0.keep hb
    have Q1 := P1.keep hb
    have hs := hb.size
    have bw := hb0.trans (hb.mono hb0.size)
    clear hL
    go_wp2_with (at_next; refine wpList_next_ranges _ rfl _ rfl 138 lawP (plainElem (H := Unit) Tryz.prog 2) (fun x : Int × Int => .agg #[.int .i64 x.1, .int .i64 x.2]) (Value.int .i64) place_inv int_invW M R _ _ _ _ rfl hrg ?_ ?_)
    · intro hc0 hl0
      have hall : T.all (fun x => decide (x.2.2 ≤ a)) = true := by
        rw [List.all_eq_true]
        exact fun x hx => by simpa using HL.out x hx (hl0 _)
      have HW := hide (show (!wholeB T z a b) = z.any (fun y => decide (b < y)) by rw [wholeB, hall, Bool.true_and, all_not_any, Bool.not_not])
      have c1 := Q0.cell (i := 1) rfl
      have KC := containsInt_gen 112 #[.pointer (some ⟨w.heap.size + 1, 0, none⟩)] C zq z (fun y => decide (b < y)) wr (hZX.below hb) hz (fun args w => by rfl) (fun W hW i hi => exceeds1_any (w.heap.size + 1) _ a b W ((Q1.keep hW).cell (i := 1) rfl))
      clear hl0 hall
      go_wp2_with fail
      refine KC.mono ?_
      rintro e w2 ⟨rfl, hb2⟩
      have b2 := step_below hb2 bw
      go_wp2
      go_ret
      exact ⟨ret_bool HW.out.symm, b2⟩
    · intro x1 x2 cc kl yd yp w1 cnt1 hkey hlk hv hat hrg1 hlt hg1 hs1 hen
      obtain ⟨y, hyT, hky⟩ := HD.out.2.2 kl (has_true_of_atKey hat)
      have hcc : cc = y.2.2 := by
        obtain ⟨c', e1, e2, _⟩ := plainElem_int_inv Tryz.underlying2 hv
        have h1 := hat (.map [])
        have h2 := HD.out.2.1 y hyT (.map [])
        rw [← hky, h1] at h2
        simp at e1 e2
        rw [e2.1, ← e1] at h2
        simpa using h2
      subst hcc
      have Q11 := Q1.grown hg1 (fun e => by have e' : R = w.heap.size + 1 := Option.some.inj e; omega)
      have hb1 := hb.grown hg1 hb.size (fun j hj => by cases hj; exact hRX)
      have c0 := Q11.cell (i := 0) rfl
      by_cases hgt : a < y.2.2
      · have HW := hide (show (!wholeB T z a b) = true by
          have : T.all (fun x => decide (x.2.2 ≤ a)) = false := by
            rw [List.all_eq_false]
            exact ⟨y, hyT, by simpa using hgt⟩
          rw [wholeB, this]
          rfl)
        have hb1w := hb0.trans (hb1.mono hb0.size)
        go_wp2
        go_ret
        exact ⟨ret_bool HW.out.symm, hb1w⟩
      · have HN : Hid (∀ x ∈ T, (left (kP x.1 x.2.1) && !(kP x.1 x.2.1).sameKey kl) = false → x.2.2 ≤ a) := hide (fun x hx h => by
          cases hl : left (kP x.1 x.2.1)
          · exact HL.out x hx hl
          · rw [hl] at h
            simp at h
            have hk := WideAt.sameKey_eq h
            have h1 := HD.out.2.1 x hx (.map [])
            have h2 := HD.out.2.1 y hyT (.map [])
            rw [hk, hky, h2] at h1
            simp at h1
            omega)
        go_wp2
        go_roundw
        case rel => exact ⟨_, _, hrg1, HN.out, hb1⟩
        case measure => rw [hrg1.left_eq, hrg.left_eq]; exact hlt
end Go.Proofs.YtcocfnjbgceidaaGreat
namespace Go.Proofs.YtcocfnjbgceidaaGreat
open Go.RowKit Go.Maps
theorem wp_entryStore {P : Program} {o : Oper} {a : Act} {w : World} {K : Act → World → Prop} {Q : Exit → Act → World → Prop} (m s x : Operand) (t : TypeId) (hop : o.op = Op.entryStore t m s x) (vm vs vx : Value) (hm : a.eval m = vm) (hs : a.eval s = vs) (hx : a.eval x = vx) (w' : World)
    (hrun : (Instr.entryStore t vm vs vx).run P w = .ok () w') (hK : K (a.put o.dst undef) w') : o.wp P a w K Q := by
  unfold Oper.wp
  simp [execOp, hop, hm, hs, hx, hrun, Result.andThen]
  exact hK
def tuC (T : List Wp) (z : List Int) (t : Int) : Int := if wholeB (turT T t) (turZ T z t) 1000000 1000000 then 0 else 3
theorem cntS_le (T : List Wp) (S : Wp → Bool) (k : Int) : cntS T S k ≤ T.length := List.countP_le_length
theorem readsW_ne {D D' : DataW Unit} {T : List Wp} (h : ReadsW D T) : ReadsW D T := h
set_option maxRecDepth 20000 in
set_option maxHeartbeats 8000000 in
theorem turn_any (s : Int) (n base : Nat) (C : Option Addr) (q M N : Nat) (T : List Wp) (z : List Int) (t : Int) (w : World) (hs : s ≤ 96) (hn : n ≤ 24) (hSt : WSt s n base C q M N T z w) (hbase : base ≤ w.heap.size) (ht : 0 ≤ t ∧ t ≤ 1000000) (g2 : Nat → Nat) (t2 : Nat → TypeId) (cs2 : Nat → Array Value) (hB : Bkf w g2 t2 cs2) (ht2 : ∀ i, t2 i ≠ 2) :
    Calls Tryz.prog 161 #[.agg #[.map (some M), .slice C n q], .int .i64 t] w (OnP s n base C q M N (turT T t) (turZ T z t) (tuC T z t) g2 t2 cs2 w) := by
  obtain ⟨X, hX⟩ : ∃ X, X = w.alloc (.cells #[.map (some M), .slice C n q] 104) := ⟨_, rfl⟩
  have hb0 : Below w.heap.size w X := by rw [hX]; exact (Below.refl _ _).alloc (Nat.le_refl _) _
  have P0 : Bk X w.heap.size 104 #[.map (some M), .slice C n q] := by rw [hX]; exact Bk.new _ _ _ rfl
  obtain ⟨D, hM, hD, hI, hO, hzn, hv, hvz, hbM⟩ := hSt
  obtain ⟨ht0, ht1⟩ := ht
  have hlen := hv.length hs hn
  have h8 := hv.in8 hs hn
  have ownX := map_keep hM hb0
  have oX := own_keep hO hb0
  have BX := hB.keep hb0
  have hMl := hM.lt
  have hX1 := P0.lt
  have HD := hide hD
  have HV := hide hv
  have HVZ := hide hvz
  have H8 := hide h8
  have hOB := hO.lt
  have hneM2 := fun i => map_ne_bk ownX (BX i)
  have hneMO := fun g (h : (Value.slice C n q).ownBlock = some g) => map_ne_own ownX oX g h
  have hneO2 : ∀ i, (Value.slice C n q).ownBlock ≠ some (g2 i) := fun i => own_neW oX (BX i) (ht2 i)
  have hg2 := fun i => (hB i).lt
  clear hD hv hvz h8 hM hO
  go_enter Tryz.func161, Tryz.ntmps161
  go_upto_region 1 with fail
  rw [← hX]
  clear hX
  have c0 := P0.cell (i := 0) rfl
  go_wp2_with (at_range; refine wpList_range_own _ rfl _ 102 rfl 138 2 lawP Tryz.underlying102 _ M _ _ rfl ownX ?_; intro w0 hrg0 hg0 hs0)
  go_frame
  obtain ⟨R, hR⟩ : ∃ R, R = X.heap.size := ⟨_, rfl⟩
  rw [← hR] at hrg0 ⊢
  have hRX : X.heap.size ≤ R := by omega
  have hwR : w.heap.size < R := by omega
  have P0' := P0.grown hg0 (by simp)
  have oX' := oX.kept hg0 (by cases hh : (Value.slice C n q).ownBlock <;> simp)
  have BX' := BX.grown hg0 (fun i => by simp)
  have hbR := (hb0.mono hbase).grown hg0 (Nat.le_trans hbase hb0.size) (fun j hj => by cases hj)
  clear hR hs0 c0 ownX hg0 P0 oX BX
  go_loopw [5, 9] (fun _ _ wr => ∃ (left : Lit → Bool) (cnt : Nat) (Dc : DataW Unit), wr.ranges Tryz.prog 138 (plainElem (H := Unit) Tryz.prog 2) M R N Dc left cnt ∧ ReadsW Dc (turTd T t (fun x => !left (kP x.1 x.2.1))) ∧ IsMap Dc ∧ wr.ownsRow base 2 1 (.slice C n q) n (icells (turZd T z t (fun x => !left (kP x.1 x.2.1)))) ∧ Bk wr w.heap.size 104 #[.map (some M), .slice C n q] ∧ Bkf wr g2 t2 cs2 ∧ w.heap.size < wr.heap.size ∧ Below base w wr)
    (fun _ _ wr => wr.rangeLeft M R)
  case atStart =>
    have e : ∀ x ∈ T, (!(has D (kP x.1 x.2.1))) = false := fun x hx => by rw [HD.out.1 x hx]; rfl
    exact ⟨_, _, D, hrg0, by rw [turTd_none T t _ e]; exact HD.out, hI, by rw [turZd_none T z t _ e]; exact oX', P0', BX', P0'.lt, hbR⟩
  case round =>
    obtain ⟨left, cnt, Dc, hrg, hRd, hIc, hrow, B1, B2, hsz, hb⟩ := hrel
    have HRd := hide hRd
    clear hRd
    go_wp2_with (at_next; refine wpList_next_ranges _ rfl _ rfl 138 lawP (plainElem (H := Unit) Tryz.prog 2) (fun x : Int × Int => .agg #[.int .i64 x.1, .int .i64 x.2]) (Value.int .i64) place_inv int_invW M R _ _ _ _ rfl hrg ?_ ?_)
    · intro hc0 hl0
      have e : ∀ x ∈ T, (!(left (kP x.1 x.2.1))) = true := fun x hx => by rw [hl0]; rfl
      have hRd := HRd.out
      rw [turTd_all T t _ e] at hRd
      rw [turZd_all T z t _ e] at hrow
      have hzl : (turZ T z t).length = n := by rw [turZ_len, hzn]
      have KE := exceeds_any M C q N (turZ T z t) Dc (turT T t) 1000000 1000000 wr hrg.owns hRd (SZ.of_own (c := q) (by rw [hzl]; exact hrow)) (by omega)
      rw [hzl] at KE
      have HRd2 := hide hRd
      have hown2 := hrg.owns
      have c0 := B1.cell (i := 0) rfl
      have c1 := B1.cell (i := 1) rfl
      clear hl0 e hRd
      cases hw : wholeB (turT T t) (turZ T z t) 1000000 1000000
      · rw [hw] at KE
        have HC := hide (show tuC T z t = 3 by simp [tuC, hw])
        clear hw
        go_wp2_with (first | (with_reducible refine wpList_build0 rfl rfl ?_))
        refine KE.mono ?_
        rintro e w2 ⟨rfl, hb2⟩
        have b2 := hb.trans (hb2.mono (by have := hb.size; omega))
        go_wp2
        go_ret
        exact ⟨by rw [HC.out]; rfl, fun h => absurd h (by rw [HC.out]; decide), B2.keep hb2, b2⟩
      · rw [hw] at KE
        have HC := hide (show tuC T z t = 0 by simp [tuC, hw])
        have HW := hide hw
        clear hw
        go_wp2_with (first | (with_reducible refine wpList_build0 rfl rfl ?_))
        refine KE.mono ?_
        rintro e w2 ⟨rfl, hb2⟩
        have b2 := hb.trans (hb2.mono (by have := hb.size; omega))
        go_wp2
        go_ret
        refine ⟨by rw [HC.out]; rfl, fun _ => ⟨Dc, map_keep hown2 hb2, HRd2.out, hIc, own_keep hrow hb2, hzl, ?_, ?_, hbM⟩, B2.keep hb2, b2⟩
        · have hwt := HW.out
          simp only [wholeB, Bool.and_eq_true, List.all_eq_true, decide_eq_true_eq] at hwt
          refine ⟨?_, fun x hx => ?_⟩
          · have := turTd_asc HV.out.1 t (fun _ => true)
            rwa [turTd_all T t _ (fun _ _ => rfl)] at this
          · have h2 := hwt.1 x hx
            obtain ⟨x0, hx0, rfl⟩ := List.mem_map.1 hx
            have h3 := HV.out.2 x0 hx0
            exact ⟨h3.1, by dsimp only; omega, h2⟩
        · have hwt := HW.out
          simp only [wholeB, Bool.and_eq_true, List.all_eq_true, decide_eq_true_eq] at hwt
          intro y hy
          refine ⟨?_, hwt.2 y hy⟩
          obtain ⟨k, hk, rfl⟩ := List.mem_map.1 hy
          have hk' := List.mem_range.1 hk
          have h4 := HVZ.out z[k] (List.getElem_mem hk')
          have h5 : zAt z k = z[k] := by simp [zAt, List.getD, hk']
          have h6 : 0 ≤ t * (cntP T (k : Int) : Int) := Int.mul_nonneg ht0 (by omega)
          rw [h5]
          omega
    · intro x1 x2 cc kl yd yp w1 cnt1 hkey hlk hv hat hrg1 hlt hg1 hs1 hen
      obtain ⟨x', hx', hky⟩ := HRd.out.2.2 kl (has_true_of_atKey hat)
      obtain ⟨y, hyT, hxy⟩ := turTd_mem.1 hx'
      have hpl := turTd_place (S := fun x => !left (kP x.1 x.2.1)) t y
      rw [← hxy] at hpl
      rw [hpl.1, hpl.2] at hky
      have hS0 : (!left (kP y.1 y.2.1)) = false := by rw [← hky, hlk]; rfl
      rw [if_neg (by rw [hS0]; decide)] at hxy
      subst hxy
      obtain ⟨y1, y2⟩ := H8.out x' hyT
      have hpj := key_place _ _ (i64_of8 y1) (i64_of8 y2)
      rw [← hky] at hpj
      have hxe : x1 = x'.1 ∧ x2 = x'.2.1 := by simpa using lawP.inj hkey hpj
      have hvT := HV.out.2 x' hyT
      have hpw := plW_iff.1 hvT.1
      have HS' : ∀ x ∈ T, (!(left (kP x.1 x.2.1) && !(kP x.1 x.2.1).sameKey kl)) = ((!left (kP x.1 x.2.1)) || atP x'.1 x'.2.1 x) := fun x hx => by
        obtain ⟨z1, z2⟩ := H8.out x hx
        have hkx := lawP.key (key_place _ _ (i64_of8 z1) (i64_of8 z2))
        cases ha : atP x'.1 x'.2.1 x
        · have hne : kP x.1 x.2.1 ≠ kl := fun e => by
            rw [hky] at e
            have := kP_inj (i64_of8 z1) (i64_of8 z2) (i64_of8 y1) (i64_of8 y2) e
            rw [atP_iff.2 this] at ha
            cases ha
          rw [sameKey_ne hne]
          simp
        · obtain ⟨e1, e2⟩ := atP_iff.1 ha
          rw [e1, e2, ← hky, WideAt.sameKey_self (by rw [hky]; exact lawP.key (key_place _ _ (i64_of8 y1) (i64_of8 y2)))]
          simp
      obtain ⟨k, hk⟩ : ∃ k : Nat, x'.2.1 = (k : Int) := ⟨x'.2.1.toNat, by omega⟩
      have hkn : k < n := by omega
      have HRS := hide (readsW_tur (S' := fun x => !(left (kP x.1 x.2.1) && !(kP x.1 x.2.1).sameKey kl)) HV.out.1 H8.out hyT hS0 HS' HRd.out hIc)
      have HZS := hide (turZd_step (S' := fun x => !(left (kP x.1 x.2.1) && !(kP x.1 x.2.1).sameKey kl)) HV.out.1 hyT hS0 HS' z t (show k < z.length by omega) hk)
      have hzd := turZd_at T z t (fun x => !left (kP x.1 x.2.1)) (show k < z.length by omega)
      have hcb := cntS_le T (fun x => !left (kP x.1 x.2.1)) (k : Int)
      have hzk := HVZ.out z[k] (List.getElem_mem (show k < z.length by omega))
      have hze : zAt z k = z[k] := by simp [zAt, List.getD, show k < z.length by omega]
      have hm0 : 0 ≤ t * (cntS T (fun x => !left (kP x.1 x.2.1)) (k : Int) : Int) := Int.mul_nonneg ht0 (by omega)
      have hm1 : t * (cntS T (fun x => !left (kP x.1 x.2.1)) (k : Int) : Int) ≤ 1000000 * 2304 := Int.mul_le_mul ht1 (by omega) (by omega) (by omega)
      obtain ⟨u, hu⟩ : ∃ u, u = zAt (turZd T z t (fun x => !left (kP x.1 x.2.1))) k := ⟨_, rfl⟩
      rw [← hu] at hzd HZS
      have hub : 0 ≤ u ∧ u ≤ 2305000000 := by omega
      have hwu : IntKind.i64.wrap (u + t) = u + t := IntWalk.i64_in _ (by omega)
      have hwt : IntKind.i64.wrap (x'.2.2 + t) = x'.2.2 + t := IntWalk.i64_in _ (by omega)
      have hhas := has_true_of_atKey hat
      have hatv := HRd.out.2.1 x' (turTd_mem.2 ⟨x', hyT, by rw [if_neg (by rw [hS0]; decide)]⟩) (.map [])
      rw [← hky] at HRS hatv
      have hcell : (icells (turZd T z t (fun x => !left (kP x.1 x.2.1))))[k]? = some (.int .i64 u) := by rw [hu]; exact icells_get _ k (by rw [turZd_len]; omega)
      obtain ⟨xa, xb, xc⟩ := x'
      simp only at hxe hk hvT hwt HRS HZS hatv y1 y2
      obtain ⟨rfl, rfl⟩ := hxe
      subst hk
      have B11 := B1.grown hg1 (fun e => by have e' : R = w.heap.size := Option.some.inj e; omega)
      have B21 := B2.grown hg1 (fun i e => by have e' : R = g2 i := Option.some.inj e; have := hg2 i; omega)
      have row1 := hrow.kept hg1 (Or.inr (Go.row_ne_iter hrow hrg).symm)
      have hb1 := hb.grown hg1 (by have := hb.size; omega) (fun j hj => by cases hj; omega)
      have hsz1 : w.heap.size < w1.heap.size := by omega
      clear hky hpj hS0 HS' hzd hcb hzk hze hm0 hm1 hu hpl hx' hpw hrow B1 B2 hs1
      obtain ⟨Yk, hYk⟩ : ∃ Yk, Yk = w1.alloc (.cells #[.int .i64 x1, .int .i64 (k : Int)] 138) := ⟨_, rfl⟩
      have hbk : Below w1.heap.size w1 Yk := by rw [hYk]; exact (Below.refl _ _).alloc (Nat.le_refl _) _
      have K0 : Bk Yk w1.heap.size 138 #[.int .i64 x1, .int .i64 (k : Int)] := by rw [hYk]; exact Bk.new _ _ _ rfl
      go_upto_region 4 with fail
      rw [← hYk]
      clear hYk hen
      obtain ⟨v2, hv2⟩ : ∃ X, X = Yk.drew := ⟨_, rfl⟩
      have hd2 : Below Yk.heap.size Yk v2 := by rw [hv2]; exact (Below.refl _ _).drew
      have tb2 := hbk.trans (hd2.mono hbk.size)
      have B12 := B11.keep tb2
      have K2 := K0.keep hd2
      have hrg2 := ranges_below hrg1 tb2
      obtain ⟨es, clock, v0, st, yv, hes, hv0, hatz, hlook, hstore⟩ := ranges_entry hrg2 lawP Tryz.underlying102 hkey hhas
      obtain ⟨c0, rfl, hc0, _⟩ := plainElem_int_inv Tryz.underlying2 hv0
      have hc1 : c0 = xc := by
        have h1 := hatz (.map [])
        rw [hatv] at h1
        rw [hc0] at h1
        simpa using h1.symm
      subst hc1
      clear hc0 hv0 hatz hatv hat
      have q0 := B12.cell (i := 0) rfl
      have q1 := K2.cell (i := 0) rfl
      have q2 := K2.cell (i := 1) rfl
      have q3 := (hlook v2 hes).1
      have q6 := (hlook v2 hes).2
      refine wp_region_still_tail 8 (by kernel_rfl) (by kernel_rfl) ?_
      change wpStill _ _ Yk.drew (fun a' => wpList _ _ _ _ a' Yk.drew) _ _
      simp only [List.take_succ_cons, List.take_zero, List.drop_succ_cons, List.drop_zero]
      rw [← hv2]
      clear hv2 hlook
      repeat still_step
      refine wpStill_nil ?_
      obtain ⟨v3, hr3, hrg3, hgr3, hsz3⟩ := hstore (.int .i64 (c0 + t)) (.lit (.int .i64 (c0 + t))) [] v2 (plainElem_int Tryz.underlying2 (wf64 (by omega))) hrg2 hes
      have B13 := B12.grown hgr3 (fun e => by have e' : M = w.heap.size := Option.some.inj e; omega)
      have K3 := K2.grown hgr3 (fun e => by have e' : M = w1.heap.size := Option.some.inj e; omega)
      have B23 := (B21.keep tb2).grown hgr3 (fun i e => by have e' : M = g2 i := Option.some.inj e; exact hneM2 i e'.symm)
      have row3 := (own_keep row1 tb2).kept hgr3 (Or.inr (by
        intro e
        exact hneMO M e rfl))
      have hb3 : Below base w v3 := (hb1.trans (tb2.mono (by have := hb1.size; omega))).grown hgr3 (by have := hb1.size; have := tb2.size; omega) (fun j hj => by cases hj; exact hbM)
      have hsz4 : w.heap.size < v3.heap.size := by have := tb2.size; omega
      refine wpList_plain rfl fun K' hK' => ?_
      refine wp_entryStore (.tmp 14) (.tmp 20) (.tmp 18) 102 rfl _ _ _ rfl rfl rfl v3 hr3 ?_
      refine hK' _ _ ?_
      have b1 := B13.cell (i := 1) rfl
      have p1 := K3.cell (i := 1) rfl
      obtain ⟨gs, rfl⟩ : ∃ gs, C = some ⟨gs, 0, none⟩ := by
        rcases row3.2 with ⟨h', h0⟩ | ⟨g', cap, cur, h', hgb, _⟩
        · omega
        · simp at h'
          exact ⟨g', h'.1⟩
      have ck := (row3.cellAt k (by omega)).trans hcell
      have fk := row3.frozenAt k
      have hki : (k : Int) < (n : Int) := by omega
      have hgs := row3.lt gs rfl
      have hsM := hneMO gs rfl
      have row4 := (row3.stored k (.int .i64 (u + t))).1
      rw [icells_set, ← HZS.out] at row4
      have HR4 := hide row4
      have hrg4 := hrg3.kept (row := some gs) (w' := v3.setCell ⟨gs, k, none⟩ (.int .i64 (u + t))) (grown_set (grown_refl _ _)) (by simpa using fun e => hsM e.symm) (by
        intro e
        exact (Go.row_ne_iter row3 hrg3) (by simpa [Value.ownBlock, eq_comm] using e))
      have B14 := B13.other (k := k) (show w.heap.size ≠ gs from fun e => own_neW row3 B13 (by decide) (by rw [e]; rfl)) (.int .i64 (u + t))
      have B24 := B23.other (k := k) (show ∀ i, g2 i ≠ gs from fun i e => own_neW row3 (B23 i) (ht2 i) (by rw [e]; rfl)) (.int .i64 (u + t))
      have hb4 := hb3.setCell (p := ⟨gs, k, none⟩) (show base ≤ gs from hgs.1) (.int .i64 (u + t))
      have HG4 := hide hrg4
      have HB1 := hide B14
      have HB2 := hide B24
      have HI := hide (hIc.put kl (.lit (.int .i64 (c0 + t))))
      have hszz : w.heap.size < (v3.setCell ⟨gs, k, none⟩ (.int .i64 (u + t))).heap.size := by simpa using hsz4
      clear q0 q1 q2 q3 q6 hrg3 hrg4 B14 B24 B13 B23 row4 row1 hb1 hrg1 hrg2 B12 B21 B11 hes
      go_wp2
      go_roundw
      case rel => exact ⟨_, _, _, HG4.out, HRS.out, HI.out, HR4.out, HB1.out, HB2.out, hszz, hb4⟩
      case measure => rw [HG4.out.left_eq, hrg.left_eq]; exact hlt
end Go.Proofs.YtcocfnjbgceidaaGreat
namespace Go.Proofs.YtcocfnjbgceidaaGreat
open Go.RowKit Go.Maps
/-- what turning comes to -/
def trC (T : List Wp) (z : List Int) (a : Int) : Int := if inB a 0 1000000 then tuC T z a else 2
theorem OnP.succ {s : Int} {n base : Nat} {C : Option Addr} {q M N : Nat} {T : List Wp} {z : List Int} {c : Int} {g2 : Nat → Nat} {t2 : Nat → TypeId} {cs2 : Nat → Array Value} {w : World} {e : Ending} {w' : World} (h : OnP s n base C q M N T z c g2 t2 cs2 w e w') : OnP s n base C q M (N + 1) T z c g2 t2 cs2 w e w' := by
  obtain ⟨h1, h2, h3, h4⟩ := h
  refine ⟨h1, fun hc => ?_, h3, h4⟩
  obtain ⟨D, hM, hr⟩ := h2 hc
  exact ⟨D, hM.mono (Nat.le_succ _), hr⟩
set_option maxRecDepth 20000 in
set_option maxHeartbeats 4000000 in
theorem turningOn_any (s : Int) (A : Option Addr) (n c M q N base : Nat) (C : Option Addr) (T : List Wp) (z : List Int) (a : Int) (w : World) (hs : s ≤ 96) (hn : n ≤ 24) (hs' : -32768 ≤ s) (hSt : WSt s n base C q M N T z w) (hbase : base ≤ w.heap.size) (hN : N ≤ 1099511627776) (g2 : Nat → Nat) (t2 : Nat → TypeId) (cs2 : Nat → Array Value) (hB : Bkf w g2 t2 cs2) (ht2 : ∀ i, t2 i ≠ 2) :
    Calls Tryz.prog 164 #[.agg #[.int .i64 a], .agg #[.int .i64 s, .slice A n c, .map (some M), .slice C n q]] w (OnP s n base C q M (N + 1) (turT T a) (turZ T z a) (trC T z a) g2 t2 cs2 w) := by
  obtain ⟨X, hX⟩ : ∃ X, X = (w.alloc (.cells #[.int .i64 a] 171)).alloc (.cells #[.int .i64 s, .slice A n c, .map (some M), .slice C n q] 106) := ⟨_, rfl⟩
  have bX : Below w.heap.size w X := by rw [hX]; exact ((Below.refl _ _).alloc (Nat.le_refl _) _).alloc (by simp) _
  have R0 : Bk X w.heap.size 171 #[.int .i64 a] := by rw [hX]; exact (Bk.new _ _ _ rfl).old _
  have W0 : Bk X (w.heap.size + 1) 106 #[.int .i64 s, .slice A n c, .map (some M), .slice C n q] := by rw [hX]; exact Bk.new _ _ _ (by simp)
  have St0 := hSt.keep bX
  have B0 := hB.keep bX
  have hX2 := W0.lt
  go_enter Tryz.func164, Tryz.ntmps164
  go_upto_region 1 with fail
  rw [← hX]
  clear hX
  have r0 := R0.cell (i := 0) rfl
  have KW := fun W => within_any a 0 1000000 W
  cases hin : inB a 0 1000000
  · rw [hin] at KW
    have HC := hide (show trC T z a = 2 by simp [trC, hin])
    clear hin
    go_wp2_with (go_at_call 73; with_reducible refine (KW _).mono ?_; rintro e w' ⟨rfl, rfl⟩)
    go_ret
    exact ⟨by rw [HC.out]; rfl, fun h => absurd h (by rw [HC.out]; decide), B0, bX.mono hbase⟩
  · rw [hin] at KW
    have HC := hide (show trC T z a = tuC T z a by simp [trC, hin])
    have hia : 0 ≤ a ∧ a ≤ 1000000 := by simpa [inB] using hin
    have w2_ := W0.cell (i := 2) rfl
    have w3_ := W0.cell (i := 3) rfl
    have KT := turn_any s n base C q M N T z a X hs hn St0 (Nat.le_trans hbase bX.size) hia g2 t2 cs2 B0 ht2
    clear hin hia
    go_wp2_with (go_at_call 73; with_reducible refine (KW _).mono ?_; rintro e w' ⟨rfl, rfl⟩)
    refine KT.mono ?_
    rintro e w3 h3
    have h4 := h3.succ
    obtain ⟨rfl, hst, B3, hb3⟩ := h4
    have HST := hide hst
    clear hst h3
    go_wp2
    go_ret
    exact ⟨by rw [HC.out]; rfl, fun h => HST.out (by rw [HC.out] at h; exact h), B3, (bX.mono hbase).trans hb3⟩
set_option maxRecDepth 20000 in
set_option maxHeartbeats 4000000 in
theorem deed_turn (a b c2 d2 : Int) (w : World) :
    Calls Tryz.prog 87 #[.agg #[.int .i8 0, .int .i64 a, .int .i64 b, .int .i64 c2, .int .i64 d2]] w fun e w' => e = .returned (.iface 171 (.agg #[.int .i64 a])) ∧ Below w.heap.size w w' := by
  have hb0 : Below w.heap.size w (w.alloc (.cells #[.int .i8 0, .int .i64 a, .int .i64 b, .int .i64 c2, .int .i64 d2] 55)) := (Below.refl _ _).alloc (Nat.le_refl _) _
  go_enter Tryz.func87, Tryz.ntmps87
  go_wp2
  go_ret
  exact ⟨rfl, hb0⟩
set_option maxRecDepth 20000 in
set_option maxHeartbeats 4000000 in
theorem do_turn (s : Int) (A : Option Addr) (n c M q N base : Nat) (C : Option Addr) (T : List Wp) (z : List Int) (a b c2 d2 : Int) (w : World) (hs : s ≤ 96) (hn : n ≤ 24) (hs' : -32768 ≤ s) (hSt : WSt s n base C q M N T z w) (hbase : base ≤ w.heap.size) (hN : N ≤ 1099511627776) (g2 : Nat → Nat) (t2 : Nat → TypeId) (cs2 : Nat → Array Value) (hB : Bkf w g2 t2 cs2) (ht2 : ∀ i, t2 i ≠ 2) :
    Calls Tryz.prog 63 #[.agg #[.int .i64 s, .slice A n c, .map (some M), .slice C n q], .agg #[.int .i8 0, .int .i64 a, .int .i64 b, .int .i64 c2, .int .i64 d2]] w (OnP s n base C q M (N + 1) (turT T a) (turZ T z a) (trC T z a) g2 t2 cs2 w) := by
  obtain ⟨X, hX⟩ : ∃ X, X = (w.alloc (.cells #[.int .i64 s, .slice A n c, .map (some M), .slice C n q] 106)).alloc (.cells #[.int .i8 0, .int .i64 a, .int .i64 b, .int .i64 c2, .int .i64 d2] 55) := ⟨_, rfl⟩
  have bX : Below w.heap.size w X := by rw [hX]; exact ((Below.refl _ _).alloc (Nat.le_refl _) _).alloc (by simp) _
  have W0 : Bk X w.heap.size 106 #[.int .i64 s, .slice A n c, .map (some M), .slice C n q] := by rw [hX]; exact (Bk.new _ _ _ rfl).old _
  have A0 : Bk X (w.heap.size + 1) 55 #[.int .i8 0, .int .i64 a, .int .i64 b, .int .i64 c2, .int .i64 d2] := by rw [hX]; exact Bk.new _ _ _ (by simp)
  have St0 := hSt.keep bX
  have B0 := hB.keep bX
  go_enter Tryz.func63, Tryz.ntmps63
  go_upto_region 1 with fail
  rw [← hX]
  clear hX
  have c0 := A0.cell (i := 0) rfl
  have c1 := A0.cell (i := 1) rfl
  have c2_ := A0.cell (i := 2) rfl
  have c3 := A0.cell (i := 3) rfl
  have c4 := A0.cell (i := 4) rfl
  go_wp2_with fail
  clear c0 c1 c2_ c3 c4
  refine (deed_turn a b c2 d2 _).mono ?_
  rintro e w2 ⟨rfl, hb2⟩
  have b2 := step_below hb2 bX
  have W2 := W0.keep hb2
  have c0 := W2.cell (i := 0) rfl
  have c1 := W2.cell (i := 1) rfl
  have c2_ := W2.cell (i := 2) rfl
  have c3 := W2.cell (i := 3) rfl
  have KR := turningOn_any s A n c M q N base C T z a w2 hs hn hs' (St0.keep hb2) (Nat.le_trans hbase b2.size) hN g2 t2 cs2 (B0.keep hb2) ht2
  have hm : ∀ (k : Nat) W, (method (k + 1) 171 (.agg #[.int .i64 a]) "loop.example/g01311/impl.on").run Tryz.prog W = .ok (164, .agg #[.int .i64 a]) W := fun k W => rfl
  go_wp2_with fail
  refine KR.mono ?_
  rintro e w3 ⟨rfl, hst3, B3, hb3⟩
  go_wp2
  go_ret
  exact ⟨rfl, hst3, B3, (b2.mono hbase).trans hb3⟩
set_option maxRecDepth 20000 in
set_option maxHeartbeats 4000000 in
theorem deed_none (k a b c2 d2 : Int) (w : World) (hk : -128 ≤ k ∧ k ≤ 127) (h : k < 0 ∨ 3 < k) :
    Calls Tryz.prog 87 #[.agg #[.int .i8 k, .int .i64 a, .int .i64 b, .int .i64 c2, .int .i64 d2]] w fun e w' => e = .returned .nilIface ∧ Below w.heap.size w w' := by
  have hb0 : Below w.heap.size w (w.alloc (.cells #[.int .i8 k, .int .i64 a, .int .i64 b, .int .i64 c2, .int .i64 d2] 55)) := (Below.refl _ _).alloc (Nat.le_refl _) _
  have n0 : (k == 0) = false := by simp; omega
  have n1 : (k == 1) = false := by simp; omega
  have n2 : (k == 2) = false := by simp; omega
  have n3 : (k == 3) = false := by simp; omega
  go_enter Tryz.func87, Tryz.ntmps87
  go_wp2
  go_ret
  exact ⟨rfl, hb0⟩
end Go.Proofs.YtcocfnjbgceidaaGreat
namespace Go.Proofs.YtcocfnjbgceidaaGreat
open Go.RowKit Go.Maps
/-- how many strokes each hammer makes in a turn, of the first pins -/
def eachL (T : List Wp) (n k : Nat) : List Int := (List.range n).map fun (t : Nat) => ((cntP (T.take k) (t : Int) : Nat) : Int)
theorem eachL_len (T : List Wp) (n k : Nat) : (eachL T n k).length = n := by simp [eachL]
theorem eachL_at (T : List Wp) (n k t : Nat) (h : t < n) : zAt (eachL T n k) t = ((cntP (T.take k) (t : Int) : Nat) : Int) := by simp [eachL, zAt, List.getD, h]
theorem eachL_zero (T : List Wp) (n : Nat) : eachL T n 0 = List.replicate n 0 := by
  apply List.ext_getElem
  · simp [eachL]
  · intro i h1 h2
    simp [eachL, cntP]
theorem eachL_step (T : List Wp) (n k : Nat) (hk : k < T.length) (t : Nat) (ht : t < n) (he : wnT T k = (t : Int)) : eachL T n (k + 1) = (eachL T n k).set t (zAt (eachL T n k) t + 1) := by
  apply List.ext_getElem
  · simp [eachL]
  · intro j h1 h2
    have hj : j < n := by simpa [eachL] using h1
    have e : ∀ m, (eachL T n m)[j]'(by simpa [eachL] using hj) = ((cntP (T.take m) (j : Int) : Nat) : Int) := fun m => by simp [eachL]
    have hT : ((T)[k]).2.1 = (t : Int) := by rw [← he]; simp [wnT, List.getD, hk]
    have e2 : cntP (T.take (k + 1)) (j : Int) = cntP (T.take k) (j : Int) + if t = j then 1 else 0 := by
      unfold cntP
      rw [List.take_succ_eq_append_getElem hk, List.countP_append, List.countP_singleton]
      congr 1
      by_cases hj2 : t = j
      · subst hj2
        simp [hT]
      · rw [if_neg hj2]
        simp [hT]
        omega
    rw [List.getElem_set, e, e2]
    by_cases htj : t = j
    · subst htj
      rw [if_pos rfl, if_pos rfl, eachL_at T n k t ht]
      simp
    · rw [if_neg htj, if_neg htj, e]
      simp
theorem cntP_le (T : List Wp) (k : Int) : cntP T k ≤ T.length := List.countP_le_length
set_option maxRecDepth 20000 in
set_option maxHeartbeats 2000000 in
theorem l06Each_any (g : Nat) (P : Option Addr) (d : Nat) (T : List Wp) (U : Option Addr) (v : Nat) (z : List Int) (w : World) (h1 : w.cell? ⟨g, 0, none⟩ = some (.slice P T.length d)) (h2 : w.cell? ⟨g, 1, none⟩ = some (.slice U z.length v)) (hL : WnA w P T) (hl : T.length ≤ 1048576) (hz : z.length ≤ 1048576) (hT : ∀ k, k < T.length → 0 ≤ wnT T k ∧ wnT T k < z.length) (hlw : WnWF T) :
    Calls Tryz.prog 92 #[.pointer (some ⟨g, 0, none⟩)] w (OwnI w (eachL T z.length T.length)) := by
  obtain ⟨i0, hi, hz0, hz1, hz2⟩ := info_parts info2
  have hgw : g < w.heap.size := World.block_lt_of_cell? w _ h1
  go_enter Tryz.func92, Tryz.ntmps92
  go_wp2_with (at_make; refine wpList_make_full _ rfl _ _ 27 rfl w.heap.size 2 i0 _ 1 Tryz.underlying27 hi hz0 hz1 _ _ _ _ z.length rfl rfl (by omega) (by omega) (by rw [hz2]; omega) (by unfold maxLen; omega) (by simp) ?_; intro w1 hown1 hgrow1)
  have hb0 : Below w.heap.size w w1 := (Below.refl _ _).grown hgrow1 (Nat.le_refl _) (fun j e => by cases e)
  clear hgrow1
  go_loopw [4] (fun i wr => ∃ k : Nat, k ≤ T.length ∧ i = .int .i64 k ∧ wr.ownsRow w.heap.size 2 1 (.slice (some ⟨w.heap.size, 0, none⟩) z.length z.length) z.length (icells (eachL T z.length k)) ∧ Below w.heap.size w wr)
    (fun i _ => T.length - (intOf i).toNat)
  case atStart =>
    refine ⟨0, Nat.zero_le _, rfl, ?_, hb0⟩
    rw [Nat.mul_one] at hown1
    rw [eachL_zero, icells_replicate]
    exact hown1
  case round =>
    obtain ⟨k, hk, rfl, hown, hb⟩ := hrel
    have q1 := (hb.cell (p := ⟨g, 0, none⟩) hgw).trans h1
    by_cases hlt : k < T.length
    · obtain ⟨b, o, rfl, hbb, c1, c2, c3⟩ := hL k hlt
      obtain ⟨_, ⟨m1, m2⟩, _⟩ := hlw k hlt
      obtain ⟨t1, t2⟩ := hT k hlt
      have d2 := (hb.cell (p := ⟨b, o + k * 3 + 1, none⟩) hbb).trans c2
      obtain ⟨t, ht⟩ : ∃ t : Nat, wnT T k = (t : Int) := ⟨(wnT T k).toNat, by omega⟩
      have htz : t < z.length := by omega
      have HS := hide (eachL_step T z.length k hlt t htz ht)
      have hle := eachL_len T z.length k
      have ck := (hown.cellAt t (by omega)).trans (icells_get (eachL T z.length k) t (by omega))
      have fk := hown.frozenAt t
      have hcv := eachL_at T z.length k t htz
      have hcb := cntP_le (T.take k) (t : Int)
      rw [List.length_take] at hcb
      obtain ⟨u, hu⟩ : ∃ u, u = zAt (eachL T z.length k) t := ⟨_, rfl⟩
      rw [← hu] at ck HS hcv
      have hub : 0 ≤ u ∧ u ≤ 1048576 := by omega
      have hwu : IntKind.i64.wrap (u + 1) = u + 1 := IntWalk.i64_in _ (by omega)
      rw [ht] at d2
      have hki : (k : Int) < (T.length : Int) := by omega
      have hti : (t : Int) < (z.length : Int) := by omega
      have row2 := (hown.stored t (.int .i64 (u + 1))).1
      rw [icells_set, ← HS.out] at row2
      have HR := hide row2
      have hb2 := hb.setCell (p := ⟨w.heap.size, t, none⟩) (Nat.le_refl _) (.int .i64 (u + 1))
      clear c1 c2 c3 hL hlw hT hown1 hb0 hcv hcb hu row2 ht t1 t2 m1 m2
      go_wp2
      go_roundw
      case rel => exact ⟨k + 1, hlt, by go_num, HR.out, hb2⟩
      case measure => simp [intOf]; omega
    · have HK := hide (show k = T.length by omega)
      have hni : ¬ (k : Int) < (T.length : Int) := by omega
      clear hk hlt hT hL hlw hown1 hb0
      go_wp2
      go_ret
      have hke := HK.out
      subst hke
      have hle := eachL_len T z.length T.length
      exact ⟨some ⟨w.heap.size, 0, none⟩, z.length, by rw [hle]; rfl, by rw [hle]; exact hown, hb⟩
end Go.Proofs.YtcocfnjbgceidaaGreat
namespace Go.Proofs.YtcocfnjbgceidaaGreat
open Go.RowKit Go.Maps
def tuU (T : List Wp) (t : Int) (k : Nat) : List Wp := (turT T t).take k ++ T.drop k
def tuV (T : List Wp) (z : List Int) (t : Int) (k : Nat) : List Int := (turZ T z t).take k ++ z.drop k
def okP (T : List Wp) (t : Int) (k : Nat) : Bool := (List.range k).all fun j => decide (wnP T j + t ≤ 1000000)
def okZ (T : List Wp) (z : List Int) (t : Int) (k : Nat) : Bool := (List.range k).all fun j => decide (zAt z j + t * (cntP T (j : Int) : Int) ≤ 1000000)
theorem turT_len (T : List Wp) (t : Int) : (turT T t).length = T.length := by simp [turT]
theorem tuU_len (T : List Wp) (t : Int) (k : Nat) (h : k ≤ T.length) : (tuU T t k).length = T.length := by simp [tuU, turT]; omega
theorem tuV_len (T : List Wp) (z : List Int) (t : Int) (k : Nat) (h : k ≤ z.length) : (tuV T z t k).length = z.length := by simp [tuV, turZ]; omega
theorem tuU_zero (T : List Wp) (t : Int) : tuU T t 0 = T := by simp [tuU]
theorem tuV_zero (T : List Wp) (z : List Int) (t : Int) : tuV T z t 0 = z := by simp [tuV]
theorem tuU_all (T : List Wp) (t : Int) : tuU T t T.length = turT T t := by
  have : (turT T t).take T.length = turT T t := List.take_of_length_le (by rw [turT_len]; exact Nat.le_refl _)
  simp [tuU, this]
theorem tuV_all (T : List Wp) (z : List Int) (t : Int) : tuV T z t z.length = turZ T z t := by
  have : (turZ T z t).take z.length = turZ T z t := List.take_of_length_le (by rw [turZ_len]; exact Nat.le_refl _)
  simp [tuV, this]
theorem tuU_set (T : List Wp) (t : Int) (k : Nat) (h : k < T.length) : (tuU T t k).set k (wnS T k, wnT T k, wnP T k + t) = tuU T t (k + 1) := by
  have hk : k < (turT T t).length := by rw [turT_len]; exact h
  have e1 : (turT T t)[k] = (wnS T k, wnT T k, wnP T k + t) := by simp [turT, wnS, wnT, wnP, List.getD, h]
  unfold tuU
  rw [List.take_succ_eq_append_getElem hk, e1, List.set_append_right _ _ (by simp; omega), List.length_take, Nat.min_eq_left (by omega), Nat.sub_self, List.drop_eq_getElem_cons h, List.set_cons_zero]
  simp
theorem tuV_set (T : List Wp) (z : List Int) (t : Int) (k : Nat) (h : k < z.length) : (tuV T z t k).set k (zAt z k + t * (cntP T (k : Int) : Int)) = tuV T z t (k + 1) := by
  have hk : k < (turZ T z t).length := by rw [turZ_len]; exact h
  have e1 : (turZ T z t)[k] = zAt z k + t * (cntP T (k : Int) : Int) := by simp [turZ]
  unfold tuV
  rw [List.take_succ_eq_append_getElem hk, e1, List.set_append_right _ _ (by simp; omega), List.length_take, Nat.min_eq_left (by omega), Nat.sub_self, List.drop_eq_getElem_cons h, List.set_cons_zero]
  simp
theorem tuU_at (T : List Wp) (t : Int) (k : Nat) (h : k < T.length) : wnS (tuU T t k) k = wnS T k ∧ wnT (tuU T t k) k = wnT T k ∧ wnP (tuU T t k) k = wnP T k := by
  have e : (tuU T t k)[k]? = (T)[k]? := by
    unfold tuU
    rw [List.getElem?_append_right (by simp [turT]; omega)]
    simp [turT, Nat.min_eq_left (Nat.le_of_lt h)]
  simp [wnS, wnT, wnP, List.getD, e]
theorem tuV_at (T : List Wp) (z : List Int) (t : Int) (k : Nat) (h : k < z.length) : zAt (tuV T z t k) k = zAt z k := by
  have e : (tuV T z t k)[k]? = z[k]? := by
    unfold tuV
    rw [List.getElem?_append_right (by rw [List.length_take, turZ_len]; omega)]
    simp [turZ_len, Nat.min_eq_left (Nat.le_of_lt h)]
  simp [zAt, List.getD, e]
theorem tuU_next (T : List Wp) (t : Int) (k : Nat) (h : k < T.length) : wnP (tuU T t (k + 1)) k = wnP T k + t := by
  rw [← tuU_set T t k h]
  simp [wnP, List.getD, tuU_len T t k (Nat.le_of_lt h), h]
theorem okP_succ (T : List Wp) (t : Int) (k : Nat) : okP T t (k + 1) = (okP T t k && decide (wnP T k + t ≤ 1000000)) := by simp [okP, List.range_succ]
theorem okZ_succ (T : List Wp) (z : List Int) (t : Int) (k : Nat) : okZ T z t (k + 1) = (okZ T z t k && decide (zAt z k + t * (cntP T (k : Int) : Int) ≤ 1000000)) := by simp [okZ, List.range_succ]
theorem ok_whole (T : List Wp) (z : List Int) (t : Int) : (okP T t T.length && okZ T z t z.length) = wholeB (turT T t) (turZ T z t) 1000000 1000000 := by
  have h1 : okP T t T.length = (turT T t).all (fun x => decide (x.2.2 ≤ 1000000)) := by
    rw [Bool.eq_iff_iff]
    simp only [okP, List.all_eq_true, List.mem_range, decide_eq_true_eq]
    constructor
    · intro h x hx
      obtain ⟨x0, hx0, rfl⟩ := List.mem_map.1 hx
      obtain ⟨k, hk, rfl⟩ := List.mem_iff_getElem.1 hx0
      have := h k hk
      simpa [wnP, List.getD, hk] using this
    · intro h k hk
      have := h ((T)[k].1, (T)[k].2.1, (T)[k].2.2 + t) (List.mem_map.2 ⟨(T)[k], List.getElem_mem hk, rfl⟩)
      simpa [wnP, List.getD, hk] using this
  have h2 : okZ T z t z.length = (turZ T z t).all (fun y => decide (y ≤ 1000000)) := by
    rw [Bool.eq_iff_iff]
    simp only [okZ, List.all_eq_true, List.mem_range, decide_eq_true_eq]
    constructor
    · intro h y hy
      obtain ⟨k, hk, rfl⟩ := List.mem_map.1 hy
      exact h k (List.mem_range.1 hk)
    · intro h k hk
      exact h _ (List.mem_map.2 ⟨k, List.mem_range.2 hk, rfl⟩)
  rw [wholeB, h1, h2]
theorem own_apartB {w : World} {base base2 n m : Nat} {e f : TypeId} {size size' : Nat} {v u : Value} {xs ys : List Value} (h : w.ownsRow base e size v n xs) (h' : w.ownsRow base2 f size' u m ys) (hne : e ≠ f) : v.ownBlock = none ∨ v.ownBlock ≠ u.ownBlock := by
  rcases h.2 with ⟨rfl, _⟩ | ⟨g, cap, cur, rfl, _, hg, _⟩
  · exact Or.inl rfl
  · right
    rcases h'.2 with ⟨rfl, _⟩ | ⟨g', cap', cur', rfl, _, hg', _⟩
    · simp [Value.ownBlock]
    · intro e1
      have e2 : g = g' := by simpa [Value.ownBlock] using e1
      subst e2
      rw [hg] at hg'
      simp at hg'
      exact hne hg'.2
theorem own_rowW {w : World} {base g n : Nat} {e t : TypeId} {size : Nat} {v : Value} {xs : List Value} {cs : Array Value} (h : w.ownsRow base e size v n xs) (z : Bk w g t cs) (ht : t ≠ e) (cs' : Array Value) : (w.setRow g cs').ownsRow base e size v n xs :=
  h.kept (row := some g) ⟨rfl, rfl, rfl, by simp, fun k _ hk => setRow_other _ _ _ _ (fun e => hk (by rw [e]))⟩ (Or.inr (own_neW h z ht))
theorem set_selfT {α : Type} {l : List α} {k : Nat} {v : α} (h : l[k]? = some v) : l.set k v = l := by
  obtain ⟨hk, rfl⟩ := List.getElem?_eq_some_iff.1 h
  exact List.set_getElem_self hk
theorem results_wb {fn : Func} {p r : Tmp} (h : fn.results = #[.cell p 34, .tmp r]) (tmps : Array Value) (w : World) (g : Nat) (t : TypeId) (cs : Array Value) (c : Value) (hi : cs.size = 2)
    (hp : tmps.getD p undef = .pointer (some ⟨g, 0, none⟩)) (hr : tmps.getD r undef = c) (hg : w.heap[g]? = some (.cells cs t (0, 0))) : (results fn tmps).run Tryz.prog w = .ok (.tuple #[.agg cs, c]) w := results_we h tmps w g t cs c hi hp hr hg
set_option maxRecDepth 20000 in
set_option maxHeartbeats 8000000 in
theorem l06Turned_any (g : Nat) (P : Option Addr) (d : Nat) (T : List Wp) (U : Option Addr) (v : Nat) (z : List Int) (t : Int) (w : World) (h1 : w.cell? ⟨g, 0, none⟩ = some (.slice P T.length d)) (h2 : w.cell? ⟨g, 1, none⟩ = some (.slice U z.length v)) (hL : WnA w P T) (hU : SZ w U z) (hl : T.length ≤ 2304) (hz : z.length ≤ 24) (hT : ∀ k, k < T.length → (0 ≤ wnT T k ∧ wnT T k < z.length) ∧ 0 ≤ wnP T k ∧ wnP T k ≤ 1000000) (hZ : ∀ k, k < z.length → 0 ≤ zAt z k ∧ zAt z k ≤ 1000000) (hlw : WnWF T) (ht0 : 0 ≤ t) (ht1 : t ≤ 1000000) :
    Calls Tryz.prog 70 #[.pointer (some ⟨g, 0, none⟩), .int .i64 t] w fun e w' => ∃ (P1 : Option Addr) (q1 : Nat) (P2 : Option Addr) (q2 : Nat), e = .returned (.tuple #[.agg #[.slice P1 T.length q1, .slice P2 z.length q2], .bool (wholeB (turT T t) (turZ T z t) 1000000 1000000)]) ∧ w'.ownsRow w.heap.size 97 3 (.slice P1 T.length q1) T.length (wnC (turT T t)) ∧ w'.ownsRow w.heap.size 2 1 (.slice P2 z.length q2) z.length (icells (turZ T z t)) ∧ Below w.heap.size w w' := by
  have hgw : g < w.heap.size := World.block_lt_of_cell? w _ h1
  obtain ⟨X, hX⟩ : ∃ X, X = w.alloc (.cells #[.slice none 0 0, .slice none 0 0] 34) := ⟨_, rfl⟩
  have b0 : Below w.heap.size w X := by rw [hX]; exact (Below.refl _ _).alloc (Nat.le_refl _) _
  have R0 : Bk X w.heap.size 34 #[.slice none 0 0, .slice none 0 0] := by rw [hX]; exact Bk.new _ _ _ rfl
  have hX1 := R0.lt
  have g1 := (b0.cell (p := ⟨g, 0, none⟩) hgw).trans h1
  have g2 := (b0.cell (p := ⟨g, 1, none⟩) hgw).trans h2
  have KC := l06Copy_any g P d T U v z X g1 g2 (hL.below b0) (hU.below b0) (by omega) (by omega)
  go_enter Tryz.func70, Tryz.ntmps70
  go_upto_region 1 with fail
  rw [← hX]
  clear hX
  go_wp2_with fail
  refine KC.mono ?_
  rintro e w2 ⟨P1, q1, P2, q2, rfl, own1, own2, hb2⟩
  have b2 := step_below hb2 b0
  have R2 := R0.keep hb2
  clear KC
  obtain ⟨Y, hY⟩ : ∃ Y, Y = w2.alloc (.cells #[.slice P1 T.length q1, .slice P2 z.length q2] 34) := ⟨_, rfl⟩
  have hbY : Below w2.heap.size w2 Y := by rw [hY]; exact (Below.refl _ _).alloc (Nat.le_refl _) _
  have bY := step_below hbY b2
  have RY := R2.keep hbY
  have o1 := own_base (own_keep own1 hbY) (Nat.le_of_lt hX1)
  have o2 := own_base (own_keep own2 hbY) (Nat.le_of_lt hX1)
  have o2lt := own2.lt
  have NY : Bk Y w2.heap.size 34 #[.slice P1 T.length q1, .slice P2 z.length q2] := by rw [hY]; exact Bk.new _ _ _ rfl
  have hYG := NY.lt
  have hX2 := hb2.size
  obtain ⟨G, hG⟩ : ∃ G, G = w2.heap.size := ⟨_, rfl⟩
  rw [← hG] at NY hYG o2lt
  have hGX : X.heap.size ≤ G := by omega
  have gY1 := (bY.cell (p := ⟨g, 0, none⟩) hgw).trans h1
  have gY2 := (bY.cell (p := ⟨g, 1, none⟩) hgw).trans h2
  have KE := l06Each_any g P d T U v z Y gY1 gY2 (hL.below bY) (by omega) (by omega) (fun k hk => (hT k hk).1) hlw
  go_upto_region 2 with (first | (with_reducible refine wpList_store_newA rfl 34 (.tmp 6) (.tmp 12) rfl #[.slice P1 T.length q1, .slice P2 z.length q2] rfl rfl 34 _ (infoWear _ _) (szWear _ _ _ _) (oneWear _ _ _ _ _ _) ?_))
  rw [← hY]
  rw [← hG]
  clear hY hG
  go_wp2_with fail
  refine KE.mono ?_
  rintro e w3 ⟨PE, qE, rfl, ownE, hb3⟩
  rw [eachL_len] at ownE ⊢
  have b3 := step_below hb3 bY
  have R3 := RY.keep hb3
  have N3 := NY.keep hb3
  have o13 := own_keep o1 hb3
  have o23 := own_keep o2 hb3
  clear KE R0 R2 RY NY own1 own2 o1 o2 g1 g2 gY1 gY2
  go_wp2_with fail
  go_loopw [8, 9] (fun c i wr => ∃ k : Nat, k ≤ T.length ∧ i = .int .i64 k ∧ c = .bool (okP T t k) ∧ wr.ownsRow w.heap.size 97 3 (.slice P1 T.length q1) T.length (wnC (tuU T t k)) ∧ wr.ownsRow w.heap.size 2 1 (.slice P2 z.length q2) z.length (icells z) ∧ wr.ownsRow Y.heap.size 2 1 (.slice PE z.length qE) z.length (icells (eachL T z.length T.length)) ∧ Bk wr G 34 #[.slice P1 T.length q1, .slice P2 z.length q2] ∧ Bk wr w.heap.size 34 #[.slice none 0 0, .slice none 0 0] ∧ Below w.heap.size w wr)
    (fun _ i _ => T.length - (intOf i).toNat)
  case atStart => exact ⟨0, Nat.zero_le _, rfl, rfl, by rw [tuU_zero]; exact o13, o23, ownE, N3, R3, b3⟩
  case round =>
    obtain ⟨k, hk, rfl, rfl, r1, r2, rE, N, R, hb⟩ := hrel
    have n0 := N.cell (i := 0) rfl
    by_cases hlt : k < T.length
    · obtain ⟨gp, rfl⟩ : ∃ gp, P1 = some ⟨gp, 0, none⟩ := by
        rcases r1.2 with ⟨h', h0⟩ | ⟨g', cap, cur, h', hgb, _⟩
        · omega
        · simp at h'
          exact ⟨g', h'.1⟩
      have hgp := r1.lt gp rfl
      obtain ⟨a1, a2, a3⟩ := tuU_at T t k hlt
      obtain ⟨e1, e2, e3⟩ := wnC_at (tuU T t k) k (by rw [tuU_len T t k hk]; exact hlt)
      rw [a1] at e1
      rw [a2] at e2
      rw [a3] at e3
      have ck := (r1.cellAt (k * 3 + 2) (by omega)).trans e3
      have fk := r1.frozenAt (k * 3 + 2)
      obtain ⟨_, p0, p1⟩ := hT k hlt
      have hwp : IntKind.i64.wrap (wnP T k + t) = wnP T k + t := IntWalk.i64_in _ (by omega)
      have hki : (k : Int) < (T.length : Int) := by omega
      have hne1 : G ≠ gp := fun e => own_neW r1 N (by decide) (by rw [e]; rfl)
      have hneR : w.heap.size ≠ gp := fun e => own_neW r1 R (by decide) (by rw [e]; rfl)
      have hneo : ∀ {b' : Nat} {A' : Option Addr} {m c : Nat} {xs : List Value}, wr.ownsRow b' 2 1 (.slice A' m c) m xs → (Value.slice A' m c).ownBlock ≠ some gp := fun h => by
        rcases own_apartB h r1 (by decide) with hh | hh
        · rw [hh]; simp
        · exact hh
      have s1 := (r1.stored (k * 3 + 2) (.int .i64 (wnP T k + t))).1
      have hset : (wnC (tuU T t k)).set (k * 3 + 2) (.int .i64 (wnP T k + t)) = wnC (tuU T t (k + 1)) := by
        rw [← tuU_set T t k hlt, wnC_set]
        congr 1
        rw [set_selfT e1, set_selfT e2]
      rw [hset] at s1
      have s2 := own_setW (o := k * 3 + 2) r2 (hneo r2) (.int .i64 (wnP T k + t))
      have sE := own_setW (o := k * 3 + 2) rE (hneo rE) (.int .i64 (wnP T k + t))
      have sN := N.other (k := k * 3 + 2) hne1 (.int .i64 (wnP T k + t))
      have sR := R.other (k := k * 3 + 2) hneR (.int .i64 (wnP T k + t))
      have sb := hb.setCell (p := ⟨gp, k * 3 + 2, none⟩) hgp.1 (.int .i64 (wnP T k + t))
      obtain ⟨V, hV⟩ : ∃ V, V = wr.setCell ⟨gp, k * 3 + 2, none⟩ (.int .i64 (wnP T k + t)) := ⟨_, rfl⟩
      go_upto_region 8 with fail
      rw [← hV] at s1 s2 sE sN sR sb ⊢
      clear hV ck fk n0 e1 e2 e3 a1 a2 a3 r1 r2 rE N R hb hset
      have n0 := sN.cell (i := 0) rfl
      obtain ⟨e1, e2, e3⟩ := wnC_at (tuU T t (k + 1)) k (by rw [tuU_len T t (k + 1) hlt]; exact hlt)
      rw [tuU_next T t k hlt] at e3
      have ck := (s1.cellAt (k * 3 + 2) (by omega)).trans e3
      have KT := fun W => l06Turns_any (wnP T k + t) W
      have hib : inB (wnP T k + t) 0 1000000 = decide (wnP T k + t ≤ 1000000) := by simp [inB]; omega
      rw [hib] at KT
      have HO := hide (okP_succ T t k)
      generalize wnP T k + t = y at *
      clear e1 e2 e3 hib hT hZ
      cases hok : okP T t k
      · rw [hok] at HO
        go_wp2
        go_roundw
        case rel => exact ⟨k + 1, hlt, by go_num, by rw [HO.out]; rfl, s1, s2, sE, sN, sR, sb⟩
        case measure => simp [intOf]; omega
      · rw [hok, Bool.true_and] at HO
        generalize decide (y ≤ 1000000) = r at *
        go_wp2_with (go_at_call 69; with_reducible refine (KT _).mono ?_; rintro e w' ⟨rfl, rfl⟩)
        go_roundw
        case rel => exact ⟨k + 1, hlt, by go_num, by rw [HO.out], s1, s2, sE, sN, sR, sb⟩
        case measure => simp [intOf]; omega
    · obtain rfl : k = T.length := by omega
      rw [tuU_all] at r1
      have HW := hide (ok_whole T z t)
      clear hk o13 o23 ownE N3 R3 b3
      obtain ⟨ok1, hok1⟩ : ∃ b, b = okP T t T.length := ⟨_, rfl⟩
      rw [← hok1] at HW ⊢
      clear hok1
      go_wp2_with fail
      go_loopw [8, 10] (fun c i wr => ∃ k : Nat, k ≤ z.length ∧ i = .int .i64 k ∧ c = .bool (ok1 && okZ T z t k) ∧ wr.ownsRow w.heap.size 97 3 (.slice P1 T.length q1) T.length (wnC (turT T t)) ∧ wr.ownsRow w.heap.size 2 1 (.slice P2 z.length q2) z.length (icells (tuV T z t k)) ∧ wr.ownsRow Y.heap.size 2 1 (.slice PE z.length qE) z.length (icells (eachL T z.length T.length)) ∧ Bk wr G 34 #[.slice P1 T.length q1, .slice P2 z.length q2] ∧ Bk wr w.heap.size 34 #[.slice none 0 0, .slice none 0 0] ∧ Below w.heap.size w wr)
        (fun _ i _ => z.length - (intOf i).toNat)
      case atStart => exact ⟨0, Nat.zero_le _, rfl, by simp [okZ], r1, by rw [tuV_zero]; exact r2, rE, N, R, hb⟩
      case round =>
        obtain ⟨k, hk, rfl, rfl, r1, r2, rE, N, R, hb⟩ := hrel
        by_cases hlt : k < z.length
        · obtain ⟨gz, rfl⟩ : ∃ gz, P2 = some ⟨gz, 0, none⟩ := by
            rcases r2.2 with ⟨h', h0⟩ | ⟨g', cap, cur, h', hgb, _⟩
            · omega
            · simp at h'
              exact ⟨g', h'.1⟩
          obtain ⟨ge, rfl⟩ : ∃ ge, PE = some ⟨ge, 0, none⟩ := by
            rcases rE.2 with ⟨h', h0⟩ | ⟨g', cap, cur, h', hgb, _⟩
            · omega
            · simp at h'
              exact ⟨g', h'.1⟩
          have hgz := r2.lt gz rfl
          have hge := rE.lt ge rfl
          have hgzG := (o2lt gz rfl).2
          have hzk := hZ k hlt
          have hcb := cntP_le T (k : Int)
          have hev := eachL_at T z.length T.length k hlt
          rw [List.take_length] at hev
          obtain ⟨m, hm⟩ : ∃ m : Int, m = (cntP T (k : Int) : Int) := ⟨_, rfl⟩
          have hm0 : 0 ≤ m ∧ m ≤ 2304 := by omega
          have hp0 : 0 ≤ t * m := Int.mul_nonneg ht0 hm0.1
          have hp1 : t * m ≤ 1000000 * 2304 := Int.mul_le_mul ht1 hm0.2 hm0.1 (by omega)
          have hwm : IntKind.i64.wrap (t * m) = t * m := IntWalk.i64_in _ (by omega)
          have hwa : IntKind.i64.wrap (zAt z k + t * m) = zAt z k + t * m := IntWalk.i64_in _ (by omega)
          have hvs := tuV_set T z t k hlt
          have hoz := okZ_succ T z t k
          rw [← hm] at hev hvs hoz
          have hva := tuV_at T z t k hlt
          have hvl := tuV_len T z t k hk
          have cz := (r2.cellAt k (by omega)).trans (icells_get (tuV T z t k) k (by omega))
          rw [hva] at cz
          have ce := (rE.cellAt k (by omega)).trans (icells_get (eachL T z.length T.length) k (by rw [eachL_len]; exact hlt))
          rw [hev] at ce
          have fz := r2.frozenAt k
          have hki : (k : Int) < (z.length : Int) := by omega
          have hneN : G ≠ gz := by omega
          have hneR : w.heap.size ≠ gz := fun e => own_neW r2 R (by decide) (by rw [e]; rfl)
          have hneE : (Value.slice (some ⟨ge, 0, none⟩) z.length qE).ownBlock ≠ some gz := by
            simp [Value.ownBlock]
            omega
          have hne1 : (Value.slice P1 T.length q1).ownBlock ≠ some gz := by
            rcases own_apartB r1 r2 (by decide) with hh | hh
            · rw [hh]; simp
            · exact hh
          have hd : Below wr.heap.size wr wr.drew := (Below.refl _ _).drew
          have n1 := (N.keep hd).cell (i := 1) rfl
          have czd := (hd.cell (p := ⟨gz, k, none⟩) hgz.2).trans cz
          have ced := (hd.cell (p := ⟨ge, k, none⟩) hge.2).trans ce
          have fzd := (own_keep r2 hd).frozenAt k
          generalize zAt z k = y at *
          have s2 := ((own_keep r2 hd).stored k (.int .i64 (y + t * m))).1
          rw [icells_set, hvs] at s2
          have s1 := own_setW (o := k) (own_keep r1 hd) hne1 (.int .i64 (y + t * m))
          have sE := own_setW (o := k) (own_keep rE hd) hneE (.int .i64 (y + t * m))
          have sN := (N.keep hd).other (k := k) hneN (.int .i64 (y + t * m))
          have sR := (R.keep hd).other (k := k) hneR (.int .i64 (y + t * m))
          have sb := (step_below hd hb).setCell (p := ⟨gz, k, none⟩) hgz.1 (.int .i64 (y + t * m))
          have hvn : zAt (tuV T z t (k + 1)) k = y + t * m := by
            rw [← hvs]
            simp [zAt, List.getD, hvl, hlt]
          obtain ⟨V, hV⟩ : ∃ V, V = wr.drew.setCell ⟨gz, k, none⟩ (.int .i64 (y + t * m)) := ⟨_, rfl⟩
          rw [← hV] at s1 s2 sE sN sR sb
          have HS1 := hide s1
          have HS2 := hide s2
          have HSE := hide sE
          have HSN := hide sN
          have HSR := hide sR
          have HSB := hide sb
          have HVV := hide hV
          clear r1 r2 rE N R hb cz ce fz hva hev hvs hm s1 s2 sE sN sR sb hcb hV
          go_upto_region 12 with fail
          refine wp_region_still_tail 13 (by kernel_rfl) (by kernel_rfl) ?_
          change wpStill _ _ wr.drew (fun a' => wpList _ _ _ _ a' wr.drew) _ _
          simp only [List.take_succ_cons, List.take_zero, List.drop_succ_cons, List.drop_zero]
          repeat still_step
          refine wpStill_nil ?_
          have hV := HVV.out
          clear HVV hd
          go_upto_region 13 with fail
          rw [show (wr.setCell ⟨gz, k, none⟩ (.int .i64 (y + t * m))).drew = V from hV.symm]
          clear hV czd ced fzd n1
          have n1 := HSN.out.cell (i := 1) rfl
          have hvl1 := tuV_len T z t (k + 1) hlt
          have cz := (HS2.out.cellAt k (by omega)).trans (icells_get (tuV T z t (k + 1)) k (by omega))
          rw [hvn] at cz
          have KT := fun W => l06Turns_any (y + t * m) W
          have hib : inB (y + t * m) 0 1000000 = decide (y + t * m ≤ 1000000) := by simp [inB]; omega
          rw [hib] at KT
          have HO := hide hoz
          generalize y + t * m = x at *
          clear hib hvn hoz
          cases hok : (ok1 && okZ T z t k)
          · have HO2 := hide (show (ok1 && okZ T z t (k + 1)) = false by rw [HO.out, ← Bool.and_assoc, hok]; rfl)
            clear HO hok
            go_wp2
            go_roundw
            case rel => exact ⟨k + 1, hlt, by go_num, by rw [HO2.out], HS1.out, HS2.out, HSE.out, HSN.out, HSR.out, HSB.out⟩
            case measure => simp [intOf]; omega
          · have HO2 := hide (show (ok1 && okZ T z t (k + 1)) = decide (x ≤ 1000000) by rw [HO.out, ← Bool.and_assoc, hok]; rfl)
            clear HO hok
            generalize decide (x ≤ 1000000) = r at *
            go_wp2_with (go_at_call 69; with_reducible refine (KT _).mono ?_; rintro e w' ⟨rfl, rfl⟩)
            go_roundw
            case rel => exact ⟨k + 1, hlt, by go_num, by rw [HO2.out], HS1.out, HS2.out, HSE.out, HSN.out, HSR.out, HSB.out⟩
            case measure => simp [intOf]; omega
        · obtain rfl : k = z.length := by omega
          rw [tuV_all] at r2
          have n0 := N.cell (i := 0) rfl
          have n1 := N.cell (i := 1) rfl
          have HZ := hide (show wr.heap[w.heap.size]? = some (.cells #[.slice none 0 0, .slice none 0 0] 34 (0, 0)) from R)
          have f1 := own_rowW r1 R (by decide) #[.slice P1 T.length q1, .slice P2 z.length q2]
          have f2 := own_rowW r2 R (by decide) #[.slice P1 T.length q1, .slice P2 z.length q2]
          obtain ⟨rb, hrb⟩ : ∃ b, b = wholeB (turT T t) (turZ T z t) 1000000 1000000 := ⟨_, rfl⟩
          rw [HW.out, ← hrb]
          have HRB := hide hrb
          clear r1 r2 rE N R hrb
          go_wp2_with (with_reducible refine wpList_store_row rfl 34 (.tmp 4) (.tmp 70) rfl w.heap.size #[.slice P1 T.length q1, .slice P2 z.length q2] rfl rfl 34 _ HZ.out (infoWear _ _) (szWear _ _ _ _) (oneWear _ _ _ _ _ _) ?_)
          exact bodyPost_ret (v := .tuple #[.agg #[.slice P1 T.length q1, .slice P2 z.length q2], .bool rb]) (results_wb Tryz.results70 _ _ w.heap.size 34 #[.slice P1 T.length q1, .slice P2 z.length q2] _ rfl (by simp [Act.put]) (by simp [Act.put]) (setRow_heap _ _ _ _ _ _ HZ.out)) rfl ⟨P1, q1, P2, q2, by rw [← HRB.out], f1, f2, below_setRow hb (Nat.le_refl _)⟩
end Go.Proofs.YtcocfnjbgceidaaGreat
namespace Go.Proofs.YtcocfnjbgceidaaGreat
open Go.RowKit Go.Maps
theorem weB_turn {s : Int} {h : List (Int × Int)} {l : List Wp} {z : List Int} (hw : weB s h l z = true) : l.length ≤ 2304 ∧ z.length ≤ 24 ∧ (∀ k, k < l.length → (0 ≤ wnT l k ∧ wnT l k < z.length) ∧ 0 ≤ wnP l k ∧ wnP l k ≤ 1000000) ∧ ∀ k, k < z.length → 0 ≤ zAt z k ∧ zAt z k ≤ 1000000 := by
  obtain ⟨h1, h2, h3⟩ := weB_VT hw
  obtain ⟨f1, f2⟩ := weB_fr hw
  refine ⟨h1.length f1 f2, by omega, fun k hk => ?_, fun k hk => ?_⟩
  · have hx := h1.2 l[k] (List.getElem_mem hk)
    have hp := plW_iff.1 hx.1
    rw [wn_get l k hk] at hx hp
    simp only at hx hp
    exact ⟨by omega, hx.2⟩
  · have := h2 z[k] (List.getElem_mem hk)
    simpa [zAt, List.getD, hk] using this
set_option maxRecDepth 20000 in
set_option maxHeartbeats 8000000 in
theorem specTurnWear_any (s : Int) (A : Option Addr) (c : Nat) (h : List (Int × Int)) (P : Option Addr) (d : Nat) (l : List Wp) (U : Option Addr) (v : Nat) (z : List Int) (t : Int) (w : World)
    (hA : HA w A h) (hn : h.length ≤ 1048576) (hwf : HWF h) (hs : -32768 ≤ s ∧ s ≤ 32767) (hL : WnA w P l) (hU : SZ w U z) (hl : l.length ≤ 1048576) (hz : z.length ≤ 1048576) (hlw : WnWF l) (hzw : ZWF z) :
    Calls Tryz.prog 35 #[.agg #[.int .i16 s, .slice A h.length c], .agg #[.slice P l.length d, .slice U z.length v], .int .i64 t] w (WeC (waT s h l z (trC l z t) (turT l t)) (waZ s h l z (trC l z t) (turZ l z t)) (waC s h l z (trC l z t)) w) := by
  obtain ⟨X, hX⟩ : ∃ X, X = ((w.alloc (.cells #[.int .i16 s, .slice A h.length c] 39)).alloc (.cells #[.slice P l.length d, .slice U z.length v] 34)).alloc (.cells #[.slice none 0 0, .slice none 0 0] 34) := ⟨_, rfl⟩
  have hb0 : Below w.heap.size w X := by rw [hX]; exact (((Below.refl _ _).alloc (Nat.le_refl _) _).alloc (by simp) _).alloc (by simp; omega) _
  have P0 : Bk X w.heap.size 39 #[.int .i16 s, .slice A h.length c] := by rw [hX]; exact ((Bk.new _ _ _ rfl).old _).old _
  have P1 : Bk X (w.heap.size + 1) 34 #[.slice P l.length d, .slice U z.length v] := by rw [hX]; exact (Bk.new _ _ _ (by simp)).old _
  have P3 : Bk X (w.heap.size + 1 + 1) 34 #[.slice none 0 0, .slice none 0 0] := by rw [hX]; exact Bk.new _ _ _ (by simp)
  have hX3 := P3.lt
  have KW := l06Ok_any w.heap.size (w.heap.size + 1) s A c h P d l U v z X ⟨P0.cell (i := 0) rfl, P0.cell (i := 1) rfl⟩ (P1.cell (i := 0) rfl) (P1.cell (i := 1) rfl) (hA.below hb0) (hL.below hb0) (hU.below hb0) hn hl hz hwf hs hlw
  go_enter Tryz.func35, Tryz.ntmps35
  go_upto_region 1 with fail
  rw [← hX]
  clear hX
  go_wp2_with fail
  refine KW.mono ?_
  rintro e w2 ⟨rfl, hb2⟩
  have b2 := step_below hb2 hb0
  have Q1 := P1.keep hb2
  have Q3 := P3.keep hb2
  have hs2 := hb2.size
  have KT := fun W => l06Turns_any t W
  clear KW
  cases hwe : weB s h l z
  · skip
    clear KT
    have HX := hide (show waC s h l z (trC l z t) = 1 by simp [waC, hwe])
    have HT := hide (show waT s h l z (trC l z t) (turT l t) = [] by rw [waT, if_neg (by rw [HX.out]; decide)])
    have HZZ := hide (show waZ s h l z (trC l z t) (turZ l z t) = [] by rw [waZ, if_neg (by rw [HX.out]; decide)])
    have HZ := hide (show w2.heap[(w.heap.size + 1 + 1)]? = some (.cells #[.slice none 0 0, .slice none 0 0] 34 (0, 0)) from Q3)
    go_wp2_with (first | (with_reducible refine wpList_build0 rfl rfl ?_) | (with_reducible refine wpList_store_row rfl 34 (.tmp 6) (.tmp 12) rfl (w.heap.size + 1 + 1) #[.slice none 0 0, .slice none 0 0] rfl rfl 34 _ HZ.out (infoWear _ _) (szWear _ _ _ _) (oneWear _ _ _ _ _ _) ?_))
    exact bodyPost_ret (v := .tuple #[.agg #[.slice none 0 0, .slice none 0 0], .int .i64 1]) (results_we Tryz.results35 _ _ (w.heap.size + 1 + 1) 34 #[.slice none 0 0, .slice none 0 0] _ rfl (by simp [Act.put]) (by simp [Act.put]) (setRow_heap _ _ _ _ _ _ HZ.out)) rfl ⟨none, 0, none, 0, by rw [HX.out, HT.out, HZZ.out]; rfl, by rw [HT.out]; exact World.ownsRow_nil _ _ _ _, by rw [HZZ.out]; exact World.ownsRow_nil _ _ _ _, below_setRow b2 (by omega)⟩
  cases hin : inB t 0 1000000
  · skip
    rw [hin] at KT
    have HX := hide (show waC s h l z (trC l z t) = 2 by simp [waC, hwe, trC, hin])
    have HT := hide (show waT s h l z (trC l z t) (turT l t) = [] by rw [waT, if_neg (by rw [HX.out]; decide)])
    have HZZ := hide (show waZ s h l z (trC l z t) (turZ l z t) = [] by rw [waZ, if_neg (by rw [HX.out]; decide)])
    have HZ := hide (show w2.heap[(w.heap.size + 1 + 1)]? = some (.cells #[.slice none 0 0, .slice none 0 0] 34 (0, 0)) from Q3)
    go_wp2_with (first | (go_at_call 69; with_reducible refine (KT _).mono ?_; rintro e w' ⟨rfl, rfl⟩) | (with_reducible refine wpList_build0 rfl rfl ?_) | (with_reducible refine wpList_store_row rfl 34 (.tmp 6) (.tmp 16) rfl (w.heap.size + 1 + 1) #[.slice none 0 0, .slice none 0 0] rfl rfl 34 _ HZ.out (infoWear _ _) (szWear _ _ _ _) (oneWear _ _ _ _ _ _) ?_))
    exact bodyPost_ret (v := .tuple #[.agg #[.slice none 0 0, .slice none 0 0], .int .i64 2]) (results_we Tryz.results35 _ _ (w.heap.size + 1 + 1) 34 #[.slice none 0 0, .slice none 0 0] _ rfl (by simp [Act.put]) (by simp [Act.put]) (setRow_heap _ _ _ _ _ _ HZ.out)) rfl ⟨none, 0, none, 0, by rw [HX.out, HT.out, HZZ.out]; rfl, by rw [HT.out]; exact World.ownsRow_nil _ _ _ _, by rw [HZZ.out]; exact World.ownsRow_nil _ _ _ _, below_setRow b2 (by omega)⟩
  rw [hin] at KT
  have hit : 0 ≤ t ∧ t ≤ 1000000 := by simpa [inB] using hin
  obtain ⟨m1, m2, m3, m4⟩ := weB_turn hwe
  have KD := l06Turned_any (w.heap.size + 1) P d l U v z t w2 (Q1.cell (i := 0) rfl) (Q1.cell (i := 1) rfl) ((hL.below hb0).below hb2) ((hU.below hb0).below hb2) m1 m2 m3 m4 hlw hit.1 hit.2
  go_wp2_with (go_at_call 69; with_reducible refine (KT _).mono ?_; rintro e w' ⟨rfl, rfl⟩)
  refine KD.mono ?_
  rintro e w3 ⟨P1', q1, P2', q2, rfl, ownP, ownC, hb3⟩
  have b3 := step_below hb3 b2
  have R3 := Q3.keep hb3
  clear KD KT
  obtain ⟨Y, hY⟩ : ∃ Y, Y = w3.alloc (.cells #[.slice P1' l.length q1, .slice P2' z.length q2] 34) := ⟨_, rfl⟩
  have hbY : Below w3.heap.size w3 Y := by rw [hY]; exact (Below.refl _ _).alloc (Nat.le_refl _) _
  have bY := step_below hbY b3
  have RY := R3.keep hbY
  have oP := own_keep ownP hbY
  have oC := own_keep ownC hbY
  have NY : Bk Y w3.heap.size 34 #[.slice P1' l.length q1, .slice P2' z.length q2] := by rw [hY]; exact Bk.new _ _ _ rfl
  go_upto_region 6 with (first | (with_reducible refine wpList_store_newA rfl 34 (.tmp 8) (.tmp 20) rfl #[.slice P1' l.length q1, .slice P2' z.length q2] rfl rfl 34 _ (infoWear _ _) (szWear _ _ _ _) (oneWear _ _ _ _ _ _) ?_))
  rw [← hY]
  clear hY
  cases hwh : wholeB (turT l t) (turZ l z t) 1000000 1000000
  · skip
    have HX := hide (show waC s h l z (trC l z t) = 3 by simp [waC, hwe, trC, hin, tuC, hwh])
    have HT := hide (show waT s h l z (trC l z t) (turT l t) = [] by rw [waT, if_neg (by rw [HX.out]; decide)])
    have HZZ := hide (show waZ s h l z (trC l z t) (turZ l z t) = [] by rw [waZ, if_neg (by rw [HX.out]; decide)])
    have HZ := hide (show Y.heap[(w.heap.size + 1 + 1)]? = some (.cells #[.slice none 0 0, .slice none 0 0] 34 (0, 0)) from RY)
    go_wp2_with (first | (with_reducible refine wpList_build0 rfl rfl ?_) | (with_reducible refine wpList_store_row rfl 34 (.tmp 6) (.tmp 24) rfl (w.heap.size + 1 + 1) #[.slice none 0 0, .slice none 0 0] rfl rfl 34 _ HZ.out (infoWear _ _) (szWear _ _ _ _) (oneWear _ _ _ _ _ _) ?_))
    exact bodyPost_ret (v := .tuple #[.agg #[.slice none 0 0, .slice none 0 0], .int .i64 3]) (results_we Tryz.results35 _ _ (w.heap.size + 1 + 1) 34 #[.slice none 0 0, .slice none 0 0] _ rfl (by simp [Act.put]) (by simp [Act.put]) (setRow_heap _ _ _ _ _ _ HZ.out)) rfl ⟨none, 0, none, 0, by rw [HX.out, HT.out, HZZ.out]; rfl, by rw [HT.out]; exact World.ownsRow_nil _ _ _ _, by rw [HZZ.out]; exact World.ownsRow_nil _ _ _ _, below_setRow bY (by omega)⟩
  have HX := hide (show waC s h l z (trC l z t) = 0 by simp [waC, hwe, trC, hin, tuC, hwh])
  have HZZ := hide (show waZ s h l z (trC l z t) (turZ l z t) = turZ l z t by rw [waZ, if_pos HX.out])
  have HT := hide (show waT s h l z (trC l z t) (turT l t) = turT l t by rw [waT, if_pos HX.out])
  have m0 := NY.cell (i := 0) rfl
  have m1 := NY.cell (i := 1) rfl
  have HZ := hide (show Y.heap[w.heap.size + 1 + 1]? = some (.cells #[.slice none 0 0, .slice none 0 0] 34 (0, 0)) from RY)
  have owP := own_base (own_keepW oP (show w.heap.size + 1 + 1 < w2.heap.size by omega) #[.slice P1' l.length q1, .slice P2' z.length q2]) (show w.heap.size ≤ w2.heap.size by omega)
  have owC := own_base (own_keepW oC (show w.heap.size + 1 + 1 < w2.heap.size by omega) #[.slice P1' l.length q1, .slice P2' z.length q2]) (show w.heap.size ≤ w2.heap.size by omega)
  clear hwh hin hwe
  go_wp2_with (with_reducible refine wpList_store_row rfl 34 (.tmp 6) (.tmp 25) rfl (w.heap.size + 1 + 1) #[.slice P1' l.length q1, .slice P2' z.length q2] rfl rfl 34 _ HZ.out (infoWear _ _) (szWear _ _ _ _) (oneWear _ _ _ _ _ _) ?_)
  exact bodyPost_ret (v := .tuple #[.agg #[.slice P1' l.length q1, .slice P2' z.length q2], .int .i64 0]) (results_we Tryz.results35 _ _ (w.heap.size + 1 + 1) 34 #[.slice P1' l.length q1, .slice P2' z.length q2] _ rfl (by simp [Act.put]) (by simp [Act.put]) (setRow_heap _ _ _ _ _ _ HZ.out)) rfl ⟨P1', q1, P2', q2, by rw [HX.out, HT.out, HZZ.out, turT_len, turZ_len], by rw [HT.out, turT_len]; exact owP, by rw [HZZ.out, turZ_len]; exact owC, below_setRow bY (by omega)⟩
end Go.Proofs.YtcocfnjbgceidaaGreat
