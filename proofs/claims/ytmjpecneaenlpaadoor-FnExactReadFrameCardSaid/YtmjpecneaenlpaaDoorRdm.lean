import Derived.Test.YtmjpecneaenlpaaDoorBase
import Derived.Lib.Join
namespace Go.Proofs.YtmjpecneaenlpaaDoor
/-! texts that are parted at a byte, read part by part, and written again (no model in this text) -/
/-- a text parted at each byte c -/
def spA (c : UInt8) : List UInt8 → List (List UInt8)
  | [] => [[]]
  | x :: r => if x = c then [] :: spA c r else match spA c r with | [] => [[x]] | p :: ps => (x :: p) :: ps
theorem spA_ne (c : UInt8) : ∀ l, spA c l ≠ []
  | [] => by simp [spA]
  | x :: r => by
    unfold spA
    split
    · simp
    · split <;> simp
theorem spA_no (c : UInt8) : ∀ l : List UInt8, (∀ x ∈ l, x ≠ c) → spA c l = [l]
  | [], _ => rfl
  | x :: r, h => by
    have ih := spA_no c r fun y hy => h y (List.mem_cons_of_mem _ hy)
    unfold spA
    rw [if_neg (h x List.mem_cons_self), ih]
theorem spA_at (c : UInt8) (b : List UInt8) : ∀ a : List UInt8, (∀ x ∈ a, x ≠ c) → spA c (a ++ c :: b) = a :: spA c b
  | [], _ => by
    show spA c (c :: b) = [] :: spA c b
    rw [spA, if_pos rfl]
  | x :: r, h => by
    have ih := spA_at c b r fun y hy => h y (List.mem_cons_of_mem _ hy)
    show spA c (x :: (r ++ c :: b)) = _
    rw [spA, if_neg (h x List.mem_cons_self), ih]
theorem spA_parts (c : UInt8) : ∀ l, ∀ p ∈ spA c l, ∀ x ∈ p, x ≠ c
  | [] => by intro p hp x hx; simp [spA] at hp; subst hp; simp at hx
  | y :: r => by
    have ih := spA_parts c r
    intro p hp x hx
    unfold spA at hp
    split at hp
    · rcases List.mem_cons.1 hp with rfl | hp
      · simp at hx
      · exact ih p hp x hx
    · rename_i hy
      split at hp
      · rcases List.mem_cons.1 hp with rfl | hp
        · rw [List.mem_singleton.1 hx]; exact hy
        · simp at hp
      · rename_i q qs e
        rcases List.mem_cons.1 hp with rfl | hp
        · rcases List.mem_cons.1 hx with rfl | hx
          · exact hy
          · exact ih q (by rw [e]; exact List.mem_cons_self) x hx
        · exact ih p (by rw [e]; exact List.mem_cons_of_mem _ hp) x hx
theorem join_cons2 (x y : List UInt8) (r : List (List UInt8)) (c : UInt8) : Lib.join (x :: y :: r) [c] = x ++ c :: Lib.join (y :: r) [c] := by
  rw [Lib.join_cons, Lib.join_cons]
  simp [Lib.joinTail]
theorem join_head (z : UInt8) (x : List UInt8) (r : List (List UInt8)) (c : UInt8) : Lib.join ((z :: x) :: r) [c] = z :: Lib.join (x :: r) [c] := by
  rw [Lib.join_cons, Lib.join_cons]
  rfl
theorem spA_join (c : UInt8) : ∀ l, Lib.join (spA c l) [c] = l
  | [] => by simp [spA, Lib.join_one]
  | x :: r => by
    have ih := spA_join c r
    unfold spA
    split
    · rename_i h
      subst h
      obtain ⟨p, ps, e⟩ : ∃ p ps, spA x r = p :: ps := by
        cases e : spA x r with
        | nil => exact absurd e (spA_ne _ _)
        | cons p ps => exact ⟨p, ps, rfl⟩
      rw [e] at ih ⊢
      rw [join_cons2, ih]
      rfl
    · split
      · rename_i e
        exact absurd e (spA_ne _ _)
      · rename_i p ps e
        rw [e] at ih
        rw [join_head, ih]
theorem spA_of_join (c : UInt8) : ∀ ps : List (List UInt8), ps ≠ [] → (∀ p ∈ ps, ∀ x ∈ p, x ≠ c) → spA c (Lib.join ps [c]) = ps
  | [], h, _ => absurd rfl h
  | [p], _, h => by rw [Lib.join_one]; exact spA_no c p (h p List.mem_cons_self)
  | p :: q :: r, _, h => by
    rw [join_cons2, spA_at c _ p (h p List.mem_cons_self), spA_of_join c (q :: r) (by simp) fun y hy => h y (List.mem_cons_of_mem _ hy)]
/-- a text parted at c into n parts at most -/
def spN (c : UInt8) : Nat → List UInt8 → List (List UInt8)
  | 0, _ => []
  | 1, l => [l]
  | n + 2, l => if c ∈ l then l.takeWhile (fun x => x != c) :: spN c (n + 1) (l.drop ((l.takeWhile (fun x => x != c)).length + 1)) else [l]
theorem tw_split {c : UInt8} : ∀ {l : List UInt8}, c ∈ l → l = l.takeWhile (fun x => x != c) ++ c :: l.drop ((l.takeWhile (fun x => x != c)).length + 1)
  | [], h => by simp at h
  | x :: r, h => by
    by_cases e : x = c
    · subst e
      simp
    · have hm : c ∈ r := by
        rcases List.mem_cons.1 h with h | h
        · exact absurd h.symm e
        · exact h
      have ih := tw_split hm
      rw [List.takeWhile_cons_of_pos (by simpa using e)]
      simp only [List.cons_append, List.length_cons, List.drop_succ_cons]
      rw [← ih]
theorem tw_no (c : UInt8) : ∀ l : List UInt8, ∀ x ∈ l.takeWhile (fun x => x != c), x ≠ c
  | [], x, hx => by simp at hx
  | y :: r, x, hx => by
    by_cases e : y = c
    · subst e
      simp at hx
    · rw [List.takeWhile_cons_of_pos (by simpa using e)] at hx
      rcases List.mem_cons.1 hx with rfl | hx
      · exact e
      · exact tw_no c r x hx
theorem spA_mem {c : UInt8} {l : List UInt8} (h : c ∈ l) : spA c l = l.takeWhile (fun x => x != c) :: spA c (l.drop ((l.takeWhile (fun x => x != c)).length + 1)) := by
  have := spA_at c (l.drop ((l.takeWhile (fun x => x != c)).length + 1)) _ (tw_no c l)
  rw [← tw_split h] at this
  exact this
theorem spN_all (c : UInt8) : ∀ (n : Nat) (l : List UInt8), (spA c l).length ≤ n → spN c n l = spA c l
  | 0, l, h => absurd (List.length_eq_zero_iff.1 (Nat.le_zero.1 h)) (spA_ne c l)
  | 1, l, h => by
    by_cases hc : c ∈ l
    · rw [spA_mem hc] at h
      have h1 : (spA c (l.drop ((l.takeWhile (fun x => x != c)).length + 1))).length = 0 := by simp at h; exact List.length_eq_zero_iff.2 h
      exact absurd (List.length_eq_zero_iff.1 h1) (spA_ne _ _)
    · rw [spA_no c l fun x hx e => hc (e ▸ hx)]
      rfl
  | n + 2, l, h => by
    unfold spN
    by_cases hc : c ∈ l
    · rw [if_pos hc]
      rw [spA_mem hc] at h ⊢
      rw [spN_all c (n + 1) _ (by simpa using h)]
    · rw [if_neg hc, spA_no c l fun x hx e => hc (e ▸ hx)]
theorem spN_len (c : UInt8) : ∀ (n : Nat) (l : List UInt8), (spN c n l).length ≤ n
  | 0, _ => Nat.le_refl _
  | 1, _ => Nat.le_refl _
  | n + 2, l => by
    unfold spN
    split
    · simpa using spN_len c (n + 1) _
    · simp
theorem spN_pos (c : UInt8) : ∀ (n : Nat) (l : List UInt8), 0 < n → 0 < (spN c n l).length
  | 1, _, _ => by simp [spN]
  | n + 2, l, _ => by
    unfold spN
    split <;> simp

/-- parts read one by one, each with its place -/
def mapO {α : Type} (f : Nat → List UInt8 → Option α) : Nat → List (List UInt8) → Option (List α)
  | _, [] => some []
  | i, x :: xs => match f i x, mapO f (i + 1) xs with
    | some a, some r => some (a :: r)
    | _, _ => none
theorem mapO_cons {α : Type} {f : Nat → List UInt8 → Option α} {i : Nat} {x : List UInt8} {xs : List (List UInt8)} {t : List α} (h : mapO f i (x :: xs) = some t) : ∃ a r, f i x = some a ∧ mapO f (i + 1) xs = some r ∧ t = a :: r := by
  unfold mapO at h
  split at h
  · rename_i a r h1 h2
    exact ⟨a, r, h1, h2, (Option.some.inj h).symm⟩
  · cases h
theorem mapO_snoc {α : Type} {f : Nat → List UInt8 → Option α} : ∀ {xs : List (List UInt8)} {i : Nat} {x : List UInt8} {r : List α} {a : α}, mapO f i xs = some r → f (i + xs.length) x = some a → mapO f i (xs ++ [x]) = some (r ++ [a])
  | [], i, x, r, a, h, h1 => by
    obtain rfl : [] = r := Option.some.inj h
    simp only [List.length_nil, Nat.add_zero] at h1
    simp [mapO, h1]
  | y :: ys, i, x, r, a, h, h1 => by
    obtain ⟨b, s, h2, h3, rfl⟩ := mapO_cons h
    have h4 := mapO_snoc h3 (x := x) (a := a) (by rw [← h1, List.length_cons]; congr 1; omega)
    simp [mapO, h2, h4]
theorem mapO_none {α : Type} {f : Nat → List UInt8 → Option α} : ∀ {xs : List (List UInt8)} {i k : Nat} {x : List UInt8}, xs[k]? = some x → f (i + k) x = none → mapO f i xs = none
  | [], i, k, x, h, _ => by simp at h
  | y :: ys, i, 0, x, h, h1 => by
    obtain rfl : y = x := by simpa using h
    rw [Nat.add_zero] at h1
    simp [mapO, h1]
  | y :: ys, i, k + 1, x, h, h1 => by
    have h2 := mapO_none (i := i + 1) (xs := ys) (k := k) (x := x) (by simpa using h) (by rw [← h1]; congr 1; omega)
    unfold mapO
    rw [h2]
    split
    · rename_i a r e1 e2; cases e2
    · rfl
theorem mapO_len {α : Type} {f : Nat → List UInt8 → Option α} : ∀ {xs : List (List UInt8)} {i : Nat} {r : List α}, mapO f i xs = some r → r.length = xs.length
  | [], i, r, h => by obtain rfl : [] = r := Option.some.inj h; rfl
  | y :: ys, i, r, h => by
    obtain ⟨b, s, h2, h3, rfl⟩ := mapO_cons h
    rw [List.length_cons, List.length_cons, mapO_len h3]
/-- the texts of some things, each with its place -/
def txs {α : Type} (tx : Nat → α → List UInt8) : Nat → List α → List (List UInt8)
  | _, [] => []
  | i, a :: r => tx i a :: txs tx (i + 1) r
theorem txs_len {α : Type} (tx : Nat → α → List UInt8) : ∀ (t : List α) (i : Nat), (txs tx i t).length = t.length
  | [], _ => rfl
  | a :: r, i => by rw [txs, List.length_cons, List.length_cons, txs_len tx r]
/-- what is read strictly is what is read loosely and written again -/
structure Reads {α : Type} (c : UInt8) (N : Nat) (sN iN : Nat → List UInt8 → Option α) (ok : List α → Bool) (good : Nat → α → Prop) (tx : Nat → α → List UInt8) : Prop where
  strict : ∀ i x a, sN i x = some a → x = tx i a ∧ iN i x = some a
  back : ∀ i a, good i a → sN i (tx i a) = some a ∧ ∀ y ∈ tx i a, y ≠ c
  each : ∀ t, ok t = true → ∀ k a, t[k]? = some a → good k a
  few : ∀ t, ok t = true → t.length ≤ N
  some_ : ∀ t, ok t = true → t = [] → ∀ i, Lib.join (txs tx i t) [c] = []
def rdS {α : Type} (c : UInt8) (sN : Nat → List UInt8 → Option α) (ok : List α → Bool) (l : List UInt8) : Option (List α) :=
  match mapO sN 0 (spA c l) with
  | some t => if ok t = true then some t else none
  | none => none
def ttx {α : Type} (c : UInt8) (ok : List α → Bool) (tx : Nat → α → List UInt8) (t : List α) : List UInt8 := if ok t = true then Lib.join (txs tx 0 t) [c] else []
def rdI {α : Type} (c : UInt8) (N : Nat) (iN : Nat → List UInt8 → Option α) (ok : List α → Bool) (tx : Nat → α → List UInt8) (l : List UInt8) : Option (List α) :=
  match mapO iN 0 (spN c N l) with
  | some t => if ttx c ok tx t = l then some t else none
  | none => none
theorem strict_all {α : Type} {c : UInt8} {N : Nat} {sN iN : Nat → List UInt8 → Option α} {ok : List α → Bool} {good : Nat → α → Prop} {tx : Nat → α → List UInt8} (R : Reads c N sN iN ok good tx) :
    ∀ (xs : List (List UInt8)) (i : Nat) (t : List α), mapO sN i xs = some t → xs = txs tx i t ∧ mapO iN i xs = some t
  | [], i, t, h => by obtain rfl : [] = t := Option.some.inj h; exact ⟨rfl, rfl⟩
  | x :: xs, i, t, h => by
    obtain ⟨a, r, h1, h2, rfl⟩ := mapO_cons h
    obtain ⟨h3, h4⟩ := strict_all R xs (i + 1) r h2
    obtain ⟨h5, h6⟩ := R.strict i x a h1
    refine ⟨by rw [txs, ← h5, ← h3], by simp [mapO, h6, h4]⟩
theorem back_all {α : Type} {c : UInt8} {N : Nat} {sN iN : Nat → List UInt8 → Option α} {ok : List α → Bool} {good : Nat → α → Prop} {tx : Nat → α → List UInt8} (R : Reads c N sN iN ok good tx) :
    ∀ (t : List α) (i : Nat), (∀ k a, t[k]? = some a → good (i + k) a) → mapO sN i (txs tx i t) = some t ∧ ∀ p ∈ txs tx i t, ∀ y ∈ p, y ≠ c
  | [], i, _ => ⟨rfl, fun p hp => by simp [txs] at hp⟩
  | a :: r, i, h => by
    obtain ⟨h1, h2⟩ := back_all R r (i + 1) fun k b hb => by
      have := h (k + 1) b (by simpa using hb)
      rwa [show i + (k + 1) = i + 1 + k by omega] at this
    obtain ⟨h3, h4⟩ := R.back i a (by simpa using h 0 a (by simp))
    refine ⟨by simp [txs, mapO, h3, h1], fun p hp => ?_⟩
    rw [txs] at hp
    rcases List.mem_cons.1 hp with rfl | hp
    · exact h4
    · exact h2 p hp
theorem read_same {α : Type} {c : UInt8} {N : Nat} {sN iN : Nat → List UInt8 → Option α} {ok : List α → Bool} {good : Nat → α → Prop} {tx : Nat → α → List UInt8} (R : Reads c N sN iN ok good tx) (l : List UInt8) (hl : l ≠ []) :
    rdS c sN ok l = rdI c N iN ok tx l := by
  have hLR : ∀ t, rdS c sN ok l = some t → rdI c N iN ok tx l = some t := by
    intro t h
    unfold rdS at h
    split at h
    · rename_i u hu
      split at h
      · rename_i hk
        obtain rfl := Option.some.inj h
        obtain ⟨h1, h2⟩ := strict_all R _ _ _ hu
        have h3 : Lib.join (txs tx 0 u) [c] = l := by rw [← h1]; exact spA_join c l
        have h4 : (spA c l).length ≤ N := by rw [h1, txs_len]; exact R.few u hk
        unfold rdI
        rw [spN_all c N l h4, h2]
        simp only [ttx, hk, if_true, h3]
      · cases h
    · cases h
  have hRL : ∀ t, rdI c N iN ok tx l = some t → rdS c sN ok l = some t := by
    intro t h
    unfold rdI at h
    split at h
    · rename_i u hu
      split at h
      · rename_i hk
        obtain rfl := Option.some.inj h
        unfold ttx at hk
        split at hk
        · rename_i ho
          have hne : u ≠ [] := fun e => hl (by rw [← hk]; exact R.some_ u ho e 0)
          obtain ⟨h1, h2⟩ := back_all R u 0 fun k a ha => by rw [Nat.zero_add]; exact R.each u ho k a ha
          have h3 := spA_of_join c (txs tx 0 u) (by intro e; apply hne; have := txs_len tx u 0; rw [e] at this; exact List.length_eq_zero_iff.1 this.symm) h2
          rw [hk] at h3
          unfold rdS
          rw [h3, h1]
          simp only [ho, if_true]
        · exact absurd hk.symm hl
      · cases h
    · cases h
  cases h : rdS c sN ok l with
  | some t => exact (hLR t h).symm
  | none =>
    cases h2 : rdI c N iN ok tx l with
    | none => rfl
    | some t => rw [hRL t h2] at h; cases h
end Go.Proofs.YtmjpecneaenlpaaDoor
