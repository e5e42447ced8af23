import Derived.Test.YtmjpecneaenlpaaDoorRtm
import Derived.Lib.Split
import Derived.Lib.IndexBytes
namespace Go.Proofs.YtmjpecneaenlpaaDoor
/-! the library's words on texts, in ours (no model in this text) -/
theorem ib_no {c : UInt8} : ∀ {l : List UInt8}, c ∉ l → Lib.indexByte l c = -1
  | [], _ => rfl
  | x :: r, h => by
    have h1 : c ∉ r := fun hc => h (List.mem_cons_of_mem _ hc)
    have h2 : (x == c) = false := beq_eq_false_iff_ne.2 fun e => h (e ▸ List.mem_cons_self)
    unfold Lib.indexByte
    rw [h2, ib_no h1]
    rfl
theorem ib_in {c : UInt8} : ∀ {l : List UInt8}, c ∈ l → Lib.indexByte l c = ((l.takeWhile (fun x => x != c)).length : Nat)
  | [], h => by simp at h
  | x :: r, h => by
    by_cases e : x = c
    · subst e
      simp [Lib.indexByte]
    · have hm : c ∈ r := by
        rcases List.mem_cons.1 h with h | h
        · exact absurd h.symm e
        · exact h
      have ih := ib_in hm
      have h2 : (x == c) = false := beq_eq_false_iff_ne.2 e
      unfold Lib.indexByte
      rw [h2, ih, List.takeWhile_cons_of_pos (by simpa using e)]
      rw [if_neg (by simp), if_neg (by first | (simp; done) | (simp; omega))]
      simp
theorem tk_of {c : UInt8} {l : List UInt8} (h : c ∈ l) : l.take (l.takeWhile (fun x => x != c)).length = l.takeWhile (fun x => x != c) := by
  have h1 := tw_split h
  generalize l.takeWhile (fun x => x != c) = a at *
  generalize l.drop (a.length + 1) = b at *
  rw [h1]
  simp
theorem splitK_spN (c : UInt8) : ∀ (k : Nat) (l : List UInt8), Lib.splitK [c] 0 k l = spN c (k + 1) l
  | 0, _ => rfl
  | k + 1, l => by
    unfold Lib.splitK spN
    rw [Lib.index_one]
    by_cases hc : c ∈ l
    · rw [ib_in hc, if_neg (by first | (simp; done) | (simp; omega)), if_pos hc]
      simp only [Int.toNat_natCast, Nat.add_zero, List.length_cons, List.length_nil, Nat.zero_add]
      rw [tk_of hc, splitK_spN c k]
    · rw [ib_no hc, if_pos (by simp), if_neg hc]
theorem spA_len (c : UInt8) (l : List UInt8) : (spA c l).length ≤ l.length + 1 := by
  have : ∀ (k : Nat) (l : List UInt8), l.length ≤ k → (spA c l).length ≤ l.length + 1 := by
    intro k
    induction k with
    | zero =>
      intro l h
      obtain rfl := List.length_eq_zero_iff.1 (Nat.le_zero.1 h)
      rw [spA_no c [] (by simp)]
      simp
    | succ k ih =>
      intro l h
      by_cases hc : c ∈ l
      · rw [spA_mem hc]
        have h1 := tw_split hc
        have h2 : l.length = (l.takeWhile (fun x => x != c)).length + 1 + (l.drop ((l.takeWhile (fun x => x != c)).length + 1)).length := by
          have := congrArg List.length h1
          simp only [List.length_append, List.length_cons] at this
          omega
        generalize l.drop ((l.takeWhile (fun x => x != c)).length + 1) = b at *
        have := ih b (by omega)
        simp only [List.length_cons]
        omega
      · rw [spA_no c l fun x hx e => hc (e ▸ hx)]
        simp
  exact this _ l (Nat.le_refl _)
theorem spN_min (c : UInt8) (n : Nat) (l : List UInt8) : spN c (min n (l.length + 1)) l = spN c n l := by
  rcases Nat.le_total n (l.length + 1) with h | h
  · rw [Nat.min_eq_left h]
  · rw [Nat.min_eq_right h, spN_all c _ l (spA_len c l), spN_all c _ l (Nat.le_trans (spA_len c l) h)]
theorem spN_part (c : UInt8) : ∀ (n : Nat) (l : List UInt8), ∀ p ∈ spN c n l, p.length ≤ l.length
  | 0, l, p, h => by simp [spN] at h
  | 1, l, p, h => by simp [spN] at h; rw [h]; exact Nat.le_refl _
  | n + 2, l, p, h => by
    unfold spN at h
    split at h
    · rename_i hc
      have h2 : (l.takeWhile (fun x => x != c)).length ≤ l.length := (List.takeWhile_sublist _).length_le
      rcases List.mem_cons.1 h with rfl | h
      · exact h2
      · have := spN_part c (n + 1) _ p h
        rw [List.length_drop] at this
        omega
    · simp at h
      rw [h]
      exact Nat.le_refl _
theorem spA_part (c : UInt8) (l : List UInt8) : ∀ p ∈ spA c l, p.length ≤ l.length := by
  intro p hp
  rw [← spN_all c _ l (Nat.le_refl _)] at hp
  exact spN_part c _ l p hp
theorem spA_full {c : UInt8} : ∀ (k : Nat) (l : List UInt8), l.length ≤ k → (∀ p ∈ spA c l, p ≠ []) → (spA c l).length ≤ l.length := by
  intro k
  induction k with
  | zero =>
    intro l h hp
    obtain rfl := List.length_eq_zero_iff.1 (Nat.le_zero.1 h)
    rw [spA_no c [] (by simp)] at hp
    exact absurd rfl (hp [] (by simp))
  | succ k ih =>
    intro l h hp
    by_cases hc : c ∈ l
    · have h1 := tw_split hc
      rw [spA_mem hc] at hp ⊢
      have h2 : l.length = (l.takeWhile (fun x => x != c)).length + 1 + (l.drop ((l.takeWhile (fun x => x != c)).length + 1)).length := by
        have := congrArg List.length h1
        simp only [List.length_append, List.length_cons] at this
        omega
      generalize l.drop ((l.takeWhile (fun x => x != c)).length + 1) = b at *
      have := ih b (by omega) fun p hpb => hp p (List.mem_cons_of_mem _ hpb)
      simp only [List.length_cons]
      omega
    · rw [spA_no c l fun x hx e => hc (e ▸ hx)] at hp ⊢
      have := List.length_pos_iff.2 (hp l (by simp))
      simp
      omega
/-- the bytes of a piece of a text -/
theorem ex_data (s : ByteArray) (a b : Nat) : (s.extract a b).data.toList = (s.data.toList.drop a).take (b - a) := by
  rw [ByteArray.data_extract, Array.toList_extract]
  first | done | rfl | simp [List.extract_eq_drop_take]
theorem pn_first {b : List UInt8} {m : Nat} (hm : m < 48) (h : ∀ j, j < m → pnQ j ≠ b) (he : pnQ m = b) : pnF b = some m := by
  unfold pnF
  rw [List.find?_range_eq_some]
  refine ⟨by simpa using he, by simpa using hm, fun j hj => by simpa using h j hj⟩
theorem pn_none {b : List UInt8} (h : ∀ j, j < 48 → pnQ j ≠ b) : pnF b = none := by
  unfold pnF
  rw [List.find?_eq_none]
  intro j hj
  have := h j (by simpa using hj)
  simpa using this
/-- a number read so far -/
theorem nuV_take {l : List UInt8} {k : Nat} (hk : k < l.length) : nuV (l.take (k + 1)) = 10 * nuV (l.take k) + (l[k].toNat - 48) := by
  rw [List.take_succ_eq_append_getElem hk, nuV_snoc]
theorem nuF_lt : ∀ (l : List UInt8) (a : Nat), l.all digB = true → l.foldl nuF a < (a + 1) * 10 ^ l.length
  | [], a, _ => by simp
  | c :: r, a, h => by
    simp only [List.all_cons, Bool.and_eq_true] at h
    have hc : 48 ≤ c.toNat ∧ c.toNat ≤ 57 := by simpa [digB] using h.1
    have h1 := nuF_lt r (nuF a c) h.2
    rw [List.foldl_cons, List.length_cons, Nat.pow_succ, Nat.mul_comm (10 ^ r.length) 10, ← Nat.mul_assoc]
    refine Nat.lt_of_lt_of_le h1 (Nat.mul_le_mul_right _ ?_)
    unfold nuF
    omega
theorem nuV_lt {l : List UInt8} (h : l.all digB = true) : nuV l < 10 ^ l.length := by
  have := nuF_lt l 0 h
  simpa [nuV] using this
end Go.Proofs.YtmjpecneaenlpaaDoor
