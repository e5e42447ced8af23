import Derived.Test.YtklkomgpaamcpaaLoud
import Derived.Maps.OwnSet
namespace Go.Proofs.Ytklkomgpaamcpaa
open Go.RowKit Go.Maps

/-- a pair of notes with one pitch, among those that have been looked at when note n is held against those before m -/
def Pr (l : List (Int × Int)) (n m k i : Nat) : Prop := k < i ∧ (i < n ∨ (i = n ∧ k < m)) ∧ nPi l k = nPi l i
def NoPr (l : List (Int × Int)) (n m : Nat) : Prop := ∀ k i, ¬ Pr l n m k i
def Least (l : List (Int × Int)) (n m : Nat) (g p : Int) : Prop :=
  (∃ k i, Pr l n m k i ∧ nAt l i - nAt l k = g ∧ nPi l i = p) ∧ ∀ k i, Pr l n m k i → g < nAt l i - nAt l k ∨ (g = nAt l i - nAt l k ∧ p ≤ nPi l i)
def St (l : List (Int × Int)) (n m : Nat) (x p : Int) : Prop := (x = -1 ∧ p = 0 ∧ NoPr l n m) ∨ (0 ≤ x ∧ Least l n m x p)

theorem least_one {l : List (Int × Int)} {n m : Nat} {g p g' p' : Int} (h : Least l n m g p) (h' : Least l n m g' p') : g = g' ∧ p = p' := by
  obtain ⟨⟨k, i, a1, a2, a3⟩, b⟩ := h
  obtain ⟨⟨k', i', a1', a2', a3'⟩, b'⟩ := h'
  have c1 := b k' i' a1'
  have c2 := b' k i a1
  omega
theorem pr_step {l : List (Int × Int)} {n m k i : Nat} (h : Pr l n (m + 1) k i) : Pr l n m k i ∨ (k = m ∧ i = n ∧ nPi l m = nPi l n) := by
  obtain ⟨h1, h2, h3⟩ := h
  rcases h2 with h2 | ⟨rfl, h2⟩
  · exact .inl ⟨h1, .inl h2, h3⟩
  · by_cases e : k = m
    · subst e; exact .inr ⟨rfl, rfl, h3⟩
    · exact .inl ⟨h1, .inr ⟨rfl, by omega⟩, h3⟩
theorem pr_more {l : List (Int × Int)} {n m k i : Nat} (h : Pr l n m k i) : Pr l n (m + 1) k i :=
  ⟨h.1, h.2.1.imp id (fun h2 => ⟨h2.1, by omega⟩), h.2.2⟩
theorem st_skip {l : List (Int × Int)} {n m : Nat} {x p : Int} (h : St l n m x p) (hne : ¬ nPi l m = nPi l n) : St l n (m + 1) x p := by
  rcases h with ⟨h1, h2, h3⟩ | ⟨h1, ⟨k, i, a1, a2, a3⟩, b⟩
  · refine .inl ⟨h1, h2, fun k i hp => ?_⟩
    rcases pr_step hp with hp | ⟨_, _, e⟩
    · exact h3 k i hp
    · exact hne e
  · refine .inr ⟨h1, ⟨k, i, pr_more a1, a2, a3⟩, fun k i hp => ?_⟩
    rcases pr_step hp with hp | ⟨_, _, e⟩
    · exact b k i hp
    · exact absurd e hne
theorem st_take {l : List (Int × Int)} {n m : Nat} {x p : Int} (h : St l n m x p) (he : nPi l m = nPi l n) (hm : m < n) (hg : 0 ≤ nAt l n - nAt l m)
    (hc : x < 0 ∨ nAt l n - nAt l m < x ∨ (nAt l n - nAt l m = x ∧ nPi l n < p)) : St l n (m + 1) (nAt l n - nAt l m) (nPi l n) := by
  refine .inr ⟨hg, ⟨m, n, ⟨hm, .inr ⟨rfl, by omega⟩, he⟩, rfl, rfl⟩, fun k i hp => ?_⟩
  rcases pr_step hp with hp | ⟨rfl, rfl, e⟩
  · rcases h with ⟨h1, h2, h3⟩ | ⟨h1, _, b⟩
    · exact absurd hp (h3 k i)
    · have := b k i hp
      omega
  · exact .inr ⟨rfl, Int.le_refl _⟩
theorem st_keep {l : List (Int × Int)} {n m : Nat} {x p : Int} (h : St l n m x p) (_he : nPi l m = nPi l n)
    (hc : ¬ (x < 0 ∨ nAt l n - nAt l m < x ∨ (nAt l n - nAt l m = x ∧ nPi l n < p))) : St l n (m + 1) x p := by
  rcases h with ⟨h1, _, _⟩ | ⟨h1, ⟨k, i, a1, a2, a3⟩, b⟩
  · omega
  · refine .inr ⟨h1, ⟨k, i, pr_more a1, a2, a3⟩, fun k i hp => ?_⟩
    rcases pr_step hp with hp | ⟨rfl, rfl, e⟩
    · exact b k i hp
    · omega
theorem pr_row {l : List (Int × Int)} {n k i : Nat} : Pr l n n k i ↔ Pr l (n + 1) 0 k i := by
  unfold Pr
  constructor
  · rintro ⟨h1, h2, h3⟩; exact ⟨h1, .inl (by omega), h3⟩
  · rintro ⟨h1, h2, h3⟩; exact ⟨h1, by omega, h3⟩
theorem st_row {l : List (Int × Int)} {n : Nat} {x p : Int} (h : St l n n x p) : St l (n + 1) 0 x p := by
  rcases h with ⟨h1, h2, h3⟩ | ⟨h1, ⟨k, i, a1, a2, a3⟩, b⟩
  · exact .inl ⟨h1, h2, fun k i hp => h3 k i (pr_row.2 hp)⟩
  · exact .inr ⟨h1, ⟨k, i, pr_row.1 a1, a2, a3⟩, fun k i hp => b k i (pr_row.2 hp)⟩
theorem st_start (l : List (Int × Int)) : St l 0 0 (-1) 0 := .inl ⟨rfl, rfl, fun k i h => by obtain ⟨h1, h2, _⟩ := h; omega⟩

theorem asc_of (l : List (Int × Int)) (h : okB l = true) : Asc l l.length := by
  rw [okB_eq] at h
  simp only [Bool.and_eq_true] at h
  have h2 := h.2
  unfold ascB at h2
  rw [List.all_eq_true] at h2
  intro j hj h0
  have := h2 j (List.mem_range.2 hj)
  simpa [show ¬ j = 0 by omega] using this
theorem asc_mono {l : List (Int × Int)} (h : Asc l l.length) (k : Nat) : ∀ i, k ≤ i → i < l.length → nAt l k ≤ nAt l i := by
  intro i hki
  induction i with
  | zero => intro _; rw [show k = 0 by omega]; exact Int.le_refl _
  | succ i ih =>
    intro hi
    by_cases e : k = i + 1
    · rw [e]; exact Int.le_refl _
    · have h1 := ih (by omega) (by omega)
      have h2 := h (i + 1) hi (by omega)
      simp only [befB, Nat.add_sub_cancel, decide_eq_true_eq] at h2
      omega
theorem st_exists {l : List (Int × Int)} (h : Asc l l.length) : ∀ n, n ≤ l.length → ∃ x p, St l n 0 x p := by
  intro n
  induction n with
  | zero => exact fun _ => ⟨_, _, st_start l⟩
  | succ n ih =>
    intro hn
    obtain ⟨x, p, h0⟩ := ih (by omega)
    have inner : ∀ m, m ≤ n → ∃ x p, St l n m x p := by
      intro m
      induction m with
      | zero => exact fun _ => ⟨x, p, h0⟩
      | succ m ihm =>
        intro hm
        obtain ⟨x', p', h1⟩ := ihm (by omega)
        by_cases he : nPi l m = nPi l n
        · by_cases hc : x' < 0 ∨ nAt l n - nAt l m < x' ∨ (nAt l n - nAt l m = x' ∧ nPi l n < p')
          · exact ⟨_, _, st_take h1 he (by omega) (by have := asc_mono h m n (by omega) (by omega); omega) hc⟩
          · exact ⟨_, _, st_keep h1 he hc⟩
        · exact ⟨_, _, st_skip h1 he⟩
    obtain ⟨x', p', h2⟩ := inner n (Nat.le_refl _)
    exact ⟨_, _, st_row h2⟩

/-- what LeastGap answers -/
def GapIs (l : List (Int × Int)) (g p c : Int) : Prop :=
  (okB l = false ∧ g = 0 ∧ p = 0 ∧ c = 1) ∨ (okB l = true ∧ NoPr l l.length 0 ∧ g = 0 ∧ p = 0 ∧ c = 6) ∨ (okB l = true ∧ Least l l.length 0 g p ∧ c = 0)
theorem gap_exists (l : List (Int × Int)) : ∃ g p c, GapIs l g p c := by
  cases h : okB l
  · exact ⟨0, 0, 1, .inl ⟨h, rfl, rfl, rfl⟩⟩
  · obtain ⟨x, p, h1⟩ := st_exists (asc_of l h) l.length (Nat.le_refl _)
    rcases h1 with ⟨_, _, h1⟩ | ⟨_, h1⟩
    · exact ⟨0, 0, 6, .inr (.inl ⟨h, h1, rfl, rfl, rfl⟩)⟩
    · exact ⟨x, p, 0, .inr (.inr ⟨h, h1, rfl⟩)⟩
theorem gap_no {l : List (Int × Int)} {g p c : Int} (h : GapIs l g p c) (hok : okB l = false) : g = 0 ∧ p = 0 ∧ c = 1 := by
  rcases h with ⟨_, h⟩ | ⟨h, _⟩ | ⟨h, _⟩
  · exact h
  · rw [hok] at h; cases h
  · rw [hok] at h; cases h
theorem gap_none {l : List (Int × Int)} {g p c : Int} (h : GapIs l g p c) (hok : okB l = true) (hn : NoPr l l.length 0) : g = 0 ∧ p = 0 ∧ c = 6 := by
  rcases h with ⟨h, _⟩ | ⟨_, _, h⟩ | ⟨_, ⟨⟨k, i, a, _⟩, _⟩, _⟩
  · rw [hok] at h; cases h
  · exact h
  · exact absurd a (hn k i)
theorem gap_some {l : List (Int × Int)} {g p c x q : Int} (h : GapIs l g p c) (hok : okB l = true) (hx : Least l l.length 0 x q) : g = x ∧ p = q ∧ c = 0 := by
  rcases h with ⟨h, _⟩ | ⟨_, hn, _⟩ | ⟨_, h, hc⟩
  · rw [hok] at h; cases h
  · obtain ⟨⟨k, i, a, _⟩, _⟩ := hx
    exact absurd a (hn k i)
  · obtain ⟨e1, e2⟩ := least_one h hx
    exact ⟨e1, e2, hc⟩
end Go.Proofs.Ytklkomgpaamcpaa
