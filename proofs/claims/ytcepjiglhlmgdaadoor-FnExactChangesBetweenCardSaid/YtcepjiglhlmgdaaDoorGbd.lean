import Derived.Test.YtcepjiglhlmgdaaDoorGbc
namespace Go.Proofs.YtcepjiglhlmgdaaDoor
open Go.RowKit Go.Shelf
attribute [local go_sem] Oper.semAt_some

/-- places as cells -/
def acells (ps : List (Nat × Nat)) : List Value := ps.flatMap fun p => [.int .i64 (p.1 : Int), .int .i64 (p.2 : Int)]
theorem acells_append (a b : List (Nat × Nat)) : acells (a ++ b) = acells a ++ acells b := by simp [acells]
theorem acells_length (l : List (Nat × Nat)) : (acells l).length = l.length * 2 := by
  induction l with
  | nil => rfl
  | cons n l ih => simp only [acells, List.flatMap_cons, List.length_append, List.length_cons, List.length_nil] at ih ⊢; omega
theorem acells_even (l : List (Nat × Nat)) : ∀ k p, l[k]? = some p → (acells l)[k * 2]? = some (.int .i64 (p.1 : Int)) := by
  induction l with
  | nil => intro k p h; simp at h
  | cons n l ih =>
    intro k p h
    cases k with
    | zero => simp at h; subst h; simp [acells]
    | succ k =>
      have := ih k p (by simpa using h)
      rw [show (k + 1) * 2 = k * 2 + 1 + 1 from by omega]
      simpa [acells] using this
theorem acells_odd (l : List (Nat × Nat)) : ∀ k p, l[k]? = some p → (acells l)[k * 2 + 1]? = some (.int .i64 (p.2 : Int)) := by
  induction l with
  | nil => intro k p h; simp at h
  | cons n l ih =>
    intro k p h
    cases k with
    | zero => simp at h; subst h; simp [acells]
    | succ k =>
      have := ih k p (by simpa using h)
      rw [show (k + 1) * 2 + 1 = k * 2 + 1 + 1 + 1 from by omega]
      simpa [acells] using this
theorem cell_two_new (w : World) (x y : Value) (t : TypeId) : ∀ j u, ([x, y] : List Value)[j]? = some u → (w.alloc (.cells #[x, y] t)).cell? ((⟨w.heap.size, 0, none⟩ : Addr).add j) = some u := by
  intro j u h
  have hr : (w.alloc (.cells #[x, y] t)).heap[w.heap.size]? = some (.cells #[x, y] t (0, 0)) := heap_alloc_new _ _
  rw [Addr.add_mid, cell_of_row _ _ _ _ _ _ hr, Nat.zero_add]
  simpa using h
/-- the clashes of the first k steps, by step, then by track -/
def csK (S n : Nat) (d : Nat → Int) (l : List (Int × Int)) (k : Nat) : List (Nat × Nat) := (List.range k).flatMap fun j => ((List.range n).filter fun t => clB S d l j t).map fun t => (j, t)
def csI (S n : Nat) (d : Nat → Int) (l : List (Int × Int)) (k i : Nat) : List (Nat × Nat) := csK S n d l k ++ ((List.range i).filter fun t => clB S d l k t).map fun t => (k, t)
theorem csI_zero (S n : Nat) (d : Nat → Int) (l : List (Int × Int)) (k : Nat) : csI S n d l k 0 = csK S n d l k := by simp [csI]
theorem csI_full (S n : Nat) (d : Nat → Int) (l : List (Int × Int)) (k : Nat) : csI S n d l k n = csK S n d l (k + 1) := by simp [csI, csK, List.range_succ, List.flatMap_append]
theorem csI_yes {S n : Nat} {d : Nat → Int} {l : List (Int × Int)} {k i : Nat} (h : clB S d l k i = true) : csI S n d l k (i + 1) = csI S n d l k i ++ [(k, i)] := by
  simp [csI, List.range_succ, List.filter_append, h]
theorem csI_no {S n : Nat} {d : Nat → Int} {l : List (Int × Int)} {k i : Nat} (h : clB S d l k i = false) : csI S n d l k (i + 1) = csI S n d l k i := by
  simp [csI, List.range_succ, List.filter_append, h]
theorem csK_len (S n : Nat) (d : Nat → Int) (l : List (Int × Int)) : ∀ k, (csK S n d l k).length ≤ k * n
  | 0 => by simp [csK]
  | k + 1 => by
    have h1 := csK_len S n d l k
    have h2 := List.length_filter_le (fun t => clB S d l k t) (List.range n)
    rw [← csI_full, csI, List.length_append, List.length_map]
    rw [List.length_range] at h2
    rw [Nat.succ_mul]
    omega
theorem csI_len (S n : Nat) (d : Nat → Int) (l : List (Int × Int)) (k i : Nat) : (csI S n d l k i).length ≤ k * n + i := by
  have h1 := csK_len S n d l k
  have h2 := List.length_filter_le (fun t => clB S d l k t) (List.range i)
  rw [List.length_range] at h2
  rw [csI, List.length_append, List.length_map]
  omega
theorem filter_range_le {n m : Nat} (h : n ≤ m) (p : Nat → Bool) (hp : ∀ t, n ≤ t → t < m → p t = false) : (List.range m).filter p = (List.range n).filter p := by
  obtain ⟨q, rfl⟩ : ∃ q, m = n + q := ⟨m - n, by omega⟩
  clear h
  induction q with
  | zero => rfl
  | succ q ih =>
    rw [← Nat.add_assoc, List.range_succ, List.filter_append, ih fun t h1 h2 => hp t h1 (by omega)]
    simp [hp (n + q) (by omega) (by omega)]
theorem cs_all {S : Nat} {d : Nat → Int} {l : List (Int × Int)} (hdr : drB (S : Int) l.length d = true) (hd : DWF d) (hS : S ≤ 96) (hl : l.length ≤ 24) : csK S l.length d l S = clsF S d l (pinsL d) := by
  have hrow : ∀ k, k < 96 → ((bitsL (d k).toNat).filter fun t => nextB S d k t (hRe l t).toNat) = (List.range l.length).filter fun t => clB S d l k t := by
    intro k hk
    unfold bitsL
    rw [List.filter_filter]
    have e : (fun t => nextB S d k t (hRe l t).toNat && (d k).toNat.testBit t) = fun t => clB S d l k t := by
      funext t
      rw [clB, pin_bit (hd k hk).1, Bool.and_comm]
    rw [e]
    refine filter_range_le (by omega) _ fun t h1 h2 => ?_
    cases hp : pinB d k t
    · simp [clB, hp]
    · have := (pin_in hdr hd hk hp).2
      omega
  have hz : ∀ k, S ≤ k → k < 96 → ((List.range l.length).filter fun t => clB S d l k t) = [] := by
    intro k h1 h2
    rw [List.filter_eq_nil_iff]
    intro t ht
    cases hp : pinB d k t
    · simp [clB, hp]
    · have := (pin_in hdr hd h2 hp).1
      omega
  have hT : ∀ n, n ≤ 96 → clsF S d l (pinsT d n) = csK S l.length d l n := by
    intro n
    induction n with
    | zero => intro _; rfl
    | succ n ih =>
      intro h
      rw [pinsT_succ, ← csI_full, csI, ← ih (by omega), ← hrow n (by omega)]
      unfold clsF
      rw [List.filter_append, List.filter_map]
      rfl
  have hE : ∀ q, S + q ≤ 96 → csK S l.length d l (S + q) = csK S l.length d l S := by
    intro q
    induction q with
    | zero => intro _; rfl
    | succ q ih =>
      intro h
      rw [← Nat.add_assoc, ← csI_full, csI, hz (S + q) (by omega) (by omega), ih (by omega)]
      simp
  have := hE (96 - S) (by omega)
  rw [show S + (96 - S) = 96 by omega] at this
  rw [← this]
  exact (hT 96 (Nat.le_refl _)).symm

end Go.Proofs.YtcepjiglhlmgdaaDoor
namespace Go.Proofs.YtcepjiglhlmgdaaDoor
open Go.RowKit

/-- places as a list of numbers, two a place -/
def flatP (ps : List (Nat × Nat)) : List Int := ps.flatMap fun p => [(p.1 : Int), (p.2 : Int)]
theorem flatP_len (ps : List (Nat × Nat)) : (flatP ps).length = ps.length * 2 := by
  induction ps with
  | nil => rfl
  | cons p ps ih => simp only [flatP, List.flatMap_cons, List.length_append, List.length_cons, List.length_nil] at ih ⊢; omega
theorem acells_flat (ps : List (Nat × Nat)) : acells ps = icells (flatP ps) := by
  induction ps with
  | nil => rfl
  | cons p ps ih =>
    simp only [acells, flatP, icells, List.flatMap_cons, List.map_append] at ih ⊢
    rw [ih]
    rfl
/-- a slice's address under which pairs of numbers lie, in blocks below B -/
def SA (w : World) (B : Nat) (A : Option Addr) (n : Nat) (zs : List Int) : Prop := ∀ k, k < n → ∃ b, A = some ⟨b, 0, none⟩ ∧ b < B ∧ w.cell? ⟨b, k * 2, none⟩ = some (.int .i64 (zAt zs (k * 2))) ∧ w.cell? ⟨b, k * 2 + 1, none⟩ = some (.int .i64 (zAt zs (k * 2 + 1)))
theorem SA.below {w w' : World} {B n : Nat} {A : Option Addr} {zs : List Int} (h : SA w B A n zs) (hb : Below B w w') : SA w' B A n zs := fun k hk => by
  obtain ⟨b, h1, h2, h3, h4⟩ := h k hk
  exact ⟨b, h1, h2, (hb.cell (p := ⟨b, _, none⟩) h2).trans h3, (hb.cell (p := ⟨b, _, none⟩) h2).trans h4⟩
theorem SA.up {w : World} {B B' n : Nat} {A : Option Addr} {zs : List Int} (h : SA w B A n zs) (hB : B ≤ B') : SA w B' A n zs := fun k hk => by
  obtain ⟨b, h1, h2, h3⟩ := h k hk
  exact ⟨b, h1, by omega, h3⟩
end Go.Proofs.YtcepjiglhlmgdaaDoor
namespace Go.Proofs.YtcepjiglhlmgdaaDoor
open Go.RowKit Go.Shelf
attribute [local go_sem] Oper.semAt_some

theorem pinsL_len (d : Nat → Int) : (pinsL d).length ≤ 4000 := by
  have := pinsT_len d 96
  unfold pinsL
  omega
end Go.Proofs.YtcepjiglhlmgdaaDoor
