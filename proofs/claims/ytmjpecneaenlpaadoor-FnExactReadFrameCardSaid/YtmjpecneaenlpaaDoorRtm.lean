import Derived.Test.YtmjpecneaenlpaaDoorRdm
import Derived.Test.YtmjpecneaenlpaaDoorNuq
namespace Go.Proofs.YtmjpecneaenlpaaDoor
/-! names of pitches; a text cut at a byte; notes read (no model in this text) -/
def hsQ : List (List UInt8) := [[99], [99, 35], [100], [100, 35], [101], [102], [102, 35], [103], [103, 35], [97], [97, 35], [98]]
def pnQ (p : Nat) : List UInt8 := hsQ.getD (p % 12) [] ++ [UInt8.ofNat (48 + p / 12)]
/-- the pitch with a name -/
def pnF (b : List UInt8) : Option Nat := (List.range 48).find? fun p => pnQ p == b
theorem pn_facts : ∀ p, p < 48 → pnF (pnQ p) = some p ∧ (58 : UInt8) ∉ pnQ p ∧ (32 : UInt8) ∉ pnQ p ∧ (47 : UInt8) ∉ pnQ p := by decide +kernel
theorem pnF_some {b : List UInt8} {p : Nat} (h : pnF b = some p) : p < 48 ∧ pnQ p = b := by
  refine ⟨?_, by simpa using List.find?_some h⟩
  have := List.mem_of_find?_eq_some h
  simpa using this
/-- a text cut at the first c -/
def cutQ (c : UInt8) (l : List UInt8) : Option (List UInt8 × List UInt8) := if c ∈ l then some (l.takeWhile (fun x => x != c), l.drop ((l.takeWhile (fun x => x != c)).length + 1)) else none
theorem tw_of {c : UInt8} (b : List UInt8) : ∀ a : List UInt8, (∀ x ∈ a, x ≠ c) → (a ++ c :: b).takeWhile (fun x => x != c) = a
  | [], _ => by simp
  | x :: r, h => by
    show (x :: (r ++ c :: b)).takeWhile _ = _
    rw [List.takeWhile_cons_of_pos (by simpa using h x List.mem_cons_self), tw_of b r fun y hy => h y (List.mem_cons_of_mem _ hy)]
theorem cutQ_at {c : UInt8} {a b : List UInt8} (h : ∀ x ∈ a, x ≠ c) : cutQ c (a ++ c :: b) = some (a, b) := by
  unfold cutQ
  rw [if_pos (by simp), tw_of b a h]
  congr 1
  congr 1
  rw [List.drop_append, List.drop_eq_nil_of_le (by omega)]
  simp
theorem spA_two {c : UInt8} {x a b : List UInt8} (h : spA c x = [a, b]) : x = a ++ c :: b ∧ (∀ y ∈ a, y ≠ c) ∧ ∀ y ∈ b, y ≠ c := by
  have h1 := spA_join c x
  rw [h, join_cons2, Lib.join_one] at h1
  have h2 := spA_parts c x
  rw [h] at h2
  exact ⟨h1.symm, h2 a (by simp), h2 b (by simp)⟩
theorem spA_pair {c : UInt8} {a b : List UInt8} (ha : ∀ y ∈ a, y ≠ c) (hb : ∀ y ∈ b, y ≠ c) : spA c (a ++ c :: b) = [a, b] := by
  rw [spA_at c b a ha, spA_no c b hb]
/-- a note read strictly -/
def sNote (_ : Nat) (x : List UInt8) : Option (Int × Int) := match spA 58 x with
  | [a, b] => match snum a, pnF b with
    | some n, some p => if n < 200 then some ((n : Int), (p : Int)) else none
    | _, _ => none
  | _ => none
/-- .. and loosely -/
def iNote (_ : Nat) (x : List UInt8) : Option (Int × Int) := match cutQ 58 x with
  | some (a, b) => match Lib.parseIntB 16 a, pnF b with
    | .ok v, some p => some (v, (p : Int))
    | _, _ => none
  | none => none
def txN (_ : Nat) (n : Int × Int) : List UInt8 := Lib.decDigits n.1.toNat ++ 58 :: pnQ n.2.toNat
def goodN (_ : Nat) (n : Int × Int) : Prop := (0 ≤ n.1 ∧ n.1 ≤ 199) ∧ (0 ≤ n.2 ∧ n.2 ≤ 47)
theorem sNote_inv {i : Nat} {x : List UInt8} {a : Int × Int} (h : sNote i x = some a) : x = txN i a ∧ iNote i x = some a := by
  unfold sNote at h
  split at h
  · rename_i u v e
    split at h
    · rename_i n p h1 h2
      split at h
      · rename_i hn
        obtain rfl := Option.some.inj h
        obtain ⟨h3, h4, h5⟩ := spA_two e
        have h6 := snum_inv h1
        obtain ⟨h7, h8⟩ := pnF_some h2
        refine ⟨by rw [h3, txN, h6, ← h8]; simp, ?_⟩
        unfold iNote
        rw [h3, cutQ_at h4]
        have h9 := parse_dec (B := 16) (.inr rfl) (n := n) (by omega)
        simp only [h6, h9, h2]
      · cases h
    · cases h
  · cases h
theorem sNote_back {i : Nat} {a : Int × Int} (h : goodN i a) : sNote i (txN i a) = some a ∧ ∀ y ∈ txN i a, y ≠ 32 := by
  obtain ⟨⟨a1, a2⟩, ⟨p1, p2⟩⟩ := h
  obtain ⟨x, y⟩ := a
  dsimp only at a1 a2 p1 p2
  obtain ⟨n, rfl⟩ := Int.eq_ofNat_of_zero_le a1
  obtain ⟨p, rfl⟩ := Int.eq_ofNat_of_zero_le p1
  obtain ⟨f1, f2, f3, _⟩ := pn_facts p (by omega)
  have d58 := dq_not (c := 58) (by decide) n
  have d32 := dq_not (c := 32) (by decide) n
  refine ⟨?_, ?_⟩
  · unfold sNote txN
    simp only [Int.toNat_natCast]
    rw [spA_pair d58 (fun y hy e => f2 (e ▸ hy))]
    simp only [snum_dec (show n < 1000000000 by omega), f1]
    rw [if_pos (by omega)]
  · intro z hz
    simp only [txN, Int.toNat_natCast, List.mem_append, List.mem_cons] at hz
    rcases hz with hz | rfl | hz
    · exact d32 z hz
    · decide
    · exact fun e => f3 (e ▸ hz)
end Go.Proofs.YtmjpecneaenlpaaDoor
