import Derived.Test.YtghkcfghkbihcaaGreatDoorGbn
namespace Go.Proofs.YtghkcfghkbihcaaGreatDoor
open Go.RowKit

theorem prgB_all {s : Int} {l m : List (Int × Int)} {o : Nat → Int} (h : prgB s l m o = true) : (2 ≤ s ∧ s ≤ 96) ∧ m.length ≤ 12 ∧ SG (secG s m) m.length ∧ SG (ordG m.length o) 48 := by
  simp only [prgB, Bool.and_eq_true, decide_eq_true_eq] at h
  exact ⟨(frB_all h.1.1.1).1, h.1.1.2, all_SG h.1.2, all_SG h.2⟩
theorem secE_nonneg {s : Int} {m : List (Int × Int)} (h : SG (secG s m) m.length) : ∀ k, k ≤ m.length → 0 ≤ secE m k
  | 0, _ => by simp [secE]
  | k + 1, hk => by
    have h1 := secG_of (h k (by omega))
    have h2 := secE_nonneg h k (by omega)
    simp only [secE]
    omega
theorem sec_in {s : Int} {m : List (Int × Int)} (h : SG (secG s m) m.length) (k : Nat) (hk : k < m.length) : 0 ≤ secF m k ∧ secF m k < s ∧ 1 ≤ secS m k ∧ secF m k + secS m k ≤ s := by
  have h1 := secG_of (h k hk)
  have h2 := secE_nonneg h k (by omega)
  exact ⟨by omega, h1.2.1, h1.2.2.1, h1.2.2.2⟩

def saP (m : List (Int × Int)) (x : Int) (k : Nat) : Bool := decide (secF m k ≤ x ∧ x < secF m k + secS m k)
def saJ (m : List (Int × Int)) (x : Int) : Option Nat := (List.range m.length).find? (saP m x)
def saC (s : Int) (l m : List (Int × Int)) (o : Nat → Int) (x : Int) : Int := if prgB s l m o then (if inB x 0 (s - 1) then (if (saJ m x).isSome then 0 else 6) else 2) else 1
def saV (s : Int) (l m : List (Int × Int)) (o : Nat → Int) (x : Int) : Int := if saC s l m o x = 0 then (match saJ m x with | some j => (j : Int) | none => 0) else 0

end Go.Proofs.YtghkcfghkbihcaaGreatDoor
