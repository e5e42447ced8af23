import Derived.Test.YtfkmippodmglnaaDoorGac
import Derived.Test.YtfkmippodmglnaaDoorPnm
import Derived.Test.YtfkmippodmglnaaDoorFre
namespace Go.Proofs.YtfkmippodmglnaaDoor
open Go.RowKit
/-- the parts of a frame's text -/
def ftX (s : Int) (l : List (Int × Int)) (j : Nat) : ByteArray := if j = 0 then ⟨(Lib.decDigits s.toNat).toArray⟩ else pnV (hPi l (j - 1)) ++ ⟨#[47]⟩ ++ ⟨(Lib.decDigits (hRe l (j - 1)).toNat).toArray⟩
def ftV (s : Int) (l : List (Int × Int)) : ByteArray := if frB s l = true then ⟨(txJ (ftX s l) 32 (l.length + 1)).toArray⟩ else ⟨#[]⟩
theorem mnI_hi (s : Int) : mnI s ≤ 20 := by unfold mnI; split <;> omega
theorem frB_get {s : Int} {l : List (Int × Int)} (h : frB s l = true) : (2 ≤ s ∧ s ≤ 96) ∧ (1 ≤ l.length ∧ l.length ≤ 24) ∧ ∀ j, j < l.length → (0 ≤ hPi l j ∧ hPi l j ≤ 47) ∧ (1 ≤ hRe l j ∧ hRe l j ≤ 20) := by
  obtain ⟨h1, h2, h3⟩ := frB_all h
  refine ⟨h1, h2, fun j hj => ?_⟩
  have h4 := h3 j hj
  have h5 := mnI_hi s
  simp [hamB, inB] at h4
  omega
theorem ftX_succ (s : Int) (l : List (Int × Int)) (j : Nat) : ftX s l (j + 1) = pnV (hPi l j) ++ ⟨#[47]⟩ ++ ⟨(Lib.decDigits (hRe l j).toNat).toArray⟩ := by simp [ftX]
theorem ftX_zero (s : Int) (l : List (Int × Int)) : ftX s l 0 = ⟨(Lib.decDigits s.toNat).toArray⟩ := rfl
theorem ftX_len {s : Int} {l : List (Int × Int)} (h : frB s l = true) (j : Nat) (hj : j < l.length + 1) : (ftX s l j).data.toList.length ≤ 6 := by
  obtain ⟨h1, h2, h3⟩ := frB_get h
  cases j with
  | zero =>
    have := dec_len2 (show s.toNat < 100 by omega)
    rw [ftX_zero]
    simpa using (by omega : (Lib.decDigits s.toNat).length ≤ 6)
  | succ j =>
    have h4 := h3 j (by omega)
    have h5 := dec_len2 (show (hRe l j).toNat < 100 by omega)
    have h6 := pnV_len (hPi l j)
    rw [ftX_succ]
    simp only [ByteArray.data_append, Array.toList_append, List.length_append, List.length_cons, List.length_nil]
    omega
theorem ftJ_len {s : Int} {l : List (Int × Int)} (h : frB s l = true) (k : Nat) (hk : k ≤ l.length + 1) : (txJ (ftX s l) 32 k).length ≤ 175 := by
  have h1 := (frB_get h).2.1
  have := txJ_len (ftX s l) 32 6 k fun j hj => ftX_len h j (by omega)
  omega
end Go.Proofs.YtfkmippodmglnaaDoor
