import Derived.Test.YtfkmippodmglnaaDoorGac
import Derived.Test.YtfkmippodmglnaaDoorAch
namespace Go.Proofs.YtfkmippodmglnaaDoor
open Go.RowKit
/-- the text of a choice -/
def xtL (a : Bool) (l o t : Int) : List UInt8 := if a then [120] else Lib.itoa l ++ 47 :: (Lib.itoa o ++ 47 :: Lib.itoa t)
theorem xtL_len {a : Bool} {l o t : Int} (hl : -128 ≤ l ∧ l ≤ 127) (ho : -128 ≤ o ∧ o ≤ 127) (ht : -128 ≤ t ∧ t ≤ 127) : (xtL a l o t).length ≤ 65 := by
  have h1 := Lib.itoa_length_le l (by omega) (by omega)
  have h2 := Lib.itoa_length_le o (by omega) (by omega)
  have h3 := Lib.itoa_length_le t (by omega) (by omega)
  cases a <;> simp [xtL] <;> omega
/-- the k-th choice's text, and the text of all -/
def xtC (l : List Xc) (k : Nat) : ByteArray := ⟨(xtL (chA l k) (chL l k) (chO l k) (chT l k)).toArray⟩
def xtV (l : List Xc) : ByteArray := if l.length ≤ 120 ∧ xsB l = true then ⟨(txJ (xtC l) 32 l.length).toArray⟩ else ⟨#[]⟩
theorem xcB_in8 {a : Bool} {l o t : Int} (h : xcB a l o t = true) : (-128 ≤ l ∧ l ≤ 127) ∧ (-128 ≤ o ∧ o ≤ 127) ∧ (-128 ≤ t ∧ t ≤ 127) := by
  cases a
  · simp [xcB, inB] at h; omega
  · simp [xcB] at h; omega
theorem xtC_len (l : List Xc) (k : Nat) (hk : k ≤ 120) (hG : XG l k) : (txJ (xtC l) 32 k).length ≤ 7920 := by
  have := txJ_len (xtC l) 32 65 k fun j hj => by
    obtain ⟨h1, h2, h3⟩ := xcB_in8 (hG j hj)
    simpa [xtC] using xtL_len (a := chA l j) h1 h2 h3
  omega
theorem xsB_get {l : List Xc} (h : xsB l = true) : XG l l.length := fun j hj => by
  cases hc : xcB (chA l j) (chL l j) (chO l j) (chT l j)
  · rw [xsB_no hj hc] at h; cases h
  · rfl
end Go.Proofs.YtfkmippodmglnaaDoor
