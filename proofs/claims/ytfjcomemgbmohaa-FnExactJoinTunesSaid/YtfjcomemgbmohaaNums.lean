import Derived.Test.YtfjcomemgbmohaaValid
namespace Go.Proofs.Ytfjcomemgbmohaa
open Go.RowKit


def lenI (l : List (Int × Int)) : Int := if l.length = 0 then 0 else nAt l (l.length - 1) + 1
theorem lenI_zero (l : List (Int × Int)) (h : l.length = 0) : lenI l = 0 := by rw [lenI, if_pos h]
theorem lenI_pos (l : List (Int × Int)) (h : 0 < l.length) : lenI l = nAt l (l.length - 1) + 1 := by rw [lenI, if_neg (by omega)]

theorem specLength_any (A : Option Addr) (c : Nat) (l : List (Int × Int)) (w : World) (hA : NA w A l) (hn : l.length ≤ 1048576) (hwf : WF l) :
    Calls Try.prog 49 #[.slice A l.length c] w fun e w' => e = .returned (.int .i64 (lenI l)) ∧ w = w' := by
  by_cases h0 : l.length = 0
  · have H := hide (lenI_zero l h0)
    have h1 : ((l.length : Int) == 0) = true := by simp [h0]
    have h2 : (l.length == 0) = true := by simp [h0]
    clear h0
    go_enter Try.func49, Try.ntmps49
    go_wp2
    all_goals go_ret
    all_goals exact ⟨ret_int H.out.symm, rfl⟩
  · have H := hide (lenI_pos l (by omega))
    have h1 : ((l.length : Int) == 0) = false := by simpa using h0
    have h2 : (l.length == 0) = false := by simpa using h0
    obtain ⟨b, o, rfl, hbb, c1, c2⟩ := hA (l.length - 1) (by omega)
    obtain ⟨⟨e1, e2⟩, _, _⟩ := hwf (l.length - 1) (by omega)
    have s2 : (0 : Int) ≤ (l.length : Int) - 1 := by omega
    have s3 : (1 : Int) ≤ (l.length : Int) := by omega
    have s4 : ((l.length : Int) - 1).toNat = l.length - 1 := by omega
    clear h0 hA hwf
    go_enter Try.func49, Try.ntmps49
    go_wp2
    all_goals go_ret
    all_goals exact ⟨ret_int H.out.symm, rfl⟩
theorem implLength_any (A : Option Addr) (c : Nat) (l : List (Int × Int)) (w : World) (hA : NA w A l) (hn : l.length ≤ 1048576) (hwf : WF l) :
    Calls Try.prog 50 #[.slice A l.length c] w fun e w' => e = .returned (.int .i64 (lenI l)) ∧ w = w' := by
  by_cases h0 : l.length = 0
  · have H := hide (lenI_zero l h0)
    have h1 : ((l.length : Int) == 0) = true := by simp [h0]
    have h2 : (l.length == 0) = true := by simp [h0]
    clear h0
    go_enter Try.func50, Try.ntmps50
    go_wp2
    all_goals go_ret
    all_goals exact ⟨ret_int H.out.symm, rfl⟩
  · have H := hide (lenI_pos l (by omega))
    have h1 : ((l.length : Int) == 0) = false := by simpa using h0
    have h2 : (l.length == 0) = false := by simpa using h0
    obtain ⟨b, o, rfl, hbb, c1, c2⟩ := hA (l.length - 1) (by omega)
    obtain ⟨⟨e1, e2⟩, _, _⟩ := hwf (l.length - 1) (by omega)
    have s2 : (0 : Int) ≤ (l.length : Int) - 1 := by omega
    have s3 : (1 : Int) ≤ (l.length : Int) := by omega
    have s4 : ((l.length : Int) - 1).toNat = l.length - 1 := by omega
    clear h0 hA hwf
    go_enter Try.func50, Try.ntmps50
    go_wp2
    all_goals go_ret
    all_goals exact ⟨ret_int H.out.symm, rfl⟩
end Go.Proofs.Ytfjcomemgbmohaa
