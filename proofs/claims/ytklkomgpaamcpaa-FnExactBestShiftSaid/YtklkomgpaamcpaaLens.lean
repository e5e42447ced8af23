import Derived.Test.YtklkomgpaamcpaaNums
namespace Go.Proofs.Ytklkomgpaamcpaa
open Go.RowKit

theorem ret2 {x x' y y' : Value} (h1 : x = x') (h2 : y = y') : Ending.returned (.tuple #[x, y]) = .returned (.tuple #[x', y']) := by rw [h1, h2]
def codeI (b : Bool) : Int := if b then 0 else 1
theorem codeI_true {b : Bool} (h : b = true) : codeI b = 0 := by rw [h]; rfl
theorem codeI_false {b : Bool} (h : b = false) : codeI b = 1 := by rw [h]; rfl
/-- a number where the bool says yes, and 0 -/
def onlyI (b : Bool) (x : Int) : Int := if b then x else 0
theorem onlyI_true {b : Bool} (x : Int) (h : b = true) : onlyI b x = x := by rw [h]; rfl
theorem onlyI_false {b : Bool} (x : Int) (h : b = false) : onlyI b x = 0 := by rw [h]; rfl
theorem not_yes {b : Bool} (h : (!b) = true) : b = false := by simpa using h
theorem not_no {b : Bool} (h : (!b) = false) : b = true := by simpa using h

theorem specLengthOf_any (A : Option Addr) (c : Nat) (l : List (Int × Int)) (w : World) (hA : NA w A l) (hn : l.length ≤ 1048576) (hwf : WF l) :
    Calls Try.prog 22 #[.slice A l.length c] w (Pair (.int .i64 (onlyI (okB l) (lenI l))) (.int .i64 (codeI (okB l))) w) := by
  go_enter Try.func22, Try.ntmps22
  go_wp2_with (first | (go_at_call 36; refine (l01Ok_any A c l _ hA hn hwf).mono ?_; rintro e w' ⟨rfl, hb⟩) | (go_at_call 46; refine (specLength_any A c l _ (hA.below hb) hn hwf).mono ?_; rintro e w'' ⟨rfl, rfl⟩))
  · go_ret2
    have h := not_yes ‹(!okB l) = true›
    exact ⟨ret2 (ret_int' (onlyI_false _ h).symm) (ret_int' (codeI_false h).symm), hb⟩
  · go_ret2
    have h := not_no ‹(!okB l) = false›
    exact ⟨ret2 (ret_int' (onlyI_true _ h).symm) (ret_int' (codeI_true h).symm), hb⟩
theorem implLengthOf_any (A : Option Addr) (c : Nat) (l : List (Int × Int)) (w : World) (hA : NA w A l) (hn : l.length ≤ 1048576) (hwf : WF l) :
    Calls Try.prog 23 #[.slice A l.length c] w (Pair (.int .i64 (onlyI (okB l) (lenI l))) (.int .i64 (codeI (okB l))) w) := by
  go_enter Try.func23, Try.ntmps23
  go_wp2_with (first | (go_at_call 16; refine (implValid_any A c l _ hA hn hwf).mono ?_; rintro e w' ⟨rfl, hb⟩) | (go_at_call 47; refine (implLength_any A c l _ (hA.below hb) hn hwf).mono ?_; rintro e w'' ⟨rfl, rfl⟩))
  · go_ret2
    have h := not_yes ‹(!okB l) = true›
    exact ⟨ret2 (ret_int' (onlyI_false _ h).symm) (ret_int' (codeI_false h).symm), hb⟩
  · go_ret2
    have h := not_no ‹(!okB l) = false›
    exact ⟨ret2 (ret_int' (onlyI_true _ h).symm) (ret_int' (codeI_true h).symm), hb⟩
end Go.Proofs.Ytklkomgpaamcpaa
