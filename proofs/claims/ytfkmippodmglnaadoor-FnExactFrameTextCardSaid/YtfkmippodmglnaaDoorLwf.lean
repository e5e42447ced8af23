import Derived.Test.YtfkmippodmglnaaDoorGaj
import Derived.Test.YtfkmippodmglnaaDoorGao
import Derived.Deep.RegionHeld3
namespace Go.Proofs.YtfkmippodmglnaaDoor
open Go.RowKit
/-- szFrame from any number on -/
theorem szFrame_at_small (s : Int) (A : Option Addr) (n c : Nat) (x : Int) (h0 : 0 ≤ x) (h1 : x ≤ 1048576) (hm : n ≤ maxLen) (hs : (n : Int) ≤ x) (w : World) :
    Calls Tryd.prog 22 #[.agg #[.int .i16 s, .slice A n c], .int .i64 x] w fun e w' => e = .returned (.int .i64 (x - n)) ∧ Below w.heap.size w w' := by
  have hb0 : Below w.heap.size w (w.alloc (.cells #[.int .i16 s, .slice A n c] 47)) := (Below.refl _ _).alloc (Nat.le_refl _) _
  have hlt : decide (x - (n : Int) < 0) = false := by simp; omega
  go_enter Tryd.func22, Tryd.ntmps22
  go_wp2_with (go_at_call 47; refine (szHammerS_small A n c x h0 h1 hm hs _).mono ?_; rintro e w' ⟨rfl, rfl⟩)
  go_ret
  exact ⟨rfl, hb0⟩
theorem szFrame_at_big (s : Int) (A : Option Addr) (n c : Nat) (x : Int) (h0 : 0 ≤ x) (h1 : x ≤ 1048576) (hm : n ≤ maxLen) (hs : x < (n : Int)) (w : World) :
    Calls Tryd.prog 22 #[.agg #[.int .i16 s, .slice A n c], .int .i64 x] w fun e w' => e = .returned (.int .i64 (-1)) ∧ Below w.heap.size w w' := by
  have hb0 : Below w.heap.size w (w.alloc (.cells #[.int .i16 s, .slice A n c] 47)) := (Below.refl _ _).alloc (Nat.le_refl _) _
  go_enter Tryd.func22, Tryd.ntmps22
  go_wp2_with (go_at_call 47; refine (szHammerS_big A n c x h0 h1 hm hs _).mono ?_; rintro e w' ⟨rfl, rfl⟩)
  go_ret
  exact ⟨rfl, hb0⟩
end Go.Proofs.YtfkmippodmglnaaDoor
