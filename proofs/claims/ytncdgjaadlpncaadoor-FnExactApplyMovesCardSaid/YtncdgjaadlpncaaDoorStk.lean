import Derived.Test.YtncdgjaadlpncaaDoorClm
namespace Go.Proofs.YtncdgjaadlpncaaDoor
open Go.RowKit

theorem striker_quick (A : Option Addr) (c : Nat) (l : List (Int × Int)) (t : Nat) (w : World) (hA : HA w A l) (ht : t < l.length) (hl : l.length ≤ 24) (h : hRe l t = 1) :
    Calls Tryd.prog 70 #[.slice A l.length c, .int .i64 t] w fun e w' => e = .returned (.iface 123 (.agg #[.int .i8 (hPi l t), .int .i8 (hRe l t)])) ∧ w = w' := by
  obtain ⟨b, o, rfl, hbb, c1, c2⟩ := hA t ht
  have c3 := c2
  have hd : (hRe l t == 1) = true := by simp [h]
  have hti : (t : Int) < (l.length : Int) := by omega
  have HH := hide h
  clear h hA
  go_enter Tryd.func70, Tryd.ntmps70
  go_wp2
  go_ret
  exact ⟨rfl, rfl⟩
theorem striker_slow (A : Option Addr) (c : Nat) (l : List (Int × Int)) (t : Nat) (w : World) (hA : HA w A l) (ht : t < l.length) (hl : l.length ≤ 24) (h : hRe l t ≠ 1) :
    Calls Tryd.prog 70 #[.slice A l.length c, .int .i64 t] w fun e w' => e = .returned (.iface 124 (.agg #[.int .i8 (hPi l t), .int .i8 (hRe l t)])) ∧ w = w' := by
  obtain ⟨b, o, rfl, hbb, c1, c2⟩ := hA t ht
  have hd : (hRe l t == 1) = false := by simp [h]
  have hti : (t : Int) < (l.length : Int) := by omega
  have HH := hide h
  clear h hA
  go_enter Tryd.func70, Tryd.ntmps70
  go_wp2
  go_ret
  exact ⟨rfl, rfl⟩
end Go.Proofs.YtncdgjaadlpncaaDoor
