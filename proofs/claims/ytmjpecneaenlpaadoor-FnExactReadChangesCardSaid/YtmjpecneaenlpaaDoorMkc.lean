import Derived.Test.YtmjpecneaenlpaaDoorCgs
import Derived.IntWalk
namespace Go.Proofs.YtmjpecneaenlpaaDoor
open Go.RowKit
theorem mkCg_at (K : Int) (n k : Nat) (h : k < n) : cgS (mkCg K n) k = IntKind.i16.wrap (K + 3 * (k : Int)) ∧ cgT (mkCg K n) k = IntKind.i8.wrap (K + 3 * (k : Int) + 1) ∧ cgP (mkCg K n) k = ((K + 3 * (k : Int) + 1 + 1) % 3 == 0) := by simp [cgS, cgT, cgP, mkCg, h]
set_option maxHeartbeats 1000000 in
theorem markChangeS_from (A : Option Addr) (c : Nat) (l : List (Int × Int × Bool)) (base : Nat) (K : Int) (w : World) (h : w.ownsRow base 84 3 (.slice A l.length c) l.length (cgC l)) (hn : l.length ≤ 1048576) (hK : 0 ≤ K ∧ K ≤ 1099511627776) :
    Calls Tryd.prog 25 #[.slice A l.length c, .int .i64 K] w fun e w' => e = .returned (.int .i64 (K + 3 * (l.length : Int))) ∧ w'.ownsRow base 84 3 (.slice A l.length c) l.length (cgC (mkCg K l.length)) ∧ w.grownBy w' (Value.slice A l.length c).ownBlock := by
  obtain ⟨hK1, hK2⟩ := hK
  go_enter Tryd.func25, Tryd.ntmps25
  go_wp2_with fail
  go_loopw [1, 5] (fun m i wr => ∃ k : Nat, k ≤ l.length ∧ i = .int .i64 k ∧ m = .int .i64 (K + 3 * (k : Int)) ∧ wr.ownsRow base 84 3 (.slice A l.length c) l.length (cgC (mkCgT K l k)) ∧ w.grownBy wr (Value.slice A l.length c).ownBlock)
    (fun _ i _ => l.length - (intOf i).toNat)
  case atStart => exact ⟨0, Nat.zero_le _, rfl, ret_int' (by omega), by rw [mkCgT_zero]; exact h, grown_refl _ _⟩
  case round =>
    obtain ⟨k, hk, rfl, rfl, hown, hb⟩ := hrel
    by_cases hlt : k < l.length
    · rcases hown.2 with ⟨h', h0⟩ | ⟨g, cap, cur, h', hgb, hg, _⟩
      · omega
      · simp only [Value.slice.injEq, true_and] at h'
        obtain ⟨rfl, rfl⟩ := h'
        have hl' := mkCgT_length K l k hk
        obtain ⟨e1, e2, e3⟩ := cgC_at (mkCgT K l k) k (by omega)
        have f1 := (hown.cellAt (k * 3) (by omega)).trans e1
        have f2 := (hown.cellAt (k * 3 + 1) (by omega)).trans e2
        have f3 := (hown.cellAt (k * 3 + 2) (by omega)).trans e3
        have f4 := hown.frozenAt (k * 3)
        have f5 := hown.frozenAt (k * 3 + 1)
        have f6 := hown.frozenAt (k * 3 + 2)
        have HS := hide (mkCgT_set K l k hlt)
        obtain ⟨Q, hQ⟩ : ∃ Q, Q = K + 3 * (k : Int) := ⟨_, rfl⟩
        have HQ := hide hQ
        have hQ1 : 0 ≤ Q := by omega
        have hQ2 : Q ≤ 1099511627776 + 3145728 := by omega
        rw [← hQ] at HS ⊢
        have W1 := fun x y z => cgown_set3 hown k x y z
        have HW := hide W1
        have HB := hide hb
        have hwa : IntKind.i64.wrap (Q + 1) = Q + 1 := IntWalk.i64_in _ (by omega)
        have hwb : IntKind.i64.wrap (Q + 1 + 1) = Q + 1 + 1 := IntWalk.i64_in _ (by omega)
        have hwc : IntKind.i64.wrap (Q + 1 + 1 + 1) = Q + 1 + 1 + 1 := IntWalk.i64_in _ (by omega)
        clear hg h hQ e1 e2 e3 hown hb W1
        go_wp2
        exact ⟨⟨k + 1, hlt, ret_int' (by omega), ret_int' (by have := HQ.out; omega), by rw [← HS.out]; exact HW.out _ _ _, grown_set (grown_set (grown_set HB.out))⟩, by simp [intOf]; omega⟩
    · obtain rfl : k = l.length := by omega
      go_wp2
      go_ret
      exact ⟨rfl, by rw [← mkCgT_all]; exact hown, hb⟩
set_option maxHeartbeats 1000000 in
theorem heldChangeS_from (A : Option Addr) (c n : Nat) (K : Int) (w : World) (hA : CgA w A (mkCg K n)) (hn : n ≤ 1048576) (hK : 0 ≤ K ∧ K ≤ 1099511627776) :
    Calls Tryd.prog 26 #[.slice A n c, .int .i64 K] w fun e w' => e = .returned (.int .i64 (K + 3 * (n : Int))) ∧ w = w' := by
  obtain ⟨hK1, hK2⟩ := hK
  go_enter Tryd.func26, Tryd.ntmps26
  go_wp2_with fail
  go_loop [1, 5] (fun m i => ∃ k : Nat, k ≤ n ∧ i = .int .i64 k ∧ m = .int .i64 (K + 3 * (k : Int)))
    (fun _ i => n - (intOf i).toNat)
  case atStart => exact ⟨0, Nat.zero_le _, rfl, ret_int' (by omega)⟩
  case round =>
    obtain ⟨k, hk, rfl, rfl⟩ := hrel
    by_cases hlt : k < n
    · obtain ⟨b, o, rfl, _, c1, c2, c3⟩ := hA k (by rw [mkCg_length]; exact hlt)
      obtain ⟨e1, e2, e3⟩ := mkCg_at K n k hlt
      rw [e1] at c1
      rw [e2] at c2
      rw [e3] at c3
      obtain ⟨Q, hQ⟩ : ∃ Q, Q = K + 3 * (k : Int) := ⟨_, rfl⟩
      have HQ := hide hQ
      have hQ1 : 0 ≤ Q := by omega
      have hQ2 : Q ≤ 1099511627776 + 3145728 := by omega
      rw [← hQ] at c1 c2 c3 ⊢
      have hwa : IntKind.i64.wrap (Q + 1) = Q + 1 := IntWalk.i64_in _ (by omega)
      have hwb : IntKind.i64.wrap (Q + 1 + 1) = Q + 1 + 1 := IntWalk.i64_in _ (by omega)
      have hwc : IntKind.i64.wrap (Q + 1 + 1 + 1) = Q + 1 + 1 + 1 := IntWalk.i64_in _ (by omega)
      have hki : (k : Int) < (n : Int) := by omega
      clear hQ e1 e2 e3
      by_cases hp : ((Q + 1 + 1) % 3 == 0) = true
      · rw [hp] at c3
        go_wp2
        go_round
        case rel => exact ⟨k + 1, hlt, by go_num, ret_int' (by have := HQ.out; omega)⟩
        case measure => simp [intOf]; omega
      · have hp2 : ((Q + 1 + 1) % 3 == 0) = false := by simpa using hp
        rw [hp2] at c3
        clear hp
        go_wp2
        go_round
        case rel => exact ⟨k + 1, hlt, by go_num, ret_int' (by have := HQ.out; omega)⟩
        case measure => simp [intOf]; omega
    · obtain rfl : k = n := by omega
      go_wp2
      go_ret
      exact ⟨rfl, rfl⟩
end Go.Proofs.YtmjpecneaenlpaaDoor
