import Derived.Test.YtmjpecneaenlpaaDoorCho
import Derived.IntWalk
namespace Go.Proofs.YtmjpecneaenlpaaDoor
open Go.RowKit
def mkCh (K : Int) (n : Nat) : List (Bool × Int × Int × Int) := (List.range n).map fun (i : Nat) => (((K + 4 * (i : Int)) % 3 == 0), IntKind.i8.wrap (K + 4 * (i : Int) + 1), IntKind.i8.wrap (K + 4 * (i : Int) + 1 + 1), IntKind.i8.wrap (K + 4 * (i : Int) + 1 + 1 + 1))
def mkChT (K : Int) (l : List (Bool × Int × Int × Int)) (k : Nat) : List (Bool × Int × Int × Int) := mkCh K k ++ l.drop k
theorem mkCh_length (K : Int) (n : Nat) : (mkCh K n).length = n := by simp [mkCh]
theorem mkChT_zero (K : Int) (l : List (Bool × Int × Int × Int)) : mkChT K l 0 = l := by simp [mkChT, mkCh]
theorem mkChT_all (K : Int) (l : List (Bool × Int × Int × Int)) : mkChT K l l.length = mkCh K l.length := by simp [mkChT]
theorem mkChT_length (K : Int) (l : List (Bool × Int × Int × Int)) (k : Nat) (h : k ≤ l.length) : (mkChT K l k).length = l.length := by
  simp [mkChT, mkCh_length]; omega
theorem mkChT_set (K : Int) (l : List (Bool × Int × Int × Int)) (k : Nat) (h : k < l.length) : (mkChT K l k).set k (((K + 4 * (k : Int)) % 3 == 0), IntKind.i8.wrap (K + 4 * (k : Int) + 1), IntKind.i8.wrap (K + 4 * (k : Int) + 1 + 1), IntKind.i8.wrap (K + 4 * (k : Int) + 1 + 1 + 1)) = mkChT K l (k + 1) := by
  unfold mkChT mkCh
  rw [List.set_append_right _ _ (by simp), List.range_succ, List.map_append, List.length_map, List.length_range, Nat.sub_self, List.drop_eq_getElem_cons h, List.set_cons_zero, List.append_assoc]
  rfl
theorem mkCh_of_own {w : World} {base : Nat} {e : TypeId} {A : Option Addr} {c : Nat} {K : Int} {n : Nat} (h : w.ownsRow base e 4 (.slice A n c) n (chC (mkCh K n))) : ChA w A (mkCh K n) := ChA.of_own (l := mkCh K n) (by rw [mkCh_length]; exact h)
theorem mkCh_at (K : Int) (n k : Nat) (h : k < n) : chA (mkCh K n) k = ((K + 4 * (k : Int)) % 3 == 0) ∧ chL (mkCh K n) k = IntKind.i8.wrap (K + 4 * (k : Int) + 1) ∧ chO (mkCh K n) k = IntKind.i8.wrap (K + 4 * (k : Int) + 1 + 1) ∧ chT (mkCh K n) k = IntKind.i8.wrap (K + 4 * (k : Int) + 1 + 1 + 1) := by simp [chA, chL, chO, chT, mkCh, h]
set_option maxHeartbeats 1000000 in
theorem markChoiceS_from (A : Option Addr) (c : Nat) (l : List (Bool × Int × Int × Int)) (base : Nat) (K : Int) (w : World) (h : w.ownsRow base 75 4 (.slice A l.length c) l.length (chC l)) (hn : l.length ≤ 1048576) (hK : 0 ≤ K ∧ K ≤ 1099511627776) :
    Calls Tryd.prog 20 #[.slice A l.length c, .int .i64 K] w fun e w' => e = .returned (.int .i64 (K + 4 * (l.length : Int))) ∧ w'.ownsRow base 75 4 (.slice A l.length c) l.length (chC (mkCh K l.length)) ∧ w.grownBy w' (Value.slice A l.length c).ownBlock := by
  obtain ⟨hK1, hK2⟩ := hK
  go_enter Tryd.func20, Tryd.ntmps20
  go_wp2_with fail
  go_loopw [1, 5] (fun m i wr => ∃ k : Nat, k ≤ l.length ∧ i = .int .i64 k ∧ m = .int .i64 (K + 4 * (k : Int)) ∧ wr.ownsRow base 75 4 (.slice A l.length c) l.length (chC (mkChT K l k)) ∧ w.grownBy wr (Value.slice A l.length c).ownBlock)
    (fun _ i _ => l.length - (intOf i).toNat)
  case atStart => exact ⟨0, Nat.zero_le _, rfl, ret_int' (by omega), by rw [mkChT_zero]; exact h, grown_refl _ _⟩
  case round =>
    obtain ⟨k, hk, rfl, rfl, hown, hb⟩ := hrel
    by_cases hlt : k < l.length
    · rcases hown.2 with ⟨h', h0⟩ | ⟨g, cap, cur, h', hgb, hg, _⟩
      · omega
      · simp only [Value.slice.injEq, true_and] at h'
        obtain ⟨rfl, rfl⟩ := h'
        have hl' := mkChT_length K l k hk
        obtain ⟨e1, e2, e3, e4⟩ := chC_at (mkChT K l k) k (by omega)
        have f1 := (hown.cellAt (k * 4) (by omega)).trans e1
        have g1 := hown.frozenAt (k * 4)
        have f2 := (hown.cellAt (k * 4 + 1) (by omega)).trans e2
        have g2 := hown.frozenAt (k * 4 + 1)
        have f3 := (hown.cellAt (k * 4 + 2) (by omega)).trans e3
        have g3 := hown.frozenAt (k * 4 + 2)
        have f4 := (hown.cellAt (k * 4 + 3) (by omega)).trans e4
        have g4 := hown.frozenAt (k * 4 + 3)
        have HS := hide (mkChT_set K l k hlt)
        obtain ⟨Q, hQ⟩ : ∃ Q, Q = K + 4 * (k : Int) := ⟨_, rfl⟩
        have HQ := hide hQ
        have hQ1 : 0 ≤ Q := by omega
        have hQ2 : Q ≤ 1099511627776 + 1048576 * 4 := by omega
        rw [← hQ] at HS ⊢
        have W1 := fun x0 x1 x2 x3 => chown_set hown k x0 x1 x2 x3
        have HW := hide W1
        have HB := hide hb
        have hw1 : IntKind.i64.wrap (Q + 1) = Q + 1 := IntWalk.i64_in _ (by omega)
        have hw2 : IntKind.i64.wrap (Q + 1 + 1) = Q + 1 + 1 := IntWalk.i64_in _ (by omega)
        have hw3 : IntKind.i64.wrap (Q + 1 + 1 + 1) = Q + 1 + 1 + 1 := IntWalk.i64_in _ (by omega)
        have hw4 : IntKind.i64.wrap (Q + 1 + 1 + 1 + 1) = Q + 1 + 1 + 1 + 1 := IntWalk.i64_in _ (by omega)
        clear hg h hQ e1 e2 e3 e4 hown hb W1
        go_wp2
        exact ⟨⟨k + 1, hlt, ret_int' (by omega), ret_int' (by have := HQ.out; omega), by rw [← HS.out]; exact HW.out _ _ _ _, grown_set (grown_set (grown_set (grown_set HB.out)))⟩, by simp [intOf]; omega⟩
    · obtain rfl : k = l.length := by omega
      go_wp2
      go_ret
      exact ⟨rfl, by rw [← mkChT_all]; exact hown, hb⟩
set_option maxHeartbeats 1000000 in
theorem heldChoiceS_from (A : Option Addr) (c n : Nat) (K : Int) (w : World) (hA : ChA w A (mkCh K n)) (hn : n ≤ 1048576) (hK : 0 ≤ K ∧ K ≤ 1099511627776) :
    Calls Tryd.prog 21 #[.slice A n c, .int .i64 K] w fun e w' => e = .returned (.int .i64 (K + 4 * (n : Int))) ∧ w = w' := by
  obtain ⟨hK1, hK2⟩ := hK
  go_enter Tryd.func21, Tryd.ntmps21
  go_wp2_with fail
  go_loop [1, 5] (fun m i => ∃ k : Nat, k ≤ n ∧ i = .int .i64 k ∧ m = .int .i64 (K + 4 * (k : Int)))
    (fun _ i => n - (intOf i).toNat)
  case atStart => exact ⟨0, Nat.zero_le _, rfl, ret_int' (by omega)⟩
  case round =>
    obtain ⟨k, hk, rfl, rfl⟩ := hrel
    by_cases hlt : k < n
    · obtain ⟨b, o, rfl, _, c1, c2, c3, c4⟩ := hA k (by rw [mkCh_length]; exact hlt)
      obtain ⟨e1, e2, e3, e4⟩ := mkCh_at K n k hlt
      rw [e1] at c1
      rw [e2] at c2
      rw [e3] at c3
      rw [e4] at c4
      obtain ⟨Q, hQ⟩ : ∃ Q, Q = K + 4 * (k : Int) := ⟨_, rfl⟩
      have HQ := hide hQ
      have hQ1 : 0 ≤ Q := by omega
      have hQ2 : Q ≤ 1099511627776 + 1048576 * 4 := by omega
      rw [← hQ] at c1 c2 c3 c4 ⊢
      have hw1 : IntKind.i64.wrap (Q + 1) = Q + 1 := IntWalk.i64_in _ (by omega)
      have hw2 : IntKind.i64.wrap (Q + 1 + 1) = Q + 1 + 1 := IntWalk.i64_in _ (by omega)
      have hw3 : IntKind.i64.wrap (Q + 1 + 1 + 1) = Q + 1 + 1 + 1 := IntWalk.i64_in _ (by omega)
      have hw4 : IntKind.i64.wrap (Q + 1 + 1 + 1 + 1) = Q + 1 + 1 + 1 + 1 := IntWalk.i64_in _ (by omega)
      have hki : (k : Int) < (n : Int) := by omega
      clear hQ e1 e2 e3 e4
      have hq1 : (IntKind.i8.wrap (Q + 1) != IntKind.i8.wrap (Q + 1)) = false := by simp
      have hq2 : (IntKind.i8.wrap (Q + 1 + 1) != IntKind.i8.wrap (Q + 1 + 1)) = false := by simp
      have hq3 : (IntKind.i8.wrap (Q + 1 + 1 + 1) != IntKind.i8.wrap (Q + 1 + 1 + 1)) = false := by simp
      by_cases hp : ((Q) % 3 == 0) = true
      · rw [hp] at c1
        go_wp2
        go_round
        case rel => exact ⟨k + 1, hlt, by go_num, ret_int' (by have := HQ.out; omega)⟩
        case measure => simp [intOf]; omega
      · have hp2 : ((Q) % 3 == 0) = false := by simpa using hp
        rw [hp2] at c1
        clear hp
        go_wp2
        go_round
        case rel => exact ⟨k + 1, hlt, by go_num, ret_int' (by have := HQ.out; omega)⟩
        case measure => simp [intOf]; omega
    · obtain rfl : k = n := by omega
      go_wp2
      go_ret
      exact ⟨rfl, rfl⟩
end Go.Proofs.YtmjpecneaenlpaaDoor
