import Derived.Test.YtnngbnhdcknfnaaMkf
import Derived.Test.YtnngbnhdcknfnaaPrm
namespace Go.Proofs.Ytnngbnhdcknfnaa
open Go.RowKit

/-- marks from K on -/
def mkS (K : Int) (n : Nat) : List (Int × Int) := (List.range n).map fun (i : Nat) => (IntKind.i16.wrap (K + 2 * (i : Int)), IntKind.i16.wrap (K + 2 * (i : Int) + 1))
def mkST (K : Int) (l : List (Int × Int)) (k : Nat) : List (Int × Int) := mkS K k ++ l.drop k
theorem mkS_length (K : Int) (n : Nat) : (mkS K n).length = n := by simp [mkS]
theorem mkST_zero (K : Int) (l : List (Int × Int)) : mkST K l 0 = l := by simp [mkST, mkS]
theorem mkST_all (K : Int) (l : List (Int × Int)) : mkST K l l.length = mkS K l.length := by simp [mkST]
theorem mkST_length (K : Int) (l : List (Int × Int)) (k : Nat) (h : k ≤ l.length) : (mkST K l k).length = l.length := by
  simp [mkST, mkS_length]; omega
theorem mkST_set (K : Int) (l : List (Int × Int)) (k : Nat) (h : k < l.length) : (mkST K l k).set k (IntKind.i16.wrap (K + 2 * (k : Int)), IntKind.i16.wrap (K + 2 * (k : Int) + 1)) = mkST K l (k + 1) := by
  unfold mkST mkS
  rw [List.set_append_right _ _ (by simp), List.range_succ, List.map_append, List.length_map, List.length_range, Nat.sub_self, List.drop_eq_getElem_cons h, List.set_cons_zero, List.append_assoc]
  rfl
theorem mkS_fst (K : Int) (n k : Nat) (h : k < n) : secF (mkS K n) k = IntKind.i16.wrap (K + 2 * (k : Int)) := by simp [secF, mkS, h]
theorem mkS_snd (K : Int) (n k : Nat) (h : k < n) : secS (mkS K n) k = IntKind.i16.wrap (K + 2 * (k : Int) + 1) := by simp [secS, mkS, h]
theorem mkS_of_own {w : World} {base : Nat} {e : TypeId} {A : Option Addr} {c : Nat} {K : Int} {n : Nat} (h : w.ownsRow base e 2 (.slice A n c) n (secC (mkS K n))) : SecA w A (mkS K n) := SecA.of_own (l := mkS K n) (by rw [mkS_length]; exact h)

set_option maxHeartbeats 1000000 in
theorem markSectionS_from (A : Option Addr) (c : Nat) (l : List (Int × Int)) (base : Nat) (K : Int) (w : World) (h : w.ownsRow base 90 2 (.slice A l.length c) l.length (secC l)) (hn : l.length ≤ 1048576) (hK : 0 ≤ K ∧ K ≤ 1099511627776) :
    Calls Try.prog 49 #[.slice A l.length c, .int .i64 K] w fun e w' => e = .returned (.int .i64 (K + 2 * (l.length : Int))) ∧ w'.ownsRow base 90 2 (.slice A l.length c) l.length (secC (mkS K l.length)) ∧ w.grownBy w' (Value.slice A l.length c).ownBlock := by
  obtain ⟨hK1, hK2⟩ := hK
  go_enter Try.func49, Try.ntmps49
  go_wp2_with fail
  go_loopw [1, 5] (fun m i wr => ∃ k : Nat, k ≤ l.length ∧ i = .int .i64 k ∧ m = .int .i64 (K + 2 * (k : Int)) ∧ wr.ownsRow base 90 2 (.slice A l.length c) l.length (secC (mkST K l k)) ∧ w.grownBy wr (Value.slice A l.length c).ownBlock)
    (fun _ i _ => l.length - (intOf i).toNat)
  case atStart => exact ⟨0, Nat.zero_le _, rfl, ret_int' (by omega), by rw [mkST_zero]; exact h, grown_refl _ _⟩
  case round =>
    obtain ⟨k, hk, rfl, rfl, hown, hb⟩ := hrel
    by_cases hlt : k < l.length
    · rcases hown.2 with ⟨h', h0⟩ | ⟨g, cap, cur, h', hgb, hg, _⟩
      · omega
      · simp only [Value.slice.injEq, true_and] at h'
        obtain ⟨rfl, rfl⟩ := h'
        have hl' := mkST_length K l k hk
        have f1 := (hown.cellAt (k * 2) (by omega)).trans (secC_even (mkST K l k) k (by omega))
        have f2 := (hown.cellAt (k * 2 + 1) (by omega)).trans (secC_odd (mkST K l k) k (by omega))
        have f3 := hown.frozenAt (k * 2)
        have f4 := hown.frozenAt (k * 2 + 1)
        have HS := hide (mkST_set K l k hlt)
        obtain ⟨u, hu⟩ : ∃ u, u = IntKind.i16.wrap (K + 2 * (k : Int)) := ⟨_, rfl⟩
        obtain ⟨v, hv⟩ : ∃ v, v = IntKind.i16.wrap (K + 2 * (k : Int) + 1) := ⟨_, rfl⟩
        have HU := hide hu
        have HV := hide hv
        clear hg h hu hv
        go_wp2
        exact ⟨⟨k + 1, hlt, ret_int' (by omega), ret_int' (by omega), by rw [← HS.out]; exact secown_set2 hown k _ _, grown_set (grown_set hb)⟩, by simp [intOf]; omega⟩
    · obtain rfl : k = l.length := by omega
      go_wp2
      go_ret
      exact ⟨rfl, by rw [← mkST_all]; exact hown, hb⟩
set_option maxHeartbeats 1000000 in
theorem heldSectionS_from (A : Option Addr) (c n : Nat) (K : Int) (w : World) (hA : SecA w A (mkS K n)) (hn : n ≤ 1048576) (hK : 0 ≤ K ∧ K ≤ 1099511627776) :
    Calls Try.prog 50 #[.slice A n c, .int .i64 K] w fun e w' => e = .returned (.int .i64 (K + 2 * (n : Int))) ∧ w = w' := by
  obtain ⟨hK1, hK2⟩ := hK
  go_enter Try.func50, Try.ntmps50
  go_wp2_with fail
  go_loop [1, 5] (fun m i => ∃ k : Nat, k ≤ n ∧ i = .int .i64 k ∧ m = .int .i64 (K + 2 * (k : Int)))
    (fun _ i => n - (intOf i).toNat)
  case atStart => exact ⟨0, Nat.zero_le _, rfl, ret_int' (by omega)⟩
  case round =>
    obtain ⟨k, hk, rfl, rfl⟩ := hrel
    by_cases hlt : k < n
    · obtain ⟨b, o, rfl, _, c1, c2⟩ := hA k (by rw [mkS_length]; exact hlt)
      rw [mkS_fst K n k hlt] at c1
      rw [mkS_snd K n k hlt] at c2
      have hw1 : IntKind.i64.wrap (K + 2 * (k : Int) + 1) = K + 2 * (k : Int) + 1 := IntWalk.i64_in _ (by omega)
      have hw2 : IntKind.i64.wrap (K + 2 * (k : Int) + 1 + 1) = K + 2 * (k : Int) + 1 + 1 := IntWalk.i64_in _ (by omega)
      have hki : (k : Int) < (n : Int) := by omega
      go_wp2
      go_round
      case rel => exact ⟨k + 1, hlt, by go_num, ret_int' (by omega)⟩
      case measure => simp [intOf]; omega
    · obtain rfl : k = n := by omega
      go_wp2
      go_ret
      exact ⟨rfl, rfl⟩
theorem markProgramme_from (A : Option Addr) (c : Nat) (l : List (Int × Int)) (o : Nat → Int) (base : Nat) (K : Int) (w : World) (h : w.ownsRow base 90 2 (.slice A l.length c) l.length (secC l)) (hn : l.length ≤ 1048576) (hK : 0 ≤ K ∧ K ≤ 1099511627776) :
    Calls Try.prog 34 #[.agg (prA A l.length c o), .int .i64 K] w fun e w' => e = .returned (.int .i64 (K + 2 * (l.length : Int))) ∧ w'.ownsRow base 90 2 (.slice A l.length c) l.length (secC (mkS K l.length)) ∧ w.grownBy w' (Value.slice A l.length c).ownBlock := by
  have h1 := h.alloc (.cells (prA A l.length c o) 40)
  have c0 := (Bk.new w 40 (prA A l.length c o) rfl).slice
  go_enter Try.func34, Try.ntmps34
  go_wp2_with (go_at_call 49; refine (markSectionS_from A c l base K _ h1 hn hK).mono ?_; rintro e w' ⟨rfl, ho, hb⟩)
  go_ret
  exact ⟨rfl, ho, (World.grownBy_alloc w _ _).trans hb⟩
theorem eqSectionS_self (A B : Option Addr) (c d : Nat) (l : List (Int × Int)) (w : World) (hA : SecA w A l) (hB : SecA w B l) (hn : l.length ≤ 1048576) :
    Calls Try.prog 48 #[.slice A l.length c, .slice B l.length d] w (Says true w) := by
  have h := eqSectionS_any A B c d l l w hA hB hn hn
  rwa [sameB_refl] at h
end Go.Proofs.Ytnngbnhdcknfnaa
