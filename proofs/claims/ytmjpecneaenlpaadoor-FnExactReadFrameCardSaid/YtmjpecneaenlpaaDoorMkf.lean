import Derived.Test.YtmjpecneaenlpaaDoorGbk
import Derived.Test.YtmjpecneaenlpaaDoorMkn
import Derived.IntWalk
namespace Go.Proofs.YtmjpecneaenlpaaDoor
open Go.RowKit

/-- marks from K on -/
def mkH (K : Int) (n : Nat) : List (Int × Int) := (List.range n).map fun (i : Nat) => (IntKind.i8.wrap (K + 2 * (i : Int)), IntKind.i8.wrap (K + 2 * (i : Int) + 1))
def mkHT (K : Int) (l : List (Int × Int)) (k : Nat) : List (Int × Int) := mkH K k ++ l.drop k
theorem mkH_length (K : Int) (n : Nat) : (mkH K n).length = n := by simp [mkH]
theorem mkHT_zero (K : Int) (l : List (Int × Int)) : mkHT K l 0 = l := by simp [mkHT, mkH]
theorem mkHT_all (K : Int) (l : List (Int × Int)) : mkHT K l l.length = mkH K l.length := by simp [mkHT]
theorem mkHT_length (K : Int) (l : List (Int × Int)) (k : Nat) (h : k ≤ l.length) : (mkHT K l k).length = l.length := by
  simp [mkHT, mkH_length]; omega
theorem mkHT_set (K : Int) (l : List (Int × Int)) (k : Nat) (h : k < l.length) : (mkHT K l k).set k (IntKind.i8.wrap (K + 2 * (k : Int)), IntKind.i8.wrap (K + 2 * (k : Int) + 1)) = mkHT K l (k + 1) := by
  unfold mkHT mkH
  rw [List.set_append_right _ _ (by simp), List.range_succ, List.map_append, List.length_map, List.length_range, Nat.sub_self, List.drop_eq_getElem_cons h, List.set_cons_zero, List.append_assoc]
  rfl
theorem mkH_fst (K : Int) (n k : Nat) (h : k < n) : hPi (mkH K n) k = IntKind.i8.wrap (K + 2 * (k : Int)) := by simp [hPi, mkH, h]
theorem mkH_snd (K : Int) (n k : Nat) (h : k < n) : hRe (mkH K n) k = IntKind.i8.wrap (K + 2 * (k : Int) + 1) := by simp [hRe, mkH, h]
theorem mkH_of_own {w : World} {base : Nat} {e : TypeId} {A : Option Addr} {c : Nat} {K : Int} {n : Nat} (h : w.ownsRow base e 2 (.slice A n c) n (hcells (mkH K n))) : HA w A (mkH K n) := HA.of_own (l := mkH K n) (by rw [mkH_length]; exact h)

set_option maxHeartbeats 1000000 in
theorem markHammerS_from (A : Option Addr) (c : Nat) (l : List (Int × Int)) (base : Nat) (K : Int) (w : World) (h : w.ownsRow base 62 2 (.slice A l.length c) l.length (hcells l)) (hn : l.length ≤ 1048576) (hK : 0 ≤ K ∧ K ≤ 1099511627776) :
    Calls Tryd.prog 40 #[.slice A l.length c, .int .i64 K] w fun e w' => e = .returned (.int .i64 (K + 2 * (l.length : Int))) ∧ w'.ownsRow base 62 2 (.slice A l.length c) l.length (hcells (mkH K l.length)) ∧ w.grownBy w' (Value.slice A l.length c).ownBlock := by
  obtain ⟨hK1, hK2⟩ := hK
  go_enter Tryd.func40, Tryd.ntmps40
  go_wp2_with fail
  go_loopw [1, 5] (fun m i wr => ∃ k : Nat, k ≤ l.length ∧ i = .int .i64 k ∧ m = .int .i64 (K + 2 * (k : Int)) ∧ wr.ownsRow base 62 2 (.slice A l.length c) l.length (hcells (mkHT K l k)) ∧ w.grownBy wr (Value.slice A l.length c).ownBlock)
    (fun _ i _ => l.length - (intOf i).toNat)
  case atStart => exact ⟨0, Nat.zero_le _, rfl, ret_int' (by omega), by rw [mkHT_zero]; exact h, grown_refl _ _⟩
  case round =>
    obtain ⟨k, hk, rfl, rfl, hown, hb⟩ := hrel
    by_cases hlt : k < l.length
    · rcases hown.2 with ⟨h', h0⟩ | ⟨g, cap, cur, h', hgb, hg, _⟩
      · omega
      · simp only [Value.slice.injEq, true_and] at h'
        obtain ⟨rfl, rfl⟩ := h'
        have hl' := mkHT_length K l k hk
        have f1 := (hown.cellAt (k * 2) (by omega)).trans (hcells_even (mkHT K l k) k (by omega))
        have f2 := (hown.cellAt (k * 2 + 1) (by omega)).trans (hcells_odd (mkHT K l k) k (by omega))
        have f3 := hown.frozenAt (k * 2)
        have f4 := hown.frozenAt (k * 2 + 1)
        have HS := hide (mkHT_set K l k hlt)
        obtain ⟨u, hu⟩ : ∃ u, u = IntKind.i8.wrap (K + 2 * (k : Int)) := ⟨_, rfl⟩
        obtain ⟨v, hv⟩ : ∃ v, v = IntKind.i8.wrap (K + 2 * (k : Int) + 1) := ⟨_, rfl⟩
        have HU := hide hu
        have HV := hide hv
        clear hg h hu hv
        go_wp2
        exact ⟨⟨k + 1, hlt, ret_int' (by omega), ret_int' (by omega), by rw [← HS.out]; exact hown_set2 hown k _ _, grown_set (grown_set hb)⟩, by simp [intOf]; omega⟩
    · obtain rfl : k = l.length := by omega
      go_wp2
      go_ret
      exact ⟨rfl, by rw [← mkHT_all]; exact hown, hb⟩
set_option maxHeartbeats 1000000 in
theorem heldHammerS_from (A : Option Addr) (c n : Nat) (K : Int) (w : World) (hA : HA w A (mkH K n)) (hn : n ≤ 1048576) (hK : 0 ≤ K ∧ K ≤ 1099511627776) :
    Calls Tryd.prog 41 #[.slice A n c, .int .i64 K] w fun e w' => e = .returned (.int .i64 (K + 2 * (n : Int))) ∧ w = w' := by
  obtain ⟨hK1, hK2⟩ := hK
  go_enter Tryd.func41, Tryd.ntmps41
  go_wp2_with fail
  go_loop [1, 5] (fun m i => ∃ k : Nat, k ≤ n ∧ i = .int .i64 k ∧ m = .int .i64 (K + 2 * (k : Int)))
    (fun _ i => n - (intOf i).toNat)
  case atStart => exact ⟨0, Nat.zero_le _, rfl, ret_int' (by omega)⟩
  case round =>
    obtain ⟨k, hk, rfl, rfl⟩ := hrel
    by_cases hlt : k < n
    · obtain ⟨b, o, rfl, _, c1, c2⟩ := hA k (by rw [mkH_length]; exact hlt)
      rw [mkH_fst K n k hlt] at c1
      rw [mkH_snd K n k hlt] at c2
      have hw1 : IntKind.i64.wrap (K + 2 * (k : Int) + 1) = K + 2 * (k : Int) + 1 := IntWalk.i64_in _ (by omega)
      have hw2 : IntKind.i64.wrap (K + 2 * (k : Int) + 1 + 1) = K + 2 * (k : Int) + 1 + 1 := IntWalk.i64_in _ (by omega)
      have hki : (k : Int) < (n : Int) := by omega
      go_wp2
      go_round
      case rel => exact ⟨k + 1, hlt, by go_num, ret_int' (by omega)⟩
      case measure => simp [intOf]; omega
    · obtain rfl : k = n := by omega
      go_wp2
      go_ret
      exact ⟨rfl, rfl⟩

/-- marks of numbers from K on -/
def mkI (K : Int) (n : Nat) : List Int := (List.range n).map (fun (j : Nat) => K + (j : Int))
def mkIT (K : Int) (zs : List Int) (k : Nat) : List Int := mkI K k ++ zs.drop k
theorem mkI_length (K : Int) (n : Nat) : (mkI K n).length = n := by simp [mkI]
theorem mkIT_zero (K : Int) (l : List Int) : mkIT K l 0 = l := by simp [mkIT, mkI]
theorem mkIT_all (K : Int) (l : List Int) : mkIT K l l.length = mkI K l.length := by simp [mkIT]
theorem mkIT_length (K : Int) (l : List Int) (k : Nat) (h : k ≤ l.length) : (mkIT K l k).length = l.length := by
  simp [mkIT, mkI_length]; omega
theorem mkIT_set (K : Int) (l : List Int) (k : Nat) (h : k < l.length) : (mkIT K l k).set k (K + (k : Int)) = mkIT K l (k + 1) := by
  unfold mkIT mkI
  rw [List.set_append_right _ _ (by simp), List.range_succ, List.map_append, List.length_map, List.length_range, Nat.sub_self, List.drop_eq_getElem_cons h, List.set_cons_zero, List.append_assoc]
  rfl
theorem mkI_at (K : Int) (n k : Nat) (h : k < n) : zAt (mkI K n) k = K + (k : Int) := by simp [mkI, zAt, h]
theorem mkI_of_own {w : World} {base : Nat} {A : Option Addr} {c : Nat} {K : Int} {n : Nat} (h : w.ownsRow base 2 1 (.slice A n c) n (icells (mkI K n))) : SI w w.heap.size A (mkI K n) := SI.of_own (zs := mkI K n) (by rw [mkI_length]; exact h)
theorem markFrame_from (s : Int) (A : Option Addr) (c : Nat) (l : List (Int × Int)) (base : Nat) (K : Int) (w : World) (h : w.ownsRow base 62 2 (.slice A l.length c) l.length (hcells l)) (hn : l.length ≤ 1048576) (hK : 0 ≤ K ∧ K ≤ 1099511627776) :
    Calls Tryd.prog 15 #[.agg #[.int .i16 s, .slice A l.length c], .int .i64 K] w fun e w' => e = .returned (.int .i64 (K + 2 * (l.length : Int))) ∧ w'.ownsRow base 62 2 (.slice A l.length c) l.length (hcells (mkH K l.length)) ∧ w.grownBy w' (Value.slice A l.length c).ownBlock := by
  have h1 := h.alloc (.cells #[.int .i16 s, .slice A l.length c] 32)
  go_enter Tryd.func15, Tryd.ntmps15
  go_wp2_with (go_at_call 40; refine (markHammerS_from A c l base K _ h1 hn hK).mono ?_; rintro e w' ⟨rfl, ho, hb⟩)
  go_ret
  exact ⟨rfl, ho, (World.grownBy_alloc w _ _).trans hb⟩
theorem heldFrame_from (s : Int) (A : Option Addr) (c n : Nat) (K : Int) (w : World) (hA : HA w A (mkH K n)) (hn : n ≤ 1048576) (hK : 0 ≤ K ∧ K ≤ 1099511627776) :
    Calls Tryd.prog 16 #[.agg #[.int .i16 s, .slice A n c], .int .i64 K] w fun e w' => e = .returned (.int .i64 (K + 2 * (n : Int))) ∧ Below w.heap.size w w' := by
  have hal : Below w.heap.size w (w.alloc (.cells #[.int .i16 s, .slice A n c] 32)) := (Below.refl _ _).alloc (Nat.le_refl _) _
  have hneg : decide (K + 2 * (n : Int) < 0) = false := by simp; omega
  go_enter Tryd.func16, Tryd.ntmps16
  go_wp2_with (go_at_call 41; refine (heldHammerS_from A c n K _ (hA.below hal) hn hK).mono ?_; rintro e w' ⟨rfl, rfl⟩)
  go_ret
  exact ⟨rfl, hal⟩
end Go.Proofs.YtmjpecneaenlpaaDoor
