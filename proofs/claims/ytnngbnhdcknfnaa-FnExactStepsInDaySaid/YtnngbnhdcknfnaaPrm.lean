import Derived.Test.YtnngbnhdcknfnaaPrg
import Derived.Test.YtnngbnhdcknfnaaMrf
namespace Go.Proofs.Ytnngbnhdcknfnaa
open Go.RowKit

set_option maxHeartbeats 1000000 in
theorem markSectionS_any (A : Option Addr) (c : Nat) (l : List (Int × Int)) (base : Nat) (w : World) (h : w.ownsRow base 90 2 (.slice A l.length c) l.length (secC l)) (hn : l.length ≤ 1048576) :
    Calls Try.prog 49 #[.slice A l.length c, .int .i64 1] w fun e w' => e = .returned (.int .i64 (2 * (l.length : Int) + 1)) ∧ w.grownBy w' (Value.slice A l.length c).ownBlock := by
  go_enter Try.func49, Try.ntmps49
  go_wp2_with fail
  go_loopw [1, 5] (fun m i wr => ∃ (k : Nat) (l' : List (Int × Int)), k ≤ l.length ∧ i = .int .i64 k ∧ m = .int .i64 (2 * (k : Int) + 1) ∧ l'.length = l.length ∧ wr.ownsRow base 90 2 (.slice A l.length c) l.length (secC l') ∧ w.grownBy wr (Value.slice A l.length c).ownBlock)
    (fun _ i _ => l.length - (intOf i).toNat)
  case atStart => exact ⟨0, l, Nat.zero_le _, rfl, rfl, rfl, h, grown_refl _ _⟩
  case round =>
    obtain ⟨k, l', hk, rfl, rfl, hl', hown, hb⟩ := hrel
    by_cases hlt : k < l.length
    · rcases hown.2 with ⟨h', h0⟩ | ⟨g, cap, cur, h', hgb, hg, _⟩
      · omega
      · simp only [Value.slice.injEq, true_and] at h'
        obtain ⟨rfl, rfl⟩ := h'
        have f1 := (hown.cellAt (k * 2) (by omega)).trans (secC_even l' k (by omega))
        have f2 := (hown.cellAt (k * 2 + 1) (by omega)).trans (secC_odd l' k (by omega))
        have f3 := hown.frozenAt (k * 2)
        have f4 := hown.frozenAt (k * 2 + 1)
        clear hg h
        go_wp2
        exact ⟨⟨k + 1, l'.set k (_, _), hlt, ret_int' (by omega), ret_int' (by omega), by simp [hl'], secown_set2 hown k _ _, grown_set (grown_set hb)⟩, by simp [intOf]; omega⟩
    · obtain rfl : k = l.length := by omega
      go_wp2
      go_ret
      exact ⟨rfl, hb⟩
/-- the marks of n sections, from 1 on -/
def mkSec (n : Nat) : List (Int × Int) := (List.range n).map fun (i : Nat) => (IntKind.i16.wrap (2 * (i : Int) + 1), IntKind.i16.wrap (2 * (i : Int) + 1 + 1))
def mkSecT (l : List (Int × Int)) (k : Nat) : List (Int × Int) := mkSec k ++ l.drop k
theorem mkSec_length (n : Nat) : (mkSec n).length = n := by simp [mkSec]
theorem mkSecT_zero (l : List (Int × Int)) : mkSecT l 0 = l := by simp [mkSecT, mkSec]
theorem mkSecT_all (l : List (Int × Int)) : mkSecT l l.length = mkSec l.length := by simp [mkSecT]
theorem mkSecT_length (l : List (Int × Int)) (k : Nat) (h : k ≤ l.length) : (mkSecT l k).length = l.length := by
  simp [mkSecT, mkSec_length]; omega
theorem mkSecT_set (l : List (Int × Int)) (k : Nat) (h : k < l.length) : (mkSecT l k).set k (IntKind.i16.wrap (2 * (k : Int) + 1), IntKind.i16.wrap (2 * (k : Int) + 1 + 1)) = mkSecT l (k + 1) := by
  unfold mkSecT mkSec
  rw [List.set_append_right _ _ (by simp), List.range_succ, List.map_append, List.length_map, List.length_range, Nat.sub_self, List.drop_eq_getElem_cons h, List.set_cons_zero, List.append_assoc]
  rfl
theorem mkSec_pi (n k : Nat) (h : k < n) : secF (mkSec n) k = IntKind.i16.wrap (2 * (k : Int) + 1) := by simp [secF, mkSec, h]
theorem mkSec_re (n k : Nat) (h : k < n) : secS (mkSec n) k = IntKind.i16.wrap (2 * (k : Int) + 1 + 1) := by simp [secS, mkSec, h]

set_option maxHeartbeats 1000000 in
theorem markSectionS_at (A : Option Addr) (c : Nat) (l : List (Int × Int)) (base : Nat) (w : World) (h : w.ownsRow base 90 2 (.slice A l.length c) l.length (secC l)) (hn : l.length ≤ 1048576) :
    Calls Try.prog 49 #[.slice A l.length c, .int .i64 1] w fun e w' => e = .returned (.int .i64 (2 * (l.length : Int) + 1)) ∧ w'.ownsRow base 90 2 (.slice A l.length c) l.length (secC (mkSec l.length)) ∧ w.grownBy w' (Value.slice A l.length c).ownBlock := by
  go_enter Try.func49, Try.ntmps49
  go_wp2_with fail
  go_loopw [1, 5] (fun m i wr => ∃ k : Nat, k ≤ l.length ∧ i = .int .i64 k ∧ m = .int .i64 (2 * (k : Int) + 1) ∧ wr.ownsRow base 90 2 (.slice A l.length c) l.length (secC (mkSecT l k)) ∧ w.grownBy wr (Value.slice A l.length c).ownBlock)
    (fun _ i _ => l.length - (intOf i).toNat)
  case atStart => exact ⟨0, Nat.zero_le _, rfl, rfl, by rw [mkSecT_zero]; exact h, grown_refl _ _⟩
  case round =>
    obtain ⟨k, hk, rfl, rfl, hown, hb⟩ := hrel
    by_cases hlt : k < l.length
    · rcases hown.2 with ⟨h', h0⟩ | ⟨g, cap, cur, h', hgb, hg, _⟩
      · omega
      · simp only [Value.slice.injEq, true_and] at h'
        obtain ⟨rfl, rfl⟩ := h'
        have hl' := mkSecT_length l k hk
        have f1 := (hown.cellAt (k * 2) (by omega)).trans (secC_even (mkSecT l k) k (by omega))
        have f2 := (hown.cellAt (k * 2 + 1) (by omega)).trans (secC_odd (mkSecT l k) k (by omega))
        have f3 := hown.frozenAt (k * 2)
        have f4 := hown.frozenAt (k * 2 + 1)
        have HS := hide (mkSecT_set l k hlt)
        obtain ⟨u, hu⟩ : ∃ u, u = IntKind.i16.wrap (2 * (k : Int) + 1) := ⟨_, rfl⟩
        obtain ⟨v, hv⟩ : ∃ v, v = IntKind.i16.wrap (2 * (k : Int) + 1 + 1) := ⟨_, rfl⟩
        have HU := hide hu
        have HV := hide hv
        clear hg h hu hv
        go_wp2
        exact ⟨⟨k + 1, hlt, ret_int' (by omega), ret_int' (by omega), by rw [← HS.out]; exact secown_set2 hown k _ _, grown_set (grown_set hb)⟩, by simp [intOf]; omega⟩
    · obtain rfl : k = l.length := by omega
      go_wp2
      go_ret
      exact ⟨rfl, by rw [← mkSecT_all]; exact hown, hb⟩
theorem heldSectionS_any (A : Option Addr) (c n : Nat) (w : World) (hA : SecA w A (mkSec n)) (hn : n ≤ 1048576) :
    Calls Try.prog 50 #[.slice A n c, .int .i64 1] w fun e w' => e = .returned (.int .i64 (2 * (n : Int) + 1)) ∧ w = w' := by
  go_enter Try.func50, Try.ntmps50
  go_wp2_with fail
  go_loop [1, 5] (fun m i => ∃ k : Nat, k ≤ n ∧ i = .int .i64 k ∧ m = .int .i64 (2 * (k : Int) + 1))
    (fun _ i => n - (intOf i).toNat)
  case atStart => exact ⟨0, Nat.zero_le _, rfl, rfl⟩
  case round =>
    obtain ⟨k, hk, rfl, rfl⟩ := hrel
    by_cases hlt : k < n
    · obtain ⟨b, o, rfl, _, c1, c2⟩ := hA k (by rw [mkSec_length]; exact hlt)
      rw [mkSec_pi n k hlt] at c1
      rw [mkSec_re n k hlt] at c2
      have hw1 : IntKind.i64.wrap (2 * (k : Int) + 1 + 1) = 2 * (k : Int) + 1 + 1 := IntWalk.i64_in _ (by omega)
      have hki : (k : Int) < (n : Int) := by omega
      go_wp2
      go_round
      case rel => exact ⟨k + 1, hlt, by go_num, by go_num⟩
      case measure => simp [intOf]; omega
    · obtain rfl : k = n := by omega
      go_wp2
      go_ret
      exact ⟨rfl, rfl⟩

theorem markProgramme_any (A : Option Addr) (c : Nat) (l : List (Int × Int)) (o : Nat → Int) (base : Nat) (w : World) (h : w.ownsRow base 90 2 (.slice A l.length c) l.length (secC l)) (hn : l.length ≤ 1048576) :
    Calls Try.prog 34 #[.agg (prA A l.length c o), .int .i64 1] w fun e w' => e = .returned (.int .i64 (2 * (l.length : Int) + 1)) ∧ w.grownBy w' (Value.slice A l.length c).ownBlock := by
  have h1 := h.alloc (.cells (prA A l.length c o) 40)
  have c0 := (Bk.new w 40 (prA A l.length c o) rfl).slice
  go_enter Try.func34, Try.ntmps34
  go_wp2_with (go_at_call 49; refine (markSectionS_any A c l base _ h1 hn).mono ?_; rintro e w' ⟨rfl, hb⟩)
  go_ret
  exact ⟨rfl, (World.grownBy_alloc w _ _).trans hb⟩
set_option maxRecDepth 20000 in
set_option maxHeartbeats 1000000 in
theorem eqProgramme_any (A B : Option Addr) (c d : Nat) (l : List (Int × Int)) (o : Nat → Int) (w : World) (hA : SecA w A l) (hB : SecA w B l) (hn : l.length ≤ 1048576) :
    Calls Try.prog 20 #[.agg (prA A l.length c o), .agg (prA B l.length d o)] w (Says true w) := by
  obtain ⟨X, hX⟩ : ∃ X, X = (w.alloc (.cells (prA A l.length c o) 40)).alloc (.cells (prA B l.length d o) 40) := ⟨_, rfl⟩
  have hb0 : Below w.heap.size w X := by rw [hX]; exact ((Below.refl _ _).alloc (Nat.le_refl _) _).alloc (by simp) _
  have P0 : Bk X w.heap.size 40 (prA A l.length c o) := by rw [hX]; exact (Bk.new _ _ _ rfl).old _
  have P1 : Bk X (w.heap.size + 1) 40 (prA B l.length d o) := by rw [hX]; exact Bk.new _ _ _ (by simp)
  have hS := sameB_refl l
  have c0 := P0.slice
  have c1 := P1.slice
  go_enter Try.func20, Try.ntmps20
  go_upto_region 1 with fail
  rw [← hX]
  clear hX
  go_wp2_with fail
  refine (eqSectionS_any A B c d l l _ (hA.below hb0) (hB.below hb0) hn hn).mono ?_
  rintro e w1 ⟨rfl, hb1⟩
  rw [hS]
  have b1 := step_below hb1 hb0
  have HR0 := hide (P0.keep hb1).order
  have HR1 := hide (P1.keep hb1).order
  go_wp2_with (first | (with_reducible refine wpList_load_oa rfl (.tmp 11) rfl w.heap.size 1 rfl o HR0.out ?_) | (with_reducible refine wpList_load_oa rfl (.tmp 13) rfl (w.heap.size + 1) 1 rfl o HR1.out ?_))
  refine (eqInt8A48_any o _).mono ?_
  rintro e w2 ⟨rfl, hb2⟩
  go_wp2
  go_ret
  exact ⟨rfl, step_below hb2 b1⟩
end Go.Proofs.Ytnngbnhdcknfnaa
