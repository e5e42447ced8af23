import Derived.Test.YtghkcfghkbihcaaGab
import Derived.IntWalk
import Derived.Test.YtghkcfghkbihcaaBase
import Derived.Test.YtghkcfghkbihcaaProg
namespace Go.Proofs.Ytghkcfghkbihcaa
open Go.RowKit

/-- marks from K on -/
def mkN (K : Int) (n : Nat) : List (Int × Int) := (List.range n).map fun (i : Nat) => (IntKind.i16.wrap (K + 2 * (i : Int)), IntKind.i8.wrap (K + 2 * (i : Int) + 1))
def mkNT (K : Int) (l : List (Int × Int)) (k : Nat) : List (Int × Int) := mkN K k ++ l.drop k
theorem mkN_length (K : Int) (n : Nat) : (mkN K n).length = n := by simp [mkN]
theorem mkNT_zero (K : Int) (l : List (Int × Int)) : mkNT K l 0 = l := by simp [mkNT, mkN]
theorem mkNT_all (K : Int) (l : List (Int × Int)) : mkNT K l l.length = mkN K l.length := by simp [mkNT]
theorem mkNT_length (K : Int) (l : List (Int × Int)) (k : Nat) (h : k ≤ l.length) : (mkNT K l k).length = l.length := by
  simp [mkNT, mkN_length]; omega
theorem mkNT_set (K : Int) (l : List (Int × Int)) (k : Nat) (h : k < l.length) : (mkNT K l k).set k (IntKind.i16.wrap (K + 2 * (k : Int)), IntKind.i8.wrap (K + 2 * (k : Int) + 1)) = mkNT K l (k + 1) := by
  unfold mkNT mkN
  rw [List.set_append_right _ _ (by simp), List.range_succ, List.map_append, List.length_map, List.length_range, Nat.sub_self, List.drop_eq_getElem_cons h, List.set_cons_zero, List.append_assoc]
  rfl
theorem mkN_fst (K : Int) (n k : Nat) (h : k < n) : nAt (mkN K n) k = IntKind.i16.wrap (K + 2 * (k : Int)) := by simp [nAt, mkN, h]
theorem mkN_snd (K : Int) (n k : Nat) (h : k < n) : nPi (mkN K n) k = IntKind.i8.wrap (K + 2 * (k : Int) + 1) := by simp [nPi, mkN, h]
theorem mkN_of_own {w : World} {base : Nat} {e : TypeId} {A : Option Addr} {c : Nat} {K : Int} {n : Nat} (h : w.ownsRow base e 2 (.slice A n c) n (cellsOf (mkN K n))) : NA w A (mkN K n) := NA.of_own (l := mkN K n) (by rw [mkN_length]; exact h)

set_option maxHeartbeats 1000000 in
theorem markTune_from (A : Option Addr) (c : Nat) (l : List (Int × Int)) (base : Nat) (K : Int) (w : World) (h : w.ownsRow base 43 2 (.slice A l.length c) l.length (cellsOf l)) (hn : l.length ≤ 1048576) (hK : 0 ≤ K ∧ K ≤ 1099511627776) :
    Calls Try.prog 12 #[.slice A l.length c, .int .i64 K] w fun e w' => e = .returned (.int .i64 (K + 2 * (l.length : Int))) ∧ w'.ownsRow base 43 2 (.slice A l.length c) l.length (cellsOf (mkN K l.length)) ∧ w.grownBy w' (Value.slice A l.length c).ownBlock := by
  obtain ⟨hK1, hK2⟩ := hK
  go_enter Try.func12, Try.ntmps12
  go_wp2_with fail
  go_loopw [1, 5] (fun m i wr => ∃ k : Nat, k ≤ l.length ∧ i = .int .i64 k ∧ m = .int .i64 (K + 2 * (k : Int)) ∧ wr.ownsRow base 43 2 (.slice A l.length c) l.length (cellsOf (mkNT K l k)) ∧ w.grownBy wr (Value.slice A l.length c).ownBlock)
    (fun _ i _ => l.length - (intOf i).toNat)
  case atStart => exact ⟨0, Nat.zero_le _, rfl, ret_int' (by omega), by rw [mkNT_zero]; exact h, grown_refl _ _⟩
  case round =>
    obtain ⟨k, hk, rfl, rfl, hown, hb⟩ := hrel
    by_cases hlt : k < l.length
    · rcases hown.2 with ⟨h', h0⟩ | ⟨g, cap, cur, h', hgb, hg, _⟩
      · omega
      · simp only [Value.slice.injEq, true_and] at h'
        obtain ⟨rfl, rfl⟩ := h'
        have hl' := mkNT_length K l k hk
        have f1 := (hown.cellAt (k * 2) (by omega)).trans (cellsOf_even (mkNT K l k) k (by omega))
        have f2 := (hown.cellAt (k * 2 + 1) (by omega)).trans (cellsOf_odd (mkNT K l k) k (by omega))
        have f3 := hown.frozenAt (k * 2)
        have f4 := hown.frozenAt (k * 2 + 1)
        have HS := hide (mkNT_set K l k hlt)
        obtain ⟨u, hu⟩ : ∃ u, u = IntKind.i16.wrap (K + 2 * (k : Int)) := ⟨_, rfl⟩
        obtain ⟨v, hv⟩ : ∃ v, v = IntKind.i8.wrap (K + 2 * (k : Int) + 1) := ⟨_, rfl⟩
        have HU := hide hu
        have HV := hide hv
        clear hg h hu hv
        go_wp2
        exact ⟨⟨k + 1, hlt, ret_int' (by omega), ret_int' (by omega), by rw [← HS.out]; exact own_set2 hown k _ _, grown_set (grown_set hb)⟩, by simp [intOf]; omega⟩
    · obtain rfl : k = l.length := by omega
      go_wp2
      go_ret
      exact ⟨rfl, by rw [← mkNT_all]; exact hown, hb⟩
set_option maxHeartbeats 1000000 in
theorem heldTune_from (A : Option Addr) (c n : Nat) (K : Int) (w : World) (hA : NA w A (mkN K n)) (hn : n ≤ 1048576) (hK : 0 ≤ K ∧ K ≤ 1099511627776) :
    Calls Try.prog 13 #[.slice A n c, .int .i64 K] w fun e w' => e = .returned (.int .i64 (K + 2 * (n : Int))) ∧ w = w' := by
  obtain ⟨hK1, hK2⟩ := hK
  go_enter Try.func13, Try.ntmps13
  go_wp2_with fail
  go_loop [1, 5] (fun m i => ∃ k : Nat, k ≤ n ∧ i = .int .i64 k ∧ m = .int .i64 (K + 2 * (k : Int)))
    (fun _ i => n - (intOf i).toNat)
  case atStart => exact ⟨0, Nat.zero_le _, rfl, ret_int' (by omega)⟩
  case round =>
    obtain ⟨k, hk, rfl, rfl⟩ := hrel
    by_cases hlt : k < n
    · obtain ⟨b, o, rfl, _, c1, c2⟩ := hA k (by rw [mkN_length]; exact hlt)
      rw [mkN_fst K n k hlt] at c1
      rw [mkN_snd K n k hlt] at c2
      have hw1 : IntKind.i64.wrap (K + 2 * (k : Int) + 1) = K + 2 * (k : Int) + 1 := IntWalk.i64_in _ (by omega)
      have hw2 : IntKind.i64.wrap (K + 2 * (k : Int) + 1 + 1) = K + 2 * (k : Int) + 1 + 1 := IntWalk.i64_in _ (by omega)
      have hki : (k : Int) < (n : Int) := by omega
      go_wp2
      go_round
      case rel => exact ⟨k + 1, hlt, by go_num, ret_int' (by omega)⟩
      case measure => simp [intOf]; omega
    · obtain rfl : k = n := by omega
      go_wp2
      go_ret
      exact ⟨rfl, rfl⟩

end Go.Proofs.Ytghkcfghkbihcaa
namespace Go.Proofs.Ytghkcfghkbihcaa
open Go.RowKit

theorem toNote_any (a p : Int) (w : World) :
    Calls Try.prog 17 #[.agg #[.int .i16 a, .int .i8 p]] w fun e w' => e = .returned (.agg #[.int .i16 a, .int .i8 p]) ∧ Below w.heap.size w w' := by
  go_enter Try.func17, Try.ntmps17
  go_wp2
  refine bodyPost_ret (v := .agg #[.int .i16 a, .int .i8 p]) (by simp [results, Try.results17, go_sem]) rfl ⟨rfl, ?_⟩
  repeat (first | exact Below.refl _ _ | refine Below.alloc ?_ (by simp <;> omega) _ | refine Below.setCell ?_ (by simp) _)

/-- the first k of l, then zeros -/
def upto (l : List (Int × Int)) (k : Nat) : List (Int × Int) := l.take k ++ List.replicate (l.length - k) (0, 0)
theorem upto_length (l : List (Int × Int)) (k : Nat) (h : k ≤ l.length) : (upto l k).length = l.length := by simp [upto]; omega
theorem upto_set (l : List (Int × Int)) (k : Nat) (h : k < l.length) : (upto l k).set k (nAt l k, nPi l k) = upto l (k + 1) := by
  have e1 : l.length - k = (l.length - (k + 1)) + 1 := by omega
  have e2 : (nAt l k, nPi l k) = l[k] := by simp [nAt, nPi, List.getD, h]
  rw [upto, upto, e1, List.replicate_succ, e2, List.take_succ_eq_append_getElem h, List.set_append_right _ _ (by simp; omega)]
  simp only [List.length_take, show k - min k l.length = 0 by omega, List.set_cons_zero, List.append_assoc, List.cons_append, List.nil_append]
theorem upto_zero (l : List (Int × Int)) : upto l 0 = List.replicate l.length (0, 0) := by simp [upto]
theorem upto_all (l : List (Int × Int)) : upto l l.length = l := by simp [upto]

/-- what toTune leaves -/
def Made (w : World) (l : List (Int × Int)) (e : Ending) (w' : World) : Prop :=
  e = .returned (.slice (some ⟨w.heap.size, 0, none⟩) l.length l.length) ∧ w'.ownsRow w.heap.size 43 2 (.slice (some ⟨w.heap.size, 0, none⟩) l.length l.length) l.length (cellsOf l) ∧ Below w.heap.size w w'

set_option maxHeartbeats 400000 in
theorem toTune_any (A : Option Addr) (c : Nat) (l : List (Int × Int)) (w : World) (hA : NA w A l) (hn : l.length ≤ 1048576) :
    Calls Try.prog 7 #[.slice A l.length c] w (Made w l) := by
  obtain ⟨i0, hi, hz0, hz1, hz2⟩ := info_parts info43
  go_enter Try.func7, Try.ntmps7
  go_wp2_with (at_make; refine wpList_make_full _ rfl _ _ 28 rfl w.heap.size 43 i0 _ 2 Try.underlying28 hi hz0 hz1 _ _ _ _ l.length rfl rfl (by omega) (by omega) (by rw [hz2]; omega) (by unfold maxLen; omega) (by simp) ?_; intro w1 hown1 hgrow1)
  have hb0 : Below w.heap.size w w1 := (Below.refl _ _).grown hgrow1 (Nat.le_refl _) (fun j e => by cases e)
  clear hgrow1
  go_loopw [4] (fun i wr => ∃ k : Nat, k ≤ l.length ∧ i = .int .i64 k ∧ wr.ownsRow w.heap.size 43 2 (.slice (some ⟨w.heap.size, 0, none⟩) l.length l.length) l.length (cellsOf (upto l k)) ∧ Below w.heap.size w wr)
    (fun i _ => l.length - (intOf i).toNat)
  case atStart =>
    refine ⟨0, Nat.zero_le _, rfl, ?_, hb0⟩
    rw [upto_zero, cellsOf_replicate]
    exact hown1
  case round =>
    obtain ⟨k, hk, rfl, hown, hb⟩ := hrel
    by_cases hlt : k < l.length
    · obtain ⟨b, o, rfl, hbb, c1, c2⟩ := hA k hlt
      have d1 := (hb.cell (p := ⟨b, o + k * 2, none⟩) hbb).trans c1
      have d2 := (hb.cell (p := ⟨b, o + k * 2 + 1, none⟩) hbb).trans c2
      have hs := hb.size
      clear c1 c2 hA hown1 hb0
      go_wp2_with (go_at_call 17; refine (toNote_any _ _ _).mono ?_; rintro e w2 ⟨rfl, hb2⟩; have own2 := own_keep hown hb2; have f1 := (own2.cellAt (k * 2) (by omega)).trans (cellsOf_even _ k (by rw [upto_length _ _ hk]; exact hlt)); have f2 := (own2.cellAt (k * 2 + 1) (by omega)).trans (cellsOf_odd _ k (by rw [upto_length _ _ hk]; exact hlt)); have f3 := own2.frozenAt (k * 2); have f4 := own2.frozenAt (k * 2 + 1); have hs2 := hb2.size)
      go_roundw
      case rel => exact ⟨k + 1, hlt, by go_num, upto_set l k hlt ▸ own_set2 own2 k _ _, ((hb.trans (hb2.mono hs)).setCell (p := ⟨w.heap.size, _, none⟩) (Nat.le_refl _) _).setCell (p := ⟨w.heap.size, _, none⟩) (Nat.le_refl _) _⟩
      case measure => simp [intOf]; omega
    · obtain rfl : k = l.length := by omega
      go_wp2
      go_ret
      exact ⟨rfl, by rw [upto_all] at hown; exact hown, hb⟩
end Go.Proofs.Ytghkcfghkbihcaa
