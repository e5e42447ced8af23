import Derived.Test.YtcocfnjbgceidaaGreatGad
import Derived.Test.YtcocfnjbgceidaaGreatGaa
import Derived.IntWalk
import Derived.Test.YtcocfnjbgceidaaGreatGac
import Derived.Deep.MidRow
import Derived.Great.Ranges
import Derived.Great.BuildSlice
namespace Go.Proofs.YtcocfnjbgceidaaGreat
open Go.RowKit

set_option maxHeartbeats 1000000 in
theorem markHammerS_any (A : Option Addr) (c : Nat) (l : List (Int × Int)) (base : Nat) (w : World) (h : w.ownsRow base 127 2 (.slice A l.length c) l.length (hcells l)) (hn : l.length ≤ 1048576) :
    Calls Tryz.prog 54 #[.slice A l.length c, .int .i64 1] w fun e w' => e = .returned (.int .i64 (2 * (l.length : Int) + 1)) ∧ w.grownBy w' (Value.slice A l.length c).ownBlock := by
  go_enter Tryz.func54, Tryz.ntmps54
  go_wp2_with fail
  go_loopw [1, 5] (fun m i wr => ∃ (k : Nat) (l' : List (Int × Int)), k ≤ l.length ∧ i = .int .i64 k ∧ m = .int .i64 (2 * (k : Int) + 1) ∧ l'.length = l.length ∧ wr.ownsRow base 127 2 (.slice A l.length c) l.length (hcells l') ∧ w.grownBy wr (Value.slice A l.length c).ownBlock)
    (fun _ i _ => l.length - (intOf i).toNat)
  case atStart => exact ⟨0, l, Nat.zero_le _, rfl, rfl, rfl, h, grown_refl _ _⟩
  case round =>
    obtain ⟨k, l', hk, rfl, rfl, hl', hown, hb⟩ := hrel
    by_cases hlt : k < l.length
    · rcases hown.2 with ⟨h', h0⟩ | ⟨g, cap, cur, h', hgb, hg, _⟩
      · omega
      · simp only [Value.slice.injEq, true_and] at h'
        obtain ⟨rfl, rfl⟩ := h'
        have f1 := (hown.cellAt (k * 2) (by omega)).trans (hcells_even l' k (by omega))
        have f2 := (hown.cellAt (k * 2 + 1) (by omega)).trans (hcells_odd l' k (by omega))
        have f3 := hown.frozenAt (k * 2)
        have f4 := hown.frozenAt (k * 2 + 1)
        clear hg h
        go_wp2
        exact ⟨⟨k + 1, l'.set k (_, _), hlt, ret_int' (by omega), ret_int' (by omega), by simp [hl'], hown_set2 hown k _ _, grown_set (grown_set hb)⟩, by simp [intOf]; omega⟩
    · obtain rfl : k = l.length := by omega
      go_wp2
      go_ret
      exact ⟨rfl, hb⟩
theorem markFrame_any (s : Int) (A : Option Addr) (c : Nat) (l : List (Int × Int)) (base : Nat) (w : World) (h : w.ownsRow base 127 2 (.slice A l.length c) l.length (hcells l)) (hn : l.length ≤ 1048576) :
    Calls Tryz.prog 18 #[.agg #[.int .i16 s, .slice A l.length c], .int .i64 1] w fun e w' => e = .returned (.int .i64 (2 * (l.length : Int) + 1)) ∧ w.grownBy w' (Value.slice A l.length c).ownBlock := by
  have h1 := h.alloc (.cells #[.int .i16 s, .slice A l.length c] 39)
  go_enter Tryz.func18, Tryz.ntmps18
  go_wp2_with (go_at_call 54; refine (markHammerS_any A c l base _ h1 hn).mono ?_; rintro e w' ⟨rfl, hb⟩)
  go_ret
  exact ⟨rfl, (World.grownBy_alloc w _ _).trans hb⟩
end Go.Proofs.YtcocfnjbgceidaaGreat
namespace Go.Proofs.YtcocfnjbgceidaaGreat
open Go.RowKit

/-- marks from K on -/
def mkN (K : Int) (n : Nat) : List (Int × Int) := (List.range n).map fun (i : Nat) => (IntKind.i16.wrap (K + 2 * (i : Int)), IntKind.i8.wrap (K + 2 * (i : Int) + 1))
def mkNT (K : Int) (l : List (Int × Int)) (k : Nat) : List (Int × Int) := mkN K k ++ l.drop k
theorem mkN_length (K : Int) (n : Nat) : (mkN K n).length = n := by simp [mkN]
theorem mkNT_zero (K : Int) (l : List (Int × Int)) : mkNT K l 0 = l := by simp [mkNT, mkN]
theorem mkNT_all (K : Int) (l : List (Int × Int)) : mkNT K l l.length = mkN K l.length := by simp [mkNT]
theorem mkNT_length (K : Int) (l : List (Int × Int)) (k : Nat) (h : k ≤ l.length) : (mkNT K l k).length = l.length := by
  simp [mkNT, mkN_length]; omega
theorem mkNT_set (K : Int) (l : List (Int × Int)) (k : Nat) (h : k < l.length) : (mkNT K l k).set k (IntKind.i16.wrap (K + 2 * (k : Int)), IntKind.i8.wrap (K + 2 * (k : Int) + 1)) = mkNT K l (k + 1) := by
  unfold mkNT mkN
  rw [List.set_append_right _ _ (by simp), List.range_succ, List.map_append, List.length_map, List.length_range, Nat.sub_self, List.drop_eq_getElem_cons h, List.set_cons_zero, List.append_assoc]
  rfl
theorem mkN_fst (K : Int) (n k : Nat) (h : k < n) : nAt (mkN K n) k = IntKind.i16.wrap (K + 2 * (k : Int)) := by simp [nAt, mkN, h]
theorem mkN_snd (K : Int) (n k : Nat) (h : k < n) : nPi (mkN K n) k = IntKind.i8.wrap (K + 2 * (k : Int) + 1) := by simp [nPi, mkN, h]
theorem mkN_of_own {w : World} {base : Nat} {e : TypeId} {A : Option Addr} {c : Nat} {K : Int} {n : Nat} (h : w.ownsRow base e 2 (.slice A n c) n (cellsOf (mkN K n))) : NA w A (mkN K n) := NA.of_own (l := mkN K n) (by rw [mkN_length]; exact h)

end Go.Proofs.YtcocfnjbgceidaaGreat
namespace Go.Proofs.YtcocfnjbgceidaaGreat
open Go.RowKit

/-- marks from K on -/
def mkH (K : Int) (n : Nat) : List (Int × Int) := (List.range n).map fun (i : Nat) => (IntKind.i8.wrap (K + 2 * (i : Int)), IntKind.i8.wrap (K + 2 * (i : Int) + 1))
def mkHT (K : Int) (l : List (Int × Int)) (k : Nat) : List (Int × Int) := mkH K k ++ l.drop k
theorem mkH_length (K : Int) (n : Nat) : (mkH K n).length = n := by simp [mkH]
theorem mkHT_zero (K : Int) (l : List (Int × Int)) : mkHT K l 0 = l := by simp [mkHT, mkH]
theorem mkHT_all (K : Int) (l : List (Int × Int)) : mkHT K l l.length = mkH K l.length := by simp [mkHT]
theorem mkHT_length (K : Int) (l : List (Int × Int)) (k : Nat) (h : k ≤ l.length) : (mkHT K l k).length = l.length := by
  simp [mkHT, mkH_length]; omega
theorem mkHT_set (K : Int) (l : List (Int × Int)) (k : Nat) (h : k < l.length) : (mkHT K l k).set k (IntKind.i8.wrap (K + 2 * (k : Int)), IntKind.i8.wrap (K + 2 * (k : Int) + 1)) = mkHT K l (k + 1) := by
  unfold mkHT mkH
  rw [List.set_append_right _ _ (by simp), List.range_succ, List.map_append, List.length_map, List.length_range, Nat.sub_self, List.drop_eq_getElem_cons h, List.set_cons_zero, List.append_assoc]
  rfl
theorem mkH_fst (K : Int) (n k : Nat) (h : k < n) : hPi (mkH K n) k = IntKind.i8.wrap (K + 2 * (k : Int)) := by simp [hPi, mkH, h]
theorem mkH_snd (K : Int) (n k : Nat) (h : k < n) : hRe (mkH K n) k = IntKind.i8.wrap (K + 2 * (k : Int) + 1) := by simp [hRe, mkH, h]
theorem mkH_of_own {w : World} {base : Nat} {e : TypeId} {A : Option Addr} {c : Nat} {K : Int} {n : Nat} (h : w.ownsRow base e 2 (.slice A n c) n (hcells (mkH K n))) : HA w A (mkH K n) := HA.of_own (l := mkH K n) (by rw [mkH_length]; exact h)

set_option maxHeartbeats 1000000 in
theorem markHammerS_from (A : Option Addr) (c : Nat) (l : List (Int × Int)) (base : Nat) (K : Int) (w : World) (h : w.ownsRow base 127 2 (.slice A l.length c) l.length (hcells l)) (hn : l.length ≤ 1048576) (hK : 0 ≤ K ∧ K ≤ 1099511627776) :
    Calls Tryz.prog 54 #[.slice A l.length c, .int .i64 K] w fun e w' => e = .returned (.int .i64 (K + 2 * (l.length : Int))) ∧ w'.ownsRow base 127 2 (.slice A l.length c) l.length (hcells (mkH K l.length)) ∧ w.grownBy w' (Value.slice A l.length c).ownBlock := by
  obtain ⟨hK1, hK2⟩ := hK
  go_enter Tryz.func54, Tryz.ntmps54
  go_wp2_with fail
  go_loopw [1, 5] (fun m i wr => ∃ k : Nat, k ≤ l.length ∧ i = .int .i64 k ∧ m = .int .i64 (K + 2 * (k : Int)) ∧ wr.ownsRow base 127 2 (.slice A l.length c) l.length (hcells (mkHT K l k)) ∧ w.grownBy wr (Value.slice A l.length c).ownBlock)
    (fun _ i _ => l.length - (intOf i).toNat)
  case atStart => exact ⟨0, Nat.zero_le _, rfl, ret_int' (by omega), by rw [mkHT_zero]; exact h, grown_refl _ _⟩
  case round =>
    obtain ⟨k, hk, rfl, rfl, hown, hb⟩ := hrel
    by_cases hlt : k < l.length
    · rcases hown.2 with ⟨h', h0⟩ | ⟨g, cap, cur, h', hgb, hg, _⟩
      · omega
      · simp only [Value.slice.injEq, true_and] at h'
        obtain ⟨rfl, rfl⟩ := h'
        have hl' := mkHT_length K l k hk
        have f1 := (hown.cellAt (k * 2) (by omega)).trans (hcells_even (mkHT K l k) k (by omega))
        have f2 := (hown.cellAt (k * 2 + 1) (by omega)).trans (hcells_odd (mkHT K l k) k (by omega))
        have f3 := hown.frozenAt (k * 2)
        have f4 := hown.frozenAt (k * 2 + 1)
        have HS := hide (mkHT_set K l k hlt)
        obtain ⟨u, hu⟩ : ∃ u, u = IntKind.i8.wrap (K + 2 * (k : Int)) := ⟨_, rfl⟩
        obtain ⟨v, hv⟩ : ∃ v, v = IntKind.i8.wrap (K + 2 * (k : Int) + 1) := ⟨_, rfl⟩
        have HU := hide hu
        have HV := hide hv
        clear hg h hu hv
        go_wp2
        exact ⟨⟨k + 1, hlt, ret_int' (by omega), ret_int' (by omega), by rw [← HS.out]; exact hown_set2 hown k _ _, grown_set (grown_set hb)⟩, by simp [intOf]; omega⟩
    · obtain rfl : k = l.length := by omega
      go_wp2
      go_ret
      exact ⟨rfl, by rw [← mkHT_all]; exact hown, hb⟩
/-- marks of numbers from K on -/
def mkI (K : Int) (n : Nat) : List Int := (List.range n).map (fun (j : Nat) => K + (j : Int))
def mkIT (K : Int) (zs : List Int) (k : Nat) : List Int := mkI K k ++ zs.drop k
theorem mkI_length (K : Int) (n : Nat) : (mkI K n).length = n := by simp [mkI]
theorem mkIT_zero (K : Int) (l : List Int) : mkIT K l 0 = l := by simp [mkIT, mkI]
theorem mkIT_all (K : Int) (l : List Int) : mkIT K l l.length = mkI K l.length := by simp [mkIT]
theorem mkIT_length (K : Int) (l : List Int) (k : Nat) (h : k ≤ l.length) : (mkIT K l k).length = l.length := by
  simp [mkIT, mkI_length]; omega
theorem mkIT_set (K : Int) (l : List Int) (k : Nat) (h : k < l.length) : (mkIT K l k).set k (K + (k : Int)) = mkIT K l (k + 1) := by
  unfold mkIT mkI
  rw [List.set_append_right _ _ (by simp), List.range_succ, List.map_append, List.length_map, List.length_range, Nat.sub_self, List.drop_eq_getElem_cons h, List.set_cons_zero, List.append_assoc]
  rfl
theorem mkI_at (K : Int) (n k : Nat) (h : k < n) : zAt (mkI K n) k = K + (k : Int) := by simp [mkI, zAt, h]
theorem mkI_of_own {w : World} {base : Nat} {A : Option Addr} {c : Nat} {K : Int} {n : Nat} (h : w.ownsRow base 2 1 (.slice A n c) n (icells (mkI K n))) : SI w w.heap.size A (mkI K n) := SI.of_own (zs := mkI K n) (by rw [mkI_length]; exact h)
set_option maxHeartbeats 1000000 in
theorem markInt64S_from (A : Option Addr) (c : Nat) (zs : List Int) (base : Nat) (K : Int) (w : World) (h : w.ownsRow base 2 1 (.slice A zs.length c) zs.length (icells zs)) (hn : zs.length ≤ 1048576) (hK : 0 ≤ K ∧ K ≤ 1099511627776) :
    Calls Tryz.prog 56 #[.slice A zs.length c, .int .i64 K] w fun e w' => e = .returned (.int .i64 (K + (zs.length : Int))) ∧ w'.ownsRow base 2 1 (.slice A zs.length c) zs.length (icells (mkI K zs.length)) ∧ w.grownBy w' (Value.slice A zs.length c).ownBlock := by
  obtain ⟨hK1, hK2⟩ := hK
  go_enter Tryz.func56, Tryz.ntmps56
  go_wp2_with fail
  go_loopw [1, 5] (fun m i wr => ∃ k : Nat, k ≤ zs.length ∧ i = .int .i64 k ∧ m = .int .i64 (K + (k : Int)) ∧ wr.ownsRow base 2 1 (.slice A zs.length c) zs.length (icells (mkIT K zs k)) ∧ w.grownBy wr (Value.slice A zs.length c).ownBlock)
    (fun _ i _ => zs.length - (intOf i).toNat)
  case atStart => exact ⟨0, Nat.zero_le _, rfl, ret_int' (by omega), by rw [mkIT_zero]; exact h, grown_refl _ _⟩
  case round =>
    obtain ⟨k, hk, rfl, rfl, hown, hb⟩ := hrel
    by_cases hlt : k < zs.length
    · rcases hown.2 with ⟨h', h0⟩ | ⟨g, cap, cur, h', hgb, hg, _⟩
      · omega
      · simp only [Value.slice.injEq, true_and] at h'
        obtain ⟨rfl, rfl⟩ := h'
        have hl' := mkIT_length K zs k hk
        have f1 := (hown.cellAt k (by omega)).trans (icells_get _ k (by omega))
        have f2 := hown.frozenAt k
        have HS := hide (mkIT_set K zs k hlt)
        clear hg h
        go_wp2
        exact ⟨⟨k + 1, hlt, ret_int' (by omega), ret_int' (by omega), by rw [← HS.out, ← icells_set]; exact (hown.stored k _).1, grown_set hb⟩, by simp [intOf]; omega⟩
    · obtain rfl : k = zs.length := by omega
      go_wp2
      go_ret
      exact ⟨rfl, by rw [← mkIT_all]; exact hown, hb⟩
set_option maxHeartbeats 1000000 in
theorem heldInt64S_from (A : Option Addr) (c n : Nat) (B : Nat) (K : Int) (w : World) (hA : SI w B A (mkI K n)) (hn : n ≤ 1048576) (hK : 0 ≤ K ∧ K ≤ 1099511627776) :
    Calls Tryz.prog 58 #[.slice A n c, .int .i64 K] w fun e w' => e = .returned (.int .i64 (K + (n : Int))) ∧ w = w' := by
  obtain ⟨hK1, hK2⟩ := hK
  go_enter Tryz.func58, Tryz.ntmps58
  go_wp2_with fail
  go_loop [1, 5] (fun m i => ∃ k : Nat, k ≤ n ∧ i = .int .i64 k ∧ m = .int .i64 (K + (k : Int)))
    (fun _ i => n - (intOf i).toNat)
  case atStart => exact ⟨0, Nat.zero_le _, rfl, ret_int' (by omega)⟩
  case round =>
    obtain ⟨k, hk, rfl, rfl⟩ := hrel
    by_cases hlt : k < n
    · obtain ⟨b, rfl, hb1, c1⟩ := hA k (by rw [mkI_length]; exact hlt)
      rw [mkI_at K n k hlt] at c1
      have hne : ((K + (k : Int)) != (K + (k : Int))) = false := by simp
      go_wp2
      go_round
      case rel => exact ⟨k + 1, hlt, by go_num, ret_int' (by omega)⟩
      case measure => simp [intOf]; omega
    · obtain rfl : k = n := by omega
      go_wp2
      go_ret
      exact ⟨rfl, rfl⟩
theorem markFrame_from (s : Int) (A : Option Addr) (c : Nat) (l : List (Int × Int)) (base : Nat) (K : Int) (w : World) (h : w.ownsRow base 127 2 (.slice A l.length c) l.length (hcells l)) (hn : l.length ≤ 1048576) (hK : 0 ≤ K ∧ K ≤ 1099511627776) :
    Calls Tryz.prog 18 #[.agg #[.int .i16 s, .slice A l.length c], .int .i64 K] w fun e w' => e = .returned (.int .i64 (K + 2 * (l.length : Int))) ∧ w'.ownsRow base 127 2 (.slice A l.length c) l.length (hcells (mkH K l.length)) ∧ w.grownBy w' (Value.slice A l.length c).ownBlock := by
  have h1 := h.alloc (.cells #[.int .i16 s, .slice A l.length c] 39)
  go_enter Tryz.func18, Tryz.ntmps18
  go_wp2_with (go_at_call 54; refine (markHammerS_from A c l base K _ h1 hn hK).mono ?_; rintro e w' ⟨rfl, ho, hb⟩)
  go_ret
  exact ⟨rfl, ho, (World.grownBy_alloc w _ _).trans hb⟩
end Go.Proofs.YtcocfnjbgceidaaGreat
namespace Go.Proofs.YtcocfnjbgceidaaGreat
open Go.RowKit

/-- a drum's cells -/
def dv (d : Nat → Int) : List Value := (List.range 96).map fun i => .int .u32 (d i)
theorem dv_length (d : Nat → Int) : (dv d).length = 96 := by simp [dv]
theorem dv_get (d : Nat → Int) (i : Nat) (h : i < 96) : (dv d)[i]? = some (.int .u32 (d i)) := by simp [dv, h]
theorem dv_one (d : Nat → Int) : ∀ v ∈ dv d, v.oneCell' = true := by
  intro v hv
  simp only [dv, List.mem_map] at hv
  obtain ⟨i, _, rfl⟩ := hv
  rfl
theorem dv_set (d : Nat → Int) (k : Nat) (x : Int) : (dv d).set k (.int .u32 x) = dv (fun i => if i = k then x else d i) := by
  apply List.ext_getElem?
  intro i
  by_cases hi : i < 96
  · rw [dv_get _ _ hi, List.getElem?_set, dv_get _ _ hi, dv_length]
    by_cases e : k = i
    · subst e; simp [hi]
    · rw [if_neg e, if_neg (fun h => e h.symm)]
  · rw [List.getElem?_eq_none (by rw [List.length_set, dv_length]; omega), List.getElem?_eq_none (by rw [dv_length]; omega)]
theorem dv_congr {d d' : Nat → Int} (h : ∀ i, i < 96 → d i = d' i) : dv d = dv d' := by
  apply List.map_congr_left
  intro i hi
  rw [h i (List.mem_range.1 hi)]
/-- as an array -/
def da (d : Nat → Int) : Array Value := (dv d).toArray
theorem da_one (d : Nat → Int) : (da d).all (·.oneCell') = true := all_oneCell_toArray (dv_one d)
theorem da_size (d : Nat → Int) : (da d).size = 96 := by simp [da, dv_length]
/-- block g holds a drum, as a row of a type -/
def Dr (w : World) (g : Nat) (t : TypeId) (d : Nat → Int) : Prop := w.heap[g]? = some (.cells (da d) t (0, 0))
theorem Dr.lt {w : World} {g : Nat} {t : TypeId} {d : Nat → Int} (h : Dr w g t d) : g < w.heap.size := (Array.getElem?_eq_some_iff.1 h).1
theorem Dr.cell {w : World} {g : Nat} {t : TypeId} {d : Nat → Int} (h : Dr w g t d) {i : Nat} (hi : i < 96) : w.cell? ⟨g, i, none⟩ = some (.int .u32 (d i)) := by
  rw [cell_of_row w g i _ _ _ h]
  simpa [da] using dv_get d i hi
theorem Dr.frozen {w : World} {g : Nat} {t : TypeId} {d : Nat → Int} (h : Dr w g t d) (i : Nat) : w.frozen? ⟨g, i, none⟩ = false := frozen_of_row w g i _ _ h
theorem Dr.keep {w w' : World} {g : Nat} {t : TypeId} {d : Nat → Int} (h : Dr w g t d) (hb : Below w.heap.size w w') : Dr w' g t d := (hb.block g h.lt).trans h
theorem Dr.set {w : World} {g : Nat} {t : TypeId} {d : Nat → Int} (h : Dr w g t d) (k : Nat) (x : Int) : Dr (w.setCell ⟨g, k, none⟩ (.int .u32 x)) g t (fun i => if i = k then x else d i) := by
  have := heap_setCell_same w g k _ _ (.int .u32 x) h
  unfold Dr
  rw [this, da, da, ← dv_set]
  simp
theorem Dr.other {w : World} {g b k : Nat} {t : TypeId} {d : Nat → Int} (h : Dr w g t d) (hne : g ≠ b) (v : Value) : Dr (w.setCell ⟨b, k, none⟩ v) g t d := by
  unfold Dr at h ⊢
  rw [← h]
  exact heap_setCell_other w ⟨b, k, none⟩ g v hne
theorem Dr.congr {w : World} {g : Nat} {t : TypeId} {d d' : Nat → Int} (h : Dr w g t d) (he : ∀ i, i < 96 → d i = d' i) : Dr w g t d' := by
  unfold Dr da at *
  rw [h, dv_congr he]

def za : Array Value := (List.replicate 96 (.int .u32 0)).toArray
theorem rep_range (n : Nat) (v : Value) : List.replicate n v = (List.range n).map fun _ => v := by simp [List.map_const']
theorem za_eq : za = da fun _ => 0 := by
  unfold za da dv
  rw [rep_range]
theorem below_setRow {B g : Nat} {w w' : World} {cs : Array Value} (h : Below B w w') (hg : B ≤ g) : Below B w (w'.setRow g cs) :=
  h.trans ⟨rfl, rfl, rfl, by simp, fun k hk => setRow_other _ _ _ _ (by omega)⟩
theorem zeroDrum (w : World) : (zeroValue 185).run Tryz.prog w = .ok (.agg za) w := by kernel_rfl
theorem info185 : (Tryz.prog.info? 185).map (·.size) = some 96 := by kernel_rfl
theorem info184 : (Tryz.prog.info? 184).map (·.size) = some 96 := by kernel_rfl

end Go.Proofs.YtcocfnjbgceidaaGreat
namespace Go.Proofs.YtcocfnjbgceidaaGreat
open Go.RowKit

/-- the pins of a step are where there may be pins -/
def stepB (s : Int) (n : Nat) (d : Nat → Int) (k : Nat) : Bool := decide (d k / 2 ^ n = 0) && (decide ((k : Int) < s) || decide (d k = 0))
def drB (s : Int) (n : Nat) (d : Nat → Int) : Bool := (List.range 96).all (stepB s n d)
def DG (s : Int) (n : Nat) (d : Nat → Int) (k : Nat) : Prop := ∀ j, j < k → stepB s n d j = true
theorem DG_succ {s : Int} {n : Nat} {d : Nat → Int} {k : Nat} (h : DG s n d k) (h' : stepB s n d k = true) : DG s n d (k + 1) := fun j hj => by
  rcases Nat.lt_or_ge j k with h1 | h1
  · exact h j h1
  · rw [show j = k by omega]; exact h'
theorem drB_yes {s : Int} {n : Nat} {d : Nat → Int} (h : DG s n d 96) : drB s n d = true := by simp only [drB, List.all_eq_true, List.mem_range]; exact h
theorem drB_no {s : Int} {n : Nat} {d : Nat → Int} {k : Nat} (hk : k < 96) (h : stepB s n d k = false) : drB s n d = false := by
  rw [drB, List.all_eq_false]
  exact ⟨k, List.mem_range.2 hk, by simp [h]⟩
theorem drB_all {s : Int} {n : Nat} {d : Nat → Int} (h : drB s n d = true) : DG s n d 96 := fun j hj => by
  simp only [drB, List.all_eq_true, List.mem_range] at h
  exact h j hj
def DWF (d : Nat → Int) : Prop := ∀ i, i < 96 → 0 ≤ d i ∧ d i ≤ 4294967295

theorem Dr.range0 {w : World} {g : Nat} {t : TypeId} {d : Nat → Int} (h : Dr w g t d) : w.rangeAt g 0 (dv d) := by
  intro i v hv
  have hi : i < 96 := by
    rcases Nat.lt_or_ge i 96 with h | h
    · exact h
    · rw [List.getElem?_eq_none (by rw [dv_length]; exact h)] at hv; cases hv
  rw [dv_get _ i hi] at hv
  rw [Nat.zero_add, h.cell hi]
  exact hv
/-- a number comes back -/
def SaysI (x : Int) (w : World) (e : Ending) (w' : World) : Prop := e = .returned (.int .i64 x) ∧ Below w.heap.size w w'
/-- the frame is valid, and the drum for it -/
def askB (s : Int) (l : List (Int × Int)) (d : Nat → Int) : Bool := frB s l && drB s l.length d
end Go.Proofs.YtcocfnjbgceidaaGreat
