import Derived.Test.YtmmninlnpnhboaaGreatDoorGad
import Derived.Maps.AppendAt
import Derived.Test.YtmmninlnpnhboaaGreatDoorGaa
import Derived.IntWalk
namespace Go.Proofs.YtmmninlnpnhboaaGreatDoor
open Go.RowKit


/-- the set of the first k hammers' pitches, as the walk spells it -/
def belTo (l : List (Int × Int)) : Nat → Int
  | 0 => 0
  | k + 1 => bits .or .u64 (belTo l k) (IntKind.u64.wrap (2 ^ (hPi l k).toNat))
def belI (l : List (Int × Int)) : Int := belTo l l.length
theorem HG.at {s : Int} {l : List (Int × Int)} {n k : Nat} (h : HG s l n) (hk : k < n) : (0 ≤ hPi l k ∧ hPi l k ≤ 47) ∧ (1 ≤ hRe l k ∧ hRe l k ≤ 20 ∧ hRe l k ≤ s) := by
  have := h k hk
  simp only [hamB, inB, Bool.and_eq_true, decide_eq_true_eq] at this
  have hm : mnI s ≤ 20 ∧ mnI s ≤ s := by unfold mnI; split <;> omega
  omega

end Go.Proofs.YtmmninlnpnhboaaGreatDoor
namespace Go.Proofs.YtmmninlnpnhboaaGreatDoor
open Go.RowKit

/-- the tracks ahead of k whose hammer has a pitch -/
def trk (l : List (Int × Int)) (p : Int) (k : Nat) : List Nat := (List.range k).filter fun j => decide (hPi l j = p)
def tcells (ts : List Nat) : List Value := ts.map fun (j : Nat) => .int .i64 (j : Int)
theorem trk_len (l : List (Int × Int)) (p : Int) (k : Nat) : (trk l p k).length ≤ k := by simpa [trk] using List.length_filter_le (fun j => decide (hPi l j = p)) (List.range k)
theorem trk_yes {l : List (Int × Int)} {p : Int} {k : Nat} (h : hPi l k = p) : trk l p (k + 1) = trk l p k ++ [k] := by simp [trk, List.range_succ, List.filter_append, h]
theorem trk_no {l : List (Int × Int)} {p : Int} {k : Nat} (h : ¬ hPi l k = p) : trk l p (k + 1) = trk l p k := by simp [trk, List.range_succ, List.filter_append, h]
def hamN (l : List (Int × Int)) (p : Int) : Nat := (trk l p l.length).length

/-- a slice of the call's own comes back -/
def OwnL (w : World) (xs : List Nat) (e : Ending) (w' : World) : Prop := ∃ (A : Option Addr) (c : Nat), e = .returned (.slice A xs.length c) ∧ w'.ownsRow w.heap.size 2 1 (.slice A xs.length c) xs.length (tcells xs) ∧ Below w.heap.size w w'
theorem own_shape {w : World} {base n : Nat} {e : TypeId} {size : Nat} {v : Value} {xs : List Value} (h : w.ownsRow base e size v n xs) : ∃ A c, v = .slice A n c := by
  rcases h.2 with ⟨h1, h2⟩ | ⟨g, cap, cur, h1, _⟩
  · exact ⟨none, 0, by rw [h1, h2]⟩
  · exact ⟨_, _, h1⟩
set_option maxHeartbeats 1000000 in
set_option maxRecDepth 20000 in
theorem tracksFor_any (s p : Int) (A : Option Addr) (c : Nat) (l : List (Int × Int)) (w : World) (hA : HA w A l) (hn : l.length ≤ 24) (hg : HG s l l.length) :
    Calls Tryz.prog 105 #[.slice A l.length c, .int .i64 p] w (OwnL w (trk l p l.length)) := by
  obtain ⟨i0, hi, hz0, hz1, hz2⟩ := info_parts info2
  have HGG := hide hg
  clear hg
  go_enter Tryz.func105, Tryz.ntmps105
  go_wp2_with fail
  go_loopw [5, 10] (fun v i wr => ∃ k : Nat, k ≤ l.length ∧ i = .int .i64 k ∧ wr.ownsRow w.heap.size 2 1 v (trk l p k).length (tcells (trk l p k)) ∧ Below w.heap.size w wr)
    (fun _ i _ => l.length - (intOf i).toNat)
  case atStart => exact ⟨0, Nat.zero_le _, rfl, ⟨rfl, Or.inl ⟨rfl, rfl⟩⟩, Below.refl _ _⟩
  case round =>
    obtain ⟨k, hk, rfl, hown, hb⟩ := hrel
    obtain ⟨A', c', rfl⟩ := own_shape hown
    by_cases hlt : k < l.length
    · obtain ⟨b, o, rfl, hbb, c1, c2⟩ := hA k hlt
      have d1 := (hb.cell (p := ⟨b, o + k * 2, none⟩) hbb).trans c1
      have d2 := (hb.cell (p := ⟨b, o + k * 2 + 1, none⟩) hbb).trans c2
      obtain ⟨⟨e3, e4⟩, _⟩ := HGG.out.at hlt
      have hb2 := hb.alloc hb.size (.cells #[.int .i8 (hPi l k), .int .i8 (hRe l k)] 95)
      have own2 := hown.alloc (.cells #[.int .i8 (hPi l k), .int .i8 (hRe l k)] 95)
      have hlen := trk_len l p k
      clear c1 c2 hA
      by_cases hp : hPi l k = p
      · have HT := hide (trk_yes hp)
        have hq : (hPi l k == p) = true := by simp [hp]
        clear hp
        have hnew : ∀ j u, ([.int .i64 (k : Int)] : List Value)[j]? = some u → ((wr.alloc (.cells #[.int .i8 (hPi l k), .int .i8 (hRe l k)] 95)).alloc (.cells #[.int .i64 (k : Int)] 2)).cell? ((⟨wr.heap.size + 1, 0, none⟩ : Addr).add j) = some u := by
          have h := cell_one_new (wr.alloc (.cells #[.int .i8 (hPi l k), .int .i8 (hRe l k)] 95)) (.int .i64 (k : Int)) 2
          rw [World.size_alloc] at h
          exact h
        have own3 := own2.alloc (.cells #[.int .i64 (k : Int)] 2)
        have hsz := hb.size
        go_wp2_with (at_builtin; refine wpList_append_own _ rfl _ _ 182 rfl w.heap.size 2 i0 (.int .i64 0) 1 8 Tryz.underlying182 hi hz0 hz1 hz2 rfl (by decide) _ _ _ rfl own3 ⟨wr.heap.size + 1, 0, none⟩ 1 1 [.int .i64 (k : Int)] rfl rfl hnew (fun x hx => by simp at hx; subst hx; rfl) (by unfold maxLen; omega) (by omega) (by simp; omega) ?_; intro v' w3 hown3 hgrow3 hnil3)
        have hb3 := (hb2.alloc hb2.size (.cells #[.int .i64 (k : Int)] 2)).grown hgrow3 (by simp; omega) (fun j hj => (hown.lt j hj).1)
        go_roundw
        case rel => exact ⟨k + 1, hlt, by go_num, by rw [HT.out, List.length_append, tcells, List.map_append]; exact hown3, hb3⟩
        case measure => simp [intOf]; omega
      · have HT := hide (trk_no hp)
        have hq : (hPi l k == p) = false := by simp [hp]
        clear hp
        go_wp2
        go_roundw
        case rel => exact ⟨k + 1, hlt, by go_num, by rw [HT.out]; exact own2, hb2⟩
        case measure => simp [intOf]; omega
    · obtain rfl : k = l.length := by omega
      go_wp2
      go_ret
      exact ⟨A', c', rfl, hown, hb⟩

/-- ErrInvalid, then ErrRange -/
def cod3 (a b : Bool) : Int := if a then (if b then 0 else 2) else 1
end Go.Proofs.YtmmninlnpnhboaaGreatDoor
namespace Go.Proofs.YtmmninlnpnhboaaGreatDoor
open Go.RowKit

/-- numbers as cells -/
def icells (zs : List Int) : List Value := zs.map fun z => .int .i64 z
def zAt (zs : List Int) (k : Nat) : Int := zs.getD k 0
theorem icells_length (zs : List Int) : (icells zs).length = zs.length := by simp [icells]
theorem icells_get (zs : List Int) (k : Nat) (h : k < zs.length) : (icells zs)[k]? = some (.int .i64 (zAt zs k)) := by simp [icells, zAt, h]
theorem icells_set (zs : List Int) (k : Nat) (z : Int) : (icells zs).set k (.int .i64 z) = icells (zs.set k z) := by simp [icells, List.map_set]
theorem tcells_icells (xs : List Nat) : tcells xs = icells (xs.map fun (x : Nat) => (x : Int)) := by simp [tcells, icells]
/-- a slice's address under which the numbers lie, in blocks below B -/
def SI (w : World) (B : Nat) (A : Option Addr) (zs : List Int) : Prop := ∀ k, k < zs.length → ∃ b, A = some ⟨b, 0, none⟩ ∧ b < B ∧ w.cell? ⟨b, k, none⟩ = some (.int .i64 (zAt zs k))
theorem SI.below {w w' : World} {B : Nat} {A : Option Addr} {zs : List Int} (h : SI w B A zs) (hb : Below B w w') : SI w' B A zs := fun k hk => by
  obtain ⟨b, h1, h2, h3⟩ := h k hk
  exact ⟨b, h1, h2, (hb.cell (p := ⟨b, k, none⟩) h2).trans h3⟩
theorem SI.up {w : World} {B B' : Nat} {A : Option Addr} {zs : List Int} (h : SI w B A zs) (hB : B ≤ B') : SI w B' A zs := fun k hk => by
  obtain ⟨b, h1, h2, h3⟩ := h k hk
  exact ⟨b, h1, by omega, h3⟩
theorem SI.of_own {w : World} {base : Nat} {A : Option Addr} {c : Nat} {zs : List Int} (h : w.ownsRow base 2 1 (.slice A zs.length c) zs.length (icells zs)) : SI w w.heap.size A zs := by
  intro k hk
  rcases h.2 with ⟨h', h0⟩ | ⟨g, cap, cur, h', hb, hg, _⟩
  · omega
  · simp only [Value.slice.injEq, true_and] at h'
    obtain ⟨rfl, rfl⟩ := h'
    refine ⟨g, rfl, (Array.getElem?_eq_some_iff.1 hg).1, ?_⟩
    rw [h.cellAt k (by omega), icells_get zs k hk]

/-- the marks: the first k of them, then what was there -/
def mkTo (zs : List Int) (k : Nat) : List Int := (List.range k).map (fun (j : Nat) => (j : Int) + 1) ++ zs.drop k
theorem mkTo_length (zs : List Int) (k : Nat) (h : k ≤ zs.length) : (mkTo zs k).length = zs.length := by simp [mkTo]; omega
theorem mkTo_zero (zs : List Int) : mkTo zs 0 = zs := by simp [mkTo]
theorem mkTo_set (zs : List Int) (k : Nat) (h : k < zs.length) : (mkTo zs k).set k ((k : Int) + 1) = mkTo zs (k + 1) := by
  unfold mkTo
  rw [List.set_append_right _ _ (by simp), List.range_succ, List.map_append, List.length_map, List.length_range, Nat.sub_self, List.drop_eq_getElem_cons h, List.set_cons_zero, List.append_assoc]
  rfl
def mks (n : Nat) : List Int := (List.range n).map (fun (j : Nat) => (j : Int) + 1)
theorem mkTo_all (zs : List Int) : mkTo zs zs.length = mks zs.length := by simp [mkTo, mks]
theorem mks_length (n : Nat) : (mks n).length = n := by simp [mks]
theorem mks_at (n k : Nat) (h : k < n) : zAt (mks n) k = (k : Int) + 1 := by simp [mks, zAt, h]

end Go.Proofs.YtmmninlnpnhboaaGreatDoor
namespace Go.Proofs.YtmmninlnpnhboaaGreatDoor
open Go.RowKit

set_option maxHeartbeats 1000000 in
theorem markHammerS_any (A : Option Addr) (c : Nat) (l : List (Int × Int)) (base : Nat) (w : World) (h : w.ownsRow base 95 2 (.slice A l.length c) l.length (hcells l)) (hn : l.length ≤ 1048576) :
    Calls Tryz.prog 47 #[.slice A l.length c, .int .i64 1] w fun e w' => e = .returned (.int .i64 (2 * (l.length : Int) + 1)) ∧ w.grownBy w' (Value.slice A l.length c).ownBlock := by
  go_enter Tryz.func47, Tryz.ntmps47
  go_wp2_with fail
  go_loopw [1, 5] (fun m i wr => ∃ (k : Nat) (l' : List (Int × Int)), k ≤ l.length ∧ i = .int .i64 k ∧ m = .int .i64 (2 * (k : Int) + 1) ∧ l'.length = l.length ∧ wr.ownsRow base 95 2 (.slice A l.length c) l.length (hcells l') ∧ w.grownBy wr (Value.slice A l.length c).ownBlock)
    (fun _ i _ => l.length - (intOf i).toNat)
  case atStart => exact ⟨0, l, Nat.zero_le _, rfl, rfl, rfl, h, grown_refl _ _⟩
  case round =>
    obtain ⟨k, l', hk, rfl, rfl, hl', hown, hb⟩ := hrel
    by_cases hlt : k < l.length
    · rcases hown.2 with ⟨h', h0⟩ | ⟨g, cap, cur, h', hgb, hg, _⟩
      · omega
      · simp only [Value.slice.injEq, true_and] at h'
        obtain ⟨rfl, rfl⟩ := h'
        have f1 := (hown.cellAt (k * 2) (by omega)).trans (hcells_even l' k (by omega))
        have f2 := (hown.cellAt (k * 2 + 1) (by omega)).trans (hcells_odd l' k (by omega))
        have f3 := hown.frozenAt (k * 2)
        have f4 := hown.frozenAt (k * 2 + 1)
        clear hg h
        go_wp2
        exact ⟨⟨k + 1, l'.set k (_, _), hlt, ret_int' (by omega), ret_int' (by omega), by simp [hl'], hown_set2 hown k _ _, grown_set (grown_set hb)⟩, by simp [intOf]; omega⟩
    · obtain rfl : k = l.length := by omega
      go_wp2
      go_ret
      exact ⟨rfl, hb⟩
theorem markFrame_any (s : Int) (A : Option Addr) (c : Nat) (l : List (Int × Int)) (base : Nat) (w : World) (h : w.ownsRow base 95 2 (.slice A l.length c) l.length (hcells l)) (hn : l.length ≤ 1048576) :
    Calls Tryz.prog 28 #[.agg #[.int .i16 s, .slice A l.length c], .int .i64 1] w fun e w' => e = .returned (.int .i64 (2 * (l.length : Int) + 1)) ∧ w.grownBy w' (Value.slice A l.length c).ownBlock := by
  have h1 := h.alloc (.cells #[.int .i16 s, .slice A l.length c] 38)
  go_enter Tryz.func28, Tryz.ntmps28
  go_wp2_with (go_at_call 47; refine (markHammerS_any A c l base _ h1 hn).mono ?_; rintro e w' ⟨rfl, hb⟩)
  go_ret
  exact ⟨rfl, (World.grownBy_alloc w _ _).trans hb⟩
end Go.Proofs.YtmmninlnpnhboaaGreatDoor
namespace Go.Proofs.YtmmninlnpnhboaaGreatDoor
open Go.RowKit

/-- marks from K on -/
def mkN (K : Int) (n : Nat) : List (Int × Int) := (List.range n).map fun (i : Nat) => (IntKind.i16.wrap (K + 2 * (i : Int)), IntKind.i8.wrap (K + 2 * (i : Int) + 1))
def mkNT (K : Int) (l : List (Int × Int)) (k : Nat) : List (Int × Int) := mkN K k ++ l.drop k
theorem mkN_length (K : Int) (n : Nat) : (mkN K n).length = n := by simp [mkN]
theorem mkNT_zero (K : Int) (l : List (Int × Int)) : mkNT K l 0 = l := by simp [mkNT, mkN]
theorem mkNT_all (K : Int) (l : List (Int × Int)) : mkNT K l l.length = mkN K l.length := by simp [mkNT]
theorem mkNT_length (K : Int) (l : List (Int × Int)) (k : Nat) (h : k ≤ l.length) : (mkNT K l k).length = l.length := by
  simp [mkNT, mkN_length]; omega
theorem mkNT_set (K : Int) (l : List (Int × Int)) (k : Nat) (h : k < l.length) : (mkNT K l k).set k (IntKind.i16.wrap (K + 2 * (k : Int)), IntKind.i8.wrap (K + 2 * (k : Int) + 1)) = mkNT K l (k + 1) := by
  unfold mkNT mkN
  rw [List.set_append_right _ _ (by simp), List.range_succ, List.map_append, List.length_map, List.length_range, Nat.sub_self, List.drop_eq_getElem_cons h, List.set_cons_zero, List.append_assoc]
  rfl
theorem mkN_fst (K : Int) (n k : Nat) (h : k < n) : nAt (mkN K n) k = IntKind.i16.wrap (K + 2 * (k : Int)) := by simp [nAt, mkN, h]
theorem mkN_snd (K : Int) (n k : Nat) (h : k < n) : nPi (mkN K n) k = IntKind.i8.wrap (K + 2 * (k : Int) + 1) := by simp [nPi, mkN, h]
theorem mkN_of_own {w : World} {base : Nat} {e : TypeId} {A : Option Addr} {c : Nat} {K : Int} {n : Nat} (h : w.ownsRow base e 2 (.slice A n c) n (cellsOf (mkN K n))) : NA w A (mkN K n) := NA.of_own (l := mkN K n) (by rw [mkN_length]; exact h)

set_option maxHeartbeats 1000000 in
theorem markTune_from (A : Option Addr) (c : Nat) (l : List (Int × Int)) (base : Nat) (K : Int) (w : World) (h : w.ownsRow base 65 2 (.slice A l.length c) l.length (cellsOf l)) (hn : l.length ≤ 1048576) (hK : 0 ≤ K ∧ K ≤ 1099511627776) :
    Calls Tryz.prog 29 #[.slice A l.length c, .int .i64 K] w fun e w' => e = .returned (.int .i64 (K + 2 * (l.length : Int))) ∧ w'.ownsRow base 65 2 (.slice A l.length c) l.length (cellsOf (mkN K l.length)) ∧ w.grownBy w' (Value.slice A l.length c).ownBlock := by
  obtain ⟨hK1, hK2⟩ := hK
  go_enter Tryz.func29, Tryz.ntmps29
  go_wp2_with fail
  go_loopw [1, 5] (fun m i wr => ∃ k : Nat, k ≤ l.length ∧ i = .int .i64 k ∧ m = .int .i64 (K + 2 * (k : Int)) ∧ wr.ownsRow base 65 2 (.slice A l.length c) l.length (cellsOf (mkNT K l k)) ∧ w.grownBy wr (Value.slice A l.length c).ownBlock)
    (fun _ i _ => l.length - (intOf i).toNat)
  case atStart => exact ⟨0, Nat.zero_le _, rfl, ret_int' (by omega), by rw [mkNT_zero]; exact h, grown_refl _ _⟩
  case round =>
    obtain ⟨k, hk, rfl, rfl, hown, hb⟩ := hrel
    by_cases hlt : k < l.length
    · rcases hown.2 with ⟨h', h0⟩ | ⟨g, cap, cur, h', hgb, hg, _⟩
      · omega
      · simp only [Value.slice.injEq, true_and] at h'
        obtain ⟨rfl, rfl⟩ := h'
        have hl' := mkNT_length K l k hk
        have f1 := (hown.cellAt (k * 2) (by omega)).trans (cellsOf_even (mkNT K l k) k (by omega))
        have f2 := (hown.cellAt (k * 2 + 1) (by omega)).trans (cellsOf_odd (mkNT K l k) k (by omega))
        have f3 := hown.frozenAt (k * 2)
        have f4 := hown.frozenAt (k * 2 + 1)
        have HS := hide (mkNT_set K l k hlt)
        obtain ⟨u, hu⟩ : ∃ u, u = IntKind.i16.wrap (K + 2 * (k : Int)) := ⟨_, rfl⟩
        obtain ⟨v, hv⟩ : ∃ v, v = IntKind.i8.wrap (K + 2 * (k : Int) + 1) := ⟨_, rfl⟩
        have HU := hide hu
        have HV := hide hv
        clear hg h hu hv
        go_wp2
        exact ⟨⟨k + 1, hlt, ret_int' (by omega), ret_int' (by omega), by rw [← HS.out]; exact own_set2 hown k _ _, grown_set (grown_set hb)⟩, by simp [intOf]; omega⟩
    · obtain rfl : k = l.length := by omega
      go_wp2
      go_ret
      exact ⟨rfl, by rw [← mkNT_all]; exact hown, hb⟩
set_option maxHeartbeats 1000000 in
theorem heldTune_from (A : Option Addr) (c n : Nat) (K : Int) (w : World) (hA : NA w A (mkN K n)) (hn : n ≤ 1048576) (hK : 0 ≤ K ∧ K ≤ 1099511627776) :
    Calls Tryz.prog 31 #[.slice A n c, .int .i64 K] w fun e w' => e = .returned (.int .i64 (K + 2 * (n : Int))) ∧ w = w' := by
  obtain ⟨hK1, hK2⟩ := hK
  go_enter Tryz.func31, Tryz.ntmps31
  go_wp2_with fail
  go_loop [1, 5] (fun m i => ∃ k : Nat, k ≤ n ∧ i = .int .i64 k ∧ m = .int .i64 (K + 2 * (k : Int)))
    (fun _ i => n - (intOf i).toNat)
  case atStart => exact ⟨0, Nat.zero_le _, rfl, ret_int' (by omega)⟩
  case round =>
    obtain ⟨k, hk, rfl, rfl⟩ := hrel
    by_cases hlt : k < n
    · obtain ⟨b, o, rfl, _, c1, c2⟩ := hA k (by rw [mkN_length]; exact hlt)
      rw [mkN_fst K n k hlt] at c1
      rw [mkN_snd K n k hlt] at c2
      have hw1 : IntKind.i64.wrap (K + 2 * (k : Int) + 1) = K + 2 * (k : Int) + 1 := IntWalk.i64_in _ (by omega)
      have hw2 : IntKind.i64.wrap (K + 2 * (k : Int) + 1 + 1) = K + 2 * (k : Int) + 1 + 1 := IntWalk.i64_in _ (by omega)
      have hki : (k : Int) < (n : Int) := by omega
      go_wp2
      go_round
      case rel => exact ⟨k + 1, hlt, by go_num, ret_int' (by omega)⟩
      case measure => simp [intOf]; omega
    · obtain rfl : k = n := by omega
      go_wp2
      go_ret
      exact ⟨rfl, rfl⟩

end Go.Proofs.YtmmninlnpnhboaaGreatDoor
