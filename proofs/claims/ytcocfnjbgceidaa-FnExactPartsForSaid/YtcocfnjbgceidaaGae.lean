import Derived.Test.YtcocfnjbgceidaaGad
import Derived.Maps.AppendAt
import Derived.Test.YtcocfnjbgceidaaGaa
import Derived.IntWalk
namespace Go.Proofs.Ytcocfnjbgceidaa
open Go.RowKit

/-- the tracks ahead of k whose hammer has a pitch -/
def trk (l : List (Int × Int)) (p : Int) (k : Nat) : List Nat := (List.range k).filter fun j => decide (hPi l j = p)
def tcells (ts : List Nat) : List Value := ts.map fun (j : Nat) => .int .i64 (j : Int)
theorem trk_len (l : List (Int × Int)) (p : Int) (k : Nat) : (trk l p k).length ≤ k := by simpa [trk] using List.length_filter_le (fun j => decide (hPi l j = p)) (List.range k)
theorem trk_yes {l : List (Int × Int)} {p : Int} {k : Nat} (h : hPi l k = p) : trk l p (k + 1) = trk l p k ++ [k] := by simp [trk, List.range_succ, List.filter_append, h]
theorem trk_no {l : List (Int × Int)} {p : Int} {k : Nat} (h : ¬ hPi l k = p) : trk l p (k + 1) = trk l p k := by simp [trk, List.range_succ, List.filter_append, h]
def hamN (l : List (Int × Int)) (p : Int) : Nat := (trk l p l.length).length

/-- a slice of the call's own comes back -/
def OwnL (w : World) (xs : List Nat) (e : Ending) (w' : World) : Prop := ∃ (A : Option Addr) (c : Nat), e = .returned (.slice A xs.length c) ∧ w'.ownsRow w.heap.size 2 1 (.slice A xs.length c) xs.length (tcells xs) ∧ Below w.heap.size w w'
theorem own_shape {w : World} {base n : Nat} {e : TypeId} {size : Nat} {v : Value} {xs : List Value} (h : w.ownsRow base e size v n xs) : ∃ A c, v = .slice A n c := by
  rcases h.2 with ⟨h1, h2⟩ | ⟨g, cap, cur, h1, _⟩
  · exact ⟨none, 0, by rw [h1, h2]⟩
  · exact ⟨_, _, h1⟩
set_option maxHeartbeats 1000000 in
set_option maxRecDepth 20000 in
theorem tracksFor_any (s p : Int) (A : Option Addr) (c : Nat) (l : List (Int × Int)) (w : World) (hA : HA w A l) (hn : l.length ≤ 24) (hg : HG s l l.length) :
    Calls Try.prog 165 #[.slice A l.length c, .int .i64 p] w (OwnL w (trk l p l.length)) := by
  obtain ⟨i0, hi, hz0, hz1, hz2⟩ := info_parts info2
  have HGG := hide hg
  clear hg
  go_enter Try.func165, Try.ntmps165
  go_wp2_with fail
  go_loopw [5, 10] (fun v i wr => ∃ k : Nat, k ≤ l.length ∧ i = .int .i64 k ∧ wr.ownsRow w.heap.size 2 1 v (trk l p k).length (tcells (trk l p k)) ∧ Below w.heap.size w wr)
    (fun _ i _ => l.length - (intOf i).toNat)
  case atStart => exact ⟨0, Nat.zero_le _, rfl, ⟨rfl, Or.inl ⟨rfl, rfl⟩⟩, Below.refl _ _⟩
  case round =>
    obtain ⟨k, hk, rfl, hown, hb⟩ := hrel
    obtain ⟨A', c', rfl⟩ := own_shape hown
    by_cases hlt : k < l.length
    · obtain ⟨b, o, rfl, hbb, c1, c2⟩ := hA k hlt
      have d1 := (hb.cell (p := ⟨b, o + k * 2, none⟩) hbb).trans c1
      have d2 := (hb.cell (p := ⟨b, o + k * 2 + 1, none⟩) hbb).trans c2
      obtain ⟨⟨e3, e4⟩, _⟩ := HGG.out.at hlt
      have hb2 := hb.alloc hb.size (.cells #[.int .i8 (hPi l k), .int .i8 (hRe l k)] 164)
      have own2 := hown.alloc (.cells #[.int .i8 (hPi l k), .int .i8 (hRe l k)] 164)
      have hlen := trk_len l p k
      clear c1 c2 hA
      by_cases hp : hPi l k = p
      · have HT := hide (trk_yes hp)
        have hq : (hPi l k == p) = true := by simp [hp]
        clear hp
        have hnew : ∀ j u, ([.int .i64 (k : Int)] : List Value)[j]? = some u → ((wr.alloc (.cells #[.int .i8 (hPi l k), .int .i8 (hRe l k)] 164)).alloc (.cells #[.int .i64 (k : Int)] 2)).cell? ((⟨wr.heap.size + 1, 0, none⟩ : Addr).add j) = some u := by
          have h := cell_one_new (wr.alloc (.cells #[.int .i8 (hPi l k), .int .i8 (hRe l k)] 164)) (.int .i64 (k : Int)) 2
          rw [World.size_alloc] at h
          exact h
        have own3 := own2.alloc (.cells #[.int .i64 (k : Int)] 2)
        have hsz := hb.size
        go_wp2_with (at_builtin; refine wpList_append_own _ rfl _ _ 48 rfl w.heap.size 2 i0 (.int .i64 0) 1 8 Try.underlying48 hi hz0 hz1 hz2 rfl (by decide) _ _ _ rfl own3 ⟨wr.heap.size + 1, 0, none⟩ 1 1 [.int .i64 (k : Int)] rfl rfl hnew (fun x hx => by simp at hx; subst hx; rfl) (by unfold maxLen; omega) (by omega) (by simp; omega) ?_; intro v' w3 hown3 hgrow3 hnil3)
        have hb3 := (hb2.alloc hb2.size (.cells #[.int .i64 (k : Int)] 2)).grown hgrow3 (by simp; omega) (fun j hj => (hown.lt j hj).1)
        go_roundw
        case rel => exact ⟨k + 1, hlt, by go_num, by rw [HT.out, List.length_append, tcells, List.map_append]; exact hown3, hb3⟩
        case measure => simp [intOf]; omega
      · have HT := hide (trk_no hp)
        have hq : (hPi l k == p) = false := by simp [hp]
        clear hp
        go_wp2
        go_roundw
        case rel => exact ⟨k + 1, hlt, by go_num, by rw [HT.out]; exact own2, hb2⟩
        case measure => simp [intOf]; omega
    · obtain rfl : k = l.length := by omega
      go_wp2
      go_ret
      exact ⟨A', c', rfl, hown, hb⟩

/-- ErrInvalid, then ErrRange -/
def cod3 (a b : Bool) : Int := if a then (if b then 0 else 2) else 1
end Go.Proofs.Ytcocfnjbgceidaa
namespace Go.Proofs.Ytcocfnjbgceidaa
open Go.RowKit

/-- numbers as cells -/
def icells (zs : List Int) : List Value := zs.map fun z => .int .i64 z
def zAt (zs : List Int) (k : Nat) : Int := zs.getD k 0
theorem icells_length (zs : List Int) : (icells zs).length = zs.length := by simp [icells]
theorem icells_get (zs : List Int) (k : Nat) (h : k < zs.length) : (icells zs)[k]? = some (.int .i64 (zAt zs k)) := by simp [icells, zAt, h]
theorem icells_set (zs : List Int) (k : Nat) (z : Int) : (icells zs).set k (.int .i64 z) = icells (zs.set k z) := by simp [icells, List.map_set]
theorem tcells_icells (xs : List Nat) : tcells xs = icells (xs.map fun (x : Nat) => (x : Int)) := by simp [tcells, icells]
/-- a slice's address under which the numbers lie, in blocks below B -/
def SI (w : World) (B : Nat) (A : Option Addr) (zs : List Int) : Prop := ∀ k, k < zs.length → ∃ b, A = some ⟨b, 0, none⟩ ∧ b < B ∧ w.cell? ⟨b, k, none⟩ = some (.int .i64 (zAt zs k))
theorem SI.below {w w' : World} {B : Nat} {A : Option Addr} {zs : List Int} (h : SI w B A zs) (hb : Below B w w') : SI w' B A zs := fun k hk => by
  obtain ⟨b, h1, h2, h3⟩ := h k hk
  exact ⟨b, h1, h2, (hb.cell (p := ⟨b, k, none⟩) h2).trans h3⟩
theorem SI.up {w : World} {B B' : Nat} {A : Option Addr} {zs : List Int} (h : SI w B A zs) (hB : B ≤ B') : SI w B' A zs := fun k hk => by
  obtain ⟨b, h1, h2, h3⟩ := h k hk
  exact ⟨b, h1, by omega, h3⟩
theorem SI.of_own {w : World} {base : Nat} {A : Option Addr} {c : Nat} {zs : List Int} (h : w.ownsRow base 2 1 (.slice A zs.length c) zs.length (icells zs)) : SI w w.heap.size A zs := by
  intro k hk
  rcases h.2 with ⟨h', h0⟩ | ⟨g, cap, cur, h', hb, hg, _⟩
  · omega
  · simp only [Value.slice.injEq, true_and] at h'
    obtain ⟨rfl, rfl⟩ := h'
    refine ⟨g, rfl, (Array.getElem?_eq_some_iff.1 hg).1, ?_⟩
    rw [h.cellAt k (by omega), icells_get zs k hk]

set_option maxHeartbeats 1000000 in
theorem eqInt64S_any (A C : Option Addr) (c d : Nat) (zs : List Int) (B : Nat) (w : World) (hA : SI w B A zs) (hC : SI w B C zs) (hB : B ≤ w.heap.size) (hn : zs.length ≤ 1048576) :
    Calls Try.prog 37 #[.slice A zs.length c, .slice C zs.length d] w (Says true w) := by
  have H1 : ((zs.length : Int) != (zs.length : Int)) = false := by simp
  have H2 : (zs.length != zs.length) = false := by simp
  go_enter Try.func37, Try.ntmps37
  go_wp2_with fail
  go_loopw [5] (fun i wr => ∃ k : Nat, k ≤ zs.length ∧ i = .int .i64 k ∧ Below w.heap.size w wr)
    (fun i _ => zs.length - (intOf i).toNat)
  case atStart => exact ⟨0, Nat.zero_le _, rfl, Below.refl _ _⟩
  case round =>
    obtain ⟨k, hk, rfl, hb⟩ := hrel
    by_cases hlt : k < zs.length
    · obtain ⟨b, rfl, hb1, c1⟩ := hA k hlt
      obtain ⟨b', rfl, hb2, c2⟩ := hC k hlt
      have d1 := Later.cell ((hb.cell (p := ⟨b, k, none⟩) (by dsimp only; omega)).trans c1)
      have d2 := Later.cell ((hb.cell (p := ⟨b', k, none⟩) (by dsimp only; omega)).trans c2)
      have hne : (zAt zs k != zAt zs k) = false := by simp
      have hsz := hb.size
      clear c1 c2 hA hC
      go_wp2_with fail
      refine wp_region_later (by kernel_rfl) (by kernel_rfl) ?_
      repeat (go_big_quiet_step (fail))
      refine wpQuiet_nil ?_
      rintro wz ⟨⟨_, hq⟩, rfl⟩
      go_wp2
      go_roundw
      case rel => exact ⟨k + 1, hlt, by go_num, hb.trans (hq.mono hsz)⟩
      case measure => simp [intOf]; omega
    · obtain rfl : k = zs.length := by omega
      go_wp2
      go_ret
      exact ⟨rfl, hb⟩

/-- the marks: the first k of them, then what was there -/
def mkTo (zs : List Int) (k : Nat) : List Int := (List.range k).map (fun (j : Nat) => (j : Int) + 1) ++ zs.drop k
theorem mkTo_length (zs : List Int) (k : Nat) (h : k ≤ zs.length) : (mkTo zs k).length = zs.length := by simp [mkTo]; omega
theorem mkTo_zero (zs : List Int) : mkTo zs 0 = zs := by simp [mkTo]
theorem mkTo_set (zs : List Int) (k : Nat) (h : k < zs.length) : (mkTo zs k).set k ((k : Int) + 1) = mkTo zs (k + 1) := by
  unfold mkTo
  rw [List.set_append_right _ _ (by simp), List.range_succ, List.map_append, List.length_map, List.length_range, Nat.sub_self, List.drop_eq_getElem_cons h, List.set_cons_zero, List.append_assoc]
  rfl
def mks (n : Nat) : List Int := (List.range n).map (fun (j : Nat) => (j : Int) + 1)
theorem mkTo_all (zs : List Int) : mkTo zs zs.length = mks zs.length := by simp [mkTo, mks]
theorem mks_length (n : Nat) : (mks n).length = n := by simp [mks]
theorem mks_at (n k : Nat) (h : k < n) : zAt (mks n) k = (k : Int) + 1 := by simp [mks, zAt, h]

set_option maxHeartbeats 1000000 in
theorem markInt64S_any (A : Option Addr) (c : Nat) (zs : List Int) (base : Nat) (w : World) (h : w.ownsRow base 2 1 (.slice A zs.length c) zs.length (icells zs)) (hn : zs.length ≤ 1048576) (hbase : base ≤ w.heap.size) :
    Calls Try.prog 41 #[.slice A zs.length c, .int .i64 1] w fun e w' => e = .returned (.int .i64 ((zs.length : Int) + 1)) ∧ w'.ownsRow base 2 1 (.slice A zs.length c) zs.length (icells (mks zs.length)) ∧ Below base w w' := by
  go_enter Try.func41, Try.ntmps41
  go_wp2_with fail
  go_loopw [1, 5] (fun m i wr => ∃ k : Nat, k ≤ zs.length ∧ i = .int .i64 k ∧ m = .int .i64 ((k : Int) + 1) ∧ wr.ownsRow base 2 1 (.slice A zs.length c) zs.length (icells (mkTo zs k)) ∧ Below base w wr)
    (fun _ i _ => zs.length - (intOf i).toNat)
  case atStart => exact ⟨0, Nat.zero_le _, rfl, rfl, by rw [mkTo_zero]; exact h, Below.refl _ _⟩
  case round =>
    obtain ⟨k, hk, rfl, rfl, hown, hb⟩ := hrel
    by_cases hlt : k < zs.length
    · rcases hown.2 with ⟨h', h0⟩ | ⟨g, cap, cur, h', hgb, hg, _⟩
      · omega
      · simp only [Value.slice.injEq, true_and] at h'
        obtain ⟨rfl, rfl⟩ := h'
        have f1 := (hown.cellAt k (by omega)).trans (icells_get _ k (by rw [mkTo_length _ _ hk]; exact hlt))
        have f2 := hown.frozenAt k
        clear hg h
        go_wp2
        go_roundw
        case rel => exact ⟨k + 1, hlt, by go_num, by go_num, by rw [← mkTo_set zs k hlt, ← icells_set]; exact (hown.stored k _).1, hb.setCell (p := ⟨g, _, none⟩) hgb _⟩
        case measure => simp [intOf]; omega
    · obtain rfl : k = zs.length := by omega
      go_wp2
      go_ret
      exact ⟨rfl, by rw [mkTo_all] at hown; exact hown, hb⟩

theorem heldInt64S_any (A : Option Addr) (c n : Nat) (B : Nat) (w : World) (hA : SI w B A (mks n)) (hn : n ≤ 1048576) :
    Calls Try.prog 43 #[.slice A n c, .int .i64 1] w fun e w' => e = .returned (.int .i64 ((n : Int) + 1)) ∧ w = w' := by
  go_enter Try.func43, Try.ntmps43
  go_wp2_with fail
  go_loop [1, 5] (fun m i => ∃ k : Nat, k ≤ n ∧ i = .int .i64 k ∧ m = .int .i64 ((k : Int) + 1))
    (fun _ i => n - (intOf i).toNat)
  case atStart => exact ⟨0, Nat.zero_le _, rfl, rfl⟩
  case round =>
    obtain ⟨k, hk, rfl, rfl⟩ := hrel
    by_cases hlt : k < n
    · obtain ⟨b, rfl, hb1, c1⟩ := hA k (by rw [mks_length]; exact hlt)
      rw [mks_at n k hlt] at c1
      have hne : (((k : Int) + 1) != ((k : Int) + 1)) = false := by simp
      go_wp2
      go_round
      case rel => exact ⟨k + 1, hlt, by go_num, by go_num⟩
      case measure => simp [intOf]; omega
    · obtain rfl : k = n := by omega
      go_wp2
      go_ret
      exact ⟨rfl, rfl⟩
end Go.Proofs.Ytcocfnjbgceidaa
namespace Go.Proofs.Ytcocfnjbgceidaa
open Go.RowKit

set_option maxHeartbeats 1000000 in
theorem markHammerS_any (A : Option Addr) (c : Nat) (l : List (Int × Int)) (base : Nat) (w : World) (h : w.ownsRow base 164 2 (.slice A l.length c) l.length (hcells l)) (hn : l.length ≤ 1048576) :
    Calls Try.prog 81 #[.slice A l.length c, .int .i64 1] w fun e w' => e = .returned (.int .i64 (2 * (l.length : Int) + 1)) ∧ w.grownBy w' (Value.slice A l.length c).ownBlock := by
  go_enter Try.func81, Try.ntmps81
  go_wp2_with fail
  go_loopw [1, 5] (fun m i wr => ∃ (k : Nat) (l' : List (Int × Int)), k ≤ l.length ∧ i = .int .i64 k ∧ m = .int .i64 (2 * (k : Int) + 1) ∧ l'.length = l.length ∧ wr.ownsRow base 164 2 (.slice A l.length c) l.length (hcells l') ∧ w.grownBy wr (Value.slice A l.length c).ownBlock)
    (fun _ i _ => l.length - (intOf i).toNat)
  case atStart => exact ⟨0, l, Nat.zero_le _, rfl, rfl, rfl, h, grown_refl _ _⟩
  case round =>
    obtain ⟨k, l', hk, rfl, rfl, hl', hown, hb⟩ := hrel
    by_cases hlt : k < l.length
    · rcases hown.2 with ⟨h', h0⟩ | ⟨g, cap, cur, h', hgb, hg, _⟩
      · omega
      · simp only [Value.slice.injEq, true_and] at h'
        obtain ⟨rfl, rfl⟩ := h'
        have f1 := (hown.cellAt (k * 2) (by omega)).trans (hcells_even l' k (by omega))
        have f2 := (hown.cellAt (k * 2 + 1) (by omega)).trans (hcells_odd l' k (by omega))
        have f3 := hown.frozenAt (k * 2)
        have f4 := hown.frozenAt (k * 2 + 1)
        clear hg h
        go_wp2
        exact ⟨⟨k + 1, l'.set k (_, _), hlt, ret_int' (by omega), ret_int' (by omega), by simp [hl'], hown_set2 hown k _ _, grown_set (grown_set hb)⟩, by simp [intOf]; omega⟩
    · obtain rfl : k = l.length := by omega
      go_wp2
      go_ret
      exact ⟨rfl, hb⟩
theorem markFrame_any (s : Int) (A : Option Addr) (c : Nat) (l : List (Int × Int)) (base : Nat) (w : World) (h : w.ownsRow base 164 2 (.slice A l.length c) l.length (hcells l)) (hn : l.length ≤ 1048576) :
    Calls Try.prog 38 #[.agg #[.int .i16 s, .slice A l.length c], .int .i64 1] w fun e w' => e = .returned (.int .i64 (2 * (l.length : Int) + 1)) ∧ w.grownBy w' (Value.slice A l.length c).ownBlock := by
  have h1 := h.alloc (.cells #[.int .i16 s, .slice A l.length c] 60)
  go_enter Try.func38, Try.ntmps38
  go_wp2_with (go_at_call 81; refine (markHammerS_any A c l base _ h1 hn).mono ?_; rintro e w' ⟨rfl, hb⟩)
  go_ret
  exact ⟨rfl, (World.grownBy_alloc w _ _).trans hb⟩
end Go.Proofs.Ytcocfnjbgceidaa
namespace Go.Proofs.Ytcocfnjbgceidaa
open Go.RowKit

/-- marks from K on -/
def mkN (K : Int) (n : Nat) : List (Int × Int) := (List.range n).map fun (i : Nat) => (IntKind.i16.wrap (K + 2 * (i : Int)), IntKind.i8.wrap (K + 2 * (i : Int) + 1))
def mkNT (K : Int) (l : List (Int × Int)) (k : Nat) : List (Int × Int) := mkN K k ++ l.drop k
theorem mkN_length (K : Int) (n : Nat) : (mkN K n).length = n := by simp [mkN]
theorem mkNT_zero (K : Int) (l : List (Int × Int)) : mkNT K l 0 = l := by simp [mkNT, mkN]
theorem mkNT_all (K : Int) (l : List (Int × Int)) : mkNT K l l.length = mkN K l.length := by simp [mkNT]
theorem mkNT_length (K : Int) (l : List (Int × Int)) (k : Nat) (h : k ≤ l.length) : (mkNT K l k).length = l.length := by
  simp [mkNT, mkN_length]; omega
theorem mkNT_set (K : Int) (l : List (Int × Int)) (k : Nat) (h : k < l.length) : (mkNT K l k).set k (IntKind.i16.wrap (K + 2 * (k : Int)), IntKind.i8.wrap (K + 2 * (k : Int) + 1)) = mkNT K l (k + 1) := by
  unfold mkNT mkN
  rw [List.set_append_right _ _ (by simp), List.range_succ, List.map_append, List.length_map, List.length_range, Nat.sub_self, List.drop_eq_getElem_cons h, List.set_cons_zero, List.append_assoc]
  rfl
theorem mkN_fst (K : Int) (n k : Nat) (h : k < n) : nAt (mkN K n) k = IntKind.i16.wrap (K + 2 * (k : Int)) := by simp [nAt, mkN, h]
theorem mkN_snd (K : Int) (n k : Nat) (h : k < n) : nPi (mkN K n) k = IntKind.i8.wrap (K + 2 * (k : Int) + 1) := by simp [nPi, mkN, h]
theorem mkN_of_own {w : World} {base : Nat} {e : TypeId} {A : Option Addr} {c : Nat} {K : Int} {n : Nat} (h : w.ownsRow base e 2 (.slice A n c) n (cellsOf (mkN K n))) : NA w A (mkN K n) := NA.of_own (l := mkN K n) (by rw [mkN_length]; exact h)

set_option maxHeartbeats 1000000 in
theorem markTune_from (A : Option Addr) (c : Nat) (l : List (Int × Int)) (base : Nat) (K : Int) (w : World) (h : w.ownsRow base 147 2 (.slice A l.length c) l.length (cellsOf l)) (hn : l.length ≤ 1048576) (hK : 0 ≤ K ∧ K ≤ 1099511627776) :
    Calls Try.prog 53 #[.slice A l.length c, .int .i64 K] w fun e w' => e = .returned (.int .i64 (K + 2 * (l.length : Int))) ∧ w'.ownsRow base 147 2 (.slice A l.length c) l.length (cellsOf (mkN K l.length)) ∧ w.grownBy w' (Value.slice A l.length c).ownBlock := by
  obtain ⟨hK1, hK2⟩ := hK
  go_enter Try.func53, Try.ntmps53
  go_wp2_with fail
  go_loopw [1, 5] (fun m i wr => ∃ k : Nat, k ≤ l.length ∧ i = .int .i64 k ∧ m = .int .i64 (K + 2 * (k : Int)) ∧ wr.ownsRow base 147 2 (.slice A l.length c) l.length (cellsOf (mkNT K l k)) ∧ w.grownBy wr (Value.slice A l.length c).ownBlock)
    (fun _ i _ => l.length - (intOf i).toNat)
  case atStart => exact ⟨0, Nat.zero_le _, rfl, ret_int' (by omega), by rw [mkNT_zero]; exact h, grown_refl _ _⟩
  case round =>
    obtain ⟨k, hk, rfl, rfl, hown, hb⟩ := hrel
    by_cases hlt : k < l.length
    · rcases hown.2 with ⟨h', h0⟩ | ⟨g, cap, cur, h', hgb, hg, _⟩
      · omega
      · simp only [Value.slice.injEq, true_and] at h'
        obtain ⟨rfl, rfl⟩ := h'
        have hl' := mkNT_length K l k hk
        have f1 := (hown.cellAt (k * 2) (by omega)).trans (cellsOf_even (mkNT K l k) k (by omega))
        have f2 := (hown.cellAt (k * 2 + 1) (by omega)).trans (cellsOf_odd (mkNT K l k) k (by omega))
        have f3 := hown.frozenAt (k * 2)
        have f4 := hown.frozenAt (k * 2 + 1)
        have HS := hide (mkNT_set K l k hlt)
        obtain ⟨u, hu⟩ : ∃ u, u = IntKind.i16.wrap (K + 2 * (k : Int)) := ⟨_, rfl⟩
        obtain ⟨v, hv⟩ : ∃ v, v = IntKind.i8.wrap (K + 2 * (k : Int) + 1) := ⟨_, rfl⟩
        have HU := hide hu
        have HV := hide hv
        clear hg h hu hv
        go_wp2
        exact ⟨⟨k + 1, hlt, ret_int' (by omega), ret_int' (by omega), by rw [← HS.out]; exact own_set2 hown k _ _, grown_set (grown_set hb)⟩, by simp [intOf]; omega⟩
    · obtain rfl : k = l.length := by omega
      go_wp2
      go_ret
      exact ⟨rfl, by rw [← mkNT_all]; exact hown, hb⟩
end Go.Proofs.Ytcocfnjbgceidaa
