import Derived.Test.YtehmkablandefaaGreatDoorGan
import Derived.Test.YtehmkablandefaaGreatDoorGbd
import Derived.Test.YtehmkablandefaaGreatDoorGat
import Derived.Maps.AppendAt
import Derived.Test.YtehmkablandefaaGreatDoorGaa
import Derived.Lib.AppendZeros
import Derived.Test.YtehmkablandefaaGreatDoorSrd
namespace Go.Proofs.YtehmkablandefaaGreatDoor
open Go.RowKit
/-- the strokes -/
def skN (p g : Int) (k : Nat) : List (Int × Int) := (List.range k).map fun (i : Nat) => ((i : Int) * g, p)
theorem skN_succ (p g : Int) (k : Nat) : skN p g (k + 1) = skN p g k ++ [((k : Int) * g, p)] := by simp [skN, List.range_succ]
theorem skN_len (p g : Int) (k : Nat) : (skN p g k).length = k := by simp [skN]
def skC (h p g : Int) : Int := if inB h 1 12 && inB p 0 47 && inB g 1 16 then 0 else 2
def skV (h p g : Int) : List (Int × Int) := if skC h p g = 0 then skN p g h.toNat else []
theorem skV_len (h p g : Int) : (skV h p g).length ≤ 1048576 := by
  unfold skV
  split
  · rename_i hc
    have : inB h 1 12 = true := by
      simp only [skC] at hc
      split at hc
      · rename_i hb; simp only [Bool.and_eq_true] at hb; exact hb.1.1
      · cases hc
    rw [skN_len]
    simp [inB] at this
    omega
  · simp
theorem l04Bell_any (p g : Int) (w : World) : Calls Tryz.prog 46 #[.int .i64 p, .int .i64 g] w fun e w' => e = .returned (.bool (inB p 0 47 && inB g 1 16)) ∧ w = w' := by
  cases h1 : inB p 0 47
  · have K1 : ∀ W, Calls Tryz.prog 27 #[.int .i64 p, .int .i64 0, .int .i64 47] W fun e w' => e = .returned (.bool false) ∧ W = w' := fun W => by rw [← h1]; exact l00In_any _ _ _ W
    clear h1
    go_enter Tryz.func46, Tryz.ntmps46
    go_wp2_with (go_at_call 27; with_reducible refine (K1 _).mono ?_; rintro e w' ⟨rfl, rfl⟩)
    go_ret
    exact ⟨rfl, rfl⟩
  · have K1 : ∀ W, Calls Tryz.prog 27 #[.int .i64 p, .int .i64 0, .int .i64 47] W fun e w' => e = .returned (.bool true) ∧ W = w' := fun W => by rw [← h1]; exact l00In_any _ _ _ W
    have K2 : ∀ W, Calls Tryz.prog 27 #[.int .i64 g, .int .i64 1, .int .i64 16] W fun e w' => e = .returned (.bool (inB g 1 16)) ∧ W = w' := fun W => l00In_any _ _ _ W
    clear h1
    go_enter Tryz.func46, Tryz.ntmps46
    go_wp2_with (first | (go_at_call 27; with_reducible refine (K1 _).mono ?_; rintro e w' ⟨rfl, rfl⟩) | (go_at_call 27; with_reducible refine (K2 _).mono ?_; rintro e w' ⟨rfl, rfl⟩))
    go_ret
    exact ⟨rfl, rfl⟩
set_option maxRecDepth 20000 in
set_option maxHeartbeats 2000000 in
theorem l04Strikes_any (h : Nat) (p g : Int) (w : World) (hh : 1 ≤ h ∧ h ≤ 12) (hp : 0 ≤ p ∧ p ≤ 47) (hg : 1 ≤ g ∧ g ≤ 16) :
    Calls Tryz.prog 47 #[.int .i64 h, .int .i64 p, .int .i64 g, .int .i64 0] w fun e w' => ∃ (C : Option Addr) (q : Nat), e = .returned (.slice C (skN p g h).length q) ∧ w'.ownsRow w.heap.size 83 2 (.slice C (skN p g h).length q) (skN p g h).length (cellsOf (skN p g h)) ∧ Below w.heap.size w w' := by
  obtain ⟨i0, hi, hz0, hz1, hz2⟩ := info_parts info83
  obtain ⟨h1, h2⟩ := hh
  obtain ⟨p1, p2⟩ := hp
  obtain ⟨g1, g2⟩ := hg
  have hal : Below w.heap.size w (w.alloc (.cells #[] 83)) := (Below.refl _ _).alloc (Nat.le_refl _) _
  go_enter Tryz.func47, Tryz.ntmps47
  go_wp2_with fail
  go_loopw [9, 10] (fun v i wr => ∃ k : Nat, k ≤ h ∧ i = .int .i64 k ∧ wr.ownsRow w.heap.size 83 2 v (skN p g k).length (cellsOf (skN p g k)) ∧ Below w.heap.size w wr)
    (fun _ i _ => h - (intOf i).toNat)
  case atStart => exact ⟨0, Nat.zero_le _, rfl, own_emptyT _ _ (Nat.le_refl _), hal⟩
  case round =>
    obtain ⟨k, hk, rfl, hown, hb⟩ := hrel
    obtain ⟨A', c', rfl⟩ := own_shape hown
    by_cases hlt : k < h
    · have own3 := hown.alloc (.cells #[.int .i16 ((k : Int) * g), .int .i8 p] 83)
      have hnew := cell_two_new' wr (.int .i16 ((k : Int) * g)) (.int .i8 p) 83
      have hlen := skN_len p g k
      have hkg1 : 0 ≤ (k : Int) * g := Int.mul_nonneg (by omega) (by omega)
      have hkg2 : (k : Int) * g ≤ 12 * 16 := Int.mul_le_mul (by omega) (by omega) (by omega) (by omega)
      have HKG := hide (skN_succ p g k)
      obtain ⟨z, hz⟩ : ∃ z, z = (k : Int) * g := ⟨_, rfl⟩
      have hwz : IntKind.i64.wrap ((k : Int) * g) = z := by rw [hz]; exact IntWalk.i64_in _ (by omega)
      rw [← hz] at own3 hnew hkg1 hkg2 HKG
      have HZ := hide hz
      clear hz
      have hw16 : IntKind.i16.wrap z = z := by simp [IntKind.wrap, IntKind.signed, IntKind.bits]; omega
      have hw8 : IntKind.i8.wrap p = p := by simp [IntKind.wrap, IntKind.signed, IntKind.bits]; omega
      go_wp2_with (at_builtin; refine wpList_append_own _ rfl _ _ 36 rfl w.heap.size 83 i0 (.agg #[.int .i16 0, .int .i8 0]) 2 4 Tryz.underlying36 hi hz0 hz1 hz2 rfl (by decide) _ _ _ rfl own3 ⟨wr.heap.size, 0, none⟩ 1 1 [.int .i16 (z), .int .i8 p] rfl rfl hnew (fun x hx => by simp at hx; rcases hx with rfl | rfl <;> rfl) (by unfold maxLen; omega) (by omega) (by simp; have := hb.size; omega) ?_; intro v' w3 hown3 hgrow3 hnil3)
      have hb3 := (hb.alloc hb.size (.cells #[.int .i16 z, .int .i8 p] 83)).grown hgrow3 (by simp; have := hb.size; omega) (fun j hj => (hown.lt j hj).1)
      go_roundw
      case rel => exact ⟨k + 1, hlt, by go_num, by rw [HKG.out, List.length_append, cellsOf_append]; exact hown3, hb3⟩
      case measure => simp [intOf]; omega
    · obtain rfl : k = h := by omega
      go_wp2
      go_ret
      exact ⟨A', c', rfl, hown, hb⟩
set_option maxRecDepth 20000 in
set_option maxHeartbeats 2000000 in
theorem implStrikeTune_any (h p g : Int) (w : World) :
    Calls Tryz.prog 50 #[.int .i64 h, .int .i64 p, .int .i64 g] w (OwnN w (skV h p g) (skC h p g)) := by
  obtain ⟨i0, hi, hz0, hz1, hz2⟩ := info_parts info83
  cases h1 : inB h 1 12
  · have K1 : ∀ W, Calls Tryz.prog 66 #[.int .i64 h, .int .i64 1, .int .i64 12] W fun e w' => e = .returned (.bool false) ∧ W = w' := fun W => by rw [← h1]; exact within_any _ _ _ W
    have hcc : skC h p g = 2 := by simp [skC, h1]
    have HX := hide hcc
    have HY := hide (show skV h p g = [] by simp [skV, hcc])
    clear hcc h1
    go_enter Tryz.func50, Tryz.ntmps50
    go_wp2_with (first | (go_at_call 66; with_reducible refine (K1 _).mono ?_; rintro e w' ⟨rfl, rfl⟩))
    go_ret2
    exact ⟨none, 0, by rw [HX.out, HY.out]; rfl, by rw [HY.out]; exact ⟨rfl, Or.inl ⟨rfl, rfl⟩⟩, Below.refl _ _⟩
  have K1 : ∀ W, Calls Tryz.prog 66 #[.int .i64 h, .int .i64 1, .int .i64 12] W fun e w' => e = .returned (.bool true) ∧ W = w' := fun W => by rw [← h1]; exact within_any _ _ _ W
  cases h2 : inB p 0 47
  · have K2 : ∀ W, Calls Tryz.prog 66 #[.int .i64 p, .int .i64 0, .int .i64 47] W fun e w' => e = .returned (.bool false) ∧ W = w' := fun W => by rw [← h2]; exact within_any _ _ _ W
    have hcc : skC h p g = 2 := by simp [skC, h1, h2]
    have HX := hide hcc
    have HY := hide (show skV h p g = [] by simp [skV, hcc])
    clear hcc h1 h2
    go_enter Tryz.func50, Tryz.ntmps50
    go_wp2_with (first | (go_at_call 66; with_reducible refine (K1 _).mono ?_; rintro e w' ⟨rfl, rfl⟩) | (go_at_call 66; with_reducible refine (K2 _).mono ?_; rintro e w' ⟨rfl, rfl⟩))
    go_ret2
    exact ⟨none, 0, by rw [HX.out, HY.out]; rfl, by rw [HY.out]; exact ⟨rfl, Or.inl ⟨rfl, rfl⟩⟩, Below.refl _ _⟩
  have K2 : ∀ W, Calls Tryz.prog 66 #[.int .i64 p, .int .i64 0, .int .i64 47] W fun e w' => e = .returned (.bool true) ∧ W = w' := fun W => by rw [← h2]; exact within_any _ _ _ W
  cases h3 : inB g 1 16
  · have K3 : ∀ W, Calls Tryz.prog 66 #[.int .i64 g, .int .i64 1, .int .i64 16] W fun e w' => e = .returned (.bool false) ∧ W = w' := fun W => by rw [← h3]; exact within_any _ _ _ W
    have hcc : skC h p g = 2 := by simp [skC, h1, h2, h3]
    have HX := hide hcc
    have HY := hide (show skV h p g = [] by simp [skV, hcc])
    clear hcc h1 h2 h3
    go_enter Tryz.func50, Tryz.ntmps50
    go_wp2_with (first | (go_at_call 66; with_reducible refine (K1 _).mono ?_; rintro e w' ⟨rfl, rfl⟩) | (go_at_call 66; with_reducible refine (K2 _).mono ?_; rintro e w' ⟨rfl, rfl⟩) | (go_at_call 66; with_reducible refine (K3 _).mono ?_; rintro e w' ⟨rfl, rfl⟩))
    go_ret2
    exact ⟨none, 0, by rw [HX.out, HY.out]; rfl, by rw [HY.out]; exact ⟨rfl, Or.inl ⟨rfl, rfl⟩⟩, Below.refl _ _⟩
  have K3 : ∀ W, Calls Tryz.prog 66 #[.int .i64 g, .int .i64 1, .int .i64 16] W fun e w' => e = .returned (.bool true) ∧ W = w' := fun W => by rw [← h3]; exact within_any _ _ _ W
  have hcc : skC h p g = 0 := by simp [skC, h1, h2, h3]
  obtain ⟨k0, hk0⟩ : ∃ k : Nat, h = (k : Int) := ⟨h.toNat, by simp [inB] at h1; omega⟩
  subst hk0
  have HX := hide hcc
  have HY := hide (show skV k0 p g = skN p g k0 by simp [skV, hcc])
  have hb1 : 1 ≤ k0 ∧ k0 ≤ 12 := by simp [inB] at h1; omega
  obtain ⟨p1, p2⟩ : 0 ≤ p ∧ p ≤ 47 := by simpa [inB] using h2
  obtain ⟨g1, g2⟩ : 1 ≤ g ∧ g ≤ 16 := by simpa [inB] using h3
  clear hcc h1 h2 h3
  go_enter Tryz.func50, Tryz.ntmps50
  go_wp2_with (first | (go_at_call 66; with_reducible refine (K1 _).mono ?_; rintro e w' ⟨rfl, rfl⟩) | (go_at_call 66; with_reducible refine (K2 _).mono ?_; rintro e w' ⟨rfl, rfl⟩) | (go_at_call 66; with_reducible refine (K3 _).mono ?_; rintro e w' ⟨rfl, rfl⟩))
  clear K1 K2 K3
  go_loopw [8, 24] (fun v i wr => ∃ k : Nat, k ≤ k0 ∧ i = .int .i64 k ∧ wr.ownsRow w.heap.size 83 2 v (skN p g k).length (cellsOf (skN p g k)) ∧ Below w.heap.size w wr)
    (fun _ i _ => k0 - (intOf i).toNat)
  case atStart => exact ⟨0, Nat.zero_le _, rfl, ⟨rfl, Or.inl ⟨rfl, rfl⟩⟩, Below.refl _ _⟩
  case round =>
    obtain ⟨k, hk, rfl, hown, hb⟩ := hrel
    obtain ⟨A', c', rfl⟩ := own_shape hown
    by_cases hlt : k < k0
    · have own3 := hown.alloc (.cells #[.int .i16 ((k : Int) * g), .int .i8 p] 83)
      have hnew := cell_two_new' wr (.int .i16 ((k : Int) * g)) (.int .i8 p) 83
      have hlen := skN_len p g k
      have hkg1 : 0 ≤ (k : Int) * g := Int.mul_nonneg (by omega) (by omega)
      have hkg2 : (k : Int) * g ≤ 12 * 16 := Int.mul_le_mul (by omega) (by omega) (by omega) (by omega)
      have HKG := hide (skN_succ p g k)
      obtain ⟨z, hz⟩ : ∃ z, z = (k : Int) * g := ⟨_, rfl⟩
      have hwz : IntKind.i64.wrap ((k : Int) * g) = z := by rw [hz]; exact IntWalk.i64_in _ (by omega)
      rw [← hz] at own3 hnew hkg1 hkg2 HKG
      have HZ := hide hz
      clear hz
      have hw16 : IntKind.i16.wrap z = z := by simp [IntKind.wrap, IntKind.signed, IntKind.bits]; omega
      have hw8 : IntKind.i8.wrap p = p := by simp [IntKind.wrap, IntKind.signed, IntKind.bits]; omega
      go_wp2_with (at_builtin; refine wpList_append_own _ rfl _ _ 36 rfl w.heap.size 83 i0 (.agg #[.int .i16 0, .int .i8 0]) 2 4 Tryz.underlying36 hi hz0 hz1 hz2 rfl (by decide) _ _ _ rfl own3 ⟨wr.heap.size, 0, none⟩ 1 1 [.int .i16 (z), .int .i8 p] rfl rfl hnew (fun x hx => by simp at hx; rcases hx with rfl | rfl <;> rfl) (by unfold maxLen; omega) (by omega) (by simp; have := hb.size; omega) ?_; intro v' w3 hown3 hgrow3 hnil3)
      have hb3 := (hb.alloc hb.size (.cells #[.int .i16 z, .int .i8 p] 83)).grown hgrow3 (by simp; have := hb.size; omega) (fun j hj => (hown.lt j hj).1)
      go_roundw
      case rel => exact ⟨k + 1, hlt, by go_num, by rw [HKG.out, List.length_append, cellsOf_append]; exact hown3, hb3⟩
      case measure => simp [intOf]; omega
    · obtain rfl : k = k0 := by omega
      go_wp2
      go_ret2
      exact ⟨A', c', by rw [HX.out, HY.out]; rfl, by rw [HY.out]; exact hown, hb⟩
end Go.Proofs.YtehmkablandefaaGreatDoor
namespace Go.Proofs.YtehmkablandefaaGreatDoor
open Go.RowKit
theorem append_second {P : Program} (w : World) (t t2 ty e e2 : TypeId) (ht : P.underlying t = some (.slice e)) (ht2 : P.underlying t2 = some (.slice e2)) (i : TypeInfo) (hi : P.info? e = some i) (B : Option Addr) (n c : Nat) (x : Value) :
    (Builtin.append_ #[t, t2] ty #[.slice B n c, x]).run P w = (Builtin.append_ #[t, t] ty #[.slice B n c, x]).run P w := by
  simp [Builtin.append_, run_underlying ht, run_underlying ht2, Go.sizeOf, typeInfo, hi]
theorem run_append_none {P : Program} (w : World) (t ty e : TypeId) (i : TypeInfo) (ht : P.underlying t = some (.slice e)) (hi : P.info? e = some i) (base : Nat) (size n m c : Nat) (xs : List Value) (v : Value) (hown : w.ownsRow base e size v n xs) (hm : m = 0) :
    (Builtin.append_ #[t, t] ty #[v, .slice none m c]).run P w = .ok v w := by
  subst hm
  rcases hown.2 with ⟨rfl, rfl⟩ | ⟨g, cap, cur, rfl, _, _, hnc, _⟩
  · simp [Builtin.append_, run_underlying ht, Go.sizeOf, typeInfo, hi, Builtin.lenOf, Builtin.firstCells]
  · simp [Builtin.append_, run_underlying ht, Go.sizeOf, typeInfo, hi, Builtin.lenOf, Builtin.firstCells, hnc, storeCells]
end Go.Proofs.YtehmkablandefaaGreatDoor
namespace Go.Proofs.YtehmkablandefaaGreatDoor
open Go.RowKit
theorem NA.cells {w : World} {ad : Addr} {l : List (Int × Int)} (h : NA w (some ad) l) : ∀ j u, (cellsOf l)[j]? = some u → w.cell? (ad.add j) = some u := by
  intro j u hu
  have hj : j < (cellsOf l).length := (List.getElem?_eq_some_iff.1 hu).1
  rw [cellsOf_length] at hj
  obtain ⟨b, o, e, _, c1, c2⟩ := h (j / 2) (by omega)
  obtain rfl : ad = ⟨b, o, none⟩ := Option.some.inj e
  rcases Nat.mod_two_eq_zero_or_one j with h0 | h0
  · have e0 : j = j / 2 * 2 := by omega
    have hv := cellsOf_even l (j / 2) (by omega)
    rw [← e0, hu] at hv
    rw [← e0] at c1
    rw [Option.some.inj hv]
    rw [Addr.add_lit]
    exact c1
  · have e0 : j = j / 2 * 2 + 1 := by omega
    have hv := cellsOf_odd l (j / 2) (by omega)
    rw [← e0, hu] at hv
    have e1 : o + j / 2 * 2 + 1 = o + j := by omega
    rw [e1] at c2
    rw [Option.some.inj hv]
    rw [Addr.add_lit]
    exact c2
theorem NA.none {w : World} {l : List (Int × Int)} (h : NA w none l) : l = [] := by
  rcases Nat.eq_zero_or_pos l.length with e | e
  · exact List.length_eq_zero_iff.1 e
  · obtain ⟨b, o, h1, _⟩ := h 0 e
    cases h1
/-- append of notes that lie somewhere to a row of the call's own -/
theorem run_append_na (w : World) (t t2 : TypeId) (e2 : TypeId) (ht : Tryz.prog.underlying t = some (.slice 83)) (ht2 : Tryz.prog.underlying t2 = some (.slice e2)) (base : Nat) (i0 : TypeInfo) (hi : Tryz.prog.info? 83 = some i0)
    (hz0 : i0.zero = some (.agg #[.int .i16 0, .int .i8 0])) (hz1 : i0.size = 2) (hz2 : i0.bytes = 4) (v : Value) (n : Nat) (xs : List Value) (hown : w.ownsRow base 83 2 v n xs) (A : Option Addr) (c : Nat) (l : List (Int × Int)) (hA : NA w A l)
    (hn : n ≤ 4194304) (hl : l.length ≤ 4194304) (hb : base ≤ w.heap.size) :
    ∃ A' c' w', (∀ ty, (Builtin.append_ #[t, t2] ty #[v, .slice A l.length c]).run Tryz.prog w = .ok (.slice A' (n + l.length) c') w') ∧ w'.ownsRow base 83 2 (.slice A' (n + l.length) c') (n + l.length) (xs ++ cellsOf l) ∧ w.grownBy w' v.ownBlock := by
  cases A with
  | none =>
    obtain rfl := NA.none hA
    obtain ⟨A', c', rfl⟩ := own_shapeT hown
    refine ⟨A', c', w, fun ty => ?_, ?_, ?_⟩
    · rw [append_second w t t2 ty _ e2 ht ht2 i0 hi]
      exact run_append_none w t ty _ i0 ht hi base 2 n _ c xs _ hown rfl
    · simpa [cellsOf_nil] using hown
    · exact grown_refl _ _
  | some ad =>
    obtain ⟨Av, cv, rfl⟩ := own_shapeT hown
    have key : ∀ ty, ∃ v' w', (Builtin.append_ #[t, t] ty #[.slice Av n cv, .slice (some ad) l.length c]).run Tryz.prog w = .ok v' w' ∧ w'.ownsRow base 83 2 v' (n + l.length) (xs ++ cellsOf l) ∧ w.grownBy w' (Value.slice Av n cv).ownBlock ∧ (v' = .slice none 0 0 ↔ Value.slice Av n cv = .slice none 0 0 ∧ l.length = 0) := fun ty =>
      run_append_own w base t ty 83 i0 (.agg #[.int .i16 0, .int .i8 0]) 2 4 ht hi hz0 hz1 hz2 rfl (by decide) _ n xs hown ad l.length c (cellsOf l) (cellsOf_length l) (NA.cells hA) (cellsOf_one l) (by unfold maxLen; omega) (by omega) hb
    obtain ⟨v', w', hr, h2, h3, _⟩ := key 0
    obtain ⟨A', c', rfl⟩ := own_shapeT h2
    refine ⟨A', c', w', fun ty => ?_, h2, h3⟩
    rw [append_second w t t2 ty _ e2 ht ht2 i0 hi]
    exact hr
theorem WF.append {l m : List (Int × Int)} (hl : WF l) (hm : WF m) : WF (l ++ m) := by
  intro k hk
  rw [List.length_append] at hk
  rcases Nat.lt_or_ge k l.length with h | h
  · have := hl k h
    simpa [nAt, nPi, List.getD, List.getElem?_append_left h] using this
  · have := hm (k - l.length) (by omega)
    simpa [nAt, nPi, List.getD, List.getElem?_append_right h] using this
end Go.Proofs.YtehmkablandefaaGreatDoor
