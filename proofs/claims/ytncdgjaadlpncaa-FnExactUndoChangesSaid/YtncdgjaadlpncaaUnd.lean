import Derived.Test.YtncdgjaadlpncaaCgs
import Derived.Maps.OwnOps
import Derived.Lib.SliceRun
import Derived.Lib.AppendZeros
import Derived.StillTailTactics
import Derived.IntWalk
import Derived.Deep.RegionHeld3
namespace Go.Proofs.Ytncdgjaadlpncaa
open Go.RowKit

theorem CgA.cells {w : World} {ad : Addr} {l : List (Int × Int × Bool)} (h : CgA w (some ad) l) : ∀ j u, (cgC l)[j]? = some u → w.cell? (ad.add j) = some u := by
  intro j u hu
  have hj : j < (cgC l).length := (List.getElem?_eq_some_iff.1 hu).1
  rw [cgC_length] at hj
  obtain ⟨b, o, e, _, c0, c1, c2⟩ := h (j / 3) (by omega)
  obtain rfl : ad = ⟨b, o, none⟩ := Option.some.inj e
  obtain ⟨v0, v1, v2⟩ := cgC_at l (j / 3) (by omega)
  have hm : j % 3 = 0 ∨ j % 3 = 1 ∨ j % 3 = 2 := by omega
  rw [Addr.add_lit]
  rcases hm with h0 | h0 | h0
  · have e0 : j = j / 3 * 3 := by omega
    rw [← e0] at c0 v0
    rw [c0, ← hu, v0]
  · have e0 : j = j / 3 * 3 + 1 := by omega
    rw [← e0] at v1
    rw [show o + j / 3 * 3 + 1 = o + j by omega] at c1
    rw [c1, ← hu, v1]
  · have e0 : j = j / 3 * 3 + 2 := by omega
    rw [← e0] at v2
    rw [show o + j / 3 * 3 + 2 = o + j by omega] at c2
    rw [c2, ← hu, v2]
theorem CgA.none {w : World} {l : List (Int × Int × Bool)} (h : CgA w none l) : l = [] := by
  rcases Nat.eq_zero_or_pos l.length with e | e
  · exact List.length_eq_zero_iff.1 e
  · obtain ⟨b, o, h1, _⟩ := h 0 e
    cases h1
theorem cgC_one (l : List (Int × Int × Bool)) : ∀ u ∈ cgC l, u.oneCell' = true := by
  intro u hu
  simp only [cgC, List.mem_flatMap] at hu
  obtain ⟨n, _, hu⟩ := hu
  simp at hu
  rcases hu with rfl | rfl | rfl <;> rfl
theorem own_shapeC {w : World} {base : Nat} {e : TypeId} {size n : Nat} {v : Value} {xs : List Value} (h : w.ownsRow base e size v n xs) : ∃ A c, v = .slice A n c := by
  rcases h.2 with ⟨rfl, rfl⟩ | ⟨g, cap, cur, rfl, _⟩
  · exact ⟨_, _, rfl⟩
  · exact ⟨_, _, rfl⟩
theorem own_emptyC {w : World} {base : Nat} (t : TypeId) (size : Nat) (h : base ≤ w.heap.size) : (w.alloc (.cells #[] t)).ownsRow base t size (.slice (some ⟨w.heap.size, 0, none⟩) 0 0) 0 [] :=
  World.ownsRow_made w #[] 0 h (by unfold maxLen; omega) (by simp)
/-- append of changes that lie somewhere to a row of the call's own -/
theorem run_append_cg (w : World) (t : TypeId) (ht : Try.prog.underlying t = some (.slice 99)) (base : Nat) (i0 : TypeInfo) (hi : Try.prog.info? 99 = some i0)
    (hz0 : i0.zero = some (.agg #[.int .i16 0, .int .i8 0, .bool false])) (hz1 : i0.size = 3) (hz2 : i0.bytes = 4) (v : Value) (n : Nat) (xs : List Value) (hown : w.ownsRow base 99 3 v n xs) (ad : Addr) (c : Nat) (l : List (Int × Int × Bool)) (hA : CgA w (some ad) l)
    (hn : n ≤ 4194304) (hl : l.length ≤ 4194304) (hb : base ≤ w.heap.size) :
    ∃ A' c' w', (∀ ty, (Builtin.append_ #[t, t] ty #[v, .slice (some ad) l.length c]).run Try.prog w = .ok (.slice A' (n + l.length) c') w') ∧ w'.ownsRow base 99 3 (.slice A' (n + l.length) c') (n + l.length) (xs ++ cgC l) ∧ w.grownBy w' v.ownBlock := by
  obtain ⟨Av, cv, rfl⟩ := own_shapeC hown
  have key : ∀ ty, ∃ v' w', (Builtin.append_ #[t, t] ty #[.slice Av n cv, .slice (some ad) l.length c]).run Try.prog w = .ok v' w' ∧ w'.ownsRow base 99 3 v' (n + l.length) (xs ++ cgC l) ∧ w.grownBy w' (Value.slice Av n cv).ownBlock ∧ (v' = .slice none 0 0 ↔ Value.slice Av n cv = .slice none 0 0 ∧ l.length = 0) := fun ty =>
    run_append_own w base t ty 99 i0 (.agg #[.int .i16 0, .int .i8 0, .bool false]) 3 4 ht hi hz0 hz1 hz2 rfl (by decide) _ n xs hown ad l.length c (cgC l) (cgC_length l) (CgA.cells hA) (cgC_one l) (by unfold maxLen; omega) (by omega) hb
  obtain ⟨v', w', hr, h2, h3, _⟩ := key 0
  obtain ⟨A', c', rfl⟩ := own_shapeC h2
  exact ⟨A', c', w', fun ty => hr, h2, h3⟩
/-- changes of the call's own -/
def OwnC (w : World) (l : List (Int × Int × Bool)) (e : Ending) (w' : World) : Prop := ∃ (C : Option Addr) (q : Nat), e = .returned (.slice C l.length q) ∧ w'.ownsRow w.heap.size 99 3 (.slice C l.length q) l.length (cgC l) ∧ Below w.heap.size w w'
set_option maxRecDepth 20000 in
theorem cloneC_any (A : Option Addr) (c : Nat) (l : List (Int × Int × Bool)) (w : World) (hA : CgA w A l) (hn : l.length ≤ 1048576) :
    Calls Try.prog 72 #[.slice A l.length c] w (OwnC w l) := by
  obtain ⟨i0, hi, hz0, hz1, hz2⟩ := info_parts info99
  have q22 : ∀ (w : World) (a : Option Addr) (n c n' c' : Nat), (binOp .eql 47 (.slice a n c) (.slice none n' c')).run Try.prog w = .ok (.bool a.isNone) w := fun w a n c n' c' => Lib.run_eql_slice_nil w _ _ a n c n' c' Try.underlying47
  cases A with
  | none =>
    obtain rfl := CgA.none hA
    go_enter Try.func72, Try.ntmps72
    go_wp2
    go_ret
    exact ⟨none, 0, rfl, World.ownsRow_nil _ _ _ _, Below.refl _ _⟩
  | some ad =>
    have hal : Below w.heap.size w (w.alloc (.cells #[] 99)) := (Below.refl _ _).alloc (Nat.le_refl _) _
    have hE : (w.alloc (.cells #[] 99)).ownsRow w.heap.size 99 3 (.slice (some ⟨w.heap.size, 0, none⟩) 0 0) 0 [] := own_emptyC _ _ (Nat.le_refl _)
    obtain ⟨A3, c3, w3, hr3, own3, gr3⟩ := run_append_cg _ 47 Try.underlying47 w.heap.size i0 hi hz0 hz1 hz2 _ 0 [] hE ad c l (hA.below hal) (by omega) (by omega) hal.size
    simp only [Nat.zero_add, List.nil_append] at hr3 own3
    have hb3 : Below w.heap.size w w3 := hal.grown gr3 hal.size (fun j hj => (hE.lt j hj).1)
    clear hE gr3 hal
    go_enter Try.func72, Try.ntmps72
    go_wp2_with (at_builtin; refine Lib.wpList_append_run _ rfl _ _ _ _ rfl _ _ rfl rfl _ _ (hr3 _) ?_)
    go_ret
    exact ⟨A3, c3, rfl, own3, hb3⟩

/-- the first and the last k changes exchanged -/
def rvT (l : List (Int × Int × Bool)) (k : Nat) : List (Int × Int × Bool) := (List.range l.length).map fun i => if i < k ∨ l.length - 1 - i < k then l.getD (l.length - 1 - i) (0, 0, false) else l.getD i (0, 0, false)
theorem rvT_length (l : List (Int × Int × Bool)) (k : Nat) : (rvT l k).length = l.length := by simp [rvT]
theorem rvT_get (l : List (Int × Int × Bool)) (k i : Nat) (h : i < l.length) : (rvT l k)[i]? = some (if i < k ∨ l.length - 1 - i < k then l.getD (l.length - 1 - i) (0, 0, false) else l.getD i (0, 0, false)) := by simp [rvT, h]
theorem rvT_zero (l : List (Int × Int × Bool)) : rvT l 0 = l := by
  apply List.ext_getElem?
  intro i
  by_cases h : i < l.length
  · rw [rvT_get l 0 i h]; simp [h]
  · rw [List.getElem?_eq_none (by rw [rvT_length]; omega), List.getElem?_eq_none (by omega)]
theorem rvT_all (l : List (Int × Int × Bool)) (k : Nat) (h : l.length ≤ 2 * k + 1) : rvT l k = l.reverse := by
  apply List.ext_getElem?
  intro i
  by_cases hi : i < l.length
  · rw [rvT_get l k i hi, List.getElem?_reverse hi, List.getElem?_eq_getElem (by omega)]
    have e : l.getD (l.length - 1 - i) (0, 0, false) = l[l.length - 1 - i] := by simp [List.getD, show l.length - 1 - i < l.length by omega]
    by_cases h1 : i < k ∨ l.length - 1 - i < k
    · rw [if_pos h1, e]
    · rw [if_neg h1]
      have : l.length - 1 - i = i := by omega
      rw [← e, this]
  · rw [List.getElem?_eq_none (by rw [rvT_length]; omega), List.getElem?_eq_none (by rw [List.length_reverse]; omega)]
theorem rvT_set (l : List (Int × Int × Bool)) (k : Nat) (h : 2 * k + 1 < l.length) : ((rvT l k).set k (l.getD (l.length - 1 - k) (0, 0, false))).set (l.length - 1 - k) (l.getD k (0, 0, false)) = rvT l (k + 1) := by
  apply List.ext_getElem?
  intro i
  rw [List.getElem?_set, List.getElem?_set, List.length_set, rvT_length]
  by_cases hi : i < l.length
  · rw [rvT_get l k i hi, rvT_get l (k + 1) i hi]
    by_cases e1 : l.length - 1 - k = i
    · subst e1
      rw [if_pos rfl, if_pos hi, if_pos (Or.inr (by omega)), show l.length - 1 - (l.length - 1 - k) = k by omega]
    · rw [if_neg e1]
      by_cases e2 : k = i
      · subst e2
        rw [if_pos rfl, if_pos hi, if_pos (Or.inl (by omega))]
      · rw [if_neg e2]
        by_cases h3 : i < k ∨ l.length - 1 - i < k
        · rw [if_pos h3, if_pos (by omega)]
        · rw [if_neg h3, if_neg (by omega)]
  · rw [if_neg (by omega), if_neg (by omega), List.getElem?_eq_none (by rw [rvT_length]; omega), List.getElem?_eq_none (by rw [rvT_length]; omega)]
theorem rv_own (l : List (Int × Int × Bool)) (k j : Nat) (h : ¬ (j < k ∨ l.length - 1 - j < k)) (hj : j < l.length) : cgS (rvT l k) j = cgS l j ∧ cgT (rvT l k) j = cgT l j ∧ cgP (rvT l k) j = cgP l j := by
  have e := rvT_get l k j hj
  rw [if_neg h] at e
  have e2 : (rvT l k).getD j (0, 0, false) = l.getD j (0, 0, false) := by rw [List.getD, e]; rfl
  simp only [cgS, cgT, cgP, e2, and_self]

set_option maxRecDepth 20000 in
set_option maxHeartbeats 4000000 in
theorem reverseC_any (A : Option Addr) (c : Nat) (l : List (Int × Int × Bool)) (base : Nat) (w : World) (hown : w.ownsRow base 99 3 (.slice A l.length c) l.length (cgC l)) (hn : l.length ≤ 1048576) :
    Calls Try.prog 73 #[.slice A l.length c] w fun e w' => e = .returned (.tuple #[]) ∧ w'.ownsRow base 99 3 (.slice A l.length c) l.length (cgC l.reverse) ∧ Below base w w' := by
  go_enter Try.func73, Try.ntmps73
  have hw0 : IntKind.i64.wrap ((l.length : Int) - 1) = (l.length : Int) - 1 := IntWalk.i64_in _ (by omega)
  go_wp2_with fail
  go_loopw [2, 3] (fun i j wr => ∃ k : Nat, 2 * k ≤ l.length ∧ i = .int .i64 k ∧ j = .int .i64 ((l.length : Int) - 1 - (k : Int)) ∧ wr.ownsRow base 99 3 (.slice A l.length c) l.length (cgC (rvT l k)) ∧ Below base w wr)
    (fun i _ _ => l.length - (intOf i).toNat)
  case atStart => exact ⟨0, Nat.zero_le _, rfl, ret_int' (by omega), by rw [rvT_zero]; exact hown, Below.refl _ _⟩
  case round =>
    obtain ⟨k, hk, rfl, rfl, hw, hb⟩ := hrel
    by_cases hlt : 2 * k + 1 < l.length
    · obtain ⟨g, rfl, hgb⟩ : ∃ g, A = some ⟨g, 0, none⟩ ∧ base ≤ g := by
        rcases hw.2 with ⟨h', h0⟩ | ⟨g, cap, cur, h', hgb, hg, _⟩
        · omega
        · simp only [Value.slice.injEq, true_and] at h'
          exact ⟨g, h'.1, hgb⟩
      obtain ⟨j, hj⟩ : ∃ j : Nat, j = l.length - 1 - k := ⟨_, rfl⟩
      have hjI : (l.length : Int) - 1 - (k : Int) = (j : Int) := by omega
      have hjl : j < l.length := by omega
      have hkl : k < l.length := by omega
      have hkj : (k : Int) < (j : Int) := by omega
      have hji : (j : Int) < (l.length : Int) := by omega
      have hki : (k : Int) < (l.length : Int) := by omega
      have HSET := hide (show ((rvT l k).set k (cgS l j, cgT l j, cgP l j)).set j (cgS l k, cgT l k, cgP l k) = rvT l (k + 1) by rw [← rvT_set l k hlt, hj]; rfl)
      have hrl := rvT_length l k
      obtain ⟨u0, u1, u2⟩ := cgC_at (rvT l k) k (by omega)
      obtain ⟨v0, v1, v2⟩ := cgC_at (rvT l k) j (by omega)
      obtain ⟨x0, x1, x2⟩ := rv_own l k k (by omega) hkl
      obtain ⟨y0, y1, y2⟩ := rv_own l k j (by omega) hjl
      rw [x0] at u0
      rw [x1] at u1
      rw [x2] at u2
      rw [y0] at v0
      rw [y1] at v1
      rw [y2] at v2
      obtain ⟨a0, ha0⟩ : ∃ z, cgS l k = z := ⟨_, rfl⟩
      obtain ⟨a1, ha1⟩ : ∃ z, cgT l k = z := ⟨_, rfl⟩
      obtain ⟨a2, ha2⟩ : ∃ z, cgP l k = z := ⟨_, rfl⟩
      obtain ⟨b0, hb0⟩ : ∃ z, cgS l j = z := ⟨_, rfl⟩
      obtain ⟨b1, hb1⟩ : ∃ z, cgT l j = z := ⟨_, rfl⟩
      obtain ⟨b2, hb2⟩ : ∃ z, cgP l j = z := ⟨_, rfl⟩
      rw [ha0] at u0
      rw [ha1] at u1
      rw [ha2] at u2
      rw [hb0] at v0
      rw [hb1] at v1
      rw [hb2] at v2
      rw [ha0, ha1, ha2, hb0, hb1, hb2] at HSET
      have HJ := hide hj
      rw [hjI]
      clear hj x0 x1 x2 y0 y1 y2 ha0 ha1 ha2 hb0 hb1 hb2
      go_wp2_with fail
      have f1 := (hw.cellAt (k * 3) (by omega)).trans u0
      have f2 := (hw.cellAt (k * 3 + 1) (by omega)).trans u1
      have f3 := (hw.cellAt (k * 3 + 2) (by omega)).trans u2
      have g1 := (hw.cellAt (j * 3) (by omega)).trans v0
      have g2 := (hw.cellAt (j * 3 + 1) (by omega)).trans v1
      have g3 := (hw.cellAt (j * 3 + 2) (by omega)).trans v2
      have f4 := hw.frozenAt (k * 3)
      have f5 := hw.frozenAt (k * 3 + 1)
      have f6 := hw.frozenAt (k * 3 + 2)
      have g4 := hw.frozenAt (j * 3)
      have g5 := hw.frozenAt (j * 3 + 1)
      have g6 := hw.frozenAt (j * 3 + 2)
      have W1 := cgown_set3 (cgown_set3 hw k b0 b1 b2) j a0 a1 a2
      rw [HSET.out] at W1
      have W2 : Below base w ((((((wr.setCell ⟨g, k * 3, none⟩ (.int .i16 b0)).setCell ⟨g, k * 3 + 1, none⟩ (.int .i8 b1)).setCell ⟨g, k * 3 + 2, none⟩ (.bool b2)).setCell ⟨g, j * 3, none⟩ (.int .i16 a0)).setCell ⟨g, j * 3 + 1, none⟩ (.int .i8 a1)).setCell ⟨g, j * 3 + 2, none⟩ (.bool a2)) := (((((hb.setCell (p := ⟨g, _, none⟩) hgb _).setCell (p := ⟨g, _, none⟩) hgb _).setCell (p := ⟨g, _, none⟩) hgb _).setCell (p := ⟨g, _, none⟩) hgb _).setCell (p := ⟨g, _, none⟩) hgb _).setCell (p := ⟨g, _, none⟩) hgb _
      have HW1 := hide W1
      have HW2 := hide W2
      clear W1 W2
      go_region
      obtain ⟨Z0, hZ0⟩ : ∃ Z0, Z0 = ((((((wr.setCell ⟨g, k * 3, none⟩ (.int .i16 b0)).setCell ⟨g, k * 3 + 1, none⟩ (.int .i8 b1)).setCell ⟨g, k * 3 + 2, none⟩ (.bool b2)).setCell ⟨g, j * 3, none⟩ (.int .i16 a0)).setCell ⟨g, j * 3 + 1, none⟩ (.int .i8 a1)).setCell ⟨g, j * 3 + 2, none⟩ (.bool a2)) := ⟨_, rfl⟩
      rw [← hZ0] at HW1 HW2 ⊢
      have hz0 : Below Z0.heap.size Z0 Z0.drew := (Below.refl _ _).drew
      have W3 := own_keep HW1.out hz0
      have W4 := HW2.out.drew
      clear hZ0 hz0 HW1 HW2 f1 f2 f3 f4 f5 f6 g1 g2 g3 g4 g5 g6 hw hb
      generalize Z0.drew = Z at *
      have hwj : IntKind.i64.wrap ((j : Int) - 1) = (j : Int) - 1 := IntWalk.i64_in _ (by omega)
      go_wp2
      go_roundw
      case rel => exact ⟨k + 1, by omega, by go_num, ret_int' (by have := HJ.out; omega), W3, W4⟩
      case measure => simp [intOf]; omega
    · have hnl : ¬ ((k : Int) < (l.length : Int) - 1 - (k : Int)) := by omega
      rw [rvT_all l k (by omega)] at hw
      go_wp2
      go_end0
      exact ⟨rfl, hw, hb⟩

theorem cgC_set2 (l : List (Int × Int × Bool)) : ∀ (k : Nat) (q : Bool), k < l.length → cgC (l.set k (cgS l k, cgT l k, q)) = (cgC l).set (k * 3 + 2) (.bool q) := by
  induction l with
  | nil => intro k q h; simp at h
  | cons n l ih =>
    intro k q h
    cases k with
    | zero => simp [cgC_cons, cgS, cgT]
    | succ k =>
      have := ih k q (by simpa using h)
      rw [show (k + 1) * 3 + 2 = (k * 3 + 2) + 1 + 1 + 1 from by omega]
      simpa [cgC_cons, cgS, cgT] using this
/-- the first k the other way -/
def ngT (l : List (Int × Int × Bool)) (k : Nat) : List (Int × Int × Bool) := (l.take k).map (fun c => (c.1, c.2.1, !c.2.2)) ++ l.drop k
theorem ngT_length (l : List (Int × Int × Bool)) (k : Nat) (h : k ≤ l.length) : (ngT l k).length = l.length := by simp [ngT]; omega
theorem ngT_at (l : List (Int × Int × Bool)) (k : Nat) (h : k < l.length) : cgS (ngT l k) k = cgS l k ∧ cgT (ngT l k) k = cgT l k ∧ cgP (ngT l k) k = cgP l k := by
  have e : (ngT l k).getD k (0, 0, false) = l.getD k (0, 0, false) := by
    rw [ngT, List.getD, List.getD, List.getElem?_append_right (by simp; omega), List.getElem?_drop]
    congr 2
    simp; omega
  simp only [cgS, cgT, cgP, e, and_self]
theorem ngT_set (l : List (Int × Int × Bool)) (k : Nat) (h : k < l.length) : (ngT l k).set k (cgS (ngT l k) k, cgT (ngT l k) k, !cgP l k) = ngT l (k + 1) := by
  rw [(ngT_at l k h).1, (ngT_at l k h).2.1, ngT, ngT, List.set_append_right _ _ (by simp; omega), List.drop_eq_getElem_cons h, List.take_succ_eq_append_getElem h, List.map_append, List.length_map, List.length_take, show k - min k l.length = 0 by omega, List.set_cons_zero]
  simp [cgS, cgT, cgP, List.getD, h]
/-- what undoes changes -/
def unL (l : List (Int × Int × Bool)) : List (Int × Int × Bool) := if l.length ≤ 2400 then l.reverse.map (fun c => (c.1, c.2.1, !c.2.2)) else []
def unLC (l : List (Int × Int × Bool)) : Int := if l.length ≤ 2400 then 0 else 3
theorem unL_len (l : List (Int × Int × Bool)) : (unL l).length ≤ 1048576 := by
  unfold unL
  split
  · simp; omega
  · simp
theorem ngT_all (l : List (Int × Int × Bool)) : ngT l l.length = l.map (fun c => (c.1, c.2.1, !c.2.2)) := by simp [ngT]
/-- changes of the call's own, and a code -/
def OwnCC (w : World) (l : List (Int × Int × Bool)) (x : Int) (e : Ending) (w' : World) : Prop := ∃ (C : Option Addr) (q : Nat), e = .returned (.tuple #[.slice C l.length q, .int .i64 x]) ∧ w'.ownsRow w.heap.size 99 3 (.slice C l.length q) l.length (cgC l) ∧ Below w.heap.size w w'
set_option maxRecDepth 20000 in
set_option maxHeartbeats 2000000 in
theorem implUndoChanges_any (A : Option Addr) (c : Nat) (l : List (Int × Int × Bool)) (w : World) (hA : CgA w A l) (hn : l.length ≤ 1048576) (_hwf : CgWF l) :
    Calls Try.prog 30 #[.slice A l.length c] w (OwnCC w (unL l) (unLC l)) := by
  go_enter Try.func30, Try.ntmps30
  by_cases hbig : l.length ≤ 2400
  · have hg : decide ((l.length : Int) > 2400) = false := by simp; omega
    have hg2 : ¬ (2400 : Int) < (l.length : Int) := by omega
    have HL := hide (show unL l = l.reverse.map (fun c => (c.1, c.2.1, !c.2.2)) by simp [unL, hbig])
    have HC := hide (show unLC l = 0 by simp [unLC, hbig])
    go_wp2_with fail
    refine (cloneC_any A c l _ hA hn).mono ?_
    rintro e w1 ⟨C1, q1, rfl, own1, hb1⟩
    go_wp2_with fail
    refine (reverseC_any C1 q1 l w.heap.size _ own1 hn).mono ?_
    rintro e w2 ⟨rfl, own2, hb2⟩
    have b2 := hb1.trans hb2
    obtain ⟨m, hm⟩ : ∃ m, l.reverse = m := ⟨_, rfl⟩
    have hml : l.length = m.length := by rw [← hm]; simp
    rw [hm] at own2
    have HLm := hide (show unL l = ngT m m.length by rw [HL.out, ngT_all, hm])
    have hmn : m.length ≤ 1048576 := by omega
    rw [hml] at own2
    clear hb1 hb2 own1 hbig hm
    go_wp2_with fail
    go_loopw [5, 15] (fun _ i wr => ∃ k : Nat, k ≤ m.length ∧ i = .int .i64 k ∧ wr.ownsRow w.heap.size 99 3 (.slice C1 m.length q1) m.length (cgC (ngT m k)) ∧ Below w.heap.size w wr)
      (fun _ i _ => m.length - (intOf i).toNat)
    case atStart => exact ⟨0, Nat.zero_le _, rfl, by simpa [ngT] using own2, b2⟩
    case round =>
      obtain ⟨k, hk, rfl, hw, hb⟩ := hrel
      by_cases hlt : k < m.length
      · obtain ⟨g, rfl, hgb⟩ : ∃ g, C1 = some ⟨g, 0, none⟩ ∧ w.heap.size ≤ g := by
          rcases hw.2 with ⟨h', h0⟩ | ⟨g, cap, cur, h', hgb, hg, _⟩
          · omega
          · simp only [Value.slice.injEq, true_and] at h'
            exact ⟨g, h'.1, hgb⟩
        have hki : (k : Int) < (l.length : Int) := by omega
        have hnl := ngT_length m k hk
        have f3 := (hw.cellAt (k * 3 + 2) (by omega)).trans (cgC_at (ngT m k) k (by omega)).2.2
        rw [(ngT_at m k hlt).2.2] at f3
        have f6 := hw.frozenAt (k * 3 + 2)
        have W1 := (hw.stored (k * 3 + 2) (.bool (!cgP m k))).1
        rw [← cgC_set2 _ k _ (by omega), ngT_set m k hlt] at W1
        have HW1 := hide W1
        obtain ⟨p, hp⟩ : ∃ p, cgP m k = p := ⟨_, rfl⟩
        rw [hp] at f3 HW1
        clear W1 hp
        go_wp2_with fail
        go_roundw
        case rel => exact ⟨k + 1, hlt, by go_num, HW1.out, hb.setCell (p := ⟨g, _, none⟩) hgb _⟩
        case measure => simp [intOf]; omega
      · obtain rfl : k = m.length := by omega
        have hki : ¬ (m.length : Int) < (l.length : Int) := by omega
        go_wp2
        go_ret2
        exact ⟨C1, q1, by rw [HLm.out, HC.out, ngT_length _ _ (Nat.le_refl _)]; exact ret2 rfl rfl, by rw [HLm.out, ngT_length _ _ (Nat.le_refl _)]; exact hw, hb⟩
  · have hg2 : (2400 : Int) < (l.length : Int) := by omega
    have HL := hide (show unL l = [] by simp [unL, hbig])
    have HC := hide (show unLC l = 3 by simp [unLC, hbig])
    clear hbig
    go_wp2
    go_ret2
    exact ⟨none, 0, by rw [HL.out, HC.out]; rfl, by rw [HL.out]; exact World.ownsRow_nil _ _ _ _, Below.refl _ _⟩

theorem cell_three_new (w : World) (u v x : Value) (t : TypeId) : ∀ j y, [u, v, x][j]? = some y → (w.alloc (.cells #[u, v, x] t)).cell? ((⟨w.heap.size, 0, none⟩ : Addr).add j) = some y := by
  intro j y hy
  rw [Addr.add_lit, Nat.zero_add, cell_of_row _ _ _ _ _ _ (heap_alloc_new w _)]
  simpa using hy
theorem ret2' {x x' y y' : Value} (h1 : x = x') (h2 : y = y') : Ending.returned (.tuple #[x, y]) = .returned (.tuple #[x', y']) := by rw [h1, h2]
/-- the first k of what undoes the changes -/
def udT (l : List (Int × Int × Bool)) (k : Nat) : List (Int × Int × Bool) := (List.range k).map fun i => (cgS l (l.length - 1 - i), cgT l (l.length - 1 - i), !cgP l (l.length - 1 - i))
theorem udT_length (l : List (Int × Int × Bool)) (k : Nat) : (udT l k).length = k := by simp [udT]
theorem udT_succ (l : List (Int × Int × Bool)) (k : Nat) : udT l (k + 1) = udT l k ++ [(cgS l (l.length - 1 - k), cgT l (l.length - 1 - k), !cgP l (l.length - 1 - k))] := by simp [udT, List.range_succ]
theorem udT_all (l : List (Int × Int × Bool)) : udT l l.length = l.reverse.map (fun c => (c.1, c.2.1, !c.2.2)) := by
  apply List.ext_getElem?
  intro i
  by_cases hi : i < l.length
  · rw [List.getElem?_map, List.getElem?_reverse hi, List.getElem?_eq_getElem (show l.length - 1 - i < l.length by omega)]
    simp [udT, hi, cgS, cgT, cgP, List.getD, show l.length - 1 - i < l.length by omega]
  · rw [List.getElem?_eq_none (by rw [udT_length]; omega), List.getElem?_eq_none (by simp; omega)]
set_option maxRecDepth 20000 in
set_option maxHeartbeats 2000000 in
theorem specUndoChanges_any (A : Option Addr) (c : Nat) (l : List (Int × Int × Bool)) (w : World) (hA : CgA w A l) (hn : l.length ≤ 1048576) (hwf : CgWF l) :
    Calls Try.prog 28 #[.slice A l.length c] w (OwnCC w (unL l) (unLC l)) := by
  obtain ⟨i0, hi, hz0, hz1, hz2⟩ := info_parts info99
  go_enter Try.func28, Try.ntmps28
  by_cases hbig : l.length ≤ 2400
  · have hg2 : ¬ (2400 : Int) < (l.length : Int) := by omega
    have HL := hide (show unL l = l.reverse.map (fun c => (c.1, c.2.1, !c.2.2)) by simp [unL, hbig])
    have HC := hide (show unLC l = 0 by simp [unLC, hbig])
    have hw0 : IntKind.i64.wrap ((l.length : Int) - 1) = (l.length : Int) - 1 := IntWalk.i64_in _ (by omega)
    have hal : Below w.heap.size w (w.alloc (.cells #[] 99)) := (Below.refl _ _).alloc (Nat.le_refl _) _
    have hE : (w.alloc (.cells #[] 99)).ownsRow w.heap.size 99 3 (.slice (some ⟨w.heap.size, 0, none⟩) 0 0) 0 [] := own_emptyC _ _ (Nat.le_refl _)
    go_wp2_with fail
    go_loopw [4, 5] (fun v i wr => ∃ k : Nat, k ≤ l.length ∧ i = .int .i64 ((l.length : Int) - 1 - (k : Int)) ∧ wr.ownsRow w.heap.size 99 3 v k (cgC (udT l k)) ∧ Below w.heap.size w wr)
      (fun _ i _ => (intOf i + 1).toNat)
    case atStart => exact ⟨0, Nat.zero_le _, ret_int' (by omega), hE, hal⟩
    case round =>
      obtain ⟨k, hk, rfl, hw, hb⟩ := hrel
      by_cases hlt : k < l.length
      · obtain ⟨j, hj⟩ : ∃ j : Nat, j = l.length - 1 - k := ⟨_, rfl⟩
        have hjI : (l.length : Int) - 1 - (k : Int) = (j : Int) := by omega
        have hjl : j < l.length := by omega
        obtain ⟨b, o, rfl, hbb, c1, c2, c3⟩ := hA j hjl
        obtain ⟨A', c', rfl⟩ := own_shapeC hw
        have d1 := (hb.cell (p := ⟨b, o + j * 3, none⟩) hbb).trans c1
        have d2 := (hb.cell (p := ⟨b, o + j * 3 + 1, none⟩) hbb).trans c2
        have d3 := (hb.cell (p := ⟨b, o + j * 3 + 2, none⟩) hbb).trans c3
        have HU := hide (udT_succ l k)
        rw [← hj] at HU
        obtain ⟨⟨w1, w2⟩, ⟨w3, w4⟩⟩ := hwf j hjl
        obtain ⟨x, hx⟩ : ∃ x, cgS l j = x := ⟨_, rfl⟩
        obtain ⟨y, hy⟩ : ∃ y, cgT l j = y := ⟨_, rfl⟩
        obtain ⟨z, hz⟩ : ∃ z, cgP l j = z := ⟨_, rfl⟩
        rw [hx] at d1 HU
        rw [hy] at d2 HU
        rw [hz] at d3 HU
        have hji : (j : Int) < (l.length : Int) := by omega
        have hjn : (0 : Int) ≤ (j : Int) := by omega
        have HJ := hide hj
        have hbk : b < wr.heap.size := Nat.lt_of_lt_of_le hbb hb.size
        rw [hjI]
        clear c1 c2 c3 hA hx hy hz w1 w2 w3 w4 hj
        have hdr : Below wr.heap.size wr wr.drew := (Below.refl _ _).drew
        have t0_ := (hdr.cell (p := ⟨b, o + j * 3, none⟩) hbk).trans d1
        have t1_ := (hdr.cell (p := ⟨b, o + j * 3 + 1, none⟩) hbk).trans d2
        have t2_ := (hdr.cell (p := ⟨b, o + j * 3 + 2, none⟩) hbk).trans d3
        obtain ⟨W5, hW5⟩ : ∃ W5, W5 = (wr.alloc (.cells #[.int .i16 x, .int .i8 y, .bool !z] 99)).drew := ⟨_, rfl⟩
        have hb5 : Below wr.heap.size wr W5 := by rw [hW5]; exact ((Below.refl _ _).alloc (Nat.le_refl _) _).drew
        have hnew5 : ∀ j u, ([.int .i16 x, .int .i8 y, .bool !z] : List Value)[j]? = some u → W5.cell? ((⟨wr.heap.size, 0, none⟩ : Addr).add j) = some u := fun j u hu => by
          rw [hW5]
          exact cell_three_new wr (.int .i16 x) (.int .i8 y) (.bool !z) 99 j u hu
        have s0_ := (hb5.cell (p := ⟨b, o + j * 3, none⟩) hbk).trans d1
        have s1_ := (hb5.cell (p := ⟨b, o + j * 3 + 1, none⟩) hbk).trans d2
        have s2_ := (hb5.cell (p := ⟨b, o + j * 3 + 2, none⟩) hbk).trans d3
        have own8 := own_keep hw hb5
        have hb8 := step_below hb5 hb
        have hszb8 := hb8.size
        clear hw hb
        go_wp2_with fail
        refine wp_region_held_drew (S := fun w' => w'.cell? ⟨b, o + j * 3, none⟩ = some (.int .i16 x) ∧ w'.cell? ⟨b, o + j * 3 + 1, none⟩ = some (.int .i8 y) ∧ w'.cell? ⟨b, o + j * 3 + 2, none⟩ = some (.bool z)) (by kernel_rfl) ⟨t0_, t1_, t2_⟩ fun hS1 => ?_
        refine wpAnyH_take (i := 0) (v := .slice A' k c') rfl (by kernel_rfl) (by kernel_rfl) (by kernel_rfl) (fun _ _ _ h => h) (Or.inl ⟨by rfl, fun w' _ => by go_simp⟩) hS1 ?_
        change wpAnyH _ _ _ _ _ _ _ (Act.put _ (some 18) _) _
        simp only [Act.put, List.setIfInBounds_toArray, List.set_cons_zero, List.set_cons_succ]
        refine wpAnyH_take (i := 1) (v := .slice (some ⟨b, o, none⟩) l.length c) rfl (by kernel_rfl) (by kernel_rfl) (by kernel_rfl) (fun _ _ _ h => h) (Or.inl ⟨by rfl, fun w' _ => by go_simp⟩) hS1 ?_
        change wpAnyH _ _ _ _ _ _ _ (Act.put _ (some 19) _) _
        simp only [Act.put, List.setIfInBounds_toArray, List.set_cons_zero, List.set_cons_succ]
        refine wpAnyH_take (i := 2) (v := .int .i64 j) rfl (by kernel_rfl) (by kernel_rfl) (by kernel_rfl) (fun _ _ _ h => h) (Or.inl ⟨by rfl, fun w' _ => by go_simp⟩) hS1 ?_
        change wpAnyH _ _ _ _ _ _ _ (Act.put _ (some 20) _) _
        simp only [Act.put, List.setIfInBounds_toArray, List.set_cons_zero, List.set_cons_succ]
        refine wpAnyH_take (i := 3) (v := Value.pointer (some ⟨b, o + j * 3, none⟩)) rfl (by kernel_rfl) (by kernel_rfl) (by kernel_rfl) (fun _ _ _ h => h) (Or.inl ⟨by rfl, fun w' _ => by go_simp⟩) hS1 ?_
        change wpAnyH _ _ _ _ _ _ _ (Act.put _ (some 21) _) _
        simp only [Act.put, List.setIfInBounds_toArray, List.set_cons_zero, List.set_cons_succ]
        refine wpAnyH_take (i := 4) (v := Value.pointer (some ⟨b, o + j * 3, none⟩)) rfl (by kernel_rfl) (by kernel_rfl) (by kernel_rfl) (fun _ _ _ h => h) (Or.inl ⟨by rfl, fun w' _ => by go_simp⟩) hS1 ?_
        change wpAnyH _ _ _ _ _ _ _ (Act.put _ (some 22) _) _
        simp only [Act.put, List.setIfInBounds_toArray, List.set_cons_zero, List.set_cons_succ]
        refine wpAnyH_take (i := 5) (v := .int .i16 x) rfl (by kernel_rfl) (by kernel_rfl) (by kernel_rfl) (fun _ _ _ h => h) (Or.inl ⟨by rfl, fun w' h => ?_⟩) hS1 ?_
        · have c0 := h.1
          clear h
          go_simp
        change wpAnyH _ _ _ _ _ _ _ (Act.put _ (some 23) _) _
        simp only [Act.put, List.setIfInBounds_toArray, List.set_cons_zero, List.set_cons_succ]
        refine wpAnyH_take (i := 6) (v := .slice (some ⟨b, o, none⟩) l.length c) rfl (by kernel_rfl) (by kernel_rfl) (by kernel_rfl) (fun _ _ _ h => h) (Or.inl ⟨by rfl, fun w' _ => by go_simp⟩) hS1 ?_
        change wpAnyH _ _ _ _ _ _ _ (Act.put _ (some 24) _) _
        simp only [Act.put, List.setIfInBounds_toArray, List.set_cons_zero, List.set_cons_succ]
        refine wpAnyH_take (i := 7) (v := .int .i64 j) rfl (by kernel_rfl) (by kernel_rfl) (by kernel_rfl) (fun _ _ _ h => h) (Or.inl ⟨by rfl, fun w' _ => by go_simp⟩) hS1 ?_
        change wpAnyH _ _ _ _ _ _ _ (Act.put _ (some 25) _) _
        simp only [Act.put, List.setIfInBounds_toArray, List.set_cons_zero, List.set_cons_succ]
        refine wpAnyH_take (i := 8) (v := Value.pointer (some ⟨b, o + j * 3, none⟩)) rfl (by kernel_rfl) (by kernel_rfl) (by kernel_rfl) (fun _ _ _ h => h) (Or.inl ⟨by rfl, fun w' _ => by go_simp⟩) hS1 ?_
        change wpAnyH _ _ _ _ _ _ _ (Act.put _ (some 26) _) _
        simp only [Act.put, List.setIfInBounds_toArray, List.set_cons_zero, List.set_cons_succ]
        refine wpAnyH_take (i := 9) (v := Value.pointer (some ⟨b, o + j * 3 + 1, none⟩)) rfl (by kernel_rfl) (by kernel_rfl) (by kernel_rfl) (fun _ _ _ h => h) (Or.inl ⟨by rfl, fun w' _ => by go_simp⟩) hS1 ?_
        change wpAnyH _ _ _ _ _ _ _ (Act.put _ (some 27) _) _
        simp only [Act.put, List.setIfInBounds_toArray, List.set_cons_zero, List.set_cons_succ]
        refine wpAnyH_take (i := 10) (v := .int .i8 y) rfl (by kernel_rfl) (by kernel_rfl) (by kernel_rfl) (fun _ _ _ h => h) (Or.inl ⟨by rfl, fun w' h => ?_⟩) hS1 ?_
        · have c0 := h.2.1
          clear h
          go_simp
        change wpAnyH _ _ _ _ _ _ _ (Act.put _ (some 28) _) _
        simp only [Act.put, List.setIfInBounds_toArray, List.set_cons_zero, List.set_cons_succ]
        refine wpAnyH_take (i := 11) (v := .slice (some ⟨b, o, none⟩) l.length c) rfl (by kernel_rfl) (by kernel_rfl) (by kernel_rfl) (fun _ _ _ h => h) (Or.inl ⟨by rfl, fun w' _ => by go_simp⟩) hS1 ?_
        change wpAnyH _ _ _ _ _ _ _ (Act.put _ (some 29) _) _
        simp only [Act.put, List.setIfInBounds_toArray, List.set_cons_zero, List.set_cons_succ]
        refine wpAnyH_take (i := 12) (v := .int .i64 j) rfl (by kernel_rfl) (by kernel_rfl) (by kernel_rfl) (fun _ _ _ h => h) (Or.inl ⟨by rfl, fun w' _ => by go_simp⟩) hS1 ?_
        change wpAnyH _ _ _ _ _ _ _ (Act.put _ (some 30) _) _
        simp only [Act.put, List.setIfInBounds_toArray, List.set_cons_zero, List.set_cons_succ]
        refine wpAnyH_take (i := 13) (v := Value.pointer (some ⟨b, o + j * 3, none⟩)) rfl (by kernel_rfl) (by kernel_rfl) (by kernel_rfl) (fun _ _ _ h => h) (Or.inl ⟨by rfl, fun w' _ => by go_simp⟩) hS1 ?_
        change wpAnyH _ _ _ _ _ _ _ (Act.put _ (some 31) _) _
        simp only [Act.put, List.setIfInBounds_toArray, List.set_cons_zero, List.set_cons_succ]
        refine wpAnyH_take (i := 14) (v := Value.pointer (some ⟨b, o + j * 3 + 2, none⟩)) rfl (by kernel_rfl) (by kernel_rfl) (by kernel_rfl) (fun _ _ _ h => h) (Or.inl ⟨by rfl, fun w' _ => by go_simp⟩) hS1 ?_
        change wpAnyH _ _ _ _ _ _ _ (Act.put _ (some 32) _) _
        simp only [Act.put, List.setIfInBounds_toArray, List.set_cons_zero, List.set_cons_succ]
        refine wpAnyH_take (i := 15) (v := .bool z) rfl (by kernel_rfl) (by kernel_rfl) (by kernel_rfl) (fun _ _ _ h => h) (Or.inl ⟨by rfl, fun w' h => ?_⟩) hS1 ?_
        · have c0 := h.2.2
          clear h
          go_simp
        change wpAnyH _ _ _ _ _ _ _ (Act.put _ (some 33) _) _
        simp only [Act.put, List.setIfInBounds_toArray, List.set_cons_zero, List.set_cons_succ]
        refine wpAnyH_take (i := 16) (v := .bool !z) rfl (by kernel_rfl) (by kernel_rfl) (by kernel_rfl) (fun _ _ _ h => h) (Or.inl ⟨by rfl, fun w' _ => by go_simp⟩) hS1 ?_
        change wpAnyH _ _ _ _ _ _ _ (Act.put _ (some 34) _) _
        simp only [Act.put, List.setIfInBounds_toArray, List.set_cons_zero, List.set_cons_succ]
        refine wpAnyH_take (i := 17) (v := .agg #[.int .i16 x, .int .i8 y, .bool !z]) rfl (by kernel_rfl) (by kernel_rfl) (by kernel_rfl) (fun _ _ _ h => h) (Or.inl ⟨by rfl, fun w' _ => by go_simp⟩) hS1 ?_
        change wpAnyH _ _ _ _ _ _ _ (Act.put _ (some 35) _) _
        simp only [Act.put, List.setIfInBounds_toArray, List.set_cons_zero, List.set_cons_succ]
        refine wpAnyH_ready (rs := [18]) (by kernel_rfl) (by simp) (AllReadyH.cons rfl ?_ AllReadyH.nil)
        intro K hK
        rw [if_pos (by rfl)]
        go_simp
        rw [← hW5]
        clear hW5
        refine hK.out _ _ ⟨s0_, s1_, s2_⟩ (fun hS2 => ?_)
        clear hK K hS1
        refine wpAnyH_ready (rs := [19]) (by kernel_rfl) (by simp) (AllReadyH.cons rfl ?_ AllReadyH.nil)
        intro K hK
        rw [if_pos (by rfl)]
        refine wp_append_own W5 (.tmp 18) (.tmp 36) 47 rfl w.heap.size 99 i0 (.agg #[.int .i16 0, .int .i8 0, .bool false]) 3 4 Try.underlying47 hi hz0 hz1 hz2 rfl (by decide) _ _ _ rfl own8 ⟨wr.heap.size, 0, none⟩ 1 1 [.int .i16 x, .int .i8 y, .bool !z] rfl rfl hnew5 (fun x hx => by simp at hx; rcases hx with rfl | rfl | rfl <;> rfl) (by unfold maxLen; omega) (by omega) hb8.size ?_
        intro v6 w6 hown6 hgr6 hnil6
        have hb6 : Below w.heap.size w w6 := hb8.grown hgr6 hb8.size (fun j hj => (own8.lt j hj).1)
        have r0_ := hgr6.cell s0_ (fun e => by have h := (own8.lt b e.symm).1; omega)
        have r1_ := hgr6.cell s1_ (fun e => by have h := (own8.lt b e.symm).1; omega)
        have r2_ := hgr6.cell s2_ (fun e => by have h := (own8.lt b e.symm).1; omega)
        refine hK.out _ _ ⟨r0_, r1_, r2_⟩ (fun hS3 => ?_)
        clear hK K hS2
        obtain ⟨A6, c6, rfl⟩ := own_shapeC hown6
        refine wpAnyH_take (i := 20) (v := .slice A6 (k + 1) c6) rfl (by kernel_rfl) (by kernel_rfl) (by kernel_rfl) (fun _ _ _ h => h) (Or.inl ⟨by rfl, fun w' _ => by go_simp⟩) hS3 ?_
        change wpAnyH _ _ _ _ _ _ _ (Act.put _ (some 4) _) _
        simp only [Act.put, List.setIfInBounds_toArray, List.set_cons_zero, List.set_cons_succ]
        refine wpAnyH_done (by kernel_rfl) ?_ _
        go_wp2
        go_roundw
        case rel => exact ⟨k + 1, hlt, ret_int' (by have := HJ.out; omega), by rw [HU.out, cgC_append]; exact hown6, hb6⟩
        case measure => simp [intOf]
      · obtain rfl : k = l.length := by omega
        have hneg : ¬ (0 : Int) ≤ (l.length : Int) - 1 - (l.length : Int) := by omega
        have HU := hide (udT_all l)
        obtain ⟨C1, q1, rfl⟩ := own_shapeC hw
        go_wp2
        go_ret2
        exact ⟨C1, q1, by rw [HL.out, HC.out, ← HU.out, udT_length]; rfl, by rw [HL.out, ← HU.out, udT_length]; exact hw, hb⟩
  · have hg2 : (2400 : Int) < (l.length : Int) := by omega
    have HL := hide (show unL l = [] by simp [unL, hbig])
    have HC := hide (show unLC l = 3 by simp [unLC, hbig])
    have hal : Below w.heap.size w (w.alloc (.cells #[] 99)) := (Below.refl _ _).alloc (Nat.le_refl _) _
    have hE : (w.alloc (.cells #[] 99)).ownsRow w.heap.size 99 3 (.slice (some ⟨w.heap.size, 0, none⟩) 0 0) 0 [] := own_emptyC _ _ (Nat.le_refl _)
    clear hbig
    go_wp2
    go_ret2
    exact ⟨some ⟨w.heap.size, 0, none⟩, 0, by rw [HL.out, HC.out]; rfl, by rw [HL.out]; exact hE, hal⟩
end Go.Proofs.Ytncdgjaadlpncaa
