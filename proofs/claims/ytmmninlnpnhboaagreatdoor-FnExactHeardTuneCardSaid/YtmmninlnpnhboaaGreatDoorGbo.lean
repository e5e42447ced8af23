import Derived.Test.YtmmninlnpnhboaaGreatDoorGak
import Derived.Maps.Own
import Derived.Maps.OwnOps
import Derived.Maps.OwnSet
import Derived.WalkArith
import Derived.Test.YtmmninlnpnhboaaGreatDoorSru
namespace Go.Proofs.YtmmninlnpnhboaaGreatDoor
open Go.RowKit Go.Maps
theorem keyTypeN : Tryz.prog.keyType 65 = true := by kernel_rfl
theorem rowN : (65 : TypeId) < Tryz.prog.types.size := of_decide_eq_true (by kernel_rfl)
theorem lawN : Keyed Tryz.prog 65 := Keyed.of_law (deep_law_laid Tryz.laidOut (m := 2) (by omega) rowN (by kernel_rfl) (by kernel_rfl))
theorem cellsN : Tryz.prog.cellsOf 65 = 2 := by kernel_rfl
theorem keyLits_note (a p : Int) (ha : (Lit.int .i16 a).wf = true) (hp : (Lit.int .i8 p).wf = true) (d : Nat) : Tryz.prog.keyLits (d + 1 + 1) 65 [.int .i16 a, .int .i8 p] = some [.int .i16 a, .int .i8 p] := by
  simp [Program.keyLits, Tryz.underlying65, Tryz.underlying22, Tryz.underlying63, cellsN, Tryz.cells22, Tryz.cells63, ha, hp]
theorem typesN : ∃ d, Tryz.prog.types.size + 1 = d + 1 + 1 := ⟨Tryz.prog.types.size - 1, by have h : (65 : Nat) < Tryz.prog.types.size := rowN; omega⟩
theorem key_some (a p : Int) (ha : (Lit.int .i16 a).wf = true) (hp : (Lit.int .i8 p).wf = true) : ∃ s, keyOf Tryz.prog 65 (.agg #[.int .i16 a, .int .i8 p]) = some (.string s) := by
  obtain ⟨d, hd⟩ := typesN
  have hf : (Value.agg #[.int .i16 a, .int .i8 p]).formed Tryz.prog 65 = true := by simp [Value.formed, Tryz.underlying65, cellsN]
  refine ⟨keyBytes [.int .i16 a, .int .i8 p], ?_⟩
  unfold keyOf
  rw [hd, Tryz.underlying65]
  simp only [keyTypeN, hf, Bool.and_self, if_true, Value.cells]
  rw [keyLits_note a p ha hp d]
  rfl
theorem zeroBk (w : World) : (zeroValue 4).run Tryz.prog w = .ok (.bool false) w := by kernel_rfl
theorem wf16 {p : Int} (h : 0 ≤ p ∧ p ≤ 199) : (Lit.int .i16 p).wf = true := WalkArith.wf_i16 (by omega)
theorem wf8c {p : Int} (h : 0 ≤ p ∧ p ≤ 47) : (Lit.int .i8 p).wf = true := WalkArith.wf_i8 (by omega)
theorem note_key (a p : Int) (ha : 0 ≤ a ∧ a ≤ 199) (hp : 0 ≤ p ∧ p ≤ 47) : ∃ kl, keyOf Tryz.prog 65 (.agg #[.int .i16 a, .int .i8 p]) = some kl := by
  obtain ⟨s, hs⟩ := key_some a p (wf16 ha) (wf8c hp)
  exact ⟨_, hs⟩
/-- the map holds just these notes -/
def InS (D : DataW Unit) (xs : List (Int × Int)) : Prop :=
  ∀ a p kl, keyOf Tryz.prog 65 (.agg #[.int .i16 a, .int .i8 p]) = some kl → D.atKey kl (.lit (.bool false)) = .lit (.bool (decide ((a, p) ∈ xs)))
theorem inS_start : InS (.map []) [] := fun _ _ _ _ => by simp [DataW.atKey]
theorem inS_step {D : DataW Unit} {xs : List (Int × Int)} {a0 p0 : Int} {k0 : Lit} (hD : Maps.IsMap D) (h : InS D xs)
    (hk : keyOf Tryz.prog 65 (.agg #[.int .i16 a0, .int .i8 p0]) = some k0) : InS (D.put k0 (.lit (.bool true))) (xs ++ [(a0, p0)]) := by
  intro a p kl hkl
  by_cases e : kl = k0
  · subst e
    have e1 := lawN.inj hk hkl
    simp only [Value.agg.injEq, Array.mk.injEq, List.cons.injEq, Value.int.injEq, true_and, and_true] at e1
    rw [Maps.atKey_put_same hD (lawN.key hkl)]
    simp [e1.1, e1.2]
  · rw [Maps.atKey_put_other e, h a p kl hkl]
    have e2 : ¬ ((a, p) = (a0, p0)) := by
      intro hh
      obtain ⟨rfl, rfl⟩ := Prod.mk.inj hh
      rw [hkl] at hk
      exact e (Option.some.inj hk)
    simp only [List.mem_append, List.mem_singleton, e2, or_false]
end Go.Proofs.YtmmninlnpnhboaaGreatDoor
namespace Go.Proofs.YtmmninlnpnhboaaGreatDoor
open Go.RowKit Go.Maps
/-- the notes of a list, each one once -/
def dedS (acc : List (Int × Int)) (x : Int × Int) : List (Int × Int) := if x ∈ acc then acc else acc ++ [x]
def dd (l : List (Int × Int)) (k : Nat) : List (Int × Int) := (l.take k).foldl dedS []
theorem dd_succ {l : List (Int × Int)} {k : Nat} (h : k < l.length) : dd l (k + 1) = dedS (dd l k) (nAt l k, nPi l k) := by
  unfold dd
  rw [List.take_succ_eq_append_getElem h, List.foldl_append]
  simp [nAt, nPi, List.getD, h]
theorem dedS_mem (acc : List (Int × Int)) (x z : Int × Int) : z ∈ dedS acc x ↔ z ∈ acc ∨ z = x := by
  unfold dedS
  split
  · rename_i h
    exact ⟨Or.inl, fun e => e.elim id fun e => by rw [e]; exact h⟩
  · simp
theorem dedS_nodup (acc : List (Int × Int)) (x : Int × Int) (h : acc.Nodup) : (dedS acc x).Nodup := by
  unfold dedS
  split
  · exact h
  · rename_i hx
    exact List.nodup_append.2 ⟨h, by simp, fun a ha b hb e => by simp at hb; subst hb; subst e; exact hx ha⟩
theorem fold_ded : ∀ (l acc : List (Int × Int)), acc.Nodup → (l.foldl dedS acc).Nodup ∧ ∀ z, z ∈ l.foldl dedS acc ↔ z ∈ acc ∨ z ∈ l
  | [], acc, h => ⟨h, fun z => by simp⟩
  | x :: l, acc, h => by
    have ih := fold_ded l (dedS acc x) (dedS_nodup acc x h)
    refine ⟨ih.1, fun z => ?_⟩
    rw [List.foldl_cons, ih.2 z, dedS_mem, List.mem_cons, or_assoc]
theorem dd_nodup (l : List (Int × Int)) (k : Nat) : (dd l k).Nodup := (fold_ded _ [] List.nodup_nil).1
theorem dd_mem (l : List (Int × Int)) (k : Nat) (z : Int × Int) : z ∈ dd l k ↔ z ∈ l.take k := by rw [dd, (fold_ded _ [] List.nodup_nil).2 z]; simp
theorem dd_sort (l : List (Int × Int)) : srtN (dd l l.length) = sortU l := srtN_eq_sortU _ _ (dd_nodup _ _) fun x => by rw [dd_mem, List.take_length]
theorem dd_len (l : List (Int × Int)) : (sortU l).length = (dd l l.length).length := by rw [← dd_sort, srtN_len]
theorem dd_mono {l : List (Int × Int)} {k n : Nat} (hk : k ≤ n) (hn : n ≤ l.length) : (dd l k).length ≤ (dd l n).length := by
  induction n with
  | zero => obtain rfl : k = 0 := by omega
            exact Nat.le_refl _
  | succ n ih =>
    rcases Nat.lt_or_ge n k with h1 | h1
    · obtain rfl : k = n + 1 := by omega
      exact Nat.le_refl _
    · refine Nat.le_trans (ih h1 (by omega)) ?_
      rw [dd_succ (by omega)]
      unfold dedS
      split
      · exact Nat.le_refl _
      · simp
def mkC (l : List (Int × Int)) : Int := if rangeB l then (if (sortU l).length ≤ 120 then 0 else 3) else 2
def mkV (l : List (Int × Int)) : List (Int × Int) := if mkC l = 0 then sortU l else []
theorem mkV_le (l : List (Int × Int)) : (mkV l).length ≤ l.length := by
  unfold mkV
  split
  · exact sortU_le l
  · simp
set_option maxRecDepth 100000 in
set_option maxHeartbeats 4000000 in
theorem implMakeTune_any (A : Option Addr) (c : Nat) (l : List (Int × Int)) (w : World) (hA : NA w A l) (hn : l.length ≤ 1048576) (hwf : WF l) :
    Calls Tryz.prog 67 #[.slice A l.length c] w (OwnN w (mkV l) (mkC l)) := by
  obtain ⟨i0, hi, hz0, hz1, hz2⟩ := info_parts info65
  have hmm := @run_makeMap Tryz.prog
  have KR := isInRange_any A c l w hA hn hwf
  cases hr : rangeB l
  · rw [hr] at KR
    have HX := hide (show mkC l = 2 by simp [mkC, hr])
    have HY := hide (show mkV l = [] by simp [mkV, mkC, hr])
    clear hr hmm
    go_enter Tryz.func67, Tryz.ntmps67
    go_wp2_with fail
    refine KR.mono ?_
    rintro e w1 ⟨rfl, hb1⟩
    go_wp2
    go_ret2
    rw [HX.out, HY.out]
    exact ownN_nil none 0 2 ⟨rfl, Or.inl ⟨rfl, rfl⟩⟩ hb1
  rw [hr] at KR
  have HRG := hide hr
  have HIN := hide (show ∀ j, j < l.length → noteB (nAt l j) (nPi l j) = true from by simpa [rangeB, List.all_eq_true, List.mem_range] using hr)
  clear hr
  go_enter Tryz.func67, Tryz.ntmps67
  go_wp2_with fail
  refine KR.mono ?_
  rintro e w1 ⟨rfl, hb1⟩
  go_wp2_with fail
  clear hmm
  have HS := hide hb1.size
  obtain ⟨mb, hmb⟩ : ∃ mb, mb = w1.heap.size := ⟨_, rfl⟩
  have hb0 : Below w.heap.size w (w1.alloc (.map #[] 0)) := hb1.alloc hb1.size _
  have own0 : (w1.alloc (.map #[] 0)).ownsMap Tryz.prog 65 (plainElem Tryz.prog 4) mb 0 (DataW.map [] : DataW Unit) := by rw [hmb]; exact World.ownsMap_made _ _ _ _
  have hmw : w.heap.size ≤ mb := by rw [hmb]; exact hb1.size
  have hs0 : mb + 1 ≤ (w1.alloc (.map #[] 0)).heap.size := by rw [hmb]; simp
  rw [← hmb]
  generalize w1.alloc (.map #[] 0) = w0 at hb0 own0 hs0 ⊢
  clear hmb hb1 HS
  go_loopw [5, 14] (fun v i wr => ∃ (k n : Nat) (D : DataW Unit), k ≤ l.length ∧ i = .int .i64 k ∧ n = (dd l k).length ∧ n ≤ 120 ∧ InS D (dd l k) ∧ wr.ownsMap Tryz.prog 65 (plainElem Tryz.prog 4) mb n D ∧ wr.ownsRow (mb + 1) 65 2 v n (cellsOf (dd l k)) ∧ mb + 1 ≤ wr.heap.size ∧ Below w.heap.size w wr)
    (fun _ i _ => l.length - (intOf i).toNat)
  case atStart => exact ⟨0, 0, .map [], Nat.zero_le _, rfl, rfl, Nat.zero_le _, inS_start, own0, ⟨rfl, Or.inl ⟨rfl, rfl⟩⟩, hs0, hb0⟩
  case round =>
    obtain ⟨k, n, D, hk, rfl, hnl, hn120, hIn, hown, hrow, hsz, hb⟩ := hrel
    obtain ⟨A', c', rfl⟩ := own_shapeT hrow
    have HI := hide hIn
    have HNL := hide hnl
    clear hIn hnl
    by_cases hlt : k < l.length
    · obtain ⟨b, o, rfl, hbb, c1, c2⟩ := hA k hlt
      have d1 := (hb.cell (p := ⟨b, o + k * 2, none⟩) hbb).trans c1
      have d2 := (hb.cell (p := ⟨b, o + k * 2 + 1, none⟩) hbb).trans c2
      obtain ⟨⟨e1, e2⟩, e3, e4⟩ : (0 ≤ nAt l k ∧ nAt l k ≤ 199) ∧ 0 ≤ nPi l k ∧ nPi l k ≤ 47 := by simpa [noteB] using HIN.out k hlt
      have HDS := hide (dd_succ hlt)
      have HMO := hide (dd_mono (l := l) (show k + 1 ≤ l.length from hlt) (Nat.le_refl _))
      obtain ⟨x, hx⟩ : ∃ x, x = nAt l k := ⟨_, rfl⟩
      obtain ⟨y, hy⟩ : ∃ y, y = nPi l k := ⟨_, rfl⟩
      rw [← hx] at d1 e1 e2 HDS
      rw [← hy] at d2 e3 e4 HDS
      obtain ⟨kl, hkey⟩ := note_key x y ⟨e1, e2⟩ ⟨e3, e4⟩
      have HK := hide hkey
      have hbx := hb.alloc hb.size (.cells #[.int .i16 x, .int .i8 y] 65)
      have hox := hown.alloc (.cells #[.int .i16 x, .int .i8 y] 65)
      have hrx := hrow.alloc (.cells #[.int .i16 x, .int .i8 y] 65)
      obtain ⟨v, ps, hlook, hv⟩ := hox.lookup lawN Tryz.underlying167 (zeroBk _) (plainElem_bool (H := Unit) Tryz.underlying4 false) hkey
      rw [HI.out _ _ _ hkey] at hv
      obtain ⟨x0, rfl, hx0⟩ := bool_inv hv
      obtain ⟨h1, _⟩ : decide ((x, y) ∈ dd l k) = x0 ∧ ps = [] := by simpa using hx0
      clear c1 c2 hA hv hx0 hkey hx hy hown hrow
      cases x0
      · have hnm : ¬ (x, y) ∈ dd l k := of_decide_eq_false h1
        have HD := hide (show dd l (k + 1) = dd l k ++ [(x, y)] by rw [HDS.out]; simp [dedS, hnm])
        clear h1 hnm
        by_cases h120 : n = 120
        · have hq : ((n : Int) == 120) = true := by simp; omega
          have hbig : 120 < (sortU l).length := by
            rw [dd_len]
            have h2 := HMO.out
            rw [HD.out, List.length_append, ← HNL.out, h120] at h2
            simp at h2
            omega
          have HX := hide (show mkC l = 3 by simp [mkC, HRG.out]; omega)
          have HY := hide (show mkV l = [] by simp [mkV, HX.out])
          clear hbig h120
          go_wp2
          go_ret2
          rw [HX.out, HY.out]
          exact ownN_nil none 0 3 ⟨rfl, Or.inl ⟨rfl, rfl⟩⟩ hbx
        · have hq : ((n : Int) == 120) = false := by simp; omega
          have hval := plainElem_bool (H := Unit) Tryz.underlying4 true
          have hkey := HK.out
          have g1 : (wr.alloc (.cells #[.int .i16 x, .int .i8 y] 65)).cell? ⟨wr.heap.size, 0, none⟩ = some (.int .i16 x) := by simp [go_sem]
          have g2 : (wr.alloc (.cells #[.int .i16 x, .int .i8 y] 65)).cell? ⟨wr.heap.size, 1, none⟩ = some (.int .i8 y) := by simp [go_sem]
          obtain ⟨wb, hwb⟩ : ∃ wb, wb = wr.heap.size := ⟨_, rfl⟩
          have hmbwb : mb < wb := by omega
          rw [← hwb] at g1 g2
          have G1 := hide g1
          have G2 := hide g2
          have HWB := hide hwb
          clear g1 g2 hwb
          go_wp2_with (first | (at_mapUpdate; refine wpList_mapUpdate_own _ rfl _ _ _ 167 rfl 65 4 lawN Tryz.underlying167 _ mb n D rfl hox (by unfold maxLen; omega) _ _ _ rfl rfl hkey _ [] hval ?_; intro w3 hown2 hgrow2; have hb3 := hbx.grown hgrow2 hbx.size (fun j hj => by cases hj; exact hmw); have row3 := hrx.kept hgrow2 (Or.inr (fun e => by have h := (hrx.lt _ e).1; omega)); have f3 : w3.cell? ⟨wr.heap.size, 0, none⟩ = some (.int .i16 x) := (by rw [← HWB.out]; exact hgrow2.cell G1.out (fun e => by have e' : wb = mb := Option.some.inj e; omega)); have f4 : w3.cell? ⟨wr.heap.size, 1, none⟩ = some (.int .i8 y) := (by rw [← HWB.out]; exact hgrow2.cell G2.out (fun e => by have e' : wb = mb := Option.some.inj e; omega)); have row4 := row3.alloc (.cells #[.int .i16 x, .int .i8 y] 65); have hnew4 := cell_two_new' w3 (.int .i16 x) (.int .i8 y) 65; have hsz3 : mb + 1 ≤ w3.heap.size := Nat.le_trans hsz (Nat.le_trans (by simp) hgrow2.size)) | (at_builtin; refine wpList_append_own _ rfl _ _ 41 rfl (mb + 1) 65 i0 (.agg #[.int .i16 0, .int .i8 0]) 2 4 Tryz.underlying41 hi hz0 hz1 hz2 rfl (by decide) _ _ _ rfl row4 ⟨w3.heap.size, 0, none⟩ 1 1 [.int .i16 x, .int .i8 y] rfl rfl hnew4 (fun x hx => by simp at hx; rcases hx with rfl | rfl <;> rfl) (by unfold maxLen; omega) (by omega) (by simp; omega) ?_; intro v' w5 hrow5 hgrow5 hnil5))
          have hown5 := (hown2.alloc (.cells #[.int .i16 x, .int .i8 y] 65)).kept hgrow5 (fun e => by have h := (row4.lt mb e.symm).1; omega)
          have hb5 := (hb3.alloc hb3.size (.cells #[.int .i16 x, .int .i8 y] 65)).grown hgrow5 (by simp; have := hb3.size; omega) (fun j hj => by have h := (row4.lt j hj).1; omega)
          have hsz5 : mb + 1 ≤ w5.heap.size := Nat.le_trans hsz3 (Nat.le_trans (by simp) hgrow5.size)
          go_roundw
          case rel => exact ⟨k + 1, n + 1, _, hlt, by go_num, by rw [HD.out, List.length_append, ← HNL.out]; rfl, by omega, by rw [HD.out]; exact inS_step hox.isMap HI.out HK.out, hown5, by rw [HD.out, cellsOf_append]; exact hrow5, hsz5, hb5⟩
          case measure => simp [intOf]; omega
      · have hnm : (x, y) ∈ dd l k := of_decide_eq_true h1
        have HD := hide (show dd l (k + 1) = dd l k by rw [HDS.out]; simp [dedS, hnm])
        clear h1 hnm
        go_wp2
        go_roundw
        case rel => exact ⟨k + 1, n, D, hlt, by go_num, by rw [HD.out]; exact HNL.out, hn120, by rw [HD.out]; exact HI.out, hox, by rw [HD.out]; exact hrx, Nat.le_trans hsz (by simp), hbx⟩
        case measure => simp [intOf]; omega
    · obtain rfl : k = l.length := by omega
      have hle : (sortU l).length ≤ 120 := by rw [dd_len, ← HNL.out]; exact hn120
      have HX := hide (show mkC l = 0 by simp [mkC, HRG.out, hle])
      have HY := hide (show mkV l = srtN (dd l l.length) by rw [dd_sort]; simp [mkV, HX.out])
      have KS := sortFunc_any A' c' (dd l l.length) (mb + 1) wr (by rw [← HNL.out]; exact hrow) (by rw [← HNL.out]; omega) hsz
      unfold SortedP at KS
      rw [← HNL.out] at KS
      clear hle
      go_wp2_with fail
      refine KS.mono ?_
      rintro e w5 ⟨rfl, own5, hb5⟩
      go_wp2
      go_ret2
      rw [HX.out, HY.out]
      exact ownN_of A' c' 0 _ n (by rw [srtN_len]; exact HNL.out.symm) (own_base own5 (by omega)) (hb.trans (hb5.mono (by omega)))
end Go.Proofs.YtmmninlnpnhboaaGreatDoor
