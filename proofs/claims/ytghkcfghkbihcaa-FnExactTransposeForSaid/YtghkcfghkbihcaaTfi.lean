import Derived.Test.YtghkcfghkbihcaaTfm
import Derived.RangeFuncNested
import Derived.RangeFuncBound
import Derived.RangeFuncCalls
import Derived.RangeFuncLeaves
import Derived.Shelf.Abstract
import Derived.OwnWalkIn
import Derived.TacticsInMore
import Derived.LoopNIn
import Derived.LoopIn
import Derived.OrdersIn
import Derived.RangeFuncFrom
namespace Go.Proofs.Ytghkcfghkbihcaa
open Go.RowKit Go.Shelf
attribute [local go_sem] Oper.semAt_some

theorem heap_newY (w : World) (o : Obj) (k : Nat) (h : k = w.heap.size) : (w.alloc o).heap[k]? = some o := by subst h; exact heap_alloc_new w o
theorem heap_oldY {w : World} {o x : Obj} {k : Nat} (h : w.heap[k]? = some x) : (w.alloc o).heap[k]? = some x := by
  rw [heap_alloc_old w o (Array.getElem?_eq_some_iff.1 h).1]; exact h
theorem results_cell2 {fn : Func} {p q : Tmp} (h : fn.results = #[.cell p 2, .cell q 2]) {tmps : Array Value} {w : World} {b1 b2 : Nat} {x y : Int}
    (hp : tmps.getD p undef = .pointer (some ⟨b1, 0, none⟩)) (hq : tmps.getD q undef = .pointer (some ⟨b2, 0, none⟩))
    (c1 : Boxed w b1 2 (.int .i64 x)) (c2 : Boxed w b2 2 (.int .i64 y)) :
    (results fn tmps).run Try.prog w = .ok (.tuple #[.int .i64 x, .int .i64 y]) w := by
  have d1 := c1.cell
  have d2 := c2.cell
  rw [Array.getD_eq_getD_getElem?] at hp hq
  simp [results, h, hp, hq, go_sem, d1, d2]
theorem by_abide {B b : Nat} {t : TypeId} {v : Value} {X Y : World} {row : Option Nat} (h : Boxed X b t v) (hg : X.grownBy Y row) (hr : ∀ r, row = some r → B ≤ r ∧ ∃ o : Obj, X.heap[r]? = some o ∧ o.isCells = false) : Boxed Y b t v :=
  (boxed_own b t (fun _ : Unit => v)).from B () X Y row h hg hr
theorem by_put {W : World} {b l : Nat} {t : TypeId} {v : Value} {o : Obj} (o' : Obj) (h : Boxed W b t v) (hl : W.heap[l]? = some o) (ho : o.isCells = false) : Boxed (W.putObj l o') b t v :=
  by_abide (B := 0) h (grownBy_putObj' W l o') (fun r e => by cases e; exact ⟨Nat.zero_le _, o, hl, ho⟩)
theorem by_keep {W W' : World} {b : Nat} {t : TypeId} {v : Value} (h : Boxed W b t v) (hb : Below W.heap.size W W') : Boxed W' b t v := (hb.block b h.lt).trans h
theorem ko_below {W W' : World} (hb : Below W.heap.size W W') : KeepsOthers W W' := ⟨hb.size, fun k o hk _ => (hb.block k (Array.getElem?_eq_some_iff.1 hk).1).trans hk⟩
theorem bodyY_ret {F : Fence} {n : Nat} {P : Program} {fn : Func} {R : Ending → World → Prop} {a : Act} {w : World} {v : Value} (hr : (results fn a.tmps).run P w = .ok v w) (hd : a.defers = []) (hR : R (.returned v) w) : bodyPostM F n P fn R .ret a w := by
  show LeavesInM F n P fn a.tmps R a.defers .returning w
  rw [hd]
  exact ⟨v, hr, hR⟩
set_option maxHeartbeats 4000000 in
set_option maxRecDepth 100000 in
theorem implTransposeFor_any (x : Int) (A : Option Addr) (c : Nat) (l : List (Int × Int)) (w : World) (hA : NA w A l) (hn : l.length ≤ 1048576) (hwf : WF l) :
    Calls Try.prog 8 #[.int .u64 x, .slice A l.length c] w (Pair (.int .i64 (tfV x l)) (.int .i64 (tfC x l)) w) := by
  obtain ⟨X, hX⟩ : ∃ X, (((w.alloc (.cells #[.int .u64 x] 22)).alloc (.cells #[.slice A l.length c] 28)).alloc (.cells #[.int .i64 0] 2)).alloc (.cells #[.int .i64 0] 2) = X := ⟨_, rfl⟩
  have hb0 : Below w.heap.size w X := by rw [← hX]; exact ((((Below.refl _ _).alloc (Nat.le_refl _) _).alloc (by simp) _).alloc (by simp; omega) _).alloc (by simp; omega) _
  have B0 : Boxed X w.heap.size 22 (.int .u64 x) := by rw [← hX]; exact heap_oldY (heap_oldY (heap_oldY (heap_newY _ _ _ (by simp))))
  have T0 : Boxed X (w.heap.size + 1) 28 (.slice A l.length c) := by rw [← hX]; exact heap_oldY (heap_oldY (heap_newY _ _ _ (by simp)))
  have P0 : Boxed X (w.heap.size + 1 + 1) 2 (.int .i64 0) := by rw [← hX]; exact heap_oldY (heap_newY _ _ _ (by simp))
  have Q0 : Boxed X (w.heap.size + 1 + 1 + 1) 2 (.int .i64 0) := by rw [← hX]; exact heap_newY _ _ _ (by simp)
  have hXs : X.heap.size = w.heap.size + 1 + 1 + 1 + 1 := by rw [← hX]; simp
  have k1 := T0.cell
  have HXX := hide hX
  clear hX
  refine (callsIn_wide (n := 5)).1 ?_
  refine callsIn_of_wp_marks Try.func8 rfl trivial ?_ rfl
  simp only [Try.ntmps8, List.size_toArray, List.length_cons, List.length_nil, Nat.reduceAdd, Nat.reduceSub, Array.replicate_succ, Array.replicate_zero, List.push_toArray, List.append_toArray, List.nil_append, List.cons_append]
  refine wpIn_wide.2 ?_
  go_wp2_with fail
  rw [HXX.out]
  refine (implValid_any A c l X (hA.below hb0) hn hwf).mono ?_
  rintro e w1 ⟨rfl, hb1⟩
  have b1 := step_below hb1 hb0
  have B1 := by_keep B0 hb1
  have T1 := by_keep T0 hb1
  have P1 := by_keep P0 hb1
  have Q1 := by_keep Q0 hb1
  clear B0 T0 P0 Q0 k1
  cases ho : okB l
  · have HX := hide (show tfV x l = 0 by simp [tfV, tfX, ho])
    have HC := hide (show tfC x l = 1 by simp [tfC, ho])
    have p1 := P1.cell
    have p2 := P1.frozen
    have q1 := Q1.cell
    have q2 := Q1.frozen
    clear ho
    go_wp2_with fail
    have e1 := (P1.set (.int .i64 0)).other (B' := w.heap.size + 1 + 1 + 1) (by omega) (.int .i64 1)
    have e2 := (Q1.other (B' := w.heap.size + 1 + 1) (by omega) (.int .i64 0)).set (.int .i64 1)
    refine bodyY_ret (results_cell2 rfl rfl rfl e1 e2) rfl ⟨by rw [HX.out, HC.out] <;> rfl, ?_⟩
    exact (b1.setCell (p := ⟨_, 0, none⟩) (by dsimp only; omega) _).setCell (p := ⟨_, 0, none⟩) (by dsimp only; omega) _
  have HX := hide (show tfX x l = (orws 97).find? (tfB x l) by simp [tfX, ho])
  have HC := hide (show tfC x l = if (tfX x l).isSome then 0 else 6 by simp [tfC, ho])
  have HO := hide ho
  clear ho
  go_wp2_with fail
  refine (outwardB_call _).mono ?_
  rintro e w5 ⟨rfl, rfl⟩
  go_wp2_with fail
  obtain ⟨W0, hW0⟩ : ∃ W0, w1.alloc (.cells #[.int .i64 48] 2) = W0 := ⟨_, rfl⟩
  obtain ⟨G, hG⟩ : ∃ G, w1.heap.size = G := ⟨_, rfl⟩
  have hbW : Below w1.heap.size w1 W0 := by rw [← hW0]; exact (Below.refl _ _).alloc (Nat.le_refl _) _
  have b5 := step_below hbW b1
  have B5 := by_keep B1 hbW
  have T5 := by_keep T1 hbW
  have P5 := by_keep P1 hbW
  have Q5 := by_keep Q1 hbW
  have O5 : Boxed W0 G 2 (.int .i64 48) := by rw [← hW0, ← hG]; exact heap_newY _ _ _ rfl
  have hs0 : W0.heap.size = G + 1 := by rw [← hW0, ← hG]; simp
  have hwX := b1.size
  have hGQ : w.heap.size + 1 + 1 + 1 < G := by rw [← hG]; exact Q1.lt
  simp only [hG, hW0]
  clear hbW B1 T1 P1 Q1 hW0 hb1 hXs HXX
  refine (wpIn_wide (n := 5)).1 ?_
  refine wpIn_rangeFunc_ownF rfl (by omega) (gf := 33) (lb := #[.pointer (some ⟨G, 0, none⟩)]) rfl trivial (enters_of Try.func33 (by kernel_rfl) rfl)
    (outwardB_stops Fence.wide (5 - 1) trivial rfl (by omega) G W0 O5)
    (fun h1 h2 => h2.trans h1) (fun W r o o1 hr _ _ _ => World.putObj_heap_other (show G ≠ r by omega)) (Below.refl _ _) (fun _ => rfl)
    (fun pre W => ((((((∀ y ∈ pre, tfB x l y.1 = false) ∧ Boxed W w.heap.size 22 (.int .u64 x)) ∧ Boxed W (w.heap.size + 1) 28 (.slice A l.length c)) ∧ Boxed W (w.heap.size + 1 + 1) 2 (.int .i64 0)) ∧ Boxed W (w.heap.size + 1 + 1 + 1) 2 (.int .i64 0)) ∧ Boxed W G 2 (.int .i64 48)) ∧ Below w.heap.size w W)
    (fun cc pre W => cc = .ret ∧ ∃ (qre : List ShB) (y : ShB), pre = qre ++ [y] ∧ (∀ z ∈ qre, tfB x l z.1 = false) ∧ tfB x l y.1 = true ∧ Boxed W (w.heap.size + 1 + 1) 2 (.int .i64 y.1) ∧ Boxed W (w.heap.size + 1 + 1 + 1) 2 (.int .i64 0) ∧ Below w.heap.size w W)
    (OwnFrom.and (OwnFrom.and (OwnFrom.and (OwnFrom.and (OwnFrom.and (OwnFrom.and (ownFrom_pure _ _) ((boxed_own _ _ (fun _ => _)).from _)) ((boxed_own _ _ (fun _ => _)).from _)) ((boxed_own _ _ (fun _ => _)).from _)) ((boxed_own _ _ (fun _ => _)).from _)) ((boxed_own _ _ (fun _ => _)).from _)) (ownFrom_below (Nat.le_refl _) (by omega)))
    (fun _ s X Y row hs hg hr => by
      obtain ⟨hc, qre, y, h0, h1, h2, h3, h4, h5⟩ := hs
      exact ⟨hc, qre, y, h0, h1, h2, by_abide h3 hg hr, by_abide h4 hg hr, ownFrom_below (β := Unit) (Nat.le_refl _) (by omega) () X Y row h5 hg hr⟩)
    ⟨⟨⟨⟨⟨⟨fun y hy => absurd hy (by simp), B5⟩, T5⟩, P5⟩, Q5⟩, O5⟩, b5⟩ ?a1 ?assign ?body ?done ?stop
  case assign =>
    intro l x W K hK
    gi_wp2
    exact hK
  case body =>
    rintro r pre y W ⟨⟨⟨⟨⟨⟨hbad, B6⟩, T6⟩, P6⟩, Q6⟩, O6⟩, hBel⟩ hlen
    obtain ⟨hy1, hy2⟩ := y.2
    have KC0 := shifted_any 0 y.1 A c l W (hA.below hBel) hn hwf (by omega) (by omega)
    have k1 := T6.cell
    have hTB : tfB x l y.1 = (chO (shP 0 y.1) l l.length && (misI x (chL (shP 0 y.1) l l.length) == 0)) := rfl
    cases hc : chO (shP 0 y.1) l l.length
    · rw [show chV (shP 0 y.1) l = [] by simp [chV, hc], show chC (shP 0 y.1) l = 4 by simp [chC, hc]] at KC0
      have KC := hide KC0
      rw [hc] at hTB
      have HBAD := hide (show ∀ z ∈ pre ++ [y], tfB x l z.1 = false from fun z hz => by
        rcases List.mem_append.1 hz with h | h
        · exact hbad z h
        · rw [List.mem_singleton] at h; rw [h]; exact hTB)
      clear KC0 hTB hc hbad
      gi_wp2_with (first | (refine ⟨trivial, ?_⟩; gi_at_call 20; refine (CallsIn.inRound r (callsIn_wide.2 KC.out)).mono ?_; rintro e w' ⟨C1, q1, rfl, own1, hb1⟩) | refine ⟨trivial, ?_⟩)
      exact ⟨ko_below hb1, hb1.block G O6.lt, ⟨⟨⟨⟨⟨HBAD.out, by_keep B6 hb1⟩, by_keep T6 hb1⟩, by_keep P6 hb1⟩, by_keep Q6 hb1⟩, by_keep O6 hb1⟩, step_below hb1 hBel⟩
    · have hV : chV (shP 0 y.1) l = chL (shP 0 y.1) l l.length := by rw [sh_asc HO.out]; simp [chW, hc]
      have hin := chL_in hc
      have hVl : (chL (shP 0 y.1) l l.length).length ≤ 1048576 := by rw [chL_len]; exact hn
      rw [hV, show chC (shP 0 y.1) l = 0 by simp [chC, hc]] at KC0
      rw [hc, Bool.true_and] at hTB
      obtain ⟨V, hVV⟩ : ∃ V, V = chL (shP 0 y.1) l l.length := ⟨_, rfl⟩
      rw [← hVV] at KC0 hTB hin hVl
      have KM := hide (fun (W' : World) (C1 : Option Addr) (q1 : Nat) (h : NA W' C1 V) => implMissing_any C1 q1 V x W' h hVl hin)
      obtain ⟨mi, hmi⟩ : ∃ mi, mi = misI x V := ⟨_, rfl⟩
      rw [← hmi] at KM hTB
      have KC := hide KC0
      clear KC0 hVV hV hin hVl hc hmi
      cases hm : (mi == 0)
      · rw [hm] at hTB
        have HBAD := hide (show ∀ z ∈ pre ++ [y], tfB x l z.1 = false from fun z hz => by
          rcases List.mem_append.1 hz with h | h
          · exact hbad z h
          · rw [List.mem_singleton] at h; rw [h]; exact hTB)
        clear hTB hbad
        gi_wp2_with (first | (refine ⟨trivial, ?_⟩; gi_at_call 20; refine (CallsIn.inRound r (callsIn_wide.2 KC.out)).mono ?_; rintro e w' ⟨C1, q1, rfl, own1, hb1⟩; have k0 := (by_keep B6 hb1).cell) | (refine ⟨trivial, ?_⟩; gi_at_call 21; refine (CallsIn.inRound r (callsIn_wide.2 (KM.out _ C1 q1 (NA.of_own own1)))).mono ?_; rintro e w'' ⟨rfl, hb2⟩))
        have hbb := hb1.trans (hb2.mono hb1.size)
        exact ⟨ko_below hbb, hbb.block G O6.lt, ⟨⟨⟨⟨⟨HBAD.out, by_keep B6 hbb⟩, by_keep T6 hbb⟩, by_keep P6 hbb⟩, by_keep Q6 hbb⟩, by_keep O6 hbb⟩, step_below hbb hBel⟩
      · rw [hm] at hTB
        have HT := hide hTB
        have HBAD := hide hbad
        clear hTB hbad
        gi_wp2_with (first | (refine ⟨trivial, ?_⟩; gi_at_call 20; refine (CallsIn.inRound r (callsIn_wide.2 KC.out)).mono ?_; rintro e w' ⟨C1, q1, rfl, own1, hb1⟩; have k0 := (by_keep B6 hb1).cell) | (refine ⟨trivial, ?_⟩; gi_at_call 21; refine (CallsIn.inRound r (callsIn_wide.2 (KM.out _ C1 q1 (NA.of_own own1)))).mono ?_; rintro e w'' ⟨rfl, hb2⟩; have P8 := by_keep (by_keep P6 hb1) hb2; have Q8 := by_keep (by_keep Q6 hb1) hb2; have p1 := P8.cell; have p2 := P8.frozen; have q1' := Q8.cell; have q2 := Q8.frozen))
        have hbb := hb1.trans (hb2.mono hb1.size)
        have e1 := (P8.set (.int .i64 y.1)).other (B' := w.heap.size + 1 + 1 + 1) (by omega) (.int .i64 0)
        have e2 := (Q8.other (B' := w.heap.size + 1 + 1) (by omega) (.int .i64 y.1)).set (.int .i64 0)
        exact ⟨((ko_below hbb).trans (KeepsOthers.setCell _ _ _)).trans (KeepsOthers.setCell _ _ _), rfl, pre, y, rfl, HBAD.out, HT.out, e1, e2, ((step_below hbb hBel).setCell (p := ⟨_, 0, none⟩) (by dsimp only; omega) _).setCell (p := ⟨_, 0, none⟩) (by dsimp only; omega) _⟩
  case done =>
    rintro D ys W hD hS ⟨⟨⟨⟨⟨⟨hbad, B6⟩, T6⟩, P6⟩, Q6⟩, O6⟩, hBel⟩ hK
    have hno : tfX x l = none := by rw [HX.out, ← hS]; exact find_all hbad
    have HV := hide (show tfV x l = 0 by rw [tfV, hno]; rfl)
    have HC6 := hide (show tfC x l = 6 by rw [HC.out, hno]; rfl)
    have p1 := P6.cell
    have p2 := P6.frozen
    have q1 := Q6.cell
    have q2 := Q6.frozen
    have E1 := hide ((P6.set (.int .i64 0)).other (B' := w.heap.size + 1 + 1 + 1) (by omega) (.int .i64 6))
    have E2 := hide ((Q6.other (B' := w.heap.size + 1 + 1) (by omega) (.int .i64 0)).set (.int .i64 6))
    have HK3 := hide (((heap_setCell_other _ ⟨w.heap.size + 1 + 1 + 1, 0, none⟩ D (.int .i64 6) (by dsimp only; omega)).trans (heap_setCell_other W ⟨w.heap.size + 1 + 1, 0, none⟩ D (.int .i64 0) (by dsimp only; omega))).trans hK)
    clear hno hbad hK hS P6 Q6 B6 T6 O6
    go_wp2_with fail
    refine ⟨by simp, .inl ⟨_, _, rfl, run_takeDeferred HK3.out, ?_⟩⟩
    refine ⟨_, results_cell2 rfl rfl rfl (by_put _ E1.out HK3.out rfl) (by_put _ E2.out HK3.out rfl), ?_⟩
    refine ⟨by rw [HV.out, HC6.out] <;> rfl, ?_⟩
    exact ((hBel.setCell (p := ⟨_, 0, none⟩) (by dsimp only; omega) _).setCell (p := ⟨_, 0, none⟩) (by dsimp only; omega) _).trans (belowK_b (w := w) (Nat.le_refl _) _ D _ _ (by omega) HK3.out rfl rfl)
  case stop =>
    rintro D cc pre W hD hSp ⟨rfl, qre, y, rfl, hbad, hf, P6, Q6, hBel⟩ hK
    have hyes : tfX x l = some y.1 := by rw [HX.out]; exact find_pre hbad hf hSp
    have HV := hide (show tfV x l = y.1 by rw [tfV, hyes]; rfl)
    have HC0 := hide (show tfC x l = 0 by rw [HC.out, hyes]; rfl)
    clear hyes hbad hf hSp
    refine (wpIn_wide (n := 5)).2 ?_
    go_wp2_with fail
    refine ⟨by simp, .inl ⟨_, _, rfl, run_takeDeferred hK, ?_⟩⟩
    refine ⟨_, results_cell2 rfl rfl rfl (by_put _ P6 hK rfl) (by_put _ Q6 hK rfl), ?_⟩
    refine ⟨by rw [HV.out, HC0.out] <;> rfl, ?_⟩
    exact hBel.trans (belowK_b (w := w) (Nat.le_refl _) _ D _ _ (by omega) hK rfl rfl)
end Go.Proofs.Ytghkcfghkbihcaa
