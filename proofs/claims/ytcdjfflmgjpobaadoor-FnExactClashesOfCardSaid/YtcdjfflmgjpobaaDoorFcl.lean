import Derived.Test.YtcdjfflmgjpobaaDoorIpl
namespace Go.Proofs.YtcdjfflmgjpobaaDoor
open Go.RowKit Go.Shelf
attribute [local go_sem] Oper.semAt_some

/-- the first of some places: its two numbers, and the code -/
def fcA (ps : List (Nat × Nat)) : Int := match ps with | [] => 0 | p :: _ => p.1
def fcB (ps : List (Nat × Nat)) : Int := match ps with | [] => 0 | p :: _ => p.2
def fcC (ps : List (Nat × Nat)) : Int := match ps with | [] => 6 | _ :: _ => 0
def fcL (s : Int) (l : List (Int × Int)) (d : Nat → Int) : List (Nat × Nat) := if askB s l d then clsF s.toNat d l (pinsL d) else []
def fcX (s : Int) (l : List (Int × Int)) (d : Nat → Int) : Int := if askB s l d then fcC (fcL s l d) else 1

set_option maxRecDepth 20000 in
set_option maxHeartbeats 1000000 in
theorem specFirstClash_any (s : Int) (A : Option Addr) (c : Nat) (l : List (Int × Int)) (d : Nat → Int) (w : World) (hA : HA w A l) (hn : l.length ≤ 1048576) (hwf : HWF l) (hs : -32768 ≤ s ∧ s ≤ 32767) (hd : DWF d) :
    Calls Tryd.prog 23 #[.agg #[.int .i16 s, .slice A l.length c], .agg (da d)] w (Trip (.int .i64 (fcA (fcL s l d))) (.int .i64 (fcB (fcL s l d))) (.int .i64 (fcX s l d)) w) := by
  have hb0 : Below w.heap.size w ((w.alloc (.cells #[.int .i16 s, .slice A l.length c] 34)).alloc (.cells (da d) 36)) := ((Below.refl _ _).alloc (Nat.le_refl _) _).alloc (by simp) _
  have hF : FP ((w.alloc (.cells #[.int .i16 s, .slice A l.length c] 34)).alloc (.cells (da d) 36)) w.heap.size s A l.length c := ⟨by simp [go_sem], by simp [go_sem]⟩
  have hD : Dr ((w.alloc (.cells #[.int .i16 s, .slice A l.length c] 34)).alloc (.cells (da d) 36)) (w.heap.size + 1) 36 d := heap_new' _ _ _ (by simp)
  go_enter Tryd.func23, Tryd.ntmps23
  go_wp2_with fail
  refine (l02Asked_any _ _ s A c l d _ hF hD (hA.below hb0) hn hwf hs hd).mono ?_
  rintro e w1 ⟨rfl, hb1⟩
  have b1 := step_below hb1 hb0
  have F1 := hF.keep hb1
  have D1 := hD.keep hb1
  cases ha : askB s l d
  · simp only [codeI]
    have HX := hide (show fcL s l d = [] by simp [fcL, ha])
    have HC := hide (show fcX s l d = 1 by simp [fcX, ha])
    clear ha
    go_wp2
    go_ret3
    exact ⟨by rw [HC.out, HX.out]; rfl, b1⟩
  have hfa := ask_all ha
  obtain ⟨S, hSs⟩ : ∃ S : Nat, s = (S : Int) := ⟨s.toNat, by omega⟩
  have hS2 : 2 ≤ S ∧ S ≤ 96 := by omega
  have hSn : s.toNat = S := by omega
  simp only [codeI]
  have HX := hide (show fcL s l d = clsF S d l (pinsL d) by simp [fcL, ha, hSn])
  have HC := hide (show fcX s l d = fcC (clsF S d l (pinsL d)) by simp [fcX, ha, fcL, hSn])
  subst hSs
  have hl24 := hfa.2.1.2
  have HG1 := hide hfa.2.2.1
  have HV := hide hfa.2.2.2
  clear ha hfa hSn
  go_wp2_with fail
  refine (l02Clashes_any _ _ S A c l d _ F1 D1 (hA.below b1) hS2 hl24 HG1.out HV.out hd).mono ?_
  rintro e w2 ⟨A2, c2, rfl, own2, hb2⟩
  have b2 := step_below hb2 b1
  have hlen : (clsF S d l (pinsL d)).length ≤ 4000 := by
    have h1 := List.length_filter_le (fun p : Nat × Nat => nextB S d p.1 p.2 (hRe l p.2).toNat) (pinsL d)
    have h2 := pinsT_len d 96
    unfold clsF
    unfold pinsL at h1 ⊢
    omega
  obtain ⟨ps, hps⟩ : ∃ ps, clsF S d l (pinsL d) = ps := ⟨_, rfl⟩
  rw [hps] at HX HC hlen own2 ⊢
  clear hps
  cases ps with
  | nil =>
    go_wp2
    go_ret3
    exact ⟨by rw [HC.out, HX.out]; rfl, b2⟩
  | cons p ps =>
    obtain ⟨g2, hA2⟩ : ∃ g2, A2 = some ⟨g2, 0, none⟩ := by
      rcases own2.2 with ⟨h', h0⟩ | ⟨g, cap, cur, h', _⟩
      · simp at h0
      · simp only [Value.slice.injEq] at h'
        exact ⟨g, h'.1⟩
    subst hA2
    have hne : (((p :: ps).length : Int) == 0) = false := by simp; omega
    have hne2 : ((p :: ps).length == 0) = false := by simp
    have hpos : (0 : Int) < ((p :: ps).length : Int) := by simp
    have f1 := Later.cell ((own2.cellAt 0 (by simp)).trans (acells_even (p :: ps) 0 p rfl))
    have f2 := Later.cell ((own2.cellAt 1 (by simp; omega)).trans (acells_odd (p :: ps) 0 p rfl))
    have HC2 := hide (show fcX S l d = 0 by rw [HC.out]; rfl)
    obtain ⟨p1, p2⟩ := p
    have HA2 := hide (show fcA (fcL S l d) = (p1 : Int) by rw [HX.out]; rfl)
    have HB2 := hide (show fcB (fcL S l d) = (p2 : Int) by rw [HX.out]; rfl)
    obtain ⟨N, hN⟩ : ∃ N, ((p1, p2) :: ps).length = N := ⟨_, rfl⟩
    rw [hN] at hne hne2 hpos hlen ⊢
    dsimp only at f1 f2
    clear hN own2 HX HC
    have hsz := b2.size
    go_wp2_with fail
    refine wp_region_later (by kernel_rfl) (by kernel_rfl) ?_
    repeat (go_big_quiet_step (fail))
    refine wpQuiet_nil ?_
    rintro wz ⟨⟨_, hq⟩, rfl⟩
    go_wp2
    go_ret3
    exact ⟨by rw [HA2.out, HB2.out, HC2.out]; rfl, b2.trans (hq.mono hsz)⟩

theorem results_cell3 {fn : Func} {p q r : Tmp} (h : fn.results = #[.cell p 2, .cell q 2, .cell r 2]) {tmps : Array Value} {w : World} {b1 b2 b3 : Nat} {x y z : Int}
    (hp : tmps.getD p undef = .pointer (some ⟨b1, 0, none⟩)) (hq : tmps.getD q undef = .pointer (some ⟨b2, 0, none⟩)) (hr : tmps.getD r undef = .pointer (some ⟨b3, 0, none⟩))
    (c1 : Boxed w b1 2 (.int .i64 x)) (c2 : Boxed w b2 2 (.int .i64 y)) (c3 : Boxed w b3 2 (.int .i64 z)) :
    (results fn tmps).run Tryd.prog w = .ok (.tuple #[.int .i64 x, .int .i64 y, .int .i64 z]) w := by
  have d1 := c1.cell
  have d2 := c2.cell
  have d3 := c3.cell
  rw [Array.getD_eq_getD_getElem?] at hp hq hr
  simp [results, h, hp, hq, hr, go_sem, d1, d2, d3]
theorem bx_abide {B b : Nat} {t : TypeId} {v : Value} {X Y : World} {row : Option Nat} (h : Boxed X b t v) (hg : X.grownBy Y row) (hr : ∀ r, row = some r → B ≤ r ∧ ∃ o : Obj, X.heap[r]? = some o ∧ o.isCells = false) : Boxed Y b t v :=
  (boxed_own b t (fun _ : Unit => v)).from B () X Y row h hg hr
theorem fc_head {cd : Nat → Int} {x : PinOf cd} {ps : List (Nat × Nat)} (h : List.map (fun y : PinOf cd => y.1) [x] <+: ps) : ∃ qs, ps = x.1 :: qs := by
  obtain ⟨qs, h⟩ := h
  exact ⟨qs, by rw [← h]; rfl⟩
theorem bx_put {W : World} {b l : Nat} {t : TypeId} {v : Value} {o : Obj} (o' : Obj) (h : Boxed W b t v) (hl : W.heap[l]? = some o) (ho : o.isCells = false) : Boxed (W.putObj l o') b t v :=
  bx_abide (B := 0) h (grownBy_putObj' W l o') (fun r e => by cases e; exact ⟨Nat.zero_le _, o, hl, ho⟩)
theorem bx_keep {W W' : World} {b : Nat} {t : TypeId} {v : Value} (h : Boxed W b t v) (hb : Below W.heap.size W W') : Boxed W' b t v := (hb.block b h.lt).trans h
set_option maxHeartbeats 4000000 in
set_option maxRecDepth 100000 in
theorem implFirstClash_any (s : Int) (A : Option Addr) (c : Nat) (l : List (Int × Int)) (d : Nat → Int) (w : World) (hA : HA w A l) (hn : l.length ≤ 1048576) (hwf : HWF l) (hs : -32768 ≤ s ∧ s ≤ 32767) (hd : DWF d) (hT : TabW w) :
    Calls Tryd.prog 24 #[.agg #[.int .i16 s, .slice A l.length c], .agg (da d)] w (Trip (.int .i64 (fcA (fcL s l d))) (.int .i64 (fcB (fcL s l d))) (.int .i64 (fcX s l d)) w) := by
  have HR0 := hide (show Dr (((((w.alloc (.cells #[.int .i16 s, .slice A l.length c] 34)).alloc (.cells (da d) 36)).alloc (.cells #[.int .i64 0] 2)).alloc (.cells #[.int .i64 0] 2)).alloc (.cells #[.int .i64 0] 2)) (w.heap.size + 1) 36 d from heap_old' (heap_old' (heap_old' (heap_new' _ _ _ (by simp))))).range
  obtain ⟨X, hX⟩ : ∃ X, ((((w.alloc (.cells #[.int .i16 s, .slice A l.length c] 34)).alloc (.cells (da d) 36)).alloc (.cells #[.int .i64 0] 2)).alloc (.cells #[.int .i64 0] 2)).alloc (.cells #[.int .i64 0] 2) = X := ⟨_, rfl⟩
  have hb0 : Below w.heap.size w X := by rw [← hX]; exact (((((Below.refl _ _).alloc (Nat.le_refl _) _).alloc (by simp) _).alloc (by simp; omega) _).alloc (by simp; omega) _).alloc (by simp; omega) _
  have D0 : Dr X (w.heap.size + 1) 36 d := by rw [← hX]; exact heap_old' (heap_old' (heap_old' (heap_new' _ _ _ (by simp))))
  have P0 : Boxed X (w.heap.size + 1 + 1) 2 (.int .i64 0) := by rw [← hX]; exact heap_old' (heap_old' (heap_new' _ _ _ (by simp)))
  have Q0 : Boxed X (w.heap.size + 1 + 1 + 1) 2 (.int .i64 0) := by rw [← hX]; exact heap_old' (heap_new' _ _ _ (by simp))
  have R0 : Boxed X (w.heap.size + 1 + 1 + 1 + 1) 2 (.int .i64 0) := by rw [← hX]; exact heap_new' _ _ _ (by simp)
  have hXs : X.heap.size = w.heap.size + 1 + 1 + 1 + 1 + 1 := by rw [← hX]; simp
  have FX : FP X w.heap.size s A l.length c := by rw [← hX]; exact ⟨by simp [go_sem], by simp [go_sem]⟩
  have k1 := FX.1
  have k2 := FX.2
  have HXX := hide hX
  clear hX
  refine (callsIn_wide (n := 5)).1 ?_
  refine callsIn_of_wp_marks Tryd.func24 rfl trivial ?_ rfl
  simp only [Tryd.ntmps24, List.size_toArray, List.length_cons, List.length_nil, Nat.reduceAdd, Nat.reduceSub, Array.replicate_succ, Array.replicate_zero, List.push_toArray, List.append_toArray, List.nil_append, List.cons_append]
  refine wpIn_wide.2 ?_
  go_wp2_with (first | (with_reducible refine wpList_load_da rfl 36 (.tmp 3) rfl (w.heap.size + 1) 0 rfl d _ HR0.out Tryd.underlying36 rfl (dInfo d) ?_) | (with_reducible refine wpList_build1 rfl (.tmp 13) rfl d rfl ?_))
  rw [HXX.out]
  refine (machine1_any s A c l d X (hA.below hb0) hn hwf hs hd _ hXs.symm).mono ?_
  rintro e w2 ⟨rfl, hb2⟩
  have hx0 : Below X.heap.size X (X.alloc (.cells (da d) 36)) := (Below.refl _ _).alloc (Nat.le_refl _) _
  have b2 := step_below hb2 (hb0.alloc hb0.size (.cells (da d) 36))
  have hy : Below w2.heap.size w2 (w2.alloc (.cells #[.int .i64 s, .slice A l.length c] 78)) := (Below.refl _ _).alloc (Nat.le_refl _) _
  have b3 := b2.alloc b2.size (.cells #[.int .i64 s, .slice A l.length c] 78)
  have bX := step_below hy (step_below hb2 hx0)
  have D3 := D0.keep bX
  have P3 := bx_keep P0 bX
  have Q3 := bx_keep Q0 bX
  have R3 := bx_keep R0 bX
  have M3 : (w2.alloc (.cells #[.int .i64 s, .slice A l.length c] 78)).heap[w2.heap.size]? = some (.cells #[.int .i64 s, .slice A l.length c] 78 (0, 0)) := heap_alloc_new _ _
  have hs3 : w2.heap.size < (w2.alloc (.cells #[.int .i64 s, .slice A l.length c] 78)).heap.size := by simp
  have p1 := P3.cell
  have p2 := P3.frozen
  have q1 := Q3.cell
  have q2 := Q3.frozen
  have r1 := R3.cell
  have r2 := R3.frozen
  clear hx0 b2 hb2 hy bX k1 k2 FX D0 P0 Q0 R0 HR0
  cases ha : askB s l d
  · have HX := hide (show fcL s l d = [] by simp [fcL, ha])
    have HC := hide (show fcX s l d = 1 by simp [fcX, ha])
    clear ha
    go_wp2_with fail
    have e1 := (P3.set (.int .i64 0)).other (B' := w.heap.size + 1 + 1 + 1) (by omega) (.int .i64 0)
    have e2 := (Q3.other (B' := w.heap.size + 1 + 1) (by omega) (.int .i64 0)).set (.int .i64 0)
    have e3 := ((R3.other (B' := w.heap.size + 1 + 1) (by omega) (.int .i64 0)).other (B' := w.heap.size + 1 + 1 + 1) (by omega) (.int .i64 0)).set (.int .i64 1)
    refine bodyM_ret (results_cell3 rfl rfl rfl rfl (e1.other (B' := w.heap.size + 1 + 1 + 1 + 1) (by omega) (.int .i64 1)) (e2.other (B' := w.heap.size + 1 + 1 + 1 + 1) (by omega) (.int .i64 1)) e3) rfl ⟨by rw [HC.out, HX.out]; rfl, ?_⟩
    exact ((b3.setCell (p := ⟨_, 0, none⟩) (by dsimp only; omega) _).setCell (p := ⟨_, 0, none⟩) (by dsimp only; omega) _).setCell (p := ⟨_, 0, none⟩) (by dsimp only; omega) _
  have hfa := ask_all ha
  obtain ⟨S, hSs⟩ : ∃ S : Nat, s = (S : Int) := ⟨s.toNat, by omega⟩
  have hS2 : 2 ≤ S ∧ S ≤ 96 := by omega
  have hSn : s.toNat = S := by omega
  have hl24 := hfa.2.1.2
  have HG1 := hide hfa.2.2.1
  have HV := hide hfa.2.2.2
  have HX := hide (show fcL s l d = pinsL (clD S d l) by rw [clD_pins S d l hd]; simp [fcL, ha, hSn])
  have HC := hide (show fcX s l d = fcC (fcL s l d) by simp [fcX, ha])
  clear ha hfa hSn
  subst hSs
  have hTX := hT.keep b3
  have HR3 := hide D3.range
  clear p1 p2 q1 q2 r1 r2
  go_wp2_with (with_reducible refine wpList_load_da rfl 36 (.tmp 3) rfl (w.heap.size + 1) 0 rfl d _ HR3.out Tryd.underlying36 rfl (dInfo d) ?_)
  refine (clashes_any S A c l d _ (hA.below b3) hS2 hl24 HG1.out HV.out hd hTX).mono ?_
  rintro e w4 ⟨rfl, hb4⟩
  have b4 := step_below hb4 b3
  have P4 := bx_keep P3 hb4
  have Q4 := bx_keep Q3 hb4
  have R4 := bx_keep R3 hb4
  have hT4 := hT.keep b4
  obtain ⟨cd, hcd⟩ : ∃ cd, clD S d l = cd := ⟨_, rfl⟩
  have hcw : DWF cd := by rw [← hcd]; exact clD_wf S d l
  rw [hcd] at HX ⊢
  clear hcd HR3 D3 P3 Q3 R3
  go_wp2_with (go_at_call 51; refine (pins_call _ _).mono ?_; rintro e w5 ⟨rfl, rfl⟩)
  obtain ⟨W0, hW0⟩ : ∃ W0, (w4.alloc (.cells (da cd) 36)) = W0 := ⟨_, rfl⟩
  have hs0 : W0.heap.size = w4.heap.size + 1 := by rw [← hW0]; simp
  have hbW : Below w4.heap.size w4 W0 := by rw [← hW0]; exact al_below _ _
  have b5 := step_below hbW b4
  have P5 := bx_keep P4 hbW
  have Q5 := bx_keep Q4 hbW
  have R5 := bx_keep R4 hbW
  have DW : Dr W0 w4.heap.size 36 cd := by rw [← hW0]; exact heap_new' _ _ _ rfl
  have hTW : TabW W0 := hT4.keep hbW
  simp only [hW0]
  have hwX := b4.size
  have hR4l := R4.lt
  clear hbW P4 Q4 R4 hW0 hT4 hTX b3 hb4
  refine (wpIn_wide (n := 5)).1 ?_
  refine wpIn_rangeFunc_ownF rfl (by omega) (gf := 78) (lb := #[.pointer (some ⟨w4.heap.size, 0, none⟩)]) rfl trivial (enters_of Tryd.func78 (by kernel_rfl) rfl)
    (pins_stops (5 - 1) (by omega) w4.heap.size cd hcw W0 DW hTW)
    (fun h1 h2 h => h2 (h1 h)) (fun W r o o' _ ho hc _ h => TabW.kb r o' ho hc h) (Below.refl _ _) (fun _ => rfl)
    (fun pre W => ((((pre = [] ∧ Boxed W (w.heap.size + 1 + 1) 2 (.int .i64 0)) ∧ Boxed W (w.heap.size + 1 + 1 + 1) 2 (.int .i64 0)) ∧ Boxed W (w.heap.size + 1 + 1 + 1 + 1) 2 (.int .i64 0)) ∧ TabW W) ∧ Below w.heap.size w W)
    (fun cc pre W => cc = .ret ∧ ∃ x : PinOf cd, pre = [x] ∧ Boxed W (w.heap.size + 1 + 1) 2 (.int .i64 x.1.1) ∧ Boxed W (w.heap.size + 1 + 1 + 1) 2 (.int .i64 x.1.2) ∧ Boxed W (w.heap.size + 1 + 1 + 1 + 1) 2 (.int .i64 0) ∧ Below w.heap.size w W)
    (OwnFrom.and (OwnFrom.and (OwnFrom.and (OwnFrom.and (OwnFrom.and (ownFrom_pure _ _) ((boxed_own _ _ (fun _ => _)).from _)) ((boxed_own _ _ (fun _ => _)).from _)) ((boxed_own _ _ (fun _ => _)).from _)) (fun _ _ _ _ hs hg hr j hj => cell_kept (hs j hj) hg (fun r e => (hr r e).2))) (ownFrom_below (Nat.le_refl _) (by omega)))
    (fun _ s X Y row hs hg hr => by
      obtain ⟨hc, x, hx, h1, h2, h3, h4⟩ := hs
      exact ⟨hc, x, hx, bx_abide h1 hg hr, bx_abide h2 hg hr, bx_abide h3 hg hr, ownFrom_below (β := Unit) (Nat.le_refl _) (by omega) () X Y row h4 hg hr⟩)
    ⟨⟨⟨⟨⟨rfl, P5⟩, Q5⟩, R5⟩, hTW⟩, b5⟩ ?a1 ?assign ?body ?done ?stop
  case assign =>
    intro l x W K hK
    gi_wp2
    exact hK
  case body =>
    rintro r pre x W ⟨⟨⟨⟨⟨rfl, P6⟩, Q6⟩, R6⟩, hTb⟩, hBel⟩ hlen
    have p1 := P6.cell
    have p2 := P6.frozen
    have q1 := Q6.cell
    have q2 := Q6.frozen
    have r1 := R6.cell
    have r2 := R6.frozen
    have e1 := (P6.set (.int .i64 x.1.1)).other (B' := w.heap.size + 1 + 1 + 1) (by omega) (.int .i64 x.1.2)
    have e2 := (Q6.other (B' := w.heap.size + 1 + 1) (by omega) (.int .i64 x.1.1)).set (.int .i64 x.1.2)
    have e3 := ((R6.other (B' := w.heap.size + 1 + 1) (by omega) (.int .i64 x.1.1)).other (B' := w.heap.size + 1 + 1 + 1) (by omega) (.int .i64 x.1.2)).set (.int .i64 0)
    have E1 := hide (e1.other (B' := w.heap.size + 1 + 1 + 1 + 1) (by omega) (.int .i64 0))
    have E2 := hide (e2.other (B' := w.heap.size + 1 + 1 + 1 + 1) (by omega) (.int .i64 0))
    have E3 := hide e3
    clear e1 e2 e3 P6 Q6 R6
    gi_wp2
    exact ⟨((KeepsOthers.setCell _ _ _).trans (KeepsOthers.setCell _ _ _)).trans (KeepsOthers.setCell _ _ _), rfl, x, rfl, E1.out, E2.out, E3.out, ((hBel.setCell (p := ⟨_, 0, none⟩) (by dsimp only; omega) _).setCell (p := ⟨_, 0, none⟩) (by dsimp only; omega) _).setCell (p := ⟨_, 0, none⟩) (by dsimp only; omega) _⟩
  case done =>
    rintro D ys W hD hS ⟨⟨⟨⟨⟨rfl, P6⟩, Q6⟩, R6⟩, hTb⟩, hBel⟩ hK
    have HX0 := hide (show fcL S l d = [] by rw [HX.out, ← hS]; rfl)
    have p1 := P6.cell
    have p2 := P6.frozen
    have q1 := Q6.cell
    have q2 := Q6.frozen
    have r1 := R6.cell
    have r2 := R6.frozen
    have e1 := (P6.set (.int .i64 0)).other (B' := w.heap.size + 1 + 1 + 1) (by omega) (.int .i64 0)
    have e2 := (Q6.other (B' := w.heap.size + 1 + 1) (by omega) (.int .i64 0)).set (.int .i64 0)
    have e3 := ((R6.other (B' := w.heap.size + 1 + 1) (by omega) (.int .i64 0)).other (B' := w.heap.size + 1 + 1 + 1) (by omega) (.int .i64 0)).set (.int .i64 6)
    have E1 := hide (e1.other (B' := w.heap.size + 1 + 1 + 1 + 1) (by omega) (.int .i64 6))
    have E2 := hide (e2.other (B' := w.heap.size + 1 + 1 + 1 + 1) (by omega) (.int .i64 6))
    have E3 := hide e3
    clear e1 e2 e3 P6 Q6 R6 hS
    have hK3 := ((heap_setCell_other _ ⟨w.heap.size + 1 + 1 + 1 + 1, 0, none⟩ D (.int .i64 6) (by dsimp only; omega)).trans ((heap_setCell_other _ ⟨w.heap.size + 1 + 1 + 1, 0, none⟩ D (.int .i64 0) (by dsimp only; omega)).trans (heap_setCell_other W ⟨w.heap.size + 1 + 1, 0, none⟩ D (.int .i64 0) (by dsimp only; omega)))).trans hK
    have HK3 := hide hK3
    clear hK3 hK
    go_wp2_with fail
    refine ⟨by simp, .inl ⟨_, _, rfl, run_takeDeferred HK3.out, ?_⟩⟩
    refine ⟨_, results_cell3 rfl rfl rfl rfl (bx_put _ E1.out HK3.out rfl) (bx_put _ E2.out HK3.out rfl) (bx_put _ E3.out HK3.out rfl), ?_⟩
    refine ⟨by rw [HC.out, HX0.out]; rfl, ?_⟩
    exact (((hBel.setCell (p := ⟨_, 0, none⟩) (by dsimp only; omega) _).setCell (p := ⟨_, 0, none⟩) (by dsimp only; omega) _).setCell (p := ⟨_, 0, none⟩) (by dsimp only; omega) _).trans (belowK_b (w := w) (Nat.le_refl _) _ D _ _ (by omega) HK3.out rfl rfl)
  case stop =>
    rintro D cc pre W hD hSp ⟨rfl, x, rfl, P6, Q6, R6, hBel⟩ hK
    obtain ⟨qs, hqs⟩ := fc_head hSp
    have HX0 := hide (show fcL S l d = x.1 :: qs by rw [HX.out, hqs])
    clear hSp hqs
    refine (wpIn_wide (n := 5)).2 ?_
    go_wp2_with fail
    refine ⟨by simp, .inl ⟨_, _, rfl, run_takeDeferred hK, ?_⟩⟩
    refine ⟨_, results_cell3 rfl rfl rfl rfl (bx_put _ P6 hK rfl) (bx_put _ Q6 hK rfl) (bx_put _ R6 hK rfl), ?_⟩
    refine ⟨by rw [HC.out, HX0.out]; rfl, ?_⟩
    exact hBel.trans (belowK_b (w := w) (Nat.le_refl _) _ D _ _ (by omega) hK rfl rfl)
end Go.Proofs.YtcdjfflmgjpobaaDoor
