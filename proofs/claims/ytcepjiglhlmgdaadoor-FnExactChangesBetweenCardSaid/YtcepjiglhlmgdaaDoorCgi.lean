import Derived.Test.YtcepjiglhlmgdaaDoorGbj
namespace Go.Proofs.YtcepjiglhlmgdaaDoor
open Go.RowKit Go.Shelf
attribute [local go_sem] Oper.semAt_some
theorem cgC_app (l m : List (Int × Int × Bool)) : cgC (l ++ m) = cgC l ++ cgC m := by simp [cgC]
theorem run_append_cgn (w : World) (t : TypeId) (ht : Tryd.prog.underlying t = some (.slice 87)) (base : Nat) (i0 : TypeInfo) (hi : Tryd.prog.info? 87 = some i0)
    (hz0 : i0.zero = some (.agg #[.int .i16 0, .int .i8 0, .bool false])) (hz1 : i0.size = 3) (hz2 : i0.bytes = 4) (v : Value) (n : Nat) (xs : List Value) (hown : w.ownsRow base 87 3 v n xs) (A : Option Addr) (c : Nat) (l : List (Int × Int × Bool)) (hA : CgA w A l)
    (hn : n ≤ 4194304) (hl : l.length ≤ 4194304) (hb : base ≤ w.heap.size) :
    ∃ A' c' w', (∀ ty, (Builtin.append_ #[t, t] ty #[v, .slice A l.length c]).run Tryd.prog w = .ok (.slice A' (n + l.length) c') w') ∧ w'.ownsRow base 87 3 (.slice A' (n + l.length) c') (n + l.length) (xs ++ cgC l) ∧ w.grownBy w' v.ownBlock := by
  cases A with
  | none =>
    obtain ⟨Av, cv, rfl⟩ := own_shapeC hown
    obtain rfl := CgA.none hA
    refine ⟨Av, cv, w, fun ty => ?_, ?_, ?_⟩
    · exact run_append_none w t ty _ i0 ht hi base 3 n _ c xs _ hown rfl
    · simpa [cgC] using hown
    · exact ⟨rfl, rfl, rfl, Nat.le_refl _, fun _ _ _ => rfl⟩
  | some ad => exact run_append_cg w t ht base i0 hi hz0 hz1 hz2 v n xs hown ad c l hA hn hl hb
set_option maxRecDepth 20000 in
set_option maxHeartbeats 2000000 in
theorem specChangesBetween_any (s : Int) (A : Option Addr) (c : Nat) (l : List (Int × Int)) (a b : Nat → Int) (w : World) (hA : HA w A l) (hn : l.length ≤ 1048576) (hwf : HWF l) (hs : -32768 ≤ s ∧ s ≤ 32767) (ha : DWF a) (hb : DWF b) :
    Calls Tryd.prog 15 #[.agg #[.int .i16 s, .slice A l.length c], .agg (da a), .agg (da b)] w (OwnCC w (cbV s l a b) (codeI (ask2B s l a b))) := by
  obtain ⟨i0, hi, hz0, hz1, hz2⟩ := info_parts info87
  have hb0 : Below w.heap.size w (((w.alloc (.cells #[.int .i16 s, .slice A l.length c] 35)).alloc (.cells (da a) 49)).alloc (.cells (da b) 49)) := (((Below.refl _ _).alloc (Nat.le_refl _) _).alloc (by simp) _).alloc (by simp; omega) _
  have hF : FP (((w.alloc (.cells #[.int .i16 s, .slice A l.length c] 35)).alloc (.cells (da a) 49)).alloc (.cells (da b) 49)) w.heap.size s A l.length c := ⟨by simp [go_sem], by simp [go_sem]⟩
  have hD : Dr (((w.alloc (.cells #[.int .i16 s, .slice A l.length c] 35)).alloc (.cells (da a) 49)).alloc (.cells (da b) 49)) (w.heap.size + 1) 49 a := heap_old' (heap_new' _ _ _ (by simp))
  have hE : Dr (((w.alloc (.cells #[.int .i16 s, .slice A l.length c] 35)).alloc (.cells (da a) 49)).alloc (.cells (da b) 49)) (w.heap.size + 1 + 1) 49 b := heap_new' _ _ _ (by simp)
  go_enter Tryd.func15, Tryd.ntmps15
  go_wp2_with fail
  refine (l05Both_any _ _ _ s A c l a b _ hF (hA.below hb0) hn hwf hs hD hE ha hb).mono ?_
  rintro e w1 ⟨rfl, hb1⟩
  have b1 := step_below hb1 hb0
  cases hf : ask2B s l a b
  · have HX := hide (show cbV s l a b = [] by rw [cbV, hf]; rfl)
    have HC := hide (show codeI (ask2B s l a b) = 1 by rw [hf]; rfl)
    have hE1 : (w1.alloc (.cells #[] 87)).ownsRow w.heap.size 87 3 (.slice (some ⟨w1.heap.size, 0, none⟩) 0 0) 0 [] := own_emptyC _ _ b1.size
    have bE := b1.alloc b1.size (.cells #[] 87)
    clear hf
    simp only [codeI]
    go_wp2
    go_ret2
    exact ⟨_, _, by rw [HX.out, HC.out]; rfl, by rw [HX.out]; exact hE1, bE⟩
  · have HX := hide (show cbV s l a b = cbL a b by rw [cbV, hf]; rfl)
    have HC := hide (show codeI (ask2B s l a b) = 0 by rw [hf]; rfl)
    obtain ⟨q1, q2⟩ := ask2_ask hf
    have K1 := fun W h1 h2 => l05Changes_any (w.heap.size + 1 + 1) (w.heap.size + 1) false b a W h1 h2 (fun k t hk hp => (cb_in ha hb q1 hk hp).2.2)
    have K2 := fun W h1 h2 => l05Changes_any (w.heap.size + 1) (w.heap.size + 1 + 1) true a b W h1 h2 (fun k t hk hp => (cb_in hb ha q2 hk hp).2.2)
    have n1 : (chgL (pinsL (mvD a b)) false).length ≤ 4000 := by rw [chgL_len]; exact pinsL_len _
    have n2 : (chgL (pinsL (mvD b a)) true).length ≤ 4000 := by rw [chgL_len]; exact pinsL_len _
    rw [cbL] at HX
    obtain ⟨L2, hL2⟩ : ∃ L2, L2 = chgL (pinsL (mvD a b)) false := ⟨_, rfl⟩
    obtain ⟨L3, hL3⟩ : ∃ L3, L3 = chgL (pinsL (mvD b a)) true := ⟨_, rfl⟩
    rw [← hL2] at K1 n1 HX
    rw [← hL3] at K2 n2 HX
    have D1 := hD.keep hb1
    have E1 := hE.keep hb1
    clear hf hL2 hL3 q1 q2 hF hD hE hb0 hb1
    simp only [codeI]
    go_wp2_with fail
    refine (K1 w1 E1 D1).mono ?_
    rintro e w2 ⟨A2, c2, rfl, own2, hb2⟩
    go_wp2_with fail
    refine (K2 w2 (D1.keep hb2) (E1.keep hb2)).mono ?_
    rintro e w3 ⟨A3, c3, rfl, own3, hb3⟩
    have own2' := own_keep own2 hb3
    have hs13 : w1.heap.size ≤ w3.heap.size := Nat.le_trans hb2.size hb3.size
    have bs1 := b1.size
    have hbw3 := step_below hb3 (step_below hb2 b1)
    obtain ⟨A4, c4, w4, hr4, own4, gr4⟩ := run_append_cgn w3 46 Tryd.underlying46 w1.heap.size i0 hi hz0 hz1 hz2 _ _ _ own2' A3 c3 L3 (CgA.of_own own3) (by omega) (by omega) hs13
    have b4 : Below w.heap.size w w4 := hbw3.grown gr4 hbw3.size (fun j hj => Nat.le_trans bs1 (own2'.lt j hj).1)
    have own4' := own_base own4 bs1
    clear K1 K2 D1 E1 own2 own2' own3 own4 gr4 hb2 hb3 hbw3 b1
    go_wp2_with (at_builtin; refine Lib.wpList_append_run _ rfl _ _ _ _ rfl _ _ rfl rfl _ _ (hr4 _) ?_)
    go_ret2
    exact ⟨A4, c4, by rw [HX.out, HC.out, List.length_append]; rfl, by rw [HX.out, List.length_append, cgC_app]; exact own4', b4⟩
theorem built2 (q r : Nat → Int) : Tryd.prog.built 82 [(0, .agg (da q)), (1, .agg (da r))] = some (da q ++ da r) := by
  obtain ⟨it, hit, hz⟩ := Option.map_eq_some_iff.1 (show (Tryd.prog.info? 82).map (fun i => i.zero.map (·.cells.size)) = some (some 192) from by kernel_rfl)
  obtain ⟨z, hz1, hz2⟩ := Option.map_eq_some_iff.1 hz
  obtain ⟨ie, hie, hs⟩ := Option.map_eq_some_iff.1 (show (Tryd.prog.info? 49).map (·.size) = some 96 from by kernel_rfl)
  have hf := Great.fill_whole (s := 96) (by omega) [.agg (da q), .agg (da r)] z.cells (fun v hv => by simp at hv; rcases hv with rfl | rfl <;> exact da_size _) (by simp [hz2])
  have e2 : (([.agg (da q), .agg (da r)] : List Value).flatMap fun v => v.cells.toList).toArray = da q ++ da r := by simp [Value.cells]
  rw [e2] at hf
  unfold Program.built
  simp only [hit, Tryd.underlying82, hz1, hie, hs]
  exact hf
theorem ex_left (q r : Nat → Int) : (da q).extract 0 96 ++ (da r).extract 0 (96 - (da q).size) = da q := by
  have h1 := da_size q
  apply Array.ext'
  simp [h1, Array.toList_extract, List.take_of_length_le]
theorem ex_right (q r : Nat → Int) : (da q).extract 96 192 ++ (da r).extract (96 - (da q).size) (192 - (da q).size) = da r := by
  have h1 := da_size q
  have h2 := da_size r
  apply Array.ext'
  simp [h1, h2, Array.toList_extract, List.take_of_length_le, List.drop_of_length_le]
theorem dr_own {B g : Nat} {t : TypeId} {d : Nat → Int} {X Y : World} {row : Option Nat} (h : Dr X g t d) (hg : X.grownBy Y row) (hr : ∀ r, row = some r → B ≤ r ∧ ∃ o : Obj, X.heap[r]? = some o ∧ o.isCells = false) : Dr Y g t d :=
  (hg.block g (Array.getElem?_eq_some_iff.1 h).1 fun e => by
    obtain ⟨_, o, ho, hc⟩ := hr g e.symm
    rw [show X.heap[g]? = _ from h] at ho
    cases ho
    cases hc).trans h
theorem dr_grow {g : Nat} {t : TypeId} {d : Nat → Int} {X Y : World} {row : Option Nat} (h : Dr X g t d) (hg : X.grownBy Y row) (hr : some g ≠ row) : Dr Y g t d := (hg.block g (Array.getElem?_eq_some_iff.1 h).1 hr).trans h
theorem bxc_keep {W W' : World} {b : Nat} {t : TypeId} {v : Value} (h : Boxed W b t v) (hb : Below W.heap.size W W') : Boxed W' b t v := (hb.block b h.lt).trans h
theorem kon_belowC {W W' : World} (hb : Below W.heap.size W W') : KeepsOthers W W' := ⟨hb.size, fun k _ hk _ => (hb.block k (Array.getElem?_eq_some_iff.1 hk).1).trans hk⟩
theorem quiet_build2 {o : Oper} {a : Act} {C : World → Prop} {K : Act → Prop} (x y : Operand) (ho : o.op = .build 82 #[(0, x), (1, y)]) (q r : Nat → Int) (hx : a.eval x = .agg (da q)) (hy : a.eval y = .agg (da r))
    (h : K (a.put o.dst (.agg (da q ++ da r)))) : o.quiet Tryd.prog a C K := by
  have hb : Tryd.prog.built 82 ((#[(0, x), (1, y)] : Array (Nat × Operand)).map fun (p : Nat × Operand) => (p.1, a.eval p.2)).toList = some (da q ++ da r) := by
    have := built2 q r
    simpa [hx, hy] using this
  exact ⟨.agg (da q ++ da r), fun w hw => by
    unfold Oper.quietAt execOp
    simp only [ho, Sem.run_bind, run_build w _ _ _ hb, Result.andThen_ok, Sem.run_pure]
    exact ⟨rfl, rfl⟩, h⟩
theorem index2 (q r : Nat → Int) (k : Nat) (hk : k < 2) (w : World) : (Instr.index 82 (.agg (da q ++ da r)) (.int .i64 k)).run Tryd.prog w = .ok (.agg (da (if k = 0 then q else r))) w := by
  obtain ⟨ie, hie, hs⟩ := Option.map_eq_some_iff.1 (show (Tryd.prog.info? 49).map (·.size) = some 96 from by kernel_rfl)
  have hsz : (sizeOf 49).run Tryd.prog w = .ok 96 w := by simp [sizeOf, typeInfo, hie, hs]
  have hk2 : k = 0 ∨ k = 1 := by omega
  rcases hk2 with rfl | rfl
  · simp [Instr.index, asIntOf, run_underlying Tryd.underlying82, hsz, part, run_underlying Tryd.underlying49, isAgg, underlying, Tryd.underlying49]
    exact ex_left q r
  · simp [Instr.index, asIntOf, run_underlying Tryd.underlying82, hsz, part, run_underlying Tryd.underlying49, isAgg, underlying, Tryd.underlying49]
    exact ex_right q r

set_option maxRecDepth 100000 in
set_option maxHeartbeats 8000000 in
theorem implChangesBetween_any (s : Int) (A : Option Addr) (c : Nat) (l : List (Int × Int)) (a b : Nat → Int) (w : World) (hA : HA w A l) (hn : l.length ≤ 1048576) (hwf : HWF l) (hs : -32768 ≤ s ∧ s ≤ 32767) (ha : DWF a) (hb : DWF b) (hT : TabW w) :
    Calls Tryd.prog 17 #[.agg #[.int .i16 s, .slice A l.length c], .agg (da a), .agg (da b)] w (OwnCC w (cbV s l a b) (codeI (ask2B s l a b))) := by
  obtain ⟨i0, hi, hz0, hz1, hz2⟩ := info_parts info87
  have hz := zeroDrum
  obtain ⟨X, hX⟩ : ∃ X, X = ((w.alloc (.cells #[.int .i16 s, .slice A l.length c] 35)).alloc (.cells (da a) 49)).alloc (.cells (da b) 49) := ⟨_, rfl⟩
  have b0 : Below w.heap.size w X := by rw [hX]; exact (((Below.refl _ _).alloc (Nat.le_refl _) _).alloc (by simp) _).alloc (by simp; omega) _
  have FX : FP X w.heap.size s A l.length c := by rw [hX]; exact ⟨by simp [go_sem], by simp [go_sem]⟩
  have hD : Dr X (w.heap.size + 1) 49 a := by rw [hX]; exact heap_old' (heap_new' _ _ _ (by simp))
  have hE : Dr X (w.heap.size + 1 + 1) 49 b := by rw [hX]; exact heap_new' _ _ _ (by simp)
  have hXs : X.heap.size = w.heap.size + 1 + 1 + 1 := by rw [hX]; simp
  have HRa := hide hD.range
  have HRb := hide hE.range
  have k1 := FX.1
  have k2 := FX.2
  have HXX := hide hX
  have hzd1 : za.size = (da (mvD a b)).size := by rw [za_eq, da_size, da_size]
  have hzd2 : za.size = (da (mvD b a)).size := by rw [za_eq, da_size, da_size]
  clear hX
  refine (callsIn_wide (n := 5)).1 ?_
  refine callsIn_of_wp_marks Tryd.func17 rfl trivial ?_ rfl
  simp only [Tryd.ntmps17, List.size_toArray, List.length_cons, List.length_nil, Nat.reduceAdd, Nat.reduceSub, Array.replicate_succ, Array.replicate_zero, List.push_toArray, List.append_toArray, List.nil_append, List.cons_append]
  refine wpIn_wide.2 ?_
  go_upto_region 1 with fail
  rw [← HXX.out]
  go_wp2_with (first | (with_reducible refine wpList_load_da rfl 49 (.tmp 4) rfl (w.heap.size + 1) 0 rfl a _ HRa.out Tryd.underlying49 rfl (dInfo a) ?_) | (with_reducible refine wpList_load_da rfl 49 (.tmp 5) rfl (w.heap.size + 1 + 1) 0 rfl b _ HRb.out Tryd.underlying49 rfl (dInfo b) ?_) | (with_reducible refine wpList_build2 rfl (.tmp 17) (.tmp 18) rfl a b rfl rfl ?_))
  refine (machine2_any s A c l a b X (hA.below b0) hn hwf hs ha hb _ hXs.symm).mono ?_
  rintro e w2 ⟨rfl, hb2⟩
  have hx0 : Below X.heap.size X (X.alloc (.cells (da a ++ da b) 49)) := (Below.refl _ _).alloc (Nat.le_refl _) _
  have b2 := step_below hb2 (b0.alloc b0.size (.cells (da a ++ da b) 49))
  have hXw2 : Below X.heap.size X w2 := hx0.trans (hb2.mono hx0.size)
  have D2 := hD.keep hXw2
  have E2 := hE.keep hXw2
  obtain ⟨Y, hY⟩ : ∃ Y, Y = w2.alloc (.cells #[.int .i64 s, .slice A l.length c] 65) := ⟨_, rfl⟩
  have hy : Below w2.heap.size w2 Y := by rw [hY]; exact (Below.refl _ _).alloc (Nat.le_refl _) _
  have b3 : Below w.heap.size w Y := step_below hy b2
  have D3 := D2.keep hy
  have E3 := E2.keep hy
  go_upto_region 2 with fail
  rw [← hY]
  clear hY hx0 b2 hb2 hy hXw2 D2 E2 k1 k2 FX hD hE HRa HRb HXX hXs
  cases hf : ask2B s l a b
  · have HX := hide (show cbV s l a b = [] by rw [cbV, hf]; rfl)
    have HC := hide (show codeI (ask2B s l a b) = 1 by rw [hf]; rfl)
    clear hf
    go_wp2_with fail
    exact bodyM_ret (results_tmp2 (fn := Tryd.f17) rfl _ _ _) rfl ⟨none, 0, by rw [HX.out, HC.out]; rfl, by rw [HX.out]; exact World.ownsRow_nil _ _ _ _, b3⟩
  have HX := hide (show cbV s l a b = chgL (pinsL (mvD a b)) false ++ chgL (pinsL (mvD b a)) true by rw [cbV, hf]; rfl)
  have HC := hide (show codeI (ask2B s l a b) = 0 by rw [hf]; rfl)
  obtain ⟨q1, q2⟩ := ask2_ask hf
  have G1 := hide (show ∀ k t, k < 96 → pinB (mvD a b) k t = true → t < 24 ∧ (!pinB a k t) = false from fun k t hk hp => by
    refine ⟨(cb_in ha hb q1 hk hp).2.2, ?_⟩
    rw [mvD_pin ha hb hk, onlB, Bool.and_eq_true] at hp
    rw [hp.1]; rfl)
  have G2 := hide (show ∀ k t, k < 96 → pinB (mvD b a) k t = true → t < 24 ∧ (!pinB a k t) = true from fun k t hk hp => by
    refine ⟨(cb_in hb ha q2 hk hp).2.2, ?_⟩
    rw [mvD_pin hb ha hk, onlB, Bool.and_eq_true] at hp
    simpa using hp.2)
  have w1 := mv_wf a b
  have w2' := mv_wf b a
  have n1 := pinsL_len (mvD a b)
  have n2 := pinsL_len (mvD b a)
  obtain ⟨u, hu⟩ : ∃ u, u = mvD a b := ⟨_, rfl⟩
  obtain ⟨u2, hu2⟩ : ∃ u2, u2 = mvD b a := ⟨_, rfl⟩
  have M1 : ∀ W, Calls Tryd.prog 36 #[.agg (da a), .agg (da b)] W fun e w' => e = .returned (.agg (da u)) ∧ Below W.heap.size W w' := fun W => by rw [hu]; exact minus_any a b W
  have M2 : ∀ W, Calls Tryd.prog 36 #[.agg (da b), .agg (da a)] W fun e w' => e = .returned (.agg (da u2)) ∧ Below W.heap.size W w' := fun W => by rw [hu2]; exact minus_any b a W
  rw [← hu] at HX G1 w1 n1 hzd1
  rw [← hu2] at HX G2 w2' n2 hzd2
  have hbl := built2 u u2
  have I0 : ∀ W, (Instr.index 82 (.agg (da u ++ da u2)) (.int .i64 0)).run Tryd.prog W = .ok (.agg (da u)) W := fun W => index2 u u2 0 (by omega) W
  have I1 : ∀ W, (Instr.index 82 (.agg (da u ++ da u2)) (.int .i64 1)).run Tryd.prog W = .ok (.agg (da u2)) W := fun W => index2 u u2 1 (by omega) W
  have hX2 : w.heap.size + 1 + 1 < Y.heap.size := by have := E3.lt; omega
  clear hf q1 q2 hu hu2
  go_upto_region 5 with fail
  obtain ⟨Z, hZ⟩ : ∃ Z, Z = Y.alloc (.cells #[.slice none 0 0] 46) := ⟨_, rfl⟩
  obtain ⟨gl, hgl⟩ : ∃ gl, gl = Y.heap.size := ⟨_, rfl⟩
  have hz1' : Below Y.heap.size Y Z := by rw [hZ]; exact (Below.refl _ _).alloc (Nat.le_refl _) _
  have b4 := step_below hz1' b3
  have D4 := D3.keep hz1'
  have E4 := E3.keep hz1'
  have Bx4 : Boxed Z gl 46 (.slice none 0 0) := by rw [hZ, hgl]; exact heap_alloc_new _ _
  rw [← hZ, ← hgl]
  rw [← hgl] at hX2
  clear hZ hgl D3 E3 hz1' b3
  have LDa := hide D4.later
  have LDb := hide E4.later
  go_wp2_with fail
  refine wp_region_later (by kernel_rfl) (by kernel_rfl) ?_
  repeat (first | (go_big_quiet_want; with_reducible refine quiet_load_da 49 (.tmp 4) rfl (.pointer (some ⟨w.heap.size + 1, 0, none⟩)) rfl (.agg (da a)) (by rintro _ ⟨p, rfl⟩; exact LDa.out p) ?_; go_simp; go_big_quiet_on) | (go_big_quiet_want; with_reducible refine quiet_load_da 49 (.tmp 5) rfl (.pointer (some ⟨w.heap.size + 1 + 1, 0, none⟩)) rfl (.agg (da b)) (by rintro _ ⟨p, rfl⟩; exact LDb.out p) ?_; go_simp; go_big_quiet_on) | go_big_quiet_step (first | (go_at_call 36; with_reducible exact Later.call (M1 _)) | (go_at_call 36; with_reducible exact Later.call (M2 _))) | (go_big_quiet_want; refine quiet_build2 (.tmp 27) (.tmp 30) rfl u u2 rfl rfl ?_; go_simp; go_big_quiet_on))
  refine wpQuiet_nil ?_
  rintro W5 ⟨⟨_, hq5⟩, rfl⟩
  have b5 := step_below hq5 b4
  have D5 := D4.keep hq5
  have Bx5 : Boxed W5 gl 46 (.slice none 0 0) := bxc_keep Bx4 hq5
  have T5 := hT.keep b5
  clear LDa LDb D4 E4 Bx4 hq5 b4 M1 M2 hbl
  go_wp2_with fail
  refine wp_loop_rounds 3 ?_
  rw [rounds_succ]
  have HV1 := hide (show Dr (W5.alloc (.cells (da u) 49)) W5.heap.size 49 u from heap_new' _ _ _ rfl).range
  go_wp2_with (first | (with_reducible refine wpList_store_new rfl 49 (.tmp 12) (.tmp 34) rfl u rfl rfl 49 _ (dInfo u) hzd1 ?_) | (with_reducible refine wpList_load_da rfl 49 (.tmp 12) rfl W5.heap.size 0 rfl u _ HV1.out Tryd.underlying49 rfl (dInfo u) ?_) | (go_at_call 37; refine (pins_call _ _).mono ?_; rintro e w5 ⟨rfl, rfl⟩))
  obtain ⟨V1, hV1⟩ : ∃ V, V = (W5.alloc (.cells (da u) 49)).alloc (.cells (da u) 49) := ⟨_, rfl⟩
  have hbV1 : Below W5.heap.size W5 V1 := by rw [hV1]; exact ((Below.refl _ _).alloc (Nat.le_refl _) _).alloc (by simp) _
  have DW1 : Dr V1 (W5.heap.size + 1) 49 u := by rw [hV1]; exact heap_new' _ _ _ (by simp)
  have bw1 := step_below hbV1 b5
  have DV1 := D5.keep hbV1
  have TV1 := T5.keep hbV1
  have BxV1 := bxc_keep Bx5 hbV1
  rw [← hV1]
  clear hV1 HV1
  have gl1 : gl < V1.heap.size := BxV1.lt
  refine (wpIn_wide (n := 5)).1 ?_
  refine wpIn_rangeFunc_ownF rfl (by omega) (gf := 59) (lb := #[.pointer (some ⟨W5.heap.size + 1, 0, none⟩)]) rfl trivial (enters_of Tryd.func59 (by kernel_rfl) rfl)
    (pins_stops (5 - 1) (by omega) (W5.heap.size + 1) u w1 V1 DW1 TV1)
    (fun h1 h2 h => h2 (h1 h)) (fun W r o o' _ ho hc _ h => TabW.kb r o' ho hc h) (Below.refl _ _) (fun _ => rfl)
    (fun pre W => (((∃ v, Boxed W gl 46 v ∧ W.ownsRow gl 87 3 v (([] : List (Int × Int × Bool)).length + pre.length) (cgC (([] : List (Int × Int × Bool)) ++ chgL (pre.map fun x : PinOf u => x.1) false)) ∧ True) ∧ Dr W (w.heap.size + 1) 49 a) ∧ TabW W) ∧ Below w.heap.size w W)
    (fun _ _ _ => False)
    (OwnFrom.and (OwnFrom.and (OwnFrom.and ((holdsRow_own gl gl 46 87 3 (fun pre : List (PinOf u) => ([] : List (Int × Int × Bool)).length + pre.length) (fun pre : List (PinOf u) => cgC (([] : List (Int × Int × Bool)) ++ chgL (pre.map fun x : PinOf u => x.1) false)) (fun _ _ => True)).from _) (fun _ _ _ _ hs hg hr => dr_own hs hg hr)) (fun _ _ _ _ hs hg hr j hj => cell_kept (hs j hj) hg (fun r e => (hr r e).2))) (ownFrom_below (Nat.le_refl _) (by have := bw1.size; omega)))
    (fun _ _ _ _ _ hs _ _ => hs)
    ⟨⟨⟨⟨_, BxV1, ⟨rfl, Or.inl ⟨rfl, rfl⟩⟩, trivial⟩, DV1⟩, TV1⟩, bw1⟩ ?a1 ?assign1 ?body1 ?done1 ?stop1
  case assign1 =>
    intro l x W K hK
    gi_wp2
    exact hK
  case stop1 =>
    rintro D c pre W _ _ h _
    exact h.elim
  case body1 =>
    rintro r pre x W ⟨⟨⟨⟨v, hv, hown, -⟩, hDa⟩, hTb⟩, hBel⟩ hlen
    obtain ⟨⟨k, t⟩, hx1, hx2, hx3⟩ := x
    dsimp only at hx1 hx2 hx3
    obtain ⟨g1, g2⟩ := G1.out k t hx1 hx3
    obtain ⟨A1, c1, rfl⟩ := own_shapeC hown
    obtain ⟨LP, hLP⟩ : ∃ LP, LP = ([] : List (Int × Int × Bool)) ++ chgL (pre.map fun x : PinOf u => x.1) false := ⟨_, rfl⟩
    have hNN : ([] : List (Int × Int × Bool)).length + (pre ++ [(⟨(k, t), hx1, hx2, hx3⟩ : PinOf u)]).length = ([] : List (Int × Int × Bool)).length + pre.length + 1 := by simp <;> omega
    have HSN := hide (show ([] : List (Int × Int × Bool)) ++ chgL ((pre ++ [(⟨(k, t), hx1, hx2, hx3⟩ : PinOf u)]).map fun x : PinOf u => x.1) false = LP ++ [((k : Int), (t : Int), false)] by rw [hLP, List.map_append, List.map_cons, List.map_nil, chgL_snoc, List.append_assoc])
    rw [← hLP] at hown
    have KC : ∀ W', Calls Tryd.prog 38 #[.agg (da a), .int .i64 k, .int .i64 t] W' fun e w' => e = .returned (.agg #[.int .i16 k, .int .i8 t, .bool false]) ∧ Below W'.heap.size W' w' := fun W' => by rw [← g2]; exact changeAt_at k t a W' hx1 g1 ha
    obtain ⟨N, hN⟩ : ∃ N, ([] : List (Int × Int × Bool)).length + pre.length = N := ⟨_, rfl⟩
    rw [hN] at hown hNN hv
    have HNN := hide hNN
    have hN9 : N ≤ 9000 := by rw [← hN]; simp only [List.length_nil]; omega
    clear hN hLP hNN g2 hlen
    have hglW : gl < W.heap.size := hv.lt
    refine wpIn_block ?_
    have hd0 : Below W.heap.size W W.drew := (Below.refl _ _).drew
    refine wpIn_region_held_drew (S := fun w' => w'.rangeAt (w.heap.size + 1) 0 (dv a)) (by kernel_rfl) (by kernel_rfl) ?hq ((hDa.keep hd0).range) fun hS1 => ?_
    case hq => rintro ⟨_, _, h⟩; exact h
    have bx1 := bxc_keep hv hd0
    have ow1 := own_keep hown hd0
    have T1 := hTb.keep hd0
    have D1 := hDa.keep hd0
    have hb1 := hd0
    generalize W.drew = W1 at *
    refine wpAnyH_take (i := 1) rfl (by kernel_rfl) (by kernel_rfl) (by kernel_rfl) (fun _ _ _ h => h) (yieldsIf_load_mid (by rfl) _ _ rfl (w.heap.size + 1) 0 rfl (dv a) _ (fun _ h => h) Tryd.underlying49 rfl (dInfo a)) hS1 ?_
    change wpAnyH _ _ _ _ _ _ _ (Act.put _ (some 40) _) _
    simp only [Act.put, List.setIfInBounds_toArray, List.set_cons_zero, List.set_cons_succ]
    refine wpAnyH_take (i := 2) (v := .int .i64 (k : Int)) rfl (by kernel_rfl) (by kernel_rfl) (by kernel_rfl) (fun _ _ _ h => h) (Or.inl ⟨by rfl, fun w' _ => by go_simp⟩) hS1 ?_
    change wpAnyH _ _ _ _ _ _ _ (Act.put _ (some 41) _) _
    simp only [Act.put, List.setIfInBounds_toArray, List.set_cons_zero, List.set_cons_succ]
    refine wpAnyH_take (i := 3) (v := .int .i64 (t : Int)) rfl (by kernel_rfl) (by kernel_rfl) (by kernel_rfl) (fun _ _ _ h => h) (Or.inl ⟨by rfl, fun w' _ => by go_simp⟩) hS1 ?_
    change wpAnyH _ _ _ _ _ _ _ (Act.put _ (some 42) _) _
    simp only [Act.put, List.setIfInBounds_toArray, List.set_cons_zero, List.set_cons_succ]
    refine wpAnyH_ready (rs := [0, 4]) (by kernel_rfl) (by simp) (AllReadyH.cons rfl ?_ (AllReadyH.cons rfl ?_ AllReadyH.nil))
    · intro K hK
      have pc0 := bx1.cell
      rw [if_pos (by rfl)]
      go_simp
      refine hK.out _ _ hS1 (fun hS2 => ?_)
      clear hK K pc0
      try (change wpAnyH _ _ _ _ _ _ _ (Act.put _ (some 39) _) _)
      try simp only [Act.put, List.setIfInBounds_toArray, List.set_cons_zero, List.set_cons_succ]
      refine wpAnyH_ready (rs := [4]) (by kernel_rfl) (by simp) (AllReadyH.cons rfl ?_ AllReadyH.nil)
      · intro K hK
        rw [if_pos (by rfl)]
        go_simp
        refine (KC _).mono ?_
        rintro e w6 ⟨rfl, hb6'⟩
        have bx6 := bxc_keep bx1 hb6'
        have ow6 := own_keep ow1 hb6'
        have T6 := T1.keep hb6'
        have D6 := D1.keep hb6'
        have hb6 := hb1.trans (hb6'.mono hb1.size)
        have hs6 := hb6.size
        refine hK.out _ _ D6.range (fun hS4 => ?_)
        clear hK K
        try (change wpAnyH _ _ _ _ _ _ _ (Act.put _ (some 43) _) _)
        try simp only [Act.put, List.setIfInBounds_toArray, List.set_cons_zero, List.set_cons_succ]
        refine wpAnyH_ready (rs := [5]) (by kernel_rfl) (by simp) (AllReadyH.cons rfl ?_ AllReadyH.nil)
        · intro K hK
          rw [if_pos (by rfl)]
          go_simp
          have hb7' := al_below w6 (.cells #[.int .i16 (k : Int), .int .i8 (t : Int), .bool false] 87)
          have D6a := D6.keep hb7'
          have bx7 := bxc_keep bx6 hb7'
          refine hK.out _ _ D6a.range (fun hS5 => ?_)
          clear hK K
          try (change wpAnyH _ _ _ _ _ _ _ (Act.put _ (some 44) _) _)
          try simp only [Act.put, List.setIfInBounds_toArray, List.set_cons_zero, List.set_cons_succ]
          refine wpAnyH_ready (rs := [6]) (by kernel_rfl) (by simp) (AllReadyH.cons rfl ?_ AllReadyH.nil)
          have own7 := ow6.alloc (.cells #[.int .i16 (k : Int), .int .i8 (t : Int), .bool false] 87)
          have hnew := cell_three_new w6 (.int .i16 (k : Int)) (.int .i8 (t : Int)) (.bool false) 87
          intro K hK
          rw [if_pos (by rfl)]
          refine wp_append_own _ (.tmp 39) (.tmp 44) 46 rfl gl 87 i0 (.agg #[.int .i16 0, .int .i8 0, .bool false]) 3 4 Tryd.underlying46 hi hz0 hz1 hz2 rfl (by decide) _ _ _ rfl own7 ⟨w6.heap.size, 0, none⟩ 1 1 [.int .i16 (k : Int), .int .i8 (t : Int), .bool false] rfl rfl hnew (fun x hx => by simp at hx; rcases hx with rfl | rfl | rfl <;> rfl) (by unfold maxLen; omega) (by omega) (by have := bx6.lt; simp; omega) ?_
          intro v8 w8 hown8 hgrow8 hnil8
          obtain ⟨A8, c8, rfl⟩ := own_shapeC hown8
          have hgl8 := bx6.lt
          obtain ⟨u1, u2, u3, u4, u5⟩ := bx6.appended (by decide) ow6 (by omega) (Nat.le_refl _) hown8 hgrow8
          have hX2' : w.heap.size + 1 < gl := by omega
          have m8 := dr_grow D6a hgrow8 (fun e => by have h := (own7.lt (w.heap.size + 1) e.symm).1; omega)
          refine hK.out _ _ m8.range (fun hS8 => ?_)
          clear hK K
          try (change wpAnyH _ _ _ _ _ _ _ (Act.put _ (some 45) _) _)
          try simp only [Act.put, List.setIfInBounds_toArray, List.set_cons_zero, List.set_cons_succ]
          refine wpAnyH_ready (rs := [7]) (by kernel_rfl) (by simp) (AllReadyH.cons rfl ?_ AllReadyH.nil)
          have f2 := u1.cell
          have f3 := u1.frozen
          intro K hK
          rw [if_pos (by rfl)]
          go_simp
          have m9 := m8.other (k := 0) (show w.heap.size + 1 ≠ gl by omega) (.slice A8 (N + 1) c8)
          refine hK.out _ _ m9.range (fun hS9 => ?_)
          clear hK K f2 f3
          refine wpAnyH_done (by kernel_rfl) ?_ _
          have T9 : TabW (w8.setCell ⟨gl, 0, none⟩ (.slice A8 (N + 1) c8)) := fun j hj => (u5.cell (p := ⟨_, j, none⟩) (by have := hT.lt; dsimp only; omega)).trans (T6 j hj)
          refine ⟨(kon_belowC hb6).trans u4, fun _ => T9, ⟨⟨⟨_, u2, ?_, trivial⟩, m9⟩, T9⟩, (step_below hb6 hBel).trans (u5.mono (by have := bw1.size; omega))⟩
          · rw [HSN.out, cgC_snoc, HNN.out]
            exact u3
    · intro K hK
      rw [if_pos (by rfl)]
      go_simp
      refine (KC _).mono ?_
      rintro e w6 ⟨rfl, hb6'⟩
      have bx6 := bxc_keep bx1 hb6'
      have ow6 := own_keep ow1 hb6'
      have T6 := T1.keep hb6'
      have D6 := D1.keep hb6'
      have hb6 := hb1.trans (hb6'.mono hb1.size)
      have hs6 := hb6.size
      refine hK.out _ _ D6.range (fun hS4 => ?_)
      clear hK K
      try (change wpAnyH _ _ _ _ _ _ _ (Act.put _ (some 43) _) _)
      try simp only [Act.put, List.setIfInBounds_toArray, List.set_cons_zero, List.set_cons_succ]
      refine wpAnyH_ready (rs := [0, 5]) (by kernel_rfl) (by simp) (AllReadyH.cons rfl ?_ (AllReadyH.cons rfl ?_ AllReadyH.nil))
      · intro K hK
        have pc0 := bx6.cell
        rw [if_pos (by rfl)]
        go_simp
        refine hK.out _ _ D6.range (fun hS2 => ?_)
        clear hK K pc0
        try (change wpAnyH _ _ _ _ _ _ _ (Act.put _ (some 39) _) _)
        try simp only [Act.put, List.setIfInBounds_toArray, List.set_cons_zero, List.set_cons_succ]
        refine wpAnyH_ready (rs := [5]) (by kernel_rfl) (by simp) (AllReadyH.cons rfl ?_ AllReadyH.nil)
        · intro K hK
          rw [if_pos (by rfl)]
          go_simp
          have hb7' := al_below w6 (.cells #[.int .i16 (k : Int), .int .i8 (t : Int), .bool false] 87)
          have D6a := D6.keep hb7'
          have bx7 := bxc_keep bx6 hb7'
          refine hK.out _ _ D6a.range (fun hS5 => ?_)
          clear hK K
          try (change wpAnyH _ _ _ _ _ _ _ (Act.put _ (some 44) _) _)
          try simp only [Act.put, List.setIfInBounds_toArray, List.set_cons_zero, List.set_cons_succ]
          refine wpAnyH_ready (rs := [6]) (by kernel_rfl) (by simp) (AllReadyH.cons rfl ?_ AllReadyH.nil)
          have own7 := ow6.alloc (.cells #[.int .i16 (k : Int), .int .i8 (t : Int), .bool false] 87)
          have hnew := cell_three_new w6 (.int .i16 (k : Int)) (.int .i8 (t : Int)) (.bool false) 87
          intro K hK
          rw [if_pos (by rfl)]
          refine wp_append_own _ (.tmp 39) (.tmp 44) 46 rfl gl 87 i0 (.agg #[.int .i16 0, .int .i8 0, .bool false]) 3 4 Tryd.underlying46 hi hz0 hz1 hz2 rfl (by decide) _ _ _ rfl own7 ⟨w6.heap.size, 0, none⟩ 1 1 [.int .i16 (k : Int), .int .i8 (t : Int), .bool false] rfl rfl hnew (fun x hx => by simp at hx; rcases hx with rfl | rfl | rfl <;> rfl) (by unfold maxLen; omega) (by omega) (by have := bx6.lt; simp; omega) ?_
          intro v8 w8 hown8 hgrow8 hnil8
          obtain ⟨A8, c8, rfl⟩ := own_shapeC hown8
          have hgl8 := bx6.lt
          obtain ⟨u1, u2, u3, u4, u5⟩ := bx6.appended (by decide) ow6 (by omega) (Nat.le_refl _) hown8 hgrow8
          have hX2' : w.heap.size + 1 < gl := by omega
          have m8 := dr_grow D6a hgrow8 (fun e => by have h := (own7.lt (w.heap.size + 1) e.symm).1; omega)
          refine hK.out _ _ m8.range (fun hS8 => ?_)
          clear hK K
          try (change wpAnyH _ _ _ _ _ _ _ (Act.put _ (some 45) _) _)
          try simp only [Act.put, List.setIfInBounds_toArray, List.set_cons_zero, List.set_cons_succ]
          refine wpAnyH_ready (rs := [7]) (by kernel_rfl) (by simp) (AllReadyH.cons rfl ?_ AllReadyH.nil)
          have f2 := u1.cell
          have f3 := u1.frozen
          intro K hK
          rw [if_pos (by rfl)]
          go_simp
          have m9 := m8.other (k := 0) (show w.heap.size + 1 ≠ gl by omega) (.slice A8 (N + 1) c8)
          refine hK.out _ _ m9.range (fun hS9 => ?_)
          clear hK K f2 f3
          refine wpAnyH_done (by kernel_rfl) ?_ _
          have T9 : TabW (w8.setCell ⟨gl, 0, none⟩ (.slice A8 (N + 1) c8)) := fun j hj => (u5.cell (p := ⟨_, j, none⟩) (by have := hT.lt; dsimp only; omega)).trans (T6 j hj)
          refine ⟨(kon_belowC hb6).trans u4, fun _ => T9, ⟨⟨⟨_, u2, ?_, trivial⟩, m9⟩, T9⟩, (step_below hb6 hBel).trans (u5.mono (by have := bw1.size; omega))⟩
          · rw [HSN.out, cgC_snoc, HNN.out]
            exact u3
      · intro K hK
        rw [if_pos (by rfl)]
        go_simp
        have hb7' := al_below w6 (.cells #[.int .i16 (k : Int), .int .i8 (t : Int), .bool false] 87)
        have D6a := D6.keep hb7'
        have bx7 := bxc_keep bx6 hb7'
        refine hK.out _ _ D6a.range (fun hS5 => ?_)
        clear hK K
        try (change wpAnyH _ _ _ _ _ _ _ (Act.put _ (some 44) _) _)
        try simp only [Act.put, List.setIfInBounds_toArray, List.set_cons_zero, List.set_cons_succ]
        refine wpAnyH_ready (rs := [0]) (by kernel_rfl) (by simp) (AllReadyH.cons rfl ?_ AllReadyH.nil)
        · intro K hK
          have pc0 := bx7.cell
          rw [if_pos (by rfl)]
          go_simp
          refine hK.out _ _ D6a.range (fun hS2 => ?_)
          clear hK K pc0
          try (change wpAnyH _ _ _ _ _ _ _ (Act.put _ (some 39) _) _)
          try simp only [Act.put, List.setIfInBounds_toArray, List.set_cons_zero, List.set_cons_succ]
          refine wpAnyH_ready (rs := [6]) (by kernel_rfl) (by simp) (AllReadyH.cons rfl ?_ AllReadyH.nil)
          have own7 := ow6.alloc (.cells #[.int .i16 (k : Int), .int .i8 (t : Int), .bool false] 87)
          have hnew := cell_three_new w6 (.int .i16 (k : Int)) (.int .i8 (t : Int)) (.bool false) 87
          intro K hK
          rw [if_pos (by rfl)]
          refine wp_append_own _ (.tmp 39) (.tmp 44) 46 rfl gl 87 i0 (.agg #[.int .i16 0, .int .i8 0, .bool false]) 3 4 Tryd.underlying46 hi hz0 hz1 hz2 rfl (by decide) _ _ _ rfl own7 ⟨w6.heap.size, 0, none⟩ 1 1 [.int .i16 (k : Int), .int .i8 (t : Int), .bool false] rfl rfl hnew (fun x hx => by simp at hx; rcases hx with rfl | rfl | rfl <;> rfl) (by unfold maxLen; omega) (by omega) (by have := bx6.lt; simp; omega) ?_
          intro v8 w8 hown8 hgrow8 hnil8
          obtain ⟨A8, c8, rfl⟩ := own_shapeC hown8
          have hgl8 := bx6.lt
          obtain ⟨u1, u2, u3, u4, u5⟩ := bx6.appended (by decide) ow6 (by omega) (Nat.le_refl _) hown8 hgrow8
          have hX2' : w.heap.size + 1 < gl := by omega
          have m8 := dr_grow D6a hgrow8 (fun e => by have h := (own7.lt (w.heap.size + 1) e.symm).1; omega)
          refine hK.out _ _ m8.range (fun hS8 => ?_)
          clear hK K
          try (change wpAnyH _ _ _ _ _ _ _ (Act.put _ (some 45) _) _)
          try simp only [Act.put, List.setIfInBounds_toArray, List.set_cons_zero, List.set_cons_succ]
          refine wpAnyH_ready (rs := [7]) (by kernel_rfl) (by simp) (AllReadyH.cons rfl ?_ AllReadyH.nil)
          have f2 := u1.cell
          have f3 := u1.frozen
          intro K hK
          rw [if_pos (by rfl)]
          go_simp
          have m9 := m8.other (k := 0) (show w.heap.size + 1 ≠ gl by omega) (.slice A8 (N + 1) c8)
          refine hK.out _ _ m9.range (fun hS9 => ?_)
          clear hK K f2 f3
          refine wpAnyH_done (by kernel_rfl) ?_ _
          have T9 : TabW (w8.setCell ⟨gl, 0, none⟩ (.slice A8 (N + 1) c8)) := fun j hj => (u5.cell (p := ⟨_, j, none⟩) (by have := hT.lt; dsimp only; omega)).trans (T6 j hj)
          refine ⟨(kon_belowC hb6).trans u4, fun _ => T9, ⟨⟨⟨_, u2, ?_, trivial⟩, m9⟩, T9⟩, (step_below hb6 hBel).trans (u5.mono (by have := bw1.size; omega))⟩
          · rw [HSN.out, cgC_snoc, HNN.out]
            exact u3
  case done1 =>
    rintro K1 ys W7 hD1 hS1 ⟨⟨⟨⟨v7, Bx7, own7, -⟩, D7⟩, T7⟩, b7⟩ K7
    have hl1 : ([] : List (Int × Int × Bool)).length + ys.length = (chgL (pinsL u) false).length := by rw [chgL_len, ← hS1, List.length_map]; simp
    rw [hS1, hl1, List.nil_append] at own7
    obtain ⟨A7, c7, rfl⟩ := own_shapeC own7
    have hn1 : (chgL (pinsL u) false).length ≤ 4000 := by rw [chgL_len]; exact n1
    obtain ⟨L1, hL1⟩ : ∃ L1, L1 = chgL (pinsL u) false := ⟨_, rfl⟩
    rw [← hL1] at own7 hn1 HX Bx7
    clear hS1 hl1 hL1 G1
    go_wp2_with fail
    rw [rounds_succ]
    have HV2 := hide (show Dr (W7.alloc (.cells (da u2) 49)) W7.heap.size 49 u2 from heap_new' _ _ _ rfl).range
    go_wp2_with (first | (with_reducible refine wpList_store_new rfl 49 (.tmp 12) (.tmp 34) rfl u2 rfl rfl 49 _ (dInfo u2) hzd2 ?_) | (with_reducible refine wpList_load_da rfl 49 (.tmp 12) rfl W7.heap.size 0 rfl u2 _ HV2.out Tryd.underlying49 rfl (dInfo u2) ?_) | (go_at_call 37; refine (pins_call _ _).mono ?_; rintro e w5 ⟨rfl, rfl⟩))
    obtain ⟨V2, hV2⟩ : ∃ V, V = (W7.alloc (.cells (da u2) 49)).alloc (.cells (da u2) 49) := ⟨_, rfl⟩
    have hbV2 : Below W7.heap.size W7 V2 := by rw [hV2]; exact ((Below.refl _ _).alloc (Nat.le_refl _) _).alloc (by simp) _
    have DW2 : Dr V2 (W7.heap.size + 1) 49 u2 := by rw [hV2]; exact heap_new' _ _ _ (by simp)
    have bw2 := step_below hbV2 b7
    have DV2 := D7.keep hbV2
    have TV2 := T7.keep hbV2
    have BxV2 := bxc_keep Bx7 hbV2
    rw [← hV2]
    clear hV2 HV2
    have gl2 : gl < V2.heap.size := BxV2.lt
    have ow2 := own_keep own7 hbV2
    have KV2 := (hbV2.block _ (Array.getElem?_eq_some_iff.1 K7).1).trans K7
    have kl2 : K1 < V2.heap.size := (Array.getElem?_eq_some_iff.1 KV2).1
    refine (wpIn_wide (n := 5)).1 ?_
    refine wpIn_rangeFunc_ownF rfl (by omega) (gf := 59) (lb := #[.pointer (some ⟨W7.heap.size + 1, 0, none⟩)]) rfl trivial (enters_of Tryd.func59 (by kernel_rfl) rfl)
      (pins_stops (5 - 1) (by omega) (W7.heap.size + 1) u2 w2' V2 DW2 TV2)
      (fun h1 h2 h => h2 (h1 h)) (fun W r o o' _ ho hc _ h => TabW.kb r o' ho hc h) (Below.refl _ _) (fun _ => rfl)
      (fun pre W => (((∃ v, Boxed W gl 46 v ∧ W.ownsRow gl 87 3 v (L1.length + pre.length) (cgC (L1 ++ chgL (pre.map fun x : PinOf u2 => x.1) true)) ∧ True) ∧ Dr W (w.heap.size + 1) 49 a ∧ W.heap[K1]? = some (.deferred (some []))) ∧ TabW W) ∧ Below w.heap.size w W)
      (fun _ _ _ => False)
      (OwnFrom.and (OwnFrom.and (OwnFrom.and ((holdsRow_own gl gl 46 87 3 (fun pre : List (PinOf u2) => L1.length + pre.length) (fun pre : List (PinOf u2) => cgC (L1 ++ chgL (pre.map fun x : PinOf u2 => x.1) true)) (fun _ _ => True)).from _) (OwnFrom.and (fun _ _ _ _ hs hg hr => dr_own hs hg hr) (fun _ _ _ _ hs hg hr => (hg.block K1 (Array.getElem?_eq_some_iff.1 hs).1 (fun e => by have := (hr K1 e.symm).1; omega)).trans hs))) (fun _ _ _ _ hs hg hr j hj => cell_kept (hs j hj) hg (fun r e => (hr r e).2))) (ownFrom_below (Nat.le_refl _) (by have := bw2.size; omega)))
      (fun _ _ _ _ _ hs _ _ => hs)
      ⟨⟨⟨⟨_, BxV2, by simpa [chgL] using ow2, trivial⟩, ⟨DV2, KV2⟩⟩, TV2⟩, bw2⟩ ?a2 ?assign2 ?body2 ?done2 ?stop2
    case assign2 =>
      intro l x W K hK
      gi_wp2
      exact hK
    case stop2 =>
      rintro D c pre W _ _ h _
      exact h.elim
    case body2 =>
      rintro r pre x W ⟨⟨⟨⟨v, hv, hown, -⟩, hDa, hK1⟩, hTb⟩, hBel⟩ hlen
      obtain ⟨⟨k, t⟩, hx1, hx2, hx3⟩ := x
      dsimp only at hx1 hx2 hx3
      obtain ⟨g1, g2⟩ := G2.out k t hx1 hx3
      obtain ⟨A1, c1, rfl⟩ := own_shapeC hown
      obtain ⟨LP, hLP⟩ : ∃ LP, LP = L1 ++ chgL (pre.map fun x : PinOf u2 => x.1) true := ⟨_, rfl⟩
      have hNN : L1.length + (pre ++ [(⟨(k, t), hx1, hx2, hx3⟩ : PinOf u2)]).length = L1.length + pre.length + 1 := by simp <;> omega
      have HSN := hide (show L1 ++ chgL ((pre ++ [(⟨(k, t), hx1, hx2, hx3⟩ : PinOf u2)]).map fun x : PinOf u2 => x.1) true = LP ++ [((k : Int), (t : Int), true)] by rw [hLP, List.map_append, List.map_cons, List.map_nil, chgL_snoc, List.append_assoc])
      rw [← hLP] at hown
      have KC : ∀ W', Calls Tryd.prog 38 #[.agg (da a), .int .i64 k, .int .i64 t] W' fun e w' => e = .returned (.agg #[.int .i16 k, .int .i8 t, .bool true]) ∧ Below W'.heap.size W' w' := fun W' => by rw [← g2]; exact changeAt_at k t a W' hx1 g1 ha
      obtain ⟨N, hN⟩ : ∃ N, L1.length + pre.length = N := ⟨_, rfl⟩
      rw [hN] at hown hNN hv
      have HNN := hide hNN
      have hN9 : N ≤ 9000 := by rw [← hN]; omega
      clear hN hLP hNN g2 hlen
      have hglW : gl < W.heap.size := hv.lt
      refine wpIn_block ?_
      have hd0 : Below W.heap.size W W.drew := (Below.refl _ _).drew
      refine wpIn_region_held_drew (S := fun w' => w'.rangeAt (w.heap.size + 1) 0 (dv a)) (by kernel_rfl) (by kernel_rfl) ?hq ((hDa.keep hd0).range) fun hS1 => ?_
      case hq => rintro ⟨_, _, h⟩; exact h
      have bx1 := bxc_keep hv hd0
      have ow1 := own_keep hown hd0
      have T1 := hTb.keep hd0
      have D1 := hDa.keep hd0
      have hb1 := hd0
      generalize W.drew = W1 at *
      refine wpAnyH_take (i := 1) rfl (by kernel_rfl) (by kernel_rfl) (by kernel_rfl) (fun _ _ _ h => h) (yieldsIf_load_mid (by rfl) _ _ rfl (w.heap.size + 1) 0 rfl (dv a) _ (fun _ h => h) Tryd.underlying49 rfl (dInfo a)) hS1 ?_
      change wpAnyH _ _ _ _ _ _ _ (Act.put _ (some 40) _) _
      simp only [Act.put, List.setIfInBounds_toArray, List.set_cons_zero, List.set_cons_succ]
      refine wpAnyH_take (i := 2) (v := .int .i64 (k : Int)) rfl (by kernel_rfl) (by kernel_rfl) (by kernel_rfl) (fun _ _ _ h => h) (Or.inl ⟨by rfl, fun w' _ => by go_simp⟩) hS1 ?_
      change wpAnyH _ _ _ _ _ _ _ (Act.put _ (some 41) _) _
      simp only [Act.put, List.setIfInBounds_toArray, List.set_cons_zero, List.set_cons_succ]
      refine wpAnyH_take (i := 3) (v := .int .i64 (t : Int)) rfl (by kernel_rfl) (by kernel_rfl) (by kernel_rfl) (fun _ _ _ h => h) (Or.inl ⟨by rfl, fun w' _ => by go_simp⟩) hS1 ?_
      change wpAnyH _ _ _ _ _ _ _ (Act.put _ (some 42) _) _
      simp only [Act.put, List.setIfInBounds_toArray, List.set_cons_zero, List.set_cons_succ]
      refine wpAnyH_ready (rs := [0, 4]) (by kernel_rfl) (by simp) (AllReadyH.cons rfl ?_ (AllReadyH.cons rfl ?_ AllReadyH.nil))
      · intro K hK
        have pc0 := bx1.cell
        rw [if_pos (by rfl)]
        go_simp
        refine hK.out _ _ hS1 (fun hS2 => ?_)
        clear hK K pc0
        try (change wpAnyH _ _ _ _ _ _ _ (Act.put _ (some 39) _) _)
        try simp only [Act.put, List.setIfInBounds_toArray, List.set_cons_zero, List.set_cons_succ]
        refine wpAnyH_ready (rs := [4]) (by kernel_rfl) (by simp) (AllReadyH.cons rfl ?_ AllReadyH.nil)
        · intro K hK
          rw [if_pos (by rfl)]
          go_simp
          refine (KC _).mono ?_
          rintro e w6 ⟨rfl, hb6'⟩
          have bx6 := bxc_keep bx1 hb6'
          have ow6 := own_keep ow1 hb6'
          have T6 := T1.keep hb6'
          have D6 := D1.keep hb6'
          have hb6 := hb1.trans (hb6'.mono hb1.size)
          have hs6 := hb6.size
          refine hK.out _ _ D6.range (fun hS4 => ?_)
          clear hK K
          try (change wpAnyH _ _ _ _ _ _ _ (Act.put _ (some 43) _) _)
          try simp only [Act.put, List.setIfInBounds_toArray, List.set_cons_zero, List.set_cons_succ]
          refine wpAnyH_ready (rs := [5]) (by kernel_rfl) (by simp) (AllReadyH.cons rfl ?_ AllReadyH.nil)
          · intro K hK
            rw [if_pos (by rfl)]
            go_simp
            have hb7' := al_below w6 (.cells #[.int .i16 (k : Int), .int .i8 (t : Int), .bool true] 87)
            have D6a := D6.keep hb7'
            have bx7 := bxc_keep bx6 hb7'
            refine hK.out _ _ D6a.range (fun hS5 => ?_)
            clear hK K
            try (change wpAnyH _ _ _ _ _ _ _ (Act.put _ (some 44) _) _)
            try simp only [Act.put, List.setIfInBounds_toArray, List.set_cons_zero, List.set_cons_succ]
            refine wpAnyH_ready (rs := [6]) (by kernel_rfl) (by simp) (AllReadyH.cons rfl ?_ AllReadyH.nil)
            have own7 := ow6.alloc (.cells #[.int .i16 (k : Int), .int .i8 (t : Int), .bool true] 87)
            have hnew := cell_three_new w6 (.int .i16 (k : Int)) (.int .i8 (t : Int)) (.bool true) 87
            intro K hK
            rw [if_pos (by rfl)]
            refine wp_append_own _ (.tmp 39) (.tmp 44) 46 rfl gl 87 i0 (.agg #[.int .i16 0, .int .i8 0, .bool false]) 3 4 Tryd.underlying46 hi hz0 hz1 hz2 rfl (by decide) _ _ _ rfl own7 ⟨w6.heap.size, 0, none⟩ 1 1 [.int .i16 (k : Int), .int .i8 (t : Int), .bool true] rfl rfl hnew (fun x hx => by simp at hx; rcases hx with rfl | rfl | rfl <;> rfl) (by unfold maxLen; omega) (by omega) (by have := bx6.lt; simp; omega) ?_
            intro v8 w8 hown8 hgrow8 hnil8
            obtain ⟨A8, c8, rfl⟩ := own_shapeC hown8
            have hgl8 := bx6.lt
            obtain ⟨u1, u2, u3, u4, u5⟩ := bx6.appended (by decide) ow6 (by omega) (Nat.le_refl _) hown8 hgrow8
            have hX2' : w.heap.size + 1 < gl := by omega
            have m8 := dr_grow D6a hgrow8 (fun e => by have h := (own7.lt (w.heap.size + 1) e.symm).1; omega)
            refine hK.out _ _ m8.range (fun hS8 => ?_)
            clear hK K
            try (change wpAnyH _ _ _ _ _ _ _ (Act.put _ (some 45) _) _)
            try simp only [Act.put, List.setIfInBounds_toArray, List.set_cons_zero, List.set_cons_succ]
            refine wpAnyH_ready (rs := [7]) (by kernel_rfl) (by simp) (AllReadyH.cons rfl ?_ AllReadyH.nil)
            have f2 := u1.cell
            have f3 := u1.frozen
            intro K hK
            rw [if_pos (by rfl)]
            go_simp
            have m9 := m8.other (k := 0) (show w.heap.size + 1 ≠ gl by omega) (.slice A8 (N + 1) c8)
            refine hK.out _ _ m9.range (fun hS9 => ?_)
            clear hK K f2 f3
            refine wpAnyH_done (by kernel_rfl) ?_ _
            have T9 : TabW (w8.setCell ⟨gl, 0, none⟩ (.slice A8 (N + 1) c8)) := fun j hj => (u5.cell (p := ⟨_, j, none⟩) (by have := hT.lt; dsimp only; omega)).trans (T6 j hj)
            refine ⟨(kon_belowC hb6).trans u4, fun _ => T9, ⟨⟨⟨_, u2, ?_, trivial⟩, ⟨m9, ?_⟩⟩, T9⟩, (step_below hb6 hBel).trans (u5.mono (by have := bw2.size; omega))⟩
            · rw [HSN.out, cgC_snoc, HNN.out]
              exact u3
            · exact ((kon_belowC hb6).trans u4).2 K1 _ hK1 rfl
      · intro K hK
        rw [if_pos (by rfl)]
        go_simp
        refine (KC _).mono ?_
        rintro e w6 ⟨rfl, hb6'⟩
        have bx6 := bxc_keep bx1 hb6'
        have ow6 := own_keep ow1 hb6'
        have T6 := T1.keep hb6'
        have D6 := D1.keep hb6'
        have hb6 := hb1.trans (hb6'.mono hb1.size)
        have hs6 := hb6.size
        refine hK.out _ _ D6.range (fun hS4 => ?_)
        clear hK K
        try (change wpAnyH _ _ _ _ _ _ _ (Act.put _ (some 43) _) _)
        try simp only [Act.put, List.setIfInBounds_toArray, List.set_cons_zero, List.set_cons_succ]
        refine wpAnyH_ready (rs := [0, 5]) (by kernel_rfl) (by simp) (AllReadyH.cons rfl ?_ (AllReadyH.cons rfl ?_ AllReadyH.nil))
        · intro K hK
          have pc0 := bx6.cell
          rw [if_pos (by rfl)]
          go_simp
          refine hK.out _ _ D6.range (fun hS2 => ?_)
          clear hK K pc0
          try (change wpAnyH _ _ _ _ _ _ _ (Act.put _ (some 39) _) _)
          try simp only [Act.put, List.setIfInBounds_toArray, List.set_cons_zero, List.set_cons_succ]
          refine wpAnyH_ready (rs := [5]) (by kernel_rfl) (by simp) (AllReadyH.cons rfl ?_ AllReadyH.nil)
          · intro K hK
            rw [if_pos (by rfl)]
            go_simp
            have hb7' := al_below w6 (.cells #[.int .i16 (k : Int), .int .i8 (t : Int), .bool true] 87)
            have D6a := D6.keep hb7'
            have bx7 := bxc_keep bx6 hb7'
            refine hK.out _ _ D6a.range (fun hS5 => ?_)
            clear hK K
            try (change wpAnyH _ _ _ _ _ _ _ (Act.put _ (some 44) _) _)
            try simp only [Act.put, List.setIfInBounds_toArray, List.set_cons_zero, List.set_cons_succ]
            refine wpAnyH_ready (rs := [6]) (by kernel_rfl) (by simp) (AllReadyH.cons rfl ?_ AllReadyH.nil)
            have own7 := ow6.alloc (.cells #[.int .i16 (k : Int), .int .i8 (t : Int), .bool true] 87)
            have hnew := cell_three_new w6 (.int .i16 (k : Int)) (.int .i8 (t : Int)) (.bool true) 87
            intro K hK
            rw [if_pos (by rfl)]
            refine wp_append_own _ (.tmp 39) (.tmp 44) 46 rfl gl 87 i0 (.agg #[.int .i16 0, .int .i8 0, .bool false]) 3 4 Tryd.underlying46 hi hz0 hz1 hz2 rfl (by decide) _ _ _ rfl own7 ⟨w6.heap.size, 0, none⟩ 1 1 [.int .i16 (k : Int), .int .i8 (t : Int), .bool true] rfl rfl hnew (fun x hx => by simp at hx; rcases hx with rfl | rfl | rfl <;> rfl) (by unfold maxLen; omega) (by omega) (by have := bx6.lt; simp; omega) ?_
            intro v8 w8 hown8 hgrow8 hnil8
            obtain ⟨A8, c8, rfl⟩ := own_shapeC hown8
            have hgl8 := bx6.lt
            obtain ⟨u1, u2, u3, u4, u5⟩ := bx6.appended (by decide) ow6 (by omega) (Nat.le_refl _) hown8 hgrow8
            have hX2' : w.heap.size + 1 < gl := by omega
            have m8 := dr_grow D6a hgrow8 (fun e => by have h := (own7.lt (w.heap.size + 1) e.symm).1; omega)
            refine hK.out _ _ m8.range (fun hS8 => ?_)
            clear hK K
            try (change wpAnyH _ _ _ _ _ _ _ (Act.put _ (some 45) _) _)
            try simp only [Act.put, List.setIfInBounds_toArray, List.set_cons_zero, List.set_cons_succ]
            refine wpAnyH_ready (rs := [7]) (by kernel_rfl) (by simp) (AllReadyH.cons rfl ?_ AllReadyH.nil)
            have f2 := u1.cell
            have f3 := u1.frozen
            intro K hK
            rw [if_pos (by rfl)]
            go_simp
            have m9 := m8.other (k := 0) (show w.heap.size + 1 ≠ gl by omega) (.slice A8 (N + 1) c8)
            refine hK.out _ _ m9.range (fun hS9 => ?_)
            clear hK K f2 f3
            refine wpAnyH_done (by kernel_rfl) ?_ _
            have T9 : TabW (w8.setCell ⟨gl, 0, none⟩ (.slice A8 (N + 1) c8)) := fun j hj => (u5.cell (p := ⟨_, j, none⟩) (by have := hT.lt; dsimp only; omega)).trans (T6 j hj)
            refine ⟨(kon_belowC hb6).trans u4, fun _ => T9, ⟨⟨⟨_, u2, ?_, trivial⟩, ⟨m9, ?_⟩⟩, T9⟩, (step_below hb6 hBel).trans (u5.mono (by have := bw2.size; omega))⟩
            · rw [HSN.out, cgC_snoc, HNN.out]
              exact u3
            · exact ((kon_belowC hb6).trans u4).2 K1 _ hK1 rfl
        · intro K hK
          rw [if_pos (by rfl)]
          go_simp
          have hb7' := al_below w6 (.cells #[.int .i16 (k : Int), .int .i8 (t : Int), .bool true] 87)
          have D6a := D6.keep hb7'
          have bx7 := bxc_keep bx6 hb7'
          refine hK.out _ _ D6a.range (fun hS5 => ?_)
          clear hK K
          try (change wpAnyH _ _ _ _ _ _ _ (Act.put _ (some 44) _) _)
          try simp only [Act.put, List.setIfInBounds_toArray, List.set_cons_zero, List.set_cons_succ]
          refine wpAnyH_ready (rs := [0]) (by kernel_rfl) (by simp) (AllReadyH.cons rfl ?_ AllReadyH.nil)
          · intro K hK
            have pc0 := bx7.cell
            rw [if_pos (by rfl)]
            go_simp
            refine hK.out _ _ D6a.range (fun hS2 => ?_)
            clear hK K pc0
            try (change wpAnyH _ _ _ _ _ _ _ (Act.put _ (some 39) _) _)
            try simp only [Act.put, List.setIfInBounds_toArray, List.set_cons_zero, List.set_cons_succ]
            refine wpAnyH_ready (rs := [6]) (by kernel_rfl) (by simp) (AllReadyH.cons rfl ?_ AllReadyH.nil)
            have own7 := ow6.alloc (.cells #[.int .i16 (k : Int), .int .i8 (t : Int), .bool true] 87)
            have hnew := cell_three_new w6 (.int .i16 (k : Int)) (.int .i8 (t : Int)) (.bool true) 87
            intro K hK
            rw [if_pos (by rfl)]
            refine wp_append_own _ (.tmp 39) (.tmp 44) 46 rfl gl 87 i0 (.agg #[.int .i16 0, .int .i8 0, .bool false]) 3 4 Tryd.underlying46 hi hz0 hz1 hz2 rfl (by decide) _ _ _ rfl own7 ⟨w6.heap.size, 0, none⟩ 1 1 [.int .i16 (k : Int), .int .i8 (t : Int), .bool true] rfl rfl hnew (fun x hx => by simp at hx; rcases hx with rfl | rfl | rfl <;> rfl) (by unfold maxLen; omega) (by omega) (by have := bx6.lt; simp; omega) ?_
            intro v8 w8 hown8 hgrow8 hnil8
            obtain ⟨A8, c8, rfl⟩ := own_shapeC hown8
            have hgl8 := bx6.lt
            obtain ⟨u1, u2, u3, u4, u5⟩ := bx6.appended (by decide) ow6 (by omega) (Nat.le_refl _) hown8 hgrow8
            have hX2' : w.heap.size + 1 < gl := by omega
            have m8 := dr_grow D6a hgrow8 (fun e => by have h := (own7.lt (w.heap.size + 1) e.symm).1; omega)
            refine hK.out _ _ m8.range (fun hS8 => ?_)
            clear hK K
            try (change wpAnyH _ _ _ _ _ _ _ (Act.put _ (some 45) _) _)
            try simp only [Act.put, List.setIfInBounds_toArray, List.set_cons_zero, List.set_cons_succ]
            refine wpAnyH_ready (rs := [7]) (by kernel_rfl) (by simp) (AllReadyH.cons rfl ?_ AllReadyH.nil)
            have f2 := u1.cell
            have f3 := u1.frozen
            intro K hK
            rw [if_pos (by rfl)]
            go_simp
            have m9 := m8.other (k := 0) (show w.heap.size + 1 ≠ gl by omega) (.slice A8 (N + 1) c8)
            refine hK.out _ _ m9.range (fun hS9 => ?_)
            clear hK K f2 f3
            refine wpAnyH_done (by kernel_rfl) ?_ _
            have T9 : TabW (w8.setCell ⟨gl, 0, none⟩ (.slice A8 (N + 1) c8)) := fun j hj => (u5.cell (p := ⟨_, j, none⟩) (by have := hT.lt; dsimp only; omega)).trans (T6 j hj)
            refine ⟨(kon_belowC hb6).trans u4, fun _ => T9, ⟨⟨⟨_, u2, ?_, trivial⟩, ⟨m9, ?_⟩⟩, T9⟩, (step_below hb6 hBel).trans (u5.mono (by have := bw2.size; omega))⟩
            · rw [HSN.out, cgC_snoc, HNN.out]
              exact u3
            · exact ((kon_belowC hb6).trans u4).2 K1 _ hK1 rfl
    case done2 =>
      rintro K2 ys W9 hD2 hS2 ⟨⟨⟨⟨v9, Bx9, own9, -⟩, D9, K1'⟩, T9⟩, b9⟩ K2'
      have hl2 : L1.length + ys.length = (L1 ++ chgL (pinsL u2) true).length := by rw [List.length_append, chgL_len, ← hS2, List.length_map]
      rw [hS2, hl2] at own9
      obtain ⟨A9, c9, rfl⟩ := own_shapeC own9
      have f1 := Bx9.cell
      have hKK : K1 ≠ K2 := by omega
      clear hS2 hl2
      go_wp2_with fail
      rw [rounds_succ]
      go_wp2_with fail
      have b10 : Below w.heap.size w (W9.putObj K2 (.deferred none)) := b9.trans (belowK_b (w := w) (Nat.le_refl _) W9 K2 _ _ (by have := b7.size; omega) K2' rfl rfl)
      have K1'' : (W9.putObj K2 (.deferred none)).heap[K1]? = some (.deferred (some [])) := (World.putObj_heap_other (by omega)).trans K1'
      have own10 := ownsRow_putObj own9 (.deferred none) K2' rfl
      refine ⟨by simp, .inl ⟨_, _, rfl, run_takeDeferred K2', by simp, .inl ⟨_, _, rfl, run_takeDeferred K1'', ?_⟩⟩⟩
      refine ⟨_, results_tmp2 (fn := Tryd.f17) rfl _ _ _, ?_⟩
      refine ⟨A9, c9, by rw [HX.out, HC.out, List.length_append]; rfl, by rw [HX.out]; exact own_base (ownsRow_putObj own10 _ K1'' rfl) (by omega), b10.trans (belowK_b (w := w) (Nat.le_refl _) _ K1 _ _ (by omega) K1'' rfl rfl)⟩

end Go.Proofs.YtcepjiglhlmgdaaDoor
