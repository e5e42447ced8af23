import Derived.Test.YtheoopbgbglmdaaDoorNi7
import Derived.Recover
namespace Go.Proofs.YtheoopbgbglmdaaDoor
open Go.RowKit Go.Extern.Stop Go.Stop Go.Extern
theorem obj_yes (a q : Int) (w : World) : (Instr.typeAssert (noNoteV a q) 20 80 true).run Tryd.prog w = .ok (.tuple #[noNoteV a q, .bool true]) w := by kernel_rfl
theorem obj_no (w : World) : (Instr.typeAssert .nilIface 20 80 true).run Tryd.prog w = .ok (.tuple #[.nilIface, .bool false]) w := by kernel_rfl
set_option maxRecDepth 20000 in
set_option maxHeartbeats 2000000 in
theorem catch_note (p : Nat → Addr) (b : Nat) (y a q : Int) (older : List PanicEntry) (w : World) (hE : ErrP p w) (hc : w.cell? ⟨b, 0, none⟩ = some (.int .i64 y)) (hz : w.frozen? ⟨b, 0, none⟩ = false) :
    CallsD Tryd.prog 39 #[.pointer (some ⟨b, 0, none⟩)] (.panicking ({ v := noNoteV a q, recovered := false } :: older)) w fun e u' w' =>
      e = .returned (.tuple #[]) ∧ u' = .panicking ({ v := noNoteV a q, recovered := true } :: older) ∧ ∃ W, Below w.heap.size w W ∧ w' = W.setCell ⟨b, 0, none⟩ (.int .i64 1) := by
  have hl := World.block_lt_of_cell? w _ hc
  have KC := codeOf_noNote a q hE
  refine callsD_of_wpS Tryd.func39 rfl fun c₀ cs hu => ?_
  apply wpS_seq
  apply wpS_region
  simp [wpOpsS, go_sem, recoverD, hu, Tryd.ntmps39, Exit.thenS, obj_yes]
  refine wpS_seq (wpS_of_wp ?_)
  go_wp2
  simp only [Exit.thenS]
  refine wpS_cond (t := true) (by simp [Act.eval, Array.replicate]) ?_
  simp only [if_true]
  refine wpS_of_wp ?_
  simp only [Array.replicate, List.replicate, List.setIfInBounds_toArray, List.set_cons_succ, List.set_cons_zero, List.append_toArray, List.cons_append, List.nil_append]
  go_wp2_with fail
  refine KC.mono ?_
  rintro e w1 ⟨rfl, hb1⟩
  have hc' := (hb1.cell hl).trans hc
  have hz' := (hb1.frozen hl).trans hz
  clear KC
  go_wp2
  cases c₀
  simp_all [bodyPostS, results, Tryd.results39]
  exact ⟨_, hb1, rfl⟩
theorem catch_nothing (p : Addr) (w : World) :
    CallsD Tryd.prog 39 #[.pointer (some p)] .returning w fun e u' w' => e = .returned (.tuple #[]) ∧ u' = .returning ∧ w' = w := by
  refine callsD_of_wpS Tryd.func39 rfl fun c₀ cs hu => ?_
  apply wpS_seq
  apply wpS_region
  simp [wpOpsS, go_sem, recoverD, hu, Tryd.ntmps39, Exit.thenS, obj_no]
  refine wpS_seq (wpS_of_wp ?_)
  go_wp2
  simp only [Exit.thenS]
  refine wpS_cond (t := false) (by simp [Act.eval, Array.replicate]) ?_
  simp only [Bool.false_eq_true, if_false]
  refine wpS_of_wp (wp_skip ?_)
  cases c₀
  simp_all [bodyPostS, results, Tryd.results39]
theorem results_nc {fn : Func} {p q : Tmp} (h : fn.results = #[.cell p 28, .cell q 2]) (tmps : Array Value) (w : World) (g k : Nat) (t t' : TypeId) (cs : Array Value) (x : Int) (hi : cs.size = 2)
    (hp : tmps.getD p undef = .pointer (some ⟨g, 0, none⟩)) (hq : tmps.getD q undef = .pointer (some ⟨k, 0, none⟩)) (hg : w.heap[g]? = some (.cells cs t (0, 0))) (hk : w.heap[k]? = some (.cells #[.int .i64 x] t' (0, 0))) :
    (results fn tmps).run Tryd.prog w = .ok (.tuple #[.agg cs, .int .i64 x]) w := by
  have hp' : tmps[p]?.getD undef = .pointer (some ⟨g, 0, none⟩) := by simpa using hp
  have hq' : tmps[q]?.getD undef = .pointer (some ⟨k, 0, none⟩) := by simpa using hq
  have hc : w.cell? ⟨k, 0, none⟩ = some (.int .i64 x) := (cell_of_row w k 0 _ _ _ hk).trans rfl
  have h1 := run_loadVar_row w g t 28 cs (0, 0) _ hg Tryd.underlying28 rfl (by rw [hi]; exact infoNt)
  have h2 : (loadVar 2 ⟨k, 0, none⟩).run Tryd.prog w = .ok (.int .i64 x) w := by simp [go_sem, hc]
  simp [results, h, hp', hq', asAddr, h1, h2]
theorem leaves_tmps {P : Program} {fn : Func} {R : Ending → World → Prop} {t t' : Array Value} (h : ∀ w, (results fn t).run P w = (results fn t').run P w) : ∀ (ds : List Deferred) (u : FrameMode) (w : World), Leaves P fn t R ds u w → Leaves P fn t' R ds u w
  | [], .returning, w => fun hl => by
    obtain ⟨v, h1, h2⟩ := hl
    exact ⟨v, by rw [← h w]; exact h1, h2⟩
  | [], .panicking _, _ => fun hl => hl
  | [], .run, _ => fun hl => hl
  | d :: ds, u, w => fun hl => by
    obtain ⟨h0, fv, cap, f, args, h1, h2, h3⟩ := hl
    refine ⟨h0, fv, cap, f, args, h1, h2, h3.mono ?_⟩
    intro e u' w' he
    cases e with
    | returned x => exact leaves_tmps h ds _ w' he
    | panicked x => exact leaves_tmps h ds _ w' he
    | outgrown => exact he
theorem panic_put (d : Tmp) (h2 : d ≠ 2) (h3 : d ≠ 3) (K : Act → World → Prop) (R : Ending → World → Prop) (c : List PanicEntry) (a : Act) (w : World) (v : Value) (h : Exit.then K (bodyPostD Tryd.prog Tryd.f21 R) (.panic c) (a.put (some d) v) w) : Exit.then K (bodyPostD Tryd.prog Tryd.f21 R) (.panic c) a w := by
  simp only [Exit.then, bodyPostD] at h ⊢
  refine leaves_tmps (fun w => ?_) _ _ w h
  simp [results, Tryd.results21, Act.put, Array.getElem?_setIfInBounds, h2, h3]
theorem noE_code (p : Nat → Addr) (a q : Int) (xa : Bool) (xl xo xt : Int) (w : World) (hE : ErrP p w) (hn : noteB a q = true) : Calls Tryd.prog 40 #[noE p xa xl xo xt] w fun e w' => e = .returned (.int .i64 (noC a q xa xl xo xt)) ∧ Below w.heap.size w w' := by
  by_cases hx : xcB xa xl xo xt = true
  · cases xa
    · rw [(no_ok ⟨hn, hx⟩).1, noE, if_pos hx]; exact (codeOf_nil hE).mono fun e w' ⟨h3, h4⟩ => ⟨h3, by rw [← h4]; exact Below.refl _ _⟩
    · rw [(no_four ⟨hn, hx⟩).1, noE, if_pos hx]; exact (codeOf_3 hE).mono fun e w' ⟨h3, h4⟩ => ⟨h3, by rw [← h4]; exact Below.refl _ _⟩
  · rw [(no_one (fun h => hx h.2)).1, noE, if_neg hx]; exact (codeOf_0 hE).mono fun e w' ⟨h3, h4⟩ => ⟨h3, by rw [← h4]; exact Below.refl _ _⟩
set_option maxRecDepth 20000 in
set_option maxHeartbeats 4000000 in
theorem attemptedNote_any (p : Nat → Addr) (p1 p2 : Value) (a q : Int) (xa : Bool) (xl xo xt : Int) (w : World) (hE : ErrP p w)
    (hK : ∀ W, Below w.heap.size w W → Calls Tryd.prog 22 #[p1, p2] W (NoEnd p a q xa xl xo xt W)) :
    Calls Tryd.prog 21 #[.func (.func 22) #[] #[p1, p2]] w fun e w' => e = .returned (.tuple #[.agg #[.int .i16 (noA a q xa xl xo xt), .int .i8 (noP a q xa xl xo xt)], .int .i64 (noC a q xa xl xo xt)]) ∧ Below w.heap.size w w' := by
  have hmf : ∀ (fn : Fn) (first cap : Array Value) (w : World), (Instr.makeFunc fn first cap).run Tryd.prog w = .ok (.func fn first cap) w := fun _ _ _ _ => rfl
  delta NoEnd at hK
  have KC := fun W (h : ErrP p W) (hn : noteB a q = true) => noE_code p a q xa xl xo xt W h hn
  have HN0 := hide (fun h => no_one (a := a) (q := q) (xa := xa) (xl := xl) (xo := xo) (xt := xt) h)
  obtain ⟨na, hna⟩ : ∃ na, na = noA a q xa xl xo xt := ⟨_, rfl⟩
  obtain ⟨np, hnp⟩ : ∃ np, np = noP a q xa xl xo xt := ⟨_, rfl⟩
  obtain ⟨nc, hnc⟩ : ∃ nc, nc = noC a q xa xl xo xt := ⟨_, rfl⟩
  obtain ⟨ev, hev⟩ : ∃ ev, ev = noE p xa xl xo xt := ⟨_, rfl⟩
  rw [← hna, ← hnp, ← hnc]
  rw [← hna, ← hnp, ← hnc] at HN0
  rw [← hnc, ← hev] at KC
  rw [← hna, ← hnp, ← hev] at hK
  clear hna hnp hnc hev
  go_enter_defers Tryd.func21, Tryd.ntmps21
  go_wp2_with fail
  have hb0 : Below w.heap.size w ((w.alloc (.cells #[.int .i16 0, .int .i8 0] 28)).alloc (.cells #[.int .i64 1] 2)) := ((Below.refl _ _).alloc (Nat.le_refl _) _).alloc (by simp) _
  have Z0 : Bk ((w.alloc (.cells #[.int .i16 0, .int .i8 0] 28)).alloc (.cells #[.int .i64 1] 2)) w.heap.size 28 #[.int .i16 0, .int .i8 0] := (Bk.new _ _ _ rfl).old _
  have C0 : Bk ((w.alloc (.cells #[.int .i16 0, .int .i8 0] 28)).alloc (.cells #[.int .i64 1] 2)) (w.heap.size + 1) 2 #[.int .i64 1] := Bk.new _ _ _ (by simp)
  refine (hK _ hb0).mono ?_
  rintro e w2 ⟨he, hb2⟩
  have b2 := step_below hb2 hb0
  have Z2 := Z0.keep hb2
  have C2 := C0.keep hb2
  have c2 := C2.cell (i := 0) rfl
  have f2 := C2.frozen 0
  have hE2 := hE.keep b2
  clear hb0 Z0 C0 hb2 hK
  cases hn : noteB a q
  · rw [hn] at he
    subst he
    have HR := hide (HN0.out (by simp [hn]))
    refine leaves_cons (f := 39) (args := #[.pointer (some ⟨w.heap.size + 1, 0, none⟩)]) (by simp) (by simp [go_sem]) ?_
    refine (catch_note p (w.heap.size + 1) 1 a q [] _ hE2 c2 f2).mono ?_
    rintro e u' w'' ⟨rfl, rfl, W, hbW, rfl⟩
    have Z3 := (Z2.keep hbW).other (by omega : w.heap.size ≠ w.heap.size + 1) (k := 0) (.int .i64 1)
    have C3 : Bk (W.setCell ⟨w.heap.size + 1, 0, none⟩ (.int .i64 1)) (w.heap.size + 1) 2 #[.int .i64 1] := heap_setCell_same _ _ 0 _ _ (.int .i64 1) (C2.keep hbW)
    exact ⟨_, results_nc Tryd.results21 _ _ w.heap.size (w.heap.size + 1) _ _ _ _ rfl rfl rfl Z3 C3, by rw [HR.out.1, HR.out.2.1, HR.out.2.2], (step_below hbW b2).setCell (p := ⟨_, _, none⟩) (by dsimp only; omega) _⟩
  · rw [hn, if_pos rfl] at he
    subst he
    have KC2 := fun W (h : ErrP p W) => KC W h hn
    clear KC HN0 hn
    have HZ := hide (show w2.heap[w.heap.size]? = some (.cells #[.int .i16 0, .int .i8 0] 28 (0, 0)) from Z2)
    obtain ⟨V, hV⟩ : ∃ V, V = w2.setRow w.heap.size #[.int .i16 na, .int .i8 np] := ⟨_, rfl⟩
    have Z3 : Bk V w.heap.size 28 #[.int .i16 na, .int .i8 np] := by rw [hV]; exact setRow_heap _ _ _ _ _ _ HZ.out
    have C3 : Bk V (w.heap.size + 1) 2 #[.int .i64 1] := by rw [hV]; exact (setRow_other _ _ _ _ (by omega)).trans C2
    have b3 : Below w.heap.size w V := by rw [hV]; exact below_setRow' b2 (Nat.le_refl _)
    clear Z2 C2 c2 f2 b2 hE2
    go_upto_region 4 with (with_reducible refine wpList_store_row rfl 28 (.tmp 2) (.tmp 9) rfl w.heap.size #[.int .i16 na, .int .i8 np] rfl rfl 28 _ HZ.out (infoNote2 _ _) (szNote2 _ _ _ _) (oneNote2 _ _) ?_)
    rw [← hV]
    clear hV HZ
    have b4 := step_below ((Below.refl V.heap.size V).drew) b3
    have Z4 := Z3.keep ((Below.refl V.heap.size V).drew)
    have C4 := C3.keep ((Below.refl V.heap.size V).drew)
    refine wp_region_held_drew (S := fun Y => Bk Y w.heap.size 28 #[.int .i16 na, .int .i8 np] ∧ ∃ y : Int, Bk Y (w.heap.size + 1) 2 #[.int .i64 y]) (by kernel_rfl) ⟨Z4, 1, C4⟩ fun hS => ?_
    clear Z3 C3 Z4 C4 b3
    generalize V.drew = W1 at *
    refine wpAnyH_take (i := 0) (v := .agg #[.int .i16 na, .int .i8 np]) rfl (by kernel_rfl) (by kernel_rfl) (by kernel_rfl) (fun c a w h => panic_put 11 (by decide) (by decide) _ _ c a w _ h) (Or.inl ⟨by rfl, fun w' h => ?_⟩) hS ?_
    · have l0 := h.1.cell (i := 0) rfl
      have l1 := h.1.cell (i := 1) rfl
      clear h
      go_simp
    change wpAnyH _ _ _ _ _ _ _ (Act.put _ (some 11) _) _
    simp only [Act.put, List.setIfInBounds_toArray, List.set_cons_zero, List.set_cons_succ]
    refine wpAnyH_take (i := 1) (v := ev) rfl (by kernel_rfl) (by kernel_rfl) (by kernel_rfl) (fun c a w h => panic_put 12 (by decide) (by decide) _ _ c a w _ h) (Or.inl ⟨by rfl, fun w' _ => by go_simp⟩) hS ?_
    change wpAnyH _ _ _ _ _ _ _ (Act.put _ (some 12) _) _
    simp only [Act.put, List.setIfInBounds_toArray, List.set_cons_zero, List.set_cons_succ]
    refine wpAnyH_ready (rs := [2]) (by kernel_rfl) (by simp) (AllReadyH.cons rfl ?_ AllReadyH.nil)
    intro K hK
    rw [if_pos (by rfl)]
    go_simp
    refine (KC2 W1 (hE.keep b4)).mono ?_
    rintro e W2 ⟨rfl, hb5⟩
    have b5 := step_below hb5 b4
    have Z5 := hS.1.keep hb5
    obtain ⟨y, hy⟩ := hS.2
    have C5 := hy.keep hb5
    refine hK.out _ _ ⟨Z5, y, C5⟩ (fun hS1 => ?_)
    clear hK K
    refine wpAnyH_ready (rs := [3]) (by kernel_rfl) (by simp) (AllReadyH.cons rfl ?_ AllReadyH.nil)
    intro K hK
    rw [if_pos (by rfl)]
    refine wp_store_row 28 (.tmp 2) (.tmp 11) rfl w.heap.size #[.int .i16 na, .int .i8 np] rfl rfl 28 _ Z5 (infoNote2 _ _) (szNote2 _ _ _ _) (oneNote2 _ _) ?_
    obtain ⟨W3, hW3⟩ : ∃ W3, W3 = W2.setRow w.heap.size #[.int .i16 na, .int .i8 np] := ⟨_, rfl⟩
    have Z6 : Bk W3 w.heap.size 28 #[.int .i16 na, .int .i8 np] := by rw [hW3]; exact setRow_heap _ _ _ _ _ _ Z5
    have C6 : Bk W3 (w.heap.size + 1) 2 #[.int .i64 y] := by rw [hW3]; exact (setRow_other _ _ _ _ (by omega)).trans C5
    have b6 : Below w.heap.size w W3 := by rw [hW3]; exact below_setRow' b5 (Nat.le_refl _)
    rw [← hW3]
    clear hW3
    refine hK.out _ _ ⟨Z6, y, C6⟩ (fun hS2 => ?_)
    clear hK K
    refine wpAnyH_ready (rs := [4]) (by kernel_rfl) (by simp) (AllReadyH.cons rfl ?_ AllReadyH.nil)
    intro K hK
    rw [if_pos (by rfl)]
    have c6 := C6.cell (i := 0) rfl
    have f6 := C6.frozen 0
    have Z7 := Z6.other (by omega : w.heap.size ≠ w.heap.size + 1) (k := 0) (.int .i64 nc)
    have C7 : Bk (W3.setCell ⟨w.heap.size + 1, 0, none⟩ (.int .i64 nc)) (w.heap.size + 1) 2 #[.int .i64 nc] := heap_setCell_same _ _ 0 _ _ (.int .i64 nc) C6
    have b7 : Below w.heap.size w (W3.setCell ⟨w.heap.size + 1, 0, none⟩ (.int .i64 nc)) := b6.setCell (p := ⟨_, _, none⟩) (by dsimp only; omega) _
    go_simp
    refine hK.out _ _ ⟨Z7, nc, C7⟩ (fun hS3 => ?_)
    clear hK K
    refine wpAnyH_done (by kernel_rfl) ?_ _
    go_wp2_with fail
    refine leaves_cons (f := 39) (args := #[.pointer (some ⟨w.heap.size + 1, 0, none⟩)]) (by simp) (by simp [go_sem]) ?_
    refine (catch_nothing ⟨w.heap.size + 1, 0, none⟩ _).mono ?_
    rintro e u' w'' ⟨rfl, rfl, rfl⟩
    exact ⟨_, results_nc Tryd.results21 _ _ w.heap.size (w.heap.size + 1) _ _ _ _ rfl rfl rfl Z7 C7, rfl, b7⟩
set_option maxRecDepth 20000 in
set_option maxHeartbeats 4000000 in
theorem implNoteOf_any (p : Nat → Addr) (a q : Int) (xa : Bool) (xl xo xt : Int) (w : World) (hn : (-32768 ≤ a ∧ a ≤ 32767) ∧ (-128 ≤ q ∧ q ≤ 127)) (hx : XcWF xa xl xo xt) (hE : ErrP p w) :
    Calls Tryd.prog 8 #[.agg #[.int .i16 a, .int .i8 q], .agg #[.bool xa, .int .i8 xl, .int .i8 xo, .int .i8 xt]] w fun e w' => e = .returned (.tuple #[.agg #[.int .i16 (noA a q xa xl xo xt), .int .i8 (noP a q xa xl xo xt)], .int .i64 (noC a q xa xl xo xt)]) ∧ Below w.heap.size w w' := by
  have hmf : ∀ (fn : Fn) (first cap : Array Value) (w : World), (Instr.makeFunc fn first cap).run Tryd.prog w = .ok (.func fn first cap) w := fun _ _ _ _ => rfl
  obtain ⟨X, hX⟩ : ∃ X, X = ((w.alloc (.cells #[.int .i16 a, .int .i8 q] 28)).alloc (.cells #[.bool xa, .int .i8 xl, .int .i8 xo, .int .i8 xt] 32)).alloc (.cells #[.int .i16 0, .int .i8 0] 28) := ⟨_, rfl⟩
  have b0 : Below w.heap.size w X := by rw [hX]; exact (((Below.refl _ _).alloc (Nat.le_refl _) _).alloc (by simp) _).alloc (by simp; omega) _
  have R1 : Bk X w.heap.size 28 #[.int .i16 a, .int .i8 q] := by rw [hX]; exact heap_old' (heap_old' (heap_new' _ _ _ rfl))
  have R2 : Bk X (w.heap.size + 1) 32 #[.bool xa, .int .i8 xl, .int .i8 xo, .int .i8 xt] := by rw [hX]; exact heap_old' (heap_new' _ _ _ (by simp))
  have R3 : Bk X (w.heap.size + 1 + 1) 28 #[.int .i16 0, .int .i8 0] := by rw [hX]; exact heap_new' _ _ _ (by simp)
  have KA := attemptedNote_any p (.pointer (some ⟨w.heap.size, 0, none⟩)) (.pointer (some ⟨w.heap.size + 1, 0, none⟩)) a q xa xl xo xt X (hE.keep b0) (fun W hW => makeNote_any p w.heap.size (w.heap.size + 1) a q xa xl xo xt W hn hx ((hE.keep b0).keep hW) (R1.keep hW) (R2.keep hW))
  obtain ⟨na, hna⟩ : ∃ na, na = noA a q xa xl xo xt := ⟨_, rfl⟩
  obtain ⟨np, hnp⟩ : ∃ np, np = noP a q xa xl xo xt := ⟨_, rfl⟩
  obtain ⟨nc, hnc⟩ : ∃ nc, nc = noC a q xa xl xo xt := ⟨_, rfl⟩
  rw [← hna, ← hnp, ← hnc] at KA ⊢
  clear hna hnp hnc
  go_enter Tryd.func8, Tryd.ntmps8
  go_upto_region 1 with fail
  rw [← hX]
  clear hX R1 R2
  go_wp2_with fail
  refine KA.mono ?_
  rintro e w1 ⟨rfl, hb1⟩
  have b1 := step_below hb1 b0
  have HN := hide (show w1.heap[w.heap.size + 1 + 1]? = some (.cells #[.int .i16 0, .int .i8 0] 28 (0, 0)) from R3.keep hb1)
  clear KA R3
  go_wp2_with (with_reducible refine wpList_store_row rfl 28 (.tmp 4) (.tmp 8) rfl (w.heap.size + 1 + 1) #[.int .i16 na, .int .i8 np] rfl rfl 28 _ HN.out (infoNote2 _ _) (szNote2 _ _ _ _) (oneNote2 _ _) ?_)
  exact bodyPost_ret (v := .tuple #[.agg #[.int .i16 na, .int .i8 np], .int .i64 nc]) (results_n2 Tryd.results8 _ _ (w.heap.size + 1 + 1) 28 _ _ rfl (by simp [Act.put]) (by simp [Act.put]) (setRow_heap _ _ _ _ _ _ HN.out)) rfl ⟨rfl, below_setRow b1 (by omega)⟩
theorem implNoteOf_e (a q : Int) (xa : Bool) (xl xo xt : Int) (w : World) (hn : (-32768 ≤ a ∧ a ≤ 32767) ∧ (-128 ≤ q ∧ q ≤ 127)) (hx : XcWF xa xl xo xt) (hE : ErrW w) :
    Calls Tryd.prog 8 #[.agg #[.int .i16 a, .int .i8 q], .agg #[.bool xa, .int .i8 xl, .int .i8 xo, .int .i8 xt]] w fun e w' => e = .returned (.tuple #[.agg #[.int .i16 (noA a q xa xl xo xt), .int .i8 (noP a q xa xl xo xt)], .int .i64 (noC a q xa xl xo xt)]) ∧ Below w.heap.size w w' :=
  let ⟨p, hp⟩ := hE
  implNoteOf_any p a q xa xl xo xt w hn hx hp
end Go.Proofs.YtheoopbgbglmdaaDoor
