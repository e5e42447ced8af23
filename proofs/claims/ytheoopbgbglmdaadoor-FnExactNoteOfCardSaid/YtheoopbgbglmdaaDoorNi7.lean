import Derived.Test.YtheoopbgbglmdaaDoorNo7
namespace Go.Proofs.YtheoopbgbglmdaaDoor
open Go.RowKit Go.Extern.Stop Go.Stop Go.Extern
def noPanic (a q : Int) : List PanicEntry := [{ v := noNoteV a q, recovered := false }]
theorem needPanic_any (a q : Int) (w : World) (hn : (-32768 ≤ a ∧ a ≤ 32767) ∧ (-128 ≤ q ∧ q ≤ 127)) (hb : noteB a q = false) :
    Calls Tryd.prog 23 #[.agg #[.int .i16 a, .int .i8 q]] w fun e w' => e = .panicked (noPanic a q) ∧ Below w.heap.size w w' := by
  have b0 : Below w.heap.size w (w.alloc (.cells #[.int .i16 a, .int .i8 q] 28)) := (Below.refl _ _).alloc (Nat.le_refl _) _
  have w1 : IntKind.i64.wrap a = a := IntWalk.i64_in _ (by omega)
  have w2 : IntKind.i64.wrap q = q := IntWalk.i64_in _ (by omega)
  have K := fun W => isPlace_any a q W
  rw [hb] at K
  go_enter Tryd.func23, Tryd.ntmps23
  go_wp2_with (go_at_call 41; refine (K _).mono ?_; rintro e w' ⟨rfl, rfl⟩)
  exact ⟨rfl, rfl, b0⟩
/-- how the making of a note ends -/
def noE (p : Nat → Addr) (xa : Bool) (xl xo xt : Int) : Value := if xcB xa xl xo xt = true then (if xa then erV (p 3) else .nilIface) else erV (p 0)
def NoEnd (p : Nat → Addr) (a q : Int) (xa : Bool) (xl xo xt : Int) (w : World) (e : Ending) (w' : World) : Prop :=
  (e = if noteB a q = true then .returned (.tuple #[.agg #[.int .i16 (noA a q xa xl xo xt), .int .i8 (noP a q xa xl xo xt)], noE p xa xl xo xt]) else .panicked (noPanic a q)) ∧ Below w.heap.size w w'
set_option maxRecDepth 20000 in
set_option maxHeartbeats 4000000 in
theorem makeNote_any (p : Nat → Addr) (bn bx : Nat) (a q : Int) (xa : Bool) (xl xo xt : Int) (w : World) (hn : (-32768 ≤ a ∧ a ≤ 32767) ∧ (-128 ≤ q ∧ q ≤ 127)) (hx : XcWF xa xl xo xt) (hE : ErrP p w)
    (hN : Bk w bn 28 #[.int .i16 a, .int .i8 q]) (hX : Bk w bx 32 #[.bool xa, .int .i8 xl, .int .i8 xo, .int .i8 xt]) :
    Calls Tryd.prog 22 #[.pointer (some ⟨bn, 0, none⟩), .pointer (some ⟨bx, 0, none⟩)] w (NoEnd p a q xa xl xo xt w) := by
  obtain ⟨X, hXe⟩ : ∃ X, X = w.alloc (.cells #[.int .i16 0, .int .i8 0] 28) := ⟨_, rfl⟩
  have b0 : Below w.heap.size w X := by rw [hXe]; exact (Below.refl _ _).alloc (Nat.le_refl _) _
  have Z0 : Bk X w.heap.size 28 #[.int .i16 0, .int .i8 0] := by rw [hXe]; exact Bk.new _ _ _ rfl
  have N0 := hN.keep b0
  have X0 := hX.keep b0
  have n0 := N0.cell (i := 0) rfl
  have n1 := N0.cell (i := 1) rfl
  have KX := fun W => implValidChoice_any xa xl xo xt W hx
  cases hno : noteB a q
  · have HR := hide hno
    clear hno KX
    go_enter Tryd.func22, Tryd.ntmps22
    go_upto_region 1 with fail
    rw [← hXe]
    clear hXe
    go_wp2_with (go_at_call 23; refine (needPanic_any a q X hn HR.out).mono ?_; rintro e w' ⟨rfl, hb⟩)
    exact ⟨rfl, by rw [if_neg (by rw [HR.out]; decide)], step_below hb b0⟩
  have hab := noteB_in hno
  have HNO := hide hno
  clear hno
  cases hxx : xcB xa xl xo xt
  · have HR := hide (show (noA a q xa xl xo xt = 0 ∧ noP a q xa xl xo xt = 0 ∧ noE p xa xl xo xt = erV (p 0)) from ⟨(no_one (by simp [hxx])).2.1, (no_one (by simp [hxx])).2.2, by rw [noE, hxx]; rfl⟩)
    rw [hxx] at KX
    clear hxx
    go_enter Tryd.func22, Tryd.ntmps22
    go_upto_region 1 with fail
    rw [← hXe]
    clear hXe
    go_upto_region 2 with (go_at_call 23; refine (needPlace_any a q X hab.1 hab.2).mono ?_; rintro e w1 ⟨rfl, hb1⟩)
    have b1 := step_below hb1 b0
    have Z1 := Z0.keep hb1
    have X1 := X0.keep hb1
    have x0 := X1.cell (i := 0) rfl
    have x1 := X1.cell (i := 1) rfl
    have x2 := X1.cell (i := 2) rfl
    have x3 := X1.cell (i := 3) rfl
    clear Z0 n0 n1
    go_wp2_with fail
    refine (KX w1).mono ?_
    rintro e w2 ⟨rfl, hb2⟩
    have b2 := step_below hb2 b1
    have Z2 := Z1.keep hb2
    clear KX x0 x1 x2 x3 X1 Z1
    go_upto_region 3 with fail
    have hd1 : Below w2.heap.size w2 w2.drew := (Below.refl _ _).drew
    have hbw := step_below hd1 b2
    have hE0 : w2.drew.cell? ⟨0, 0, none⟩ = some (erV (p 0)) := (hE.keep hbw).1 0 (by omega)
    have Zd : w2.drew.heap[w.heap.size]? = some (.cells #[.int .i16 0, .int .i8 0] 28 (0, 0)) := Z2.keep hd1
    have hbl : Tryd.prog.built 28 [] = some #[.int .i16 0, .int .i8 0] := by kernel_rfl
    refine wp_region_held_drew (S := fun w' => w'.cell? ⟨0, 0, none⟩ = some (erV (p 0))) (by kernel_rfl) hE0 fun hS5 => ?_
    refine wpAnyH_take (i := 0) (v := .agg #[.int .i16 0, .int .i8 0]) rfl (by kernel_rfl) (by kernel_rfl) (by kernel_rfl) (fun _ _ _ h => h) (Or.inl ⟨by rfl, fun w' h => ?_⟩) hS5 ?_
    · clear h
      go_simp
    change wpAnyH _ _ _ _ _ _ _ (Act.put _ (some 9) _) _
    simp only [Act.put, List.setIfInBounds_toArray, List.set_cons_zero, List.set_cons_succ]
    refine wpAnyH_take (i := 1) (v := erV (p 0)) rfl (by kernel_rfl) (by kernel_rfl) (by kernel_rfl) (fun _ _ _ h => h) (Or.inl ⟨by rfl, fun w' h => ?_⟩) hS5 ?_
    · go_simp
    change wpAnyH _ _ _ _ _ _ _ (Act.put _ (some 10) _) _
    simp only [Act.put, List.setIfInBounds_toArray, List.set_cons_zero, List.set_cons_succ]
    refine wpAnyH_ready (rs := [2]) (by kernel_rfl) (by simp) (AllReadyH.cons rfl ?_ AllReadyH.nil)
    intro K hK
    rw [if_pos (by rfl)]
    refine wp_store_row 28 (.tmp 2) (.tmp 9) rfl w.heap.size #[.int .i16 0, .int .i8 0] rfl rfl 28 _ Zd (infoNote2 _ _) (szNote2 _ _ _ _) (oneNote2 _ _) ?_
    have hb9 : Below w.heap.size w (w2.drew.setRow w.heap.size #[.int .i16 0, .int .i8 0]) := below_setRow hbw (Nat.le_refl _)
    have hE9 := (hE.keep hb9).1 0 (by omega)
    refine hK.out _ _ hE9 (fun hS9 => ?_)
    clear hK K
    refine wpAnyH_take (i := 3) (v := erV (p 0)) rfl (by kernel_rfl) (by kernel_rfl) (by kernel_rfl) (fun _ _ _ h => h) (Or.inl ⟨by rfl, fun w' _ => by go_simp⟩) hS9 ?_
    change wpAnyH _ _ _ _ _ _ _ (Act.put _ (some 3) _) _
    simp only [Act.put, List.setIfInBounds_toArray]
    refine wpAnyH_done (by kernel_rfl) ?_ _
    have HZ9 := hide (setRow_heap _ _ _ _ _ _ Zd : (w2.drew.setRow w.heap.size #[.int .i16 0, .int .i8 0]).heap[w.heap.size]? = some (.cells #[.int .i16 0, .int .i8 0] 28 (0, 0)))
    have HB9 := hide hb9
    clear hS5 hS9 hE9 hb9 Zd hE0
    go_wp2_with fail
    exact bodyPost_ret (v := .tuple #[.agg #[.int .i16 0, .int .i8 0], erV (p 0)]) (results_n2 Tryd.results22 _ _ w.heap.size 28 _ _ rfl (by simp) (by simp) HZ9.out) rfl (by
      refine ⟨?_, HB9.out⟩
      rw [if_pos HNO.out, HR.out.1, HR.out.2.1, HR.out.2.2])
  rw [hxx] at KX
  cases xa
  · have hli := xcB_in hxx
    have hno := no_ok (a := a) (q := q) (xl := xl) (xo := xo) (xt := xt) ⟨HNO.out, hxx⟩
    have HR := hide (show (noA a q false xl xo xt = a + xl ∧ noP a q false xl xo xt = q + 12 * xo ∧ noE p false xl xo xt = .nilIface) from ⟨hno.2.1, hno.2.2, by rw [noE, hxx]; rfl⟩)
    clear hxx hno
    go_enter Tryd.func22, Tryd.ntmps22
    go_upto_region 1 with fail
    rw [← hXe]
    clear hXe
    go_upto_region 2 with (go_at_call 23; refine (needPlace_any a q X hab.1 hab.2).mono ?_; rintro e w1 ⟨rfl, hb1⟩)
    have b1 := step_below hb1 b0
    have Z1 := Z0.keep hb1
    have N1 := N0.keep hb1
    have X1 := X0.keep hb1
    have x0 := X1.cell (i := 0) rfl
    have x1 := X1.cell (i := 1) rfl
    have x2 := X1.cell (i := 2) rfl
    have x3 := X1.cell (i := 3) rfl
    clear Z0 n0 n1
    go_wp2_with fail
    refine (KX w1).mono ?_
    rintro e w2 ⟨rfl, hb2⟩
    have b2 := step_below hb2 b1
    have Z2 := Z1.keep hb2
    have N2 := N1.keep hb2
    have X2 := X1.keep hb2
    clear KX x0 x1 x2 x3 X1 Z1 N1
    have n0 := N2.cell (i := 0) rfl
    have n1 := N2.cell (i := 1) rfl
    have x0 := X2.cell (i := 0) rfl
    have x1 := X2.cell (i := 1) rfl
    have x2 := X2.cell (i := 2) rfl
    have x3 := X2.cell (i := 3) rfl
    have KB := noteBy_any a q false xl xo xt w2 hab.1 hab.2 hli.1 hli.2
    go_wp2_with fail
    refine KB.mono ?_
    rintro e w3 ⟨rfl, hb3⟩
    have b3 := step_below hb3 b2
    have HN := hide (show w3.heap[w.heap.size]? = some (.cells #[.int .i16 0, .int .i8 0] 28 (0, 0)) from Z2.keep hb3)
    go_wp2_with (with_reducible refine wpList_store_row rfl 28 (.tmp 2) (.tmp 17) rfl w.heap.size #[.int .i16 (a + xl), .int .i8 (q + 12 * xo)] rfl rfl 28 _ HN.out (infoNote2 _ _) (szNote2 _ _ _ _) (oneNote2 _ _) ?_)
    exact bodyPost_ret (v := .tuple #[.agg #[.int .i16 (a + xl), .int .i8 (q + 12 * xo)], .nilIface]) (results_n2 Tryd.results22 _ _ w.heap.size 28 _ _ rfl (by simp [Act.put]) (by simp [Act.put]) (setRow_heap _ _ _ _ _ _ HN.out)) rfl ⟨by rw [if_pos HNO.out, HR.out.1, HR.out.2.1, HR.out.2.2], below_setRow b3 (Nat.le_refl _)⟩
  · have hno := no_four (a := a) (q := q) (xl := xl) (xo := xo) (xt := xt) ⟨HNO.out, hxx⟩
    have HR := hide (show (noA a q true xl xo xt = 0 ∧ noP a q true xl xo xt = 0 ∧ noE p true xl xo xt = erV (p 3)) from ⟨hno.2.1, hno.2.2, by rw [noE, hxx]; rfl⟩)
    clear hxx hno
    go_enter Tryd.func22, Tryd.ntmps22
    go_upto_region 1 with fail
    rw [← hXe]
    clear hXe
    go_upto_region 2 with (go_at_call 23; refine (needPlace_any a q X hab.1 hab.2).mono ?_; rintro e w1 ⟨rfl, hb1⟩)
    have b1 := step_below hb1 b0
    have Z1 := Z0.keep hb1
    have X1 := X0.keep hb1
    have x0 := X1.cell (i := 0) rfl
    have x1 := X1.cell (i := 1) rfl
    have x2 := X1.cell (i := 2) rfl
    have x3 := X1.cell (i := 3) rfl
    clear Z0 n0 n1
    go_wp2_with fail
    refine (KX w1).mono ?_
    rintro e w2 ⟨rfl, hb2⟩
    have b2 := step_below hb2 b1
    have Z2 := Z1.keep hb2
    have X2 := X1.keep hb2
    clear KX x0 x1 x2 x3 X1 Z1
    have x0 := X2.cell (i := 0) rfl
    go_upto_region 5 with fail
    have hd1 : Below w2.heap.size w2 w2.drew := (Below.refl _ _).drew
    have hbw := step_below hd1 b2
    have hE0 : w2.drew.cell? ⟨1, 0, none⟩ = some (erV (p 3)) := (hE.keep hbw).1 3 (by omega)
    have Zd : w2.drew.heap[w.heap.size]? = some (.cells #[.int .i16 0, .int .i8 0] 28 (0, 0)) := Z2.keep hd1
    have hbl : Tryd.prog.built 28 [] = some #[.int .i16 0, .int .i8 0] := by kernel_rfl
    refine wp_region_held_drew (S := fun w' => w'.cell? ⟨1, 0, none⟩ = some (erV (p 3))) (by kernel_rfl) hE0 fun hS5 => ?_
    refine wpAnyH_take (i := 0) (v := .agg #[.int .i16 0, .int .i8 0]) rfl (by kernel_rfl) (by kernel_rfl) (by kernel_rfl) (fun _ _ _ h => h) (Or.inl ⟨by rfl, fun w' h => ?_⟩) hS5 ?_
    · clear h
      go_simp
    change wpAnyH _ _ _ _ _ _ _ (Act.put _ (some 13) _) _
    simp only [Act.put, List.setIfInBounds_toArray, List.set_cons_zero, List.set_cons_succ]
    refine wpAnyH_take (i := 1) (v := erV (p 3)) rfl (by kernel_rfl) (by kernel_rfl) (by kernel_rfl) (fun _ _ _ h => h) (Or.inl ⟨by rfl, fun w' h => ?_⟩) hS5 ?_
    · go_simp
    change wpAnyH _ _ _ _ _ _ _ (Act.put _ (some 14) _) _
    simp only [Act.put, List.setIfInBounds_toArray, List.set_cons_zero, List.set_cons_succ]
    refine wpAnyH_ready (rs := [2]) (by kernel_rfl) (by simp) (AllReadyH.cons rfl ?_ AllReadyH.nil)
    intro K hK
    rw [if_pos (by rfl)]
    refine wp_store_row 28 (.tmp 2) (.tmp 13) rfl w.heap.size #[.int .i16 0, .int .i8 0] rfl rfl 28 _ Zd (infoNote2 _ _) (szNote2 _ _ _ _) (oneNote2 _ _) ?_
    have hb9 : Below w.heap.size w (w2.drew.setRow w.heap.size #[.int .i16 0, .int .i8 0]) := below_setRow hbw (Nat.le_refl _)
    have hE9 := (hE.keep hb9).1 3 (by omega)
    refine hK.out _ _ hE9 (fun hS9 => ?_)
    clear hK K
    refine wpAnyH_take (i := 3) (v := erV (p 3)) rfl (by kernel_rfl) (by kernel_rfl) (by kernel_rfl) (fun _ _ _ h => h) (Or.inl ⟨by rfl, fun w' _ => by go_simp⟩) hS9 ?_
    change wpAnyH _ _ _ _ _ _ _ (Act.put _ (some 3) _) _
    simp only [Act.put, List.setIfInBounds_toArray]
    refine wpAnyH_done (by kernel_rfl) ?_ _
    have HZ9 := hide (setRow_heap _ _ _ _ _ _ Zd : (w2.drew.setRow w.heap.size #[.int .i16 0, .int .i8 0]).heap[w.heap.size]? = some (.cells #[.int .i16 0, .int .i8 0] 28 (0, 0)))
    have HB9 := hide hb9
    clear hS5 hS9 hE9 hb9 Zd hE0
    go_wp2_with fail
    exact bodyPost_ret (v := .tuple #[.agg #[.int .i16 0, .int .i8 0], erV (p 3)]) (results_n2 Tryd.results22 _ _ w.heap.size 28 _ _ rfl (by simp) (by simp) HZ9.out) rfl (by
      refine ⟨?_, HB9.out⟩
      rw [if_pos HNO.out, HR.out.1, HR.out.2.1, HR.out.2.2])
end Go.Proofs.YtheoopbgbglmdaaDoor
