import Derived.Test.YtdglhgfhlcdflaaDoorTks
import Derived.Test.YtdglhgfhlcdflaaDoorCls
namespace Go.Proofs.YtdglhgfhlcdflaaDoor
open Go.RowKit
/-- what comes of a tune, a frame and a drum: the code, and the tracks -/
def tcC (s : Int) (l : List (Int × Int)) (d : Nat → Int) (L : List (Int × Int)) : Int := if tkK s l d L = 0 then (if tkB s.toNat l L d then 0 else 8) else tkK s l d L
def tcL (s : Int) (l : List (Int × Int)) (d : Nat → Int) (L : List (Int × Int)) : List Nat := if tcC s l d L = 0 then tkN l L d L.length else []
def OwnE (w : World) (xs : List Nat) (v : Value) (e : Ending) (w' : World) : Prop := ∃ (A : Option Addr) (c : Nat), e = .returned (.tuple #[.slice A xs.length c, v]) ∧ w'.ownsRow w.heap.size 2 1 (.slice A xs.length c) xs.length (tcells xs) ∧ Below w.heap.size w w'
theorem ownE_nil {w w' : World} {v : Value} (hb : Below w.heap.size w w') : OwnE w [] v (.returned (.tuple #[.slice none 0 0, v])) w' := ⟨none, 0, rfl, ⟨rfl, Or.inl ⟨rfl, rfl⟩⟩, hb⟩
theorem wpList_want_da {ops : Array Oper} {rest : List Oper} {op : Oper} {a : Act} {w : World} {Q : Exit → Act → World → Prop} (hw : Region.wanted op (yielded ops a.tmps) = true) (x : Operand) (ho : op.op = .load 43 x)
    (b p : Nat) (hx : a.eval x = .pointer (some ⟨b, p, none⟩)) (q : Nat → Int) (hc : w.rangeAt b p (dv q))
    (h : wpList Tryd.prog ops Q rest (a.put op.dst (.agg (da q))) w) : wpList Tryd.prog ops Q (op :: rest) a w :=
  BigFrame.wpList_want hw fun _ hK => wp_load_mid 43 x ho b p hx (dv q) _ hc Tryd.underlying43 rfl (dInfo q) (hK _ _ h)
theorem wpList_build0G {ops : Array Oper} {rest : List Oper} {op : Oper} {a : Act} {w : World} {Q : Exit → Act → World → Prop} (hw : Region.wanted op (yielded ops a.tmps) = true) (ho : op.op = .build 43 #[])
    (h : wpList Tryd.prog ops Q rest (a.put op.dst (.agg (da fun _ => 0))) w) : wpList Tryd.prog ops Q (op :: rest) a w := by
  have e : (Tryd.prog.built 43 ((#[] : Array (Nat × Operand)).map fun (i, x) => (i, a.eval x)).toList) = some za := by simpa using built0
  refine BigFrame.wpList_want hw fun _ hK => wp_build 43 #[] ho (by rw [e]; rfl) ?_
  rw [e, ← za_eq] at *
  exact hK _ _ h
set_option maxRecDepth 20000 in
theorem pinningFor1_any (p : Nat → Addr) (s : Int) (A : Option Addr) (c : Nat) (l : List (Int × Int)) (C : Option Addr) (ct : Nat) (L : List (Int × Int)) (d : Nat → Int) (w : World) (hA : HA w A l) (hn : l.length ≤ 1048576) (hwf : HWF l) (hs : -32768 ≤ s ∧ s ≤ 32767) (hd : DWF d)
    (hC : NA w C L) (hL : L.length ≤ 1048576) (hLw : WF L) (hE : ErrP p w) (g : Nat) (hg : g = w.heap.size) :
    Calls Tryd.prog 33 #[.agg #[.int .i16 s, .slice A l.length c], .slice C L.length ct, .slice (some ⟨g, 0, none⟩) 1 1] (w.alloc (.cells (da d) 43)) (PgR p (tkK s l d L) (pgA s A l.length c C L.length ct (pgU l l.length) (pgV l l.length)) (w.alloc (.cells (da d) 43))) := by
  subst hg
  have hb0 : Below w.heap.size w (w.alloc (.cells (da d) 43)) := (Below.refl _ _).alloc (Nat.le_refl _) _
  have hd1 : ∀ j, j < [d].length → DWF ([d].getD j (fun _ => 0)) := by
    intro j hj
    obtain rfl : j = 0 := by simpa using hj
    exact hd
  have e : drsB s l.length [d] = drB s l.length d := by simp [drsB]
  refine pinningFor_any p s A c l C ct L (some ⟨w.heap.size, 0, none⟩) 1 1 (drB s l.length d) _ (hA.below hb0) hn hwf hs (hC.below hb0) hL hLw (hE.keep hb0) (fun hf W hW => ?_)
  rw [← e]
  exact fits_any s A l.length c w.heap.size 1 [d] W ((LD1 w d).keep hW) (frB_all hf).2.1.2 (frB_all hf).1 hd1 (by simp)
theorem erX_1 (p : Nat → Addr) : erX p 1 = erV (p 0) := rfl
theorem erX_2 (p : Nat → Addr) : erX p 2 = erV (p 1) := rfl
theorem erX_8 (p : Nat → Addr) : erX p 8 = erV (p 6) := rfl
theorem tkK_cases (s : Int) (l : List (Int × Int)) (d : Nat → Int) (L : List (Int × Int)) : tkK s l d L = 0 ∨ tkK s l d L = 1 ∨ tkK s l d L = 2 := by
  unfold tkK pgK
  split
  · split
    · exact Or.inl rfl
    · exact Or.inr (Or.inr rfl)
  · exact Or.inr (Or.inl rfl)
theorem tkK_zero {s : Int} {l : List (Int × Int)} {d : Nat → Int} {L : List (Int × Int)} (h : tkK s l d L = 0) : frB s l = true ∧ drB s l.length d = true ∧ okB L = true ∧ lenI L ≤ s := by
  unfold tkK pgK at h
  split at h
  · rename_i h1
    simp only [Bool.and_eq_true] at h1
    split at h
    · rename_i h2
      exact ⟨h1.1.1, h1.1.2, h1.2, h2⟩
    · cases h
  · cases h
set_option maxRecDepth 20000 in
set_option maxHeartbeats 8000000 in
theorem tracksOf_any (p : Nat → Addr) (s : Int) (A : Option Addr) (c : Nat) (l : List (Int × Int)) (C : Option Addr) (ct : Nat) (L : List (Int × Int)) (d : Nat → Int) (w : World) (hA : HA w A l) (hn : l.length ≤ 1048576) (hwf : HWF l) (hs : -32768 ≤ s ∧ s ≤ 32767) (hd : DWF d)
    (hC : NA w C L) (hL : L.length ≤ 1048576) (hLw : WF L) (hE : ErrP p w) (hT : TabW w) :
    Calls Tryd.prog 40 #[.agg #[.int .i16 s, .slice A l.length c], .slice C L.length ct, .agg (da d)] w (OwnE w (tcL s l d L) (erX p (tcC s l d L))) := by
  obtain ⟨i0, hi, hz0, hz1, hz2⟩ := info_parts info2
  obtain ⟨RL, hRL⟩ : ∃ RL, RL = tcL s l d L := ⟨_, rfl⟩
  obtain ⟨RE, hRE⟩ : ∃ RE, RE = erX p (tcC s l d L) := ⟨_, rfl⟩
  rw [← hRL, ← hRE]
  have HRL := hide hRL
  have HRE := hide hRE
  clear hRL hRE
  have hE0 := hide hE
  have hz := zeroPg
  obtain ⟨X, hX⟩ : ∃ X, X = (w.alloc (.cells #[.int .i16 s, .slice A l.length c] 33)).alloc (.cells (da d) 43) := ⟨_, rfl⟩
  have b0 : Below w.heap.size w X := by rw [hX]; exact ((Below.refl _ _).alloc (Nat.le_refl _) _).alloc (by simp) _
  have B0 : Bk X w.heap.size 33 #[.int .i16 s, .slice A l.length c] := by rw [hX]; exact (Bk.new _ _ _ rfl).old _
  have D0 : Dr X (w.heap.size + 1) 43 d := by rw [hX]; exact heap_new' _ _ _ (by simp)
  have f0 := B0.cell (i := 0) rfl
  have f1 := B0.cell (i := 1) rfl
  have HD0 := hide D0.range
  have KP := hide (pinningFor1_any p s A c l C ct L d X (hA.below b0) hn hwf hs hd (hC.below b0) hL hLw (hE.keep b0) X.heap.size rfl)
  clear hE
  go_enter Tryd.func40, Tryd.ntmps40
  go_upto_region 1 with fail
  rw [← hX]
  clear hX
  go_wp2_with (first | (with_reducible refine wpList_load_da rfl 43 (.tmp 5) rfl (w.heap.size + 1) 0 rfl d _ HD0.out Tryd.underlying43 rfl (dInfo d) ?_) | (with_reducible refine wpList_build1 rfl (.tmp 17) rfl d rfl ?_))
  refine KP.out.mono ?_
  rintro e w1 ⟨rfl, hb1⟩
  have hx0 : Below X.heap.size X (X.alloc (.cells (da d) 43)) := (Below.refl _ _).alloc (Nat.le_refl _) _
  have bX1 := step_below hb1 hx0
  have b1 := step_below bX1 b0
  have D1 := D0.keep bX1
  have hzz : zpg.size = 71 := by rw [zpg_eq, pgA_size]
  have hzo : zpg.all (·.oneCell') = true := by rw [zpg_eq]; exact pgA_one
  have hzi : (Tryd.prog.info? 74).map (·.size) = some zpg.size := by rw [hzz]; exact info74
  clear f0 f1 HD0 B0 D0 hb1 hx0 bX1
  rcases tkK_cases s l d L with hk | hk | hk
  rotate_left
  · have HX := hide (show RE = erV (p 0) by rw [HRE.out, tcC, hk]; rfl)
    have HY := hide (show RL = [] by rw [HRL.out, tcL, tcC, hk]; rfl)
    rw [hk, erX_1]
    clear hk
    simp only [show ((1 : Int) = 0) = False by simp, if_false]
    go_wp2_with (with_reducible refine wpList_store_newP rfl 74 (.tmp 8) (.tmp 20) rfl zpg rfl rfl 74 _ hzi rfl hzo ?_)
    go_ret2
    rw [HX.out, HY.out]
    exact ownE_nil (b1.alloc b1.size _)
  · have HX := hide (show RE = erV (p 1) by rw [HRE.out, tcC, hk]; rfl)
    have HY := hide (show RL = [] by rw [HRL.out, tcL, tcC, hk]; rfl)
    rw [hk, erX_2]
    clear hk
    simp only [show ((2 : Int) = 0) = False by simp, if_false]
    go_wp2_with (with_reducible refine wpList_store_newP rfl 74 (.tmp 8) (.tmp 20) rfl zpg rfl rfl 74 _ hzi rfl hzo ?_)
    go_ret2
    rw [HX.out, HY.out]
    exact ownE_nil (b1.alloc b1.size _)
  obtain ⟨hfr, hdr, hok, hlen⟩ := tkK_zero hk
  have hfa := frB_all hfr
  have HC1 := hide (show tcC s l d L = if tkB s.toNat l L d then 0 else 8 by rw [tcC, hk, if_pos rfl])
  rw [hk, if_pos rfl, show erX p 0 = .nilIface from rfl]
  obtain ⟨S, rfl⟩ : ∃ S : Nat, s = (S : Int) := ⟨s.toNat, by omega⟩
  rw [Int.toNat_natCast] at HC1
  have hS : 2 ≤ S ∧ S ≤ 96 := by omega
  have hl := hfa.2.1.2
  have HGG := hide hfa.2.2
  have HDR := hide hdr
  have HOK := hide hok
  have hn120 := ok_len hok
  have HAT := hide (show ∀ j, j < L.length → (nAt L j).toNat < S ∧ 0 ≤ nAt L j from fun j hj => by
    have h1 := bk_in hok j hj
    have h2 := ok_in hok j hj
    omega)
  have HPI := hide (show ∀ j, j < L.length → 0 ≤ nPi L j ∧ nPi L j ≤ 47 from fun j hj => (ok_in hok j hj).2)
  have HBAD := hide (show tkB S l L d = false → RE = erV (p 6) ∧ RL = [] from fun h => by
    have h1 : tcC S l d L = 8 := by rw [HC1.out, h]; rfl
    exact ⟨by rw [HRE.out, h1]; rfl, by rw [HRL.out, tcL, h1]; rfl⟩)
  have HGOOD := hide (show tkB S l L d = true → RE = .nilIface ∧ RL = tkN l L d L.length from fun h => by
    have h1 : tcC S l d L = 0 := by rw [HC1.out, h]; rfl
    exact ⟨by rw [HRE.out, h1]; rfl, by rw [HRL.out, tcL, h1]; rfl⟩)
  obtain ⟨Y, hY⟩ : ∃ Y, Y = w1.alloc (.cells (pgA S A l.length c C L.length ct (pgU l l.length) (pgV l l.length)) 74) := ⟨_, rfl⟩
  have hbY : Below w1.heap.size w1 Y := by rw [hY]; exact (Below.refl _ _).alloc (Nat.le_refl _) _
  have P1 : Bk Y w1.heap.size 74 (pgA S A l.length c C L.length ct (pgU l l.length) (pgV l l.length)) := by rw [hY]; exact Bk.new _ _ _ rfl
  have bY := step_below hbY b1
  have DY := D1.keep hbY
  clear hfr hdr hok hlen hfa hk D1
  go_upto_region 4 with (with_reducible refine wpList_store_newP rfl 74 (.tmp 8) (.tmp 20) rfl (pgA S A l.length c C L.length ct (pgU l l.length) (pgV l l.length)) rfl rfl 74 _ pgInfo (hzz.trans pgA_size.symm) pgA_one ?_)
  rw [← hY]
  clear hY hz hzz hzo hzi b1 hbY
  have HDY := hide DY.range
  go_wp2_with (with_reducible refine wpList_load_da rfl 43 (.tmp 5) rfl (w.heap.size + 1) 0 rfl d _ HDY.out Tryd.underlying43 rfl (dInfo d) ?_)
  refine (count_any d Y hd).mono ?_
  rintro e w2 ⟨rfl, hb2⟩
  have b2 := step_below hb2 bY
  have P2 := P1.keep hb2
  have D2 := DY.keep hb2
  clear HDY P1 DY
  by_cases hcn : cntI d = (L.length : Int)
  rotate_left
  · have hcb : (cntI d != (L.length : Int)) = true := by simpa using hcn
    have hbad := HBAD.out (by rw [tkB, decide_eq_false hcn, Bool.and_false])
    have HX := hide hbad.1
    have HY := hide hbad.2
    obtain ⟨cn, hcn'⟩ : ∃ cn, cn = cntI d := ⟨_, rfl⟩
    rw [← hcn'] at hcb ⊢
    clear hcn hcn' hbad
    have e6 : w2.cell? ⟨0, 0, none⟩ = some (erV (p 6)) := (hE0.out.keep b2).1 6 (by omega)
    have q6 := Later.cell e6
    go_wp2_with fail
    refine wp_region_later (by kernel_rfl) (by kernel_rfl) ?_
    repeat (go_big_quiet_step (fail))
    refine wpQuiet_nil ?_
    rintro wz ⟨⟨_, hqz⟩, rfl⟩
    go_wp2
    go_ret2
    rw [HX.out, HY.out]
    exact ownE_nil (step_below hqz b2)
  have hcb : (cntI d != (L.length : Int)) = false := by simpa using hcn
  obtain ⟨cn, hcn'⟩ : ∃ cn, cn = cntI d := ⟨_, rfl⟩
  have HCN := hide (show cntI d = (L.length : Int) from hcn)
  rw [← hcn'] at hcb ⊢
  clear hcn' hcn
  have HD2 := hide D2.range
  have p0 := P2.pgSteps
  have p1 := P2.pgHams
  go_wp2_with (with_reducible refine wpList_want_da (by kernel_rfl) (.tmp 5) rfl (w.heap.size + 1) 0 rfl d HD2.out ?_)
  refine (clashes_any S A c l d w2 (hA.below b2) hS hl HGG.out HDR.out hd (hT.keep b2)).mono ?_
  rintro e w3 ⟨rfl, hb3⟩
  have b3 := step_below hb3 b2
  have P3 := P2.keep hb3
  have D3 := D2.keep hb3
  have hEQ := fun W => eqDr (clD S d l) (fun _ => 0) (clD_wf S d l) zero_wf W
  have hse := same_empty S d l hd
  obtain ⟨qd, hqd⟩ : ∃ qd, qd = clD S d l := ⟨_, rfl⟩
  rw [← hqd] at hEQ hse ⊢
  clear hqd p0 p1 HD2 P2 D2 hcb
  cases hsm : sameD qd (fun _ => 0)
  · rw [hsm] at hEQ hse
    have hbad := HBAD.out (by rw [tkB, ← hse, Bool.false_and, Bool.false_and])
    clear hse hsm
    have HX := hide hbad.1
    have HY := hide hbad.2
    have e6 : w3.cell? ⟨0, 0, none⟩ = some (erV (p 6)) := (hE0.out.keep b3).1 6 (by omega)
    have q6 := Later.cell e6
    clear hbad
    go_wp2_with (with_reducible refine wpList_build0G (by kernel_rfl) rfl ?_)
    refine wp_region_later (by kernel_rfl) (by kernel_rfl) ?_
    repeat (go_big_quiet_step (fail))
    refine wpQuiet_nil ?_
    rintro wz ⟨⟨_, hqz⟩, rfl⟩
    go_wp2
    go_ret2
    rw [HX.out, HY.out]
    exact ownE_nil (step_below hqz b3)
  rw [hsm] at hEQ hse
  have HSE := hide hse
  clear hse hsm
  have HB1 := hide (show tkB S l L d = (List.range L.length).all (trO l d L) by rw [tkB, ← HSE.out, decide_eq_true HCN.out, Bool.true_and, Bool.and_true])
  go_upto_region 7 with (with_reducible refine wpList_build0G (by kernel_rfl) rfl ?_)
  clear hEQ
  go_wp2_with fail
  go_loopw [10, 13, 41] (fun v _ iv wr => ∃ i : Nat, i ≤ L.length ∧ iv = .int .i64 i ∧ (∀ j, j < i → trO l d L j = true) ∧ wr.ownsRow w3.heap.size 2 1 v i (tcells (tkN l L d i)) ∧ Below w3.heap.size w3 wr)
    (fun _ _ i _ => L.length - (intOf i).toNat)
  case atStart => exact ⟨0, Nat.zero_le _, rfl, fun j hj => absurd hj (Nat.not_lt_zero _), ⟨rfl, Or.inl ⟨rfl, rfl⟩⟩, Below.refl _ _⟩
  case round =>
    obtain ⟨i, hiL, rfl, hall, hown, hb⟩ := hrel
    obtain ⟨Av, cv, rfl⟩ := own_shape hown
    have HALL := hide hall
    clear hall
    have bw := step_below hb b3
    have PR := P3.keep hb
    have DR := D3.keep hb
    by_cases hlt : i < L.length
    · have hii : (i : Int) < (L.length : Int) := by omega
      obtain ⟨bn, on, rfl, hbn, n1, n2⟩ := (hC.below bw) i hlt
      obtain ⟨a, ha⟩ : ∃ a : Nat, nAt L i = (a : Int) := ⟨(nAt L i).toNat, by have := HAT.out i hlt; omega⟩
      have hp47 := HPI.out i hlt
      obtain ⟨P, hp⟩ : ∃ P : Nat, nPi L i = (P : Int) := ⟨(nPi L i).toNat, by omega⟩
      have haS : a < S := by have := (HAT.out i hlt).1; omega
      have hat : (nAt L i).toNat = a := by omega
      have hP48 : P < 48 := by omega
      rw [hp] at n2
      rw [ha] at n1
      have HAp := hide (And.intro hat hp)
      clear ha hat hp hp47
      obtain ⟨x, hand, hx32, hbits⟩ := tk_bits (l := l) (d := d) (a := a) (p := P) hl (hd a (by omega))
      obtain ⟨V0, hV0⟩ : ∃ V, V = wr.alloc (.cells #[.int .i16 a, .int .i8 P] 65) := ⟨_, rfl⟩
      have hbV : Below wr.heap.size wr V0 := by rw [hV0]; exact (Below.refl _ _).alloc (Nat.le_refl _) _
      have N0 : Bk V0 wr.heap.size 65 #[.int .i16 a, .int .i8 P] := by rw [hV0]; exact Bk.new _ _ _ rfl
      have PV := PR.keep hbV
      have DV := DR.keep hbV
      have ownV := own_keep hown hbV
      have bV3 := step_below hbV hb
      go_upto_region 10 with fail
      rw [← hV0]
      clear hV0 n1 n2 hbn
      have q1 := Later.cell (N0.cell (i := 0) rfl)
      have q2 := Later.cell (N0.cell (i := 1) rfl)
      have q3 := Later.cell (DV.cell (show a < 96 by omega))
      have q4 := Later.cell (PV.pgU P hP48)
      have hai : (a : Int) < 96 := by omega
      have hpi : (P : Int) < 48 := by omega
      obtain ⟨x1, x2⟩ := hd a (by omega)
      obtain ⟨y1, y2⟩ := pgU_in l (show l.length ≤ 24 from hl) P
      refine wp_region_later (by kernel_rfl) (by kernel_rfl) ?_
      repeat (go_big_quiet_step (fail))
      refine wpQuiet_nil ?_
      rintro wz ⟨⟨_, hqz⟩, rfl⟩
      have bz3 := step_below hqz bV3
      have bz := step_below bz3 b3
      have ownz := own_keep ownV hqz
      clear q1 q2 q3 q4 N0 PV DV ownV hown PR DR hbV bV3
      go_wp2_with fail
      refine (ones_any x wz (by omega)).mono ?_
      rintro e w5 ⟨rfl, hb5⟩
      have b53 := step_below hb5 bz3
      have b5 := step_below b53 b3
      have own5 := own_keep ownz hb5
      have hpc := bitsL_pc hx32
      obtain ⟨pn, hpn⟩ : ∃ pn, pn = pc x := ⟨_, rfl⟩
      rw [← hpn] at hpc ⊢
      by_cases h1 : pn = 1
      rotate_left
      · have hpb : ((pn : Int) != 1) = true := by simp; omega
        have hbad := HBAD.out (by
          have h6 : trO l d L i = false := by
            unfold trO
            rw [HAp.out.1, HAp.out.2, ← hbits]
            simp only [decide_eq_false_iff_not]
            omega
          rw [HB1.out, List.all_eq_false]
          exact ⟨i, List.mem_range.2 hlt, by simp [h6]⟩)
        clear hpc h1 hpn hbits
        have HX := hide hbad.1
        have HY := hide hbad.2
        have e6 : w5.cell? ⟨0, 0, none⟩ = some (erV (p 6)) := (hE0.out.keep b5).1 6 (by omega)
        have q6 := Later.cell e6
        clear hbad
        go_wp2_with fail
        refine wp_region_later (by kernel_rfl) (by kernel_rfl) ?_
        repeat (go_big_quiet_step (fail))
        refine wpQuiet_nil ?_
        rintro wz ⟨⟨_, hqz⟩, rfl⟩
        go_wp2
        go_ret2
        rw [HX.out, HY.out]
        exact ownE_nil (step_below hqz b5)
      have hpb : ((pn : Int) != 1) = false := by simp [h1]
      obtain ⟨t, ht⟩ := List.length_eq_one_iff.1 (hpc.trans h1)
      have hx0 : x ≠ 0 := by
        intro e
        rw [e, bitsL_zero] at ht
        cases ht
      have hct : Lib.ctz 32 x = t := by
        have h7 := bitsL_low hx32 hx0
        rw [ht] at h7
        simp only [List.cons.injEq] at h7
        exact h7.1.symm
      have hO : trO l d L i = true := by
        unfold trO
        rw [HAp.out.1, HAp.out.2, ← hbits, ht]
        rfl
      have hTt : trT l d L i = t := by
        unfold trT
        rw [HAp.out.1, HAp.out.2, ← hbits, ht]
        rfl
      have htl : t < l.length := by rw [← hTt]; exact (trT_in hO).1
      have HOO := hide hO
      have HN := hide (show tkN l L d (i + 1) = tkN l L d i ++ [t] by rw [tkN_succ, hTt])
      have KT : ∀ W, Below w.heap.size w W → Calls Tryd.prog 55 #[.int .u32 x] W fun e w' => e = .returned (.int .i64 t) ∧ W = w' := fun W hW => by rw [← hct]; exact tz_any x W hx32 hx0 (hT.keep hW)
      clear hpc h1 hpn hbits ht hct hO hTt
      have hnew : ∀ j u, ([.int .i64 (t : Int)] : List Value)[j]? = some u → (w5.alloc (.cells #[.int .i64 (t : Int)] 2)).cell? ((⟨w5.heap.size, 0, none⟩ : Addr).add j) = some u := cell_one_new w5 (.int .i64 (t : Int)) 2
      have own7 := own5.alloc (.cells #[.int .i64 (t : Int)] 2)
      have hsz := b53.size
      go_wp2_with (first | (go_at_call 55; with_reducible refine (KT _ b5).mono ?_; rintro e w' ⟨rfl, rfl⟩) | (at_builtin; refine wpList_append_own _ rfl _ _ 51 rfl w3.heap.size 2 i0 (.int .i64 0) 1 8 Tryd.underlying51 hi hz0 hz1 hz2 rfl (by decide) _ _ _ rfl own7 ⟨w5.heap.size, 0, none⟩ 1 1 [.int .i64 (t : Int)] rfl rfl hnew (fun x hx => by simp at hx; subst hx; rfl) (by unfold maxLen; omega) (by omega) (by simp; omega) ?_; intro v' w8 hown8 hgrow8 hnil8))
      have hb8 := (b53.alloc b53.size (.cells #[.int .i64 (t : Int)] 2)).grown hgrow8 (by simp; omega) (fun j hj => (own5.lt j hj).1)
      go_roundw
      case rel => exact ⟨i + 1, hlt, by go_num, fun j hj => by
        rcases Nat.lt_or_ge j i with h | h
        · exact HALL.out j h
        · rw [show j = i by omega]; exact HOO.out, by rw [HN.out, tcells, List.map_append]; exact hown8, hb8⟩
      case measure => simp [intOf]; omega
    · have HI := hide (show i = L.length by omega)
      have hin : ¬ (i : Int) < (L.length : Int) := by omega
      have hgood := HGOOD.out (by
        rw [HB1.out]
        simp only [List.all_eq_true, List.mem_range]
        rw [← HI.out]
        exact HALL.out)
      have HX := hide hgood.1
      have HY := hide (show RL = tkN l L d i by rw [hgood.2, HI.out])
      clear hgood hiL hlt
      go_wp2
      go_ret2
      rw [HX.out, HY.out]
      exact ⟨Av, cv, by rw [tkN_len]; rfl, by rw [tkN_len]; exact own_base hown (by have := b3.size; omega), bw⟩
end Go.Proofs.YtdglhgfhlcdflaaDoor
