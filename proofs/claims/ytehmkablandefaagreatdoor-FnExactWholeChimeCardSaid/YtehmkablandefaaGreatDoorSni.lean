import Derived.Test.YtehmkablandefaaGreatDoorGbf
import Derived.Deep.RegionHeld3
namespace Go.Proofs.YtehmkablandefaaGreatDoor
open Go.RowKit
theorem yieldsIf_load_plS {ops : Array Oper} {S : World → Prop} {op : Oper} {a : Act} (hw : Region.wanted op (yielded ops a.tmps) = true) (x : Operand) (ho : op.op = .load 76 x)
    (b p : Nat) (hx : a.eval x = .pointer (some ⟨b, p, none⟩)) (s : Int) (A : Option Addr) (n c : Nat) (B : Option Addr) (m d : Nat) (o : Nat → Int) (hS : ∀ w, S w → w.rangeAt b p (plL s A n c B m d o)) : YieldsIf Tryz.prog ops S op (.agg (plA s A n c B m d o)) a :=
  yieldsIf_load_mid hw 76 x ho b p hx (plL s A n c B m d o) _ hS Tryz.underlying76 rfl (by rw [plInfo (s := s) (A := A) (n := n) (c := c) (B := B) (m := m) (d := d) (o := o), plA_size, plL_length])
set_option maxRecDepth 20000 in
theorem planFor1_any (s : Int) (A : Option Addr) (c : Nat) (l : List (Int × Int)) (q : Nat → Int) (B : Option Addr) (d : Nat) (m : List (Int × Int)) (o : Nat → Int) (w : World) (hA : HA w A l) (hn : l.length ≤ 1048576) (hwf : HWF l) (hs : -32768 ≤ s ∧ s ≤ 32767) (hq : DWF q)
    (hB : SecA w B m) (hm : m.length ≤ 1048576) (hswf : SWF m) (howf : OWF o) (g : Nat) (hg : g = w.heap.size) (b : Bool) (hb : (prgB s l m o && drB s l.length q) = b) :
    Calls Tryz.prog 33 #[.agg #[.int .i16 s, .slice A l.length c], .agg (prA B m.length d o), .slice (some ⟨g, 0, none⟩) 1 1] (w.alloc (.cells (da q) 43)) (PlanC b (plA s A l.length c B m.length d o) (w.alloc (.cells (da q) 43))) := by
  subst hg
  have hb0 : Below w.heap.size w (w.alloc (.cells (da q) 43)) := (Below.refl _ _).alloc (Nat.le_refl _) _
  have hd1 : ∀ j, j < [q].length → DWF ([q].getD j (fun _ => 0)) := by
    intro j hj
    obtain rfl : j = 0 := by simpa using hj
    exact hq
  have e : drsB s l.length [q] = drB s l.length q := by simp [drsB]
  refine planFor_any s A c l B d m o (some ⟨w.heap.size, 0, none⟩) 1 1 (drB s l.length q) _ (hA.below hb0) hn hwf hs (hB.below hb0) hm hswf howf (fun hf W hW => ?_) b ?_
  · rw [← e]
    exact fits_any s A l.length c w.heap.size 1 [q] W ((LD1 w q).keep hW) (frB_all hf).2.1.2 (frB_all hf).1 hd1 (by simp)
  · have h := plan_prg s l m o
    rw [← hb, ← h]
    cases frB s l <;> cases drB s l.length q <;> cases planB s m o <;> rfl
set_option maxRecDepth 20000 in
set_option maxHeartbeats 4000000 in
theorem implSectionTune_any (s : Int) (A : Option Addr) (c : Nat) (l : List (Int × Int)) (q : Nat → Int) (B : Option Addr) (d : Nat) (m : List (Int × Int)) (o : Nat → Int) (x : Int) (w : World) (hA : HA w A l) (hn : l.length ≤ 1048576) (hwf : HWF l) (hs : -32768 ≤ s ∧ s ≤ 32767) (hq : DWF q) (hB : SecA w B m) (hm : m.length ≤ 1048576) (hswf : SWF m) (howf : OWF o) (hTab : TabW w) :
    Calls Tryz.prog 12 #[.agg #[.int .i16 s, .slice A l.length c], .agg (da q), .agg (prA B m.length d o), .int .i64 x] w (OwnN w (snV s l q m o x) (snC s l q m o x)) := by
  have hz := zeroPln
  go_enter Tryz.func12, Tryz.ntmps12
  go_upto_region 1 with fail
  obtain ⟨X, hX⟩ : ∃ X, X = ((w.alloc (.cells #[.int .i16 s, .slice A l.length c] 41)).alloc (.cells (da q) 43)).alloc (.cells (prA B m.length d o) 47) := ⟨_, rfl⟩
  have hb0 : Below w.heap.size w X := by rw [hX]; exact (((Below.refl _ _).alloc (Nat.le_refl _) _).alloc (by simp) _).alloc (by simp; omega) _
  have F0 : FP X w.heap.size s A l.length c := by
    have h : Bk X w.heap.size 41 #[.int .i16 s, .slice A l.length c] := by rw [hX]; exact ((Bk.new _ _ _ rfl).old _).old _
    exact ⟨h.cell rfl, h.cell rfl⟩
  have D0 : Dr X (w.heap.size + 1) 43 q := by rw [hX]; exact heap_old' (heap_new' _ _ _ (by simp))
  have P0 : Bk X (w.heap.size + 1 + 1) 47 (prA B m.length d o) := by rw [hX]; exact Bk.new _ _ _ (by simp)
  rw [← hX]
  clear hX
  have f0 := F0.1
  have f1 := F0.2
  have HP := hide P0.range49
  have HD := hide D0.range
  obtain ⟨b, hb⟩ : ∃ b, (prgB s l m o && drB s l.length q) = b := ⟨_, rfl⟩
  go_wp2_with (first | (with_reducible refine wpList_load_pr rfl 47 (.tmp 6) rfl (w.heap.size + 1 + 1) 0 rfl _ _ _ _ _ HP.out Tryz.underlying47 rfl (pInfo _ _ _ _) ?_) | (with_reducible refine wpList_load_da rfl 43 (.tmp 5) rfl (w.heap.size + 1) 0 rfl q _ HD.out Tryz.underlying43 rfl (dInfo q) ?_) | (with_reducible refine wpList_build1 rfl (.tmp 15) rfl q rfl ?_))
  have hx0 : Below X.heap.size X (X.alloc (.cells (da q) 43)) := (Below.refl _ _).alloc (Nat.le_refl _) _
  refine (planFor1_any s A c l q B d m o X (hA.below hb0) hn hwf hs hq (hB.below hb0) hm hswf howf _ rfl b hb).mono ?_
  rintro e w1 ⟨rfl, hb1⟩
  have bX1 := step_below hb1 hx0
  have b1 := step_below bX1 hb0
  have D1 := D0.keep bX1
  clear f0 f1 HP HD F0 P0 D0 hx0
  have hzi : (Tryz.prog.info? 76).map (·.size) = some zpl.size := by rw [zpl_eq]; exact plInfo
  have hzo : zpl.all (·.oneCell') = true := by rw [zpl_eq]; exact plA_one
  cases b
  · simp only [Bool.false_eq_true, if_false]
    have hcc : snC s l q m o x = 1 := by simp only [snC, hb]; rfl
    have HX := hide hcc
    have HY := hide (show snV s l q m o x = [] by simp [snV, hcc])
    clear hcc hb
    go_wp2_with (with_reducible refine wpList_store_newG rfl 76 (.tmp 10) (.tmp 18) rfl zpl rfl rfl 76 _ hzi rfl hzo ?_)
    go_ret2
    rw [HX.out, HY.out]
    exact ownN_nil none 0 1 ⟨rfl, Or.inl ⟨rfl, rfl⟩⟩ (b1.alloc b1.size _)
  simp only [if_true]
  have hal : Below w1.heap.size w1 (w1.alloc (.cells (plA s A l.length c B m.length d o) 76)) := (Below.refl _ _).alloc (Nat.le_refl _) _
  have Q0 : Bk (w1.alloc (.cells (plA s A l.length c B m.length d o) 76)) w1.heap.size 76 (plA s A l.length c B m.length d o) := Bk.new _ _ _ rfl
  have b2 := step_below hal b1
  have D2 := D1.keep hal
  go_upto_region 2 with (with_reducible refine wpList_store_newG rfl 76 (.tmp 10) (.tmp 18) rfl (plA s A l.length c B m.length d o) rfl rfl 76 _ plInfo (by rw [zpl_eq, plA_size, plA_size]) plA_one ?_)
  obtain ⟨Y, hY⟩ : ∃ Y, Y = w1.alloc (.cells (plA s A l.length c B m.length d o) 76) := ⟨_, rfl⟩
  rw [← hY] at hal Q0 b2 D2 ⊢
  clear hY hz hzi hzo hb1
  have A2 := hA.below b2
  have B2 := hB.below b2
  have hb' := hb
  rw [Bool.and_eq_true] at hb'
  have hpa := prgB_all hb'.1
  have hfa := frB_all (show frB s l = true by have := hb'.1; simp only [prgB, Bool.and_eq_true] at this; exact this.1.1.1)
  have HQ3 := hide Q0.plRange
  cases h2 : inB x 0 ((m.length : Int) - 1)
  · have K2 : ∀ W, Calls Tryz.prog 34 #[.agg (plA s A l.length c B m.length d o), .int .i64 x] W (Says false W) := fun W => by rw [← h2]; exact hasSection_any s A _ c B _ d o x hm W
    have hcc : snC s l q m o x = 2 := by simp only [snC, hb, h2]; rfl
    have HX := hide hcc
    have HY := hide (show snV s l q m o x = [] by simp [snV, hcc])
    clear hcc hb hb' h2 hpa hfa
    go_wp2_with (first | (with_reducible refine wpList_want_pl rfl (.tmp 10) rfl w1.heap.size 0 rfl _ _ _ _ _ _ _ _ HQ3.out ?_) | (go_at_call 34; refine (K2 _).mono ?_; rintro e w4 ⟨rfl, hb4⟩))
    go_ret2
    rw [HX.out, HY.out]
    exact ownN_nil none 0 2 ⟨rfl, Or.inl ⟨rfl, rfl⟩⟩ (step_below hb4 b2)
  have K2 : ∀ W, Calls Tryz.prog 34 #[.agg (plA s A l.length c B m.length d o), .int .i64 x] W (Says true W) := fun W => by rw [← h2]; exact hasSection_any s A _ c B _ d o x hm W
  obtain ⟨k, hk⟩ : ∃ k : Nat, x = (k : Int) := ⟨x.toNat, by simp [inB] at h2; omega⟩
  subst hk
  have hlt : k < m.length := by simp [inB] at h2; omega
  have hin := sec_in hpa.2.2.1 k hlt
  have hs96 := hpa.1
  have hm12 := hpa.2.1
  obtain ⟨S, rfl⟩ : ∃ S : Nat, s = (S : Int) := ⟨s.toNat, by omega⟩
  obtain ⟨F, hF⟩ : ∃ F : Nat, secF m k = (F : Int) := ⟨(secF m k).toNat, by omega⟩
  obtain ⟨T, hT⟩ : ∃ T : Nat, secS m k = (T : Int) := ⟨(secS m k).toNat, by omega⟩
  have hL : snL l m q k = sortU (scN l q F T) := by simp [snL, hF, hT]
  have hC : snC S l q m o k = if (sortU (scN l q F T)).length ≤ 120 then 0 else 3 := by simp only [snC, hb, h2, hL, if_true]
  have hV : snV S l q m o k = if (sortU (scN l q F T)).length ≤ 120 then sortU (scN l q F T) else [] := by simp only [snV, snC, hb, h2, hL, if_true]; split <;> simp_all
  have KT := fun W (hW : Below w.heap.size w W) => tuneIn_any S A c l q B m.length d o F T W (hA.below hW) (by omega) hfa.2.1.2 hwf hfa.2.2 hb'.2 hq (by omega) (hTab.keep hW)
  rw [← hC, ← hV] at KT
  obtain ⟨RV, hRV⟩ : ∃ RV, RV = snV S l q m o k := ⟨_, rfl⟩
  obtain ⟨RC, hRC⟩ : ∃ RC, RC = snC S l q m o k := ⟨_, rfl⟩
  rw [← hRV, ← hRC] at KT
  have HRV := hide hRV
  have HRC := hide hRC
  have KT := hide KT
  clear hRV hRC hC hV hL hb hb' h2 hpa hfa hin
  go_wp2_with (first | (with_reducible refine wpList_want_pl rfl (.tmp 10) rfl w1.heap.size 0 rfl _ _ _ _ _ _ _ _ HQ3.out ?_) | (go_at_call 34; refine (K2 _).mono ?_; rintro e w4 ⟨rfl, hb4⟩))
  have b4 := step_below hb4 b2
  have Q4 := Q0.keep hb4
  have D4 := D2.keep hb4
  obtain ⟨b', p, rfl, hbb, d1, d2⟩ := (B2.below hb4) k hlt
  rw [hF] at d1
  rw [hT] at d2
  have HL := hide (fun p => Q4.plLater p)
  have HLD := hide (fun p => D4.later p)
  have g2 := Later.cell Q4.plSecs
  have g3 := Later.cell d1
  have g4 := Later.cell d2
  have hki : (k : Int) < (m.length : Int) := by omega
  have tb : Below w4.heap.size w4 w4.drew := (Below.refl _ _).drew
  have Q5 := Q4.keep tb
  have D5 := D4.keep tb
  have e1 := (tb.cell (p := ⟨b', p + k * 2, none⟩) (World.block_lt_of_cell? _ _ d1)).trans d1
  have e2 := (tb.cell (p := ⟨b', p + k * 2 + 1, none⟩) (World.block_lt_of_cell? _ _ d2)).trans d2
  have b5 := step_below tb b4
  clear HL HLD g2 g3 g4
  refine wp_region_held_drew (S := fun w' => w'.rangeAt w1.heap.size 0 (plL S A l.length c (some ⟨b', p, none⟩) m.length d o) ∧ w'.rangeAt (w.heap.size + 1) 0 (dv q) ∧ w'.cell? ⟨w1.heap.size, 2, none⟩ = some (.slice (some ⟨b', p, none⟩) m.length d) ∧ w'.cell? ⟨b', p + k * 2, none⟩ = some (.int .i16 F) ∧ w'.cell? ⟨b', p + k * 2 + 1, none⟩ = some (.int .i16 T)) (by kernel_rfl) ⟨Q5.plRange, D5.range, Q5.plSecs, e1, e2⟩ fun hS1 => ?_
  generalize w4.drew = W5 at *
  refine wpAnyH_take (i := 0) rfl (by kernel_rfl) (by kernel_rfl) (by kernel_rfl) (fun _ _ _ h => h) (yieldsIf_load_plS (by rfl) _ rfl w1.heap.size 0 rfl S A l.length c (some ⟨b', p, none⟩) m.length d o (fun _ h => h.1)) hS1 ?_
  simp only [Act.put, List.setIfInBounds_toArray, List.set_cons_zero, List.set_cons_succ]
  refine wpAnyH_take (i := 1) rfl (by kernel_rfl) (by kernel_rfl) (by kernel_rfl) (fun _ _ _ h => h) (yieldsIf_load_mid (by rfl) _ _ rfl (w.heap.size + 1) 0 rfl (dv q) _ (fun _ h => h.2.1) Tryz.underlying43 rfl (dInfo q)) hS1 ?_
  simp only [Act.put, List.setIfInBounds_toArray, List.set_cons_zero, List.set_cons_succ]
  refine wpAnyH_take (i := 2) (v := .pointer (some ⟨w1.heap.size, 2, none⟩)) rfl (by kernel_rfl) (by kernel_rfl) (by kernel_rfl) (fun _ _ _ h => h) (Or.inl ⟨by rfl, fun w' _ => by go_simp⟩) hS1 ?_
  change wpAnyH _ _ _ _ _ _ _ (Act.put _ (some 29) _) _
  simp only [Act.put, List.setIfInBounds_toArray, List.set_cons_zero, List.set_cons_succ]
  refine wpAnyH_take (i := 3) (v := .pointer (some ⟨w1.heap.size, 2, none⟩)) rfl (by kernel_rfl) (by kernel_rfl) (by kernel_rfl) (fun _ _ _ h => h) (Or.inl ⟨by rfl, fun w' _ => by go_simp⟩) hS1 ?_
  change wpAnyH _ _ _ _ _ _ _ (Act.put _ (some 30) _) _
  simp only [Act.put, List.setIfInBounds_toArray, List.set_cons_zero, List.set_cons_succ]
  refine wpAnyH_take (i := 4) (v := .slice (some ⟨b', p, none⟩) m.length d) rfl (by kernel_rfl) (by kernel_rfl) (by kernel_rfl) (fun _ _ _ h => h) (Or.inl ⟨by rfl, fun w' h => ?_⟩) hS1 ?_
  · have c0 := h.2.2.1
    clear h
    go_simp
  change wpAnyH _ _ _ _ _ _ _ (Act.put _ (some 31) _) _
  simp only [Act.put, List.setIfInBounds_toArray, List.set_cons_zero, List.set_cons_succ]
  refine wpAnyH_take (i := 5) (v := .int .i64 (k : Int)) rfl (by kernel_rfl) (by kernel_rfl) (by kernel_rfl) (fun _ _ _ h => h) (Or.inl ⟨by rfl, fun w' _ => by go_simp⟩) hS1 ?_
  change wpAnyH _ _ _ _ _ _ _ (Act.put _ (some 32) _) _
  simp only [Act.put, List.setIfInBounds_toArray, List.set_cons_zero, List.set_cons_succ]
  refine wpAnyH_take (i := 6) (v := .pointer (some ⟨b', p + k * 2, none⟩)) rfl (by kernel_rfl) (by kernel_rfl) (by kernel_rfl) (fun _ _ _ h => h) (Or.inl ⟨by rfl, fun w' _ => by go_simp⟩) hS1 ?_
  change wpAnyH _ _ _ _ _ _ _ (Act.put _ (some 33) _) _
  simp only [Act.put, List.setIfInBounds_toArray, List.set_cons_zero, List.set_cons_succ]
  refine wpAnyH_take (i := 7) (v := .agg #[.int .i16 F, .int .i16 T]) rfl (by kernel_rfl) (by kernel_rfl) (by kernel_rfl) (fun _ _ _ h => h) (Or.inl ⟨by rfl, fun w' h => ?_⟩) hS1 ?_
  · have c0 := h.2.2.2.1
    have c1 := h.2.2.2.2
    clear h
    go_simp
  change wpAnyH _ _ _ _ _ _ _ (Act.put _ (some 34) _) _
  simp only [Act.put, List.setIfInBounds_toArray, List.set_cons_zero, List.set_cons_succ]
  refine wpAnyH_ready (rs := [8]) (by kernel_rfl) (by simp) (AllReadyH.cons rfl ?_ AllReadyH.nil)
  intro K hK
  rw [if_pos (by rfl)]
  go_simp
  refine (KT.out _ b5).mono ?_
  rintro en w6 ⟨C6, q6, rfl, own6, hb6⟩
  have Q6 := Q5.keep hb6
  have D6 := D5.keep hb6
  refine hK.out _ _ ⟨Q6.plRange, D6.range, Q6.plSecs, (hb6.cell (p := ⟨b', p + k * 2, none⟩) (World.block_lt_of_cell? _ _ e1)).trans e1, (hb6.cell (p := ⟨b', p + k * 2 + 1, none⟩) (World.block_lt_of_cell? _ _ e2)).trans e2⟩ (fun hS6 => ?_)
  clear hK K
  try (change wpAnyH _ _ _ _ _ _ _ (Act.put _ (some 35) _) _)
  try simp only [Act.put, List.setIfInBounds_toArray, List.set_cons_zero, List.set_cons_succ]
  refine wpAnyH_take (i := 9) (v := .slice C6 RV.length q6) rfl (by kernel_rfl) (by kernel_rfl) (by kernel_rfl) (fun _ _ _ h => h) (Or.inl ⟨by rfl, fun w' _ => by go_simp⟩) hS6 ?_
  change wpAnyH _ _ _ _ _ _ _ (Act.put _ (some 36) _) _
  simp only [Act.put, List.setIfInBounds_toArray, List.set_cons_zero, List.set_cons_succ]
  refine wpAnyH_take (i := 10) (v := .int .i64 RC) rfl (by kernel_rfl) (by kernel_rfl) (by kernel_rfl) (fun _ _ _ h => h) (Or.inl ⟨by rfl, fun w' _ => by go_simp⟩) hS6 ?_
  change wpAnyH _ _ _ _ _ _ _ (Act.put _ (some 37) _) _
  simp only [Act.put, List.setIfInBounds_toArray, List.set_cons_zero, List.set_cons_succ]
  refine wpAnyH_take (i := 11) (v := .slice C6 RV.length q6) rfl (by kernel_rfl) (by kernel_rfl) (by kernel_rfl) (fun _ _ _ h => h) (Or.inl ⟨by rfl, fun w' _ => by go_simp⟩) hS6 ?_
  change wpAnyH _ _ _ _ _ _ _ (Act.put _ (some 8) _) _
  simp only [Act.put, List.setIfInBounds_toArray, List.set_cons_zero, List.set_cons_succ]
  refine wpAnyH_take (i := 12) (v := .int .i64 RC) rfl (by kernel_rfl) (by kernel_rfl) (by kernel_rfl) (fun _ _ _ h => h) (Or.inl ⟨by rfl, fun w' _ => by go_simp⟩) hS6 ?_
  change wpAnyH _ _ _ _ _ _ _ (Act.put _ (some 9) _) _
  simp only [Act.put, List.setIfInBounds_toArray, List.set_cons_zero, List.set_cons_succ]
  refine wpAnyH_done (by kernel_rfl) ?_ _
  have hbs := b5.size
  clear hS1 hS6 Q6 D6 Q5 D5 Q4 D4
  go_wp2
  go_ret2
  rw [← HRV.out, ← HRC.out]
  exact ⟨C6, q6, rfl, own_base own6 hbs, step_below hb6 b5⟩
end Go.Proofs.YtehmkablandefaaGreatDoor
