import Derived.Test.YtmmninlnpnhboaaGreatDoorDrf
import Derived.Test.YtmmninlnpnhboaaGreatDoorFit7
namespace Go.Proofs.YtmmninlnpnhboaaGreatDoor
open Go.RowKit
theorem dfQ_three (s : Int) (hl t : List (Int × Int)) (L : List Xc) : dfQ s hl t L = 0 ∨ dfQ s hl t L = 1 ∨ dfQ s hl t L = 2 := by
  unfold dfQ
  split
  · split <;> simp
  · simp
/-- the error of an arrangement, case by case -/
theorem df_cases (p : Nat → Addr) (s : Int) (hl t : List (Int × Int)) (L : List Xc) : (dfC s hl t L = 1 ∧ dfV p s hl t L = erV (p 0)) ∨ (dfC s hl t L = 2 ∧ dfV p s hl t L = unevenV) ∨ (∃ k : Nat, dfF s.toNat hl t L = some k ∧ dfQ s hl t L = 0 ∧ dfC s hl t L = 4 ∧ dfV p s hl t L = unfitV k) ∨ (dfC s hl t L = 0 ∧ dfV p s hl t L = .nilIface ∧ dfQ s hl t L = 0 ∧ dfF s.toNat hl t L = none) := by
  rcases dfQ_three s hl t L with h | h | h
  · cases hf : dfF s.toNat hl t L with
    | some k =>
      obtain ⟨h1, _, h3⟩ := dfR_4 (p := p) h hf
      exact .inr (.inr (.inl ⟨k, rfl, h, h1, h3⟩))
    | none =>
      obtain ⟨d, hd⟩ := dfS_ex hf
      obtain ⟨h1, _, h3⟩ := dfR_0 (p := p) h hf hd
      exact .inr (.inr (.inr ⟨h1, h3, h, rfl⟩))
  · obtain ⟨h1, _, h3⟩ := dfR_1 (p := p) h
    exact .inl ⟨h1, h3⟩
  · obtain ⟨h1, _, h3⟩ := dfR_2 (p := p) h
    exact .inr (.inl ⟨h1, h3⟩)
theorem dfD_wf (s : Int) (hl t : List (Int × Int)) (L : List Xc) : DWF (dfD s hl t L) := by
  unfold dfD
  split
  · cases h : dfS s.toNat hl t L L.length with
    | none => exact zero_wfP
    | some d => exact dfS_wf h
  · exact zero_wfP
theorem codeOf_df (p : Nat → Addr) (s : Int) (hl t : List (Int × Int)) (L : List Xc) (w : World) (hE : ErrP p w) : Calls Tryz.prog 38 #[dfV p s hl t L] w fun e w' => e = .returned (.int .i64 (dfC s hl t L)) ∧ Below w.heap.size w w' := by
  rcases df_cases p s hl t L with ⟨h1, h2⟩ | ⟨h1, h2⟩ | ⟨k, _, _, h1, h2⟩ | ⟨h1, h2, _⟩
  · rw [h1, h2]; exact (codeOf_0 hE).mono fun e w' ⟨h3, h4⟩ => ⟨h3, by rw [← h4]; exact Below.refl _ _⟩
  · rw [h1, h2]; exact codeOf_uneven hE
  · rw [h1, h2]; exact codeOf_unfit k hE
  · rw [h1, h2]; exact (codeOf_nil hE).mono fun e w' ⟨h3, h4⟩ => ⟨h3, by rw [← h4]; exact Below.refl _ _⟩
theorem df_neq (p : Nat → Addr) (s : Int) (hl t : List (Int × Int)) (L : List Xc) (w : World) : (binOp .neq 73 (dfV p s hl t L) .nilIface).run Tryz.prog w = .ok (.bool (decide (dfC s hl t L ≠ 0))) w := by
  rcases df_cases p s hl t L with ⟨h1, h2⟩ | ⟨h1, h2⟩ | ⟨k, _, _, h1, h2⟩ | ⟨h1, h2, _⟩
  · rw [h1, h2]; exact Go.run_neq_iface_nil (P := Tryz.prog) (w := w) 73 (by kernel_rfl) _ _
  · rw [h1, h2]; exact Go.run_neq_iface_nil (P := Tryz.prog) (w := w) 73 (by kernel_rfl) _ _
  · rw [h1, h2]; exact Go.run_neq_iface_nil (P := Tryz.prog) (w := w) 73 (by kernel_rfl) _ _
  · rw [h1, h2]; exact Go.run_neq_nil_nil_at (P := Tryz.prog) (w := w) 73 (by kernel_rfl)
theorem df_eql (p : Nat → Addr) (s : Int) (hl t : List (Int × Int)) (L : List Xc) (w : World) : (binOp .eql 73 (dfV p s hl t L) .nilIface).run Tryz.prog w = .ok (.bool (decide (dfC s hl t L = 0))) w := by
  rcases df_cases p s hl t L with ⟨h1, h2⟩ | ⟨h1, h2⟩ | ⟨k, _, _, h1, h2⟩ | ⟨h1, h2, _⟩
  · rw [h1, h2]; exact Go.run_eql_iface_nil (P := Tryz.prog) (w := w) 73 (by kernel_rfl) _ _
  · rw [h1, h2]; exact Go.run_eql_iface_nil (P := Tryz.prog) (w := w) 73 (by kernel_rfl) _ _
  · rw [h1, h2]; exact Go.run_eql_iface_nil (P := Tryz.prog) (w := w) 73 (by kernel_rfl) _ _
  · rw [h1, h2]; exact Go.run_eql_nil_nil_at (P := Tryz.prog) (w := w) 73 (by kernel_rfl)
set_option maxRecDepth 20000 in
set_option maxHeartbeats 4000000 in
theorem implDrumFor_any (p : Nat → Addr) (s : Int) (A : Option Addr) (c : Nat) (hl : List (Int × Int)) (B : Option Addr) (ct : Nat) (t : List (Int × Int)) (C : Option Addr) (cl : Nat) (L : List Xc) (w : World) (hA : HA w A hl) (hn : hl.length ≤ 1048576) (hwf : HWF hl) (hs : -32768 ≤ s ∧ s ≤ 32767)
    (hB : NA w B t) (hnt : t.length ≤ 1048576) (hwt : WF t) (hC : ChA w C L) (hnL : L.length ≤ 1048576) (hwL : ChWF L) (hE : ErrP p w) :
    Calls Tryz.prog 15 #[.agg #[.int .i16 s, .slice A hl.length c], .slice B t.length ct, .slice C L.length cl] w fun e w' => e = .returned (.tuple #[.agg (da (dfD s hl t L)), .int .i64 (dfC s hl t L)]) ∧ Below w.heap.size w w' := by
  have KD := fun W (h1 : HA W A hl) (h2 : NA W B t) (h3 : ChA W C L) (h4 : ErrP p W) => drumFor_any p s A c hl B ct t C cl L W h4 h1 hn hwf hs h2 hnt hwt h3 hnL hwL
  have KC := fun W (h4 : ErrP p W) => codeOf_df p s hl t L W h4
  have hdw := dfD_wf s hl t L
  have hne := df_neq p s hl t L
  have hz := zeroDrum
  obtain ⟨X, hX⟩ : ∃ X, X = (w.alloc (.cells #[.int .i16 s, .slice A hl.length c] 38)).alloc (.cells za 33) := ⟨_, rfl⟩
  have b0 : Below w.heap.size w X := by rw [hX]; exact ((Below.refl _ _).alloc (Nat.le_refl _) _).alloc (by simp) _
  have R1 : X.heap[w.heap.size]? = some (.cells #[.int .i16 s, .slice A hl.length c] 38 (0, 0)) := by rw [hX]; exact heap_old' (heap_new' _ _ _ rfl)
  have Z1 : Dr X (w.heap.size + 1) 33 (fun _ => 0) := by rw [hX, za_eq]; exact heap_new' _ _ _ (by simp)
  have f0 := cell_of_row _ _ 0 _ _ _ R1
  have f1 := cell_of_row _ _ 1 _ _ _ R1
  simp at f0 f1
  obtain ⟨dd, hdd⟩ : ∃ dd, dd = dfD s hl t L := ⟨_, rfl⟩
  obtain ⟨ev, hev⟩ : ∃ ev, ev = dfV p s hl t L := ⟨_, rfl⟩
  obtain ⟨cc, hcc⟩ : ∃ cc, cc = dfC s hl t L := ⟨_, rfl⟩
  rw [← hev, ← hcc] at KC hne
  rw [← hdd, ← hev] at KD
  rw [← hdd] at hdw
  have HDD := hide hdd
  have HEV := hide hev
  have HCC := hide hcc
  clear hdd hev hcc
  have hzz : za.size = (da dd).size := by rw [za_eq, da_size, da_size]
  go_enter Tryz.func15, Tryz.ntmps15
  go_upto_region 1 with fail
  rw [← hX]
  clear hX
  go_wp2_with fail
  refine (KD X (hA.below b0) (hB.below b0) (hC.below b0) (hE.keep b0)).mono ?_
  rintro e w2 ⟨rfl, hb2⟩
  have b2 := step_below hb2 b0
  go_upto_region 2 with (with_reducible refine wpList_store_new rfl 33 (.tmp 8) (.tmp 15) rfl dd rfl rfl 33 _ (dInfo dd) hzz ?_)
  obtain ⟨W3, hW3⟩ : ∃ W3, W3 = w2.alloc (.cells (da dd) 33) := ⟨_, rfl⟩
  have hb3 : Below w2.heap.size w2 W3 := by rw [hW3]; exact (Below.refl _ _).alloc (Nat.le_refl _) _
  have b3 := step_below hb3 b2
  have D3 : Dr W3 w2.heap.size 33 dd := by rw [hW3]; exact heap_new' _ _ _ rfl
  rw [← hW3]
  obtain ⟨gd, hgd⟩ : ∃ gd, gd = w2.heap.size := ⟨_, rfl⟩
  rw [← hgd] at D3 ⊢
  have hwg : w.heap.size < gd := by have h1 := hb2.size; have h2 := (Array.getElem?_eq_some_iff.1 R1).1; omega
  have Z3 := (Z1.keep hb2).keep hb3
  have hne2 : gd ≠ w.heap.size + 1 := by have h1 := hb2.size; have h2 := Z1.lt; omega
  have hEx := hE.keep b3
  have hd3 : Below W3.heap.size W3 W3.drew := (Below.refl _ _).drew
  have b4 := step_below hd3 b3
  have D4 := D3.keep hd3
  have Z4 := Z3.keep hd3
  have E4 := hE.keep b4
  refine wp_region_held_drew (S := fun _ => True) (by kernel_rfl) trivial fun _ => ?_
  clear hW3 hgd R1 f0 f1 KD hb2 b2 hb3 D3 Z1 Z3 hEx hd3 hne
  generalize W3.drew = W1 at *
  refine wpAnyH_take (i := 1) (v := ev) rfl (by kernel_rfl) (by kernel_rfl) (by kernel_rfl) (fun _ _ _ h => h) (Or.inl ⟨by rfl, fun w' _ => by go_simp⟩) trivial ?_
  change wpAnyH _ _ _ _ _ _ _ (Act.put _ (some 18) _) _
  simp only [Act.put, List.setIfInBounds_toArray, List.set_cons_zero, List.set_cons_succ]
  refine wpAnyH_ready (rs := [0, 2]) (by kernel_rfl) (by simp) (AllReadyH.cons rfl ?_ (AllReadyH.cons rfl ?_ AllReadyH.nil))
  · intro K hK
    rw [if_pos (by rfl)]
    refine wp_load_mid 33 (.tmp 8) rfl gd 0 rfl (dv dd) _ D4.range Tryz.underlying33 rfl (dInfo dd) ?_
    refine hK.out _ _ trivial (fun _ => ?_)
    clear hK K
    try (change wpAnyH _ _ _ _ _ _ _ (Act.put _ (some 17) _) _)
    try simp only [Act.put, List.setIfInBounds_toArray, List.set_cons_zero, List.set_cons_succ]
    refine wpAnyH_ready (rs := [2]) (by kernel_rfl) (by simp) (AllReadyH.cons rfl ?_ AllReadyH.nil)
    intro K hK
    rw [if_pos (by rfl)]
    go_simp
    refine (KC W1 E4).mono ?_
    rintro e W2 ⟨rfl, hbc⟩
    have b5 := step_below hbc b4
    have D5 := D4.keep hbc
    have Z5 := Z4.keep hbc
    refine hK.out _ _ trivial (fun _ => ?_)
    clear hK K
    try (change wpAnyH _ _ _ _ _ _ _ (Act.put _ (some 19) _) _)
    try simp only [Act.put, List.setIfInBounds_toArray, List.set_cons_zero, List.set_cons_succ]
    have HZ := hide (setRow_heap _ _ _ (da dd) _ _ Z5 : (W2.setRow (w.heap.size + 1) (da dd)).heap[w.heap.size + 1]? = some (.cells (da dd) 33 (0, 0)))
    have hb9 : Below w.heap.size w (W2.setRow (w.heap.size + 1) (da dd)) := below_setRow b5 (by omega)
    refine wpAnyH_ready (rs := [3]) (by kernel_rfl) (by simp) (AllReadyH.cons rfl ?_ AllReadyH.nil)
    intro K hK
    rw [if_pos (by rfl)]
    refine wp_store_row 33 (.tmp 6) (.tmp 17) rfl (w.heap.size + 1) (da dd) rfl rfl 33 (da fun _ => 0) Z5 (by rw [da_size]; exact info33) (by simp only [da_size]) (da_one _) ?_
    refine hK.out _ _ trivial (fun _ => ?_)
    clear hK K
    refine wpAnyH_take (i := 4) (v := .int .i64 cc) rfl (by kernel_rfl) (by kernel_rfl) (by kernel_rfl) (fun _ _ _ h => h) (Or.inl ⟨by rfl, fun w' _ => by go_simp⟩) trivial ?_
    change wpAnyH _ _ _ _ _ _ _ (Act.put _ (some 7) _) _
    simp only [Act.put, List.setIfInBounds_toArray]
    refine wpAnyH_done (by kernel_rfl) ?_ _
    go_wp2_with fail
    exact bodyPost_ret (v := .tuple #[.agg (da dd), .int .i64 cc]) (results_dr Tryz.results15 _ _ (w.heap.size + 1) 33 _ _ (by simp) (by simp) HZ.out) rfl ⟨by rw [HDD.out, HCC.out], hb9⟩
  · intro K hK
    rw [if_pos (by rfl)]
    go_simp
    refine (KC W1 E4).mono ?_
    rintro e W2 ⟨rfl, hbc⟩
    have b5 := step_below hbc b4
    have D5 := D4.keep hbc
    have Z5 := Z4.keep hbc
    refine hK.out _ _ trivial (fun _ => ?_)
    clear hK K
    try (change wpAnyH _ _ _ _ _ _ _ (Act.put _ (some 19) _) _)
    try simp only [Act.put, List.setIfInBounds_toArray, List.set_cons_zero, List.set_cons_succ]
    refine wpAnyH_ready (rs := [0]) (by kernel_rfl) (by simp) (AllReadyH.cons rfl ?_ AllReadyH.nil)
    intro K hK
    rw [if_pos (by rfl)]
    refine wp_load_mid 33 (.tmp 8) rfl gd 0 rfl (dv dd) _ D5.range Tryz.underlying33 rfl (dInfo dd) ?_
    refine hK.out _ _ trivial (fun _ => ?_)
    clear hK K
    try (change wpAnyH _ _ _ _ _ _ _ (Act.put _ (some 17) _) _)
    try simp only [Act.put, List.setIfInBounds_toArray, List.set_cons_zero, List.set_cons_succ]
    have HZ := hide (setRow_heap _ _ _ (da dd) _ _ Z5 : (W2.setRow (w.heap.size + 1) (da dd)).heap[w.heap.size + 1]? = some (.cells (da dd) 33 (0, 0)))
    have hb9 : Below w.heap.size w (W2.setRow (w.heap.size + 1) (da dd)) := below_setRow b5 (by omega)
    refine wpAnyH_ready (rs := [3]) (by kernel_rfl) (by simp) (AllReadyH.cons rfl ?_ AllReadyH.nil)
    intro K hK
    rw [if_pos (by rfl)]
    refine wp_store_row 33 (.tmp 6) (.tmp 17) rfl (w.heap.size + 1) (da dd) rfl rfl 33 (da fun _ => 0) Z5 (by rw [da_size]; exact info33) (by simp only [da_size]) (da_one _) ?_
    refine hK.out _ _ trivial (fun _ => ?_)
    clear hK K
    refine wpAnyH_take (i := 4) (v := .int .i64 cc) rfl (by kernel_rfl) (by kernel_rfl) (by kernel_rfl) (fun _ _ _ h => h) (Or.inl ⟨by rfl, fun w' _ => by go_simp⟩) trivial ?_
    change wpAnyH _ _ _ _ _ _ _ (Act.put _ (some 7) _) _
    simp only [Act.put, List.setIfInBounds_toArray]
    refine wpAnyH_done (by kernel_rfl) ?_ _
    go_wp2_with fail
    exact bodyPost_ret (v := .tuple #[.agg (da dd), .int .i64 cc]) (results_dr Tryz.results15 _ _ (w.heap.size + 1) 33 _ _ (by simp) (by simp) HZ.out) rfl ⟨by rw [HDD.out, HCC.out], hb9⟩
end Go.Proofs.YtmmninlnpnhboaaGreatDoor
namespace Go.Proofs.YtmmninlnpnhboaaGreatDoor
open Go.RowKit
set_option maxRecDepth 20000 in
set_option maxHeartbeats 4000000 in
theorem l07Asked_any (b : Nat) (s : Int) (A : Option Addr) (c : Nat) (hl : List (Int × Int)) (B : Option Addr) (ct : Nat) (t : List (Int × Int)) (C : Option Addr) (cl : Nat) (L : List Xc) (w : World) (hF : FP w b s A hl.length c) (hA : HA w A hl) (hn : hl.length ≤ 1048576) (hwf : HWF hl) (hs : -32768 ≤ s ∧ s ≤ 32767)
    (hB : NA w B t) (hnt : t.length ≤ 1048576) (hwt : WF t) (hC : ChA w C L) (hnL : L.length ≤ 1048576) (hwL : ChWF L) :
    Calls Tryz.prog 42 #[.pointer (some ⟨b, 0, none⟩), .slice B t.length ct, .slice C L.length cl] w fun e w' => e = .returned (.int .i64 (dfQ s hl t L)) ∧ Below w.heap.size w w' := by
  have KF := l02Frame_any b s A c hl w hF hA hn hwf hs
  have KO := fun W (h2 : NA W B t) => l01Ok_any B ct t W h2 hnt hwt
  have KC := fun W (h3 : ChA W C L) => l07Choices_any C cl L W h3 hnL hwL
  obtain ⟨v, hv⟩ : ∃ v, v = dfQ s hl t L := ⟨_, rfl⟩
  rw [← hv]
  have HV := hide hv
  clear hv
  cases hf : frB s hl
  · rw [hf] at KF
    have HR := hide (dfQ_no (s := s) (hl := hl) (t := t) (L := L) (by simp [hf]))
    clear hf KO KC
    go_enter Tryz.func42, Tryz.ntmps42
    go_wp2_with fail
    refine KF.mono ?_
    rintro e w1 ⟨rfl, b1⟩
    go_wp2
    go_ret
    exact ⟨by rw [HV.out, HR.out]; rfl, b1⟩
  rw [hf] at KF
  cases ho : okB t
  · rw [ho] at KO
    have HR := hide (dfQ_no (s := s) (hl := hl) (t := t) (L := L) (by simp [ho]))
    clear hf ho KC
    go_enter Tryz.func42, Tryz.ntmps42
    go_wp2_with fail
    refine KF.mono ?_
    rintro e w1 ⟨rfl, b1⟩
    go_wp2_with fail
    refine (KO w1 (hB.below b1)).mono ?_
    rintro e w2 ⟨rfl, hb2⟩
    have b2 := step_below hb2 b1
    go_wp2
    go_ret
    exact ⟨by rw [HV.out, HR.out]; rfl, b2⟩
  rw [ho] at KO
  cases hx : xsB L
  · rw [hx] at KC
    have HR := hide (dfQ_no (s := s) (hl := hl) (t := t) (L := L) (by simp [hx]))
    clear hf ho hx
    go_enter Tryz.func42, Tryz.ntmps42
    go_wp2_with fail
    refine KF.mono ?_
    rintro e w1 ⟨rfl, b1⟩
    go_wp2_with fail
    refine (KO w1 (hB.below b1)).mono ?_
    rintro e w2 ⟨rfl, hb2⟩
    have b2 := step_below hb2 b1
    go_wp2_with fail
    refine (KC w2 (hC.below b2)).mono ?_
    rintro e w3 ⟨rfl, hb3⟩
    have b3 := step_below hb3 b2
    go_wp2
    go_ret
    exact ⟨by rw [HV.out, HR.out]; rfl, b3⟩
  rw [hx] at KC
  have hall := And.intro hf (And.intro ho hx)
  clear hf ho hx
  by_cases hne : L.length = t.length
  · have hnei : ((L.length : Int) != (t.length : Int)) = false := by simp [hne]
    have HR := hide (dfQ_yes (s := s) (hl := hl) hall hne)
    have HNE := hide hne
    clear hne hall
    go_enter Tryz.func42, Tryz.ntmps42
    go_wp2_with fail
    refine KF.mono ?_
    rintro e w1 ⟨rfl, b1⟩
    go_wp2_with fail
    refine (KO w1 (hB.below b1)).mono ?_
    rintro e w2 ⟨rfl, hb2⟩
    have b2 := step_below hb2 b1
    go_wp2_with fail
    refine (KC w2 (hC.below b2)).mono ?_
    rintro e w3 ⟨rfl, hb3⟩
    have b3 := step_below hb3 b2
    go_wp2
    go_ret
    exact ⟨by rw [HV.out, HR.out]; rfl, b3⟩
  · have hnei : ((L.length : Int) != (t.length : Int)) = true := by simp; omega
    have HR := hide (dfQ_uneven (s := s) (hl := hl) hall hne)
    have HNE := hide hne
    clear hne hall
    go_enter Tryz.func42, Tryz.ntmps42
    go_wp2_with fail
    refine KF.mono ?_
    rintro e w1 ⟨rfl, b1⟩
    go_wp2_with fail
    refine (KO w1 (hB.below b1)).mono ?_
    rintro e w2 ⟨rfl, hb2⟩
    have b2 := step_below hb2 b1
    go_wp2_with fail
    refine (KC w2 (hC.below b2)).mono ?_
    rintro e w3 ⟨rfl, hb3⟩
    have b3 := step_below hb3 b2
    go_wp2
    go_ret
    exact ⟨by rw [HV.out, HR.out]; rfl, b3⟩
end Go.Proofs.YtmmninlnpnhboaaGreatDoor
