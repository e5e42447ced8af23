import Derived.Test.YtehmkablandefaaGreatDoorScs
import Derived.Test.YtehmkablandefaaGreatDoorGbb
import Derived.Deep.RegionHeld3
import Derived.Test.YtehmkablandefaaGreatDoorGbd
namespace Go.Proofs.YtehmkablandefaaGreatDoor
open Go.RowKit
theorem own_cap {w : World} {base n c : Nat} {e : TypeId} {size : Nat} {C : Option Addr} {xs : List Value} (h : w.ownsRow base e size (.slice C n c) n xs) : n ≤ c := by
  rcases h.2 with ⟨h', h0⟩ | ⟨g, cap, cur, h', hr⟩
  · simp only [Value.slice.injEq] at h'
    omega
  · simp only [Value.slice.injEq] at h'
    obtain ⟨_, _, rfl⟩ := h'
    obtain ⟨_, _, h3, h4, h5, h6⟩ := hr
    omega
theorem gK_mono (P : Nat → Nat → Bool) (n k : Nat) : (gK P n k).Pairwise fun x y => x.1 ≤ y.1 := by
  rw [gK_rw, List.pairwise_flatMap]
  refine ⟨fun j _ => ?_, ?_⟩
  · rw [List.pairwise_iff_forall_sublist]
    intro a b hs
    have ha := hs.subset (show a ∈ [a, b] by simp)
    have hb := hs.subset (show b ∈ [a, b] by simp)
    rw [rw_fst ha, rw_fst hb]
    exact Nat.le_refl _
  · refine List.Pairwise.imp ?_ List.pairwise_lt_range
    intro a b hab x hx y hy
    rw [rw_fst hx, rw_fst hy]
    omega
theorem toL_mono {S : Nat} {l : List (Int × Int)} {d : Nat → Int} (hdr : drB (S : Int) l.length d = true) (hd : DWF d) (hS : S ≤ 96) (hl : l.length ≤ 24) {a b : Nat} (hab : a ≤ b) (hb : b < (toL l d).length) : nAt (toL l d) a ≤ nAt (toL l d) b := by
  rcases Nat.lt_or_ge a b with h | h
  · have hp : (toL l d).Pairwise fun x y => x.1 ≤ y.1 := by
      unfold toL noL
      rw [← to_all hdr hd hS hl]
      refine List.Pairwise.map _ ?_ (gK_mono _ _ _)
      intro x y hxy
      dsimp only
      omega
    have h2 := List.pairwise_iff_getElem.1 hp a b (by omega) hb h
    have e1 : nAt (toL l d) a = (toL l d)[a].1 := by simp [nAt, List.getD, show a < (toL l d).length by omega]
    have e2 : nAt (toL l d) b = (toL l d)[b].1 := by simp [nAt, List.getD, hb]
    rw [e1, e2]
    exact h2
  · obtain rfl : a = b := by omega
    exact Int.le_refl _
theorem to_bound {S : Nat} {l : List (Int × Int)} {d : Nat → Int} (hdr : drB (S : Int) l.length d = true) (hd : DWF d) (hS : S ≤ 96) (hl : l.length ≤ 24) (x : Int) : ∃ c, Bound (fun t => decide (x ≤ nAt (toL l d) t)) (toL l d).length c :=
  bound_ex _ _ fun a b hab hb ha => by
    have := toL_mono hdr hd hS hl hab hb
    simp only [decide_eq_true_eq] at ha ⊢
    omega
/-- what the program cuts out of the notes -/
theorem sc_between {S : Nat} {l : List (Int × Int)} {d : Nat → Int} {F T : Nat} (hdr : drB (S : Int) l.length d = true) (hd : DWF d) (hS : S ≤ 96) (hl : l.length ≤ 24) : ∃ f e, Bound (fun t => decide ((F : Int) ≤ nAt (toL l d) t)) (toL l d).length f ∧ Bound (fun t => decide ((F : Int) + T ≤ nAt (toL l d) t)) (toL l d).length e ∧ f ≤ e ∧ ctP (toL l d) f e = scT l d F T ∧ (scT l d F T).length = e - f := by
  obtain ⟨f, hf⟩ := to_bound hdr hd hS hl (F : Int)
  obtain ⟨e, he⟩ := to_bound hdr hd hS hl ((F : Int) + T)
  have hfe : f ≤ e := bound_le hf he fun t _ h => by
    simp only [decide_eq_true_eq] at h ⊢
    omega
  have h1 := ct_filter hf he hfe
  refine ⟨f, e, hf, he, hfe, h1.symm, ?_⟩
  rw [scT, h1, ctP, List.length_take, List.length_drop]
  have := he.1
  omega
set_option maxRecDepth 20000 in
set_option maxHeartbeats 4000000 in
theorem tuneIn_any (S : Nat) (A : Option Addr) (c : Nat) (l : List (Int × Int)) (q : Nat → Int) (B : Option Addr) (n d : Nat) (o : Nat → Int) (F T : Nat) (w : World) (hA : HA w A l) (hS : 2 ≤ S ∧ S ≤ 96) (hl : l.length ≤ 24) (hwf : HWF l) (hg : HG (S : Int) l l.length) (hdr : drB (S : Int) l.length q = true) (hq : DWF q) (hFT : F + T ≤ S) (hTab : TabW w) :
    Calls Tryz.prog 35 #[.agg (plA S A l.length c B n d o), .agg (da q), .agg #[.int .i16 F, .int .i16 T]] w (OwnN w (if (sortU (scN l q F T)).length ≤ 120 then sortU (scN l q F T) else []) (if (sortU (scN l q F T)).length ≤ 120 then 0 else 3)) := by
  obtain ⟨f, e, hf, he, hfe, hcp, hlen⟩ := sc_between (F := F) (T := T) hdr hq hS.2 hl
  have hcm : mkC (scT l q F T) = if (sortU (scT l q F T)).length ≤ 120 then 0 else 3 := by simp [mkC, scT_range hg hdr hq (show T ≤ 96 by omega)]
  have hcv : mkV (scT l q F T) = if (sortU (scT l q F T)).length ≤ 120 then sortU (scT l q F T) else [] := by rw [mkV, hcm]; split <;> simp_all
  obtain ⟨hs1, hs2⟩ := sc_shift (F := F) (T := T) hg hdr hq (by omega)
  have hsn := sc_sort (F := F) (T := T) hdr hq hS.2 hl hFT
  have hTW : WF (scT l q F T) := fun j hj => by
    have := scT_mem hg hdr hq (show T ≤ 96 by omega) (note_mem _ j hj)
    dsimp only at this
    omega
  have hLW := toL_wf hg hdr hq
  have hLn := toL_len l q
  have hTn := scT_len l q F T
  have hsl := sortU_le (scT l q F T)
  have hSW : WF (sortU (scT l q F T)) := fun j hj => by
    have := scT_mem hg hdr hq (show T ≤ 96 by omega) ((sortU_mem _ _).1 (note_mem _ j hj))
    dsimp only at this
    omega
  have hsnl : (sortU (scN l q F T)).length = (sortU (scT l q F T)).length := by rw [hsn, List.length_map]
  obtain ⟨RV, hRV⟩ : ∃ RV, RV = (if (sortU (scN l q F T)).length ≤ 120 then sortU (scN l q F T) else []) := ⟨_, rfl⟩
  obtain ⟨RC, hRC⟩ : ∃ RC : Int, RC = (if (sortU (scN l q F T)).length ≤ 120 then 0 else 3) := ⟨_, rfl⟩
  rw [← hRV, ← hRC]
  have HRV := hide hRV
  have HRC := hide hRC
  clear hRV hRC
  obtain ⟨X, hX⟩ : ∃ X, X = ((w.alloc (.cells (plA S A l.length c B n d o) 76)).alloc (.cells (da q) 43)).alloc (.cells #[.int .i16 F, .int .i16 T] 68) := ⟨_, rfl⟩
  have b0 : Below w.heap.size w X := by rw [hX]; exact (((Below.refl _ _).alloc (Nat.le_refl _) _).alloc (by simp) _).alloc (by simp; omega) _
  have Q0 : Bk X w.heap.size 76 (plA S A l.length c B n d o) := by rw [hX]; exact ((Bk.new _ _ _ rfl).old _).old _
  have D0 : Dr X (w.heap.size + 1) 43 q := by rw [hX]; exact heap_old' (heap_new' _ _ _ (by simp))
  have Z0 : Bk X (w.heap.size + 1 + 1) 68 #[.int .i16 F, .int .i16 T] := by rw [hX]; exact Bk.new _ _ _ (by simp)
  have hwF : IntKind.i64.wrap (F : Int) = (F : Int) := IntWalk.i64_in _ (by omega)
  have hwN : IntKind.i64.wrap (-(F : Int)) = -(F : Int) := IntWalk.i64_in _ (by omega)
  go_enter Tryz.func35, Tryz.ntmps35
  go_upto_region 1 with fail
  rw [← hX]
  clear hX
  have tb1 : Below X.heap.size X X.drew := (Below.refl _ _).drew
  have Q1 := Q0.keep tb1
  have D1 := D0.keep tb1
  have Z1 := Z0.keep tb1
  refine wp_region_held_drew (S := fun w' => w'.cell? ⟨w.heap.size, 0, none⟩ = some (.int .i64 S) ∧ w'.cell? ⟨w.heap.size, 1, none⟩ = some (.slice A l.length c) ∧ w'.cell? ⟨w.heap.size + 1 + 1, 0, none⟩ = some (.int .i16 F) ∧ w'.cell? ⟨w.heap.size + 1 + 1, 1, none⟩ = some (.int .i16 T) ∧ w'.rangeAt (w.heap.size + 1) 0 (dv q)) (by kernel_rfl) ⟨Q1.plSteps, Q1.plHams, Z1.cell (i := 0) rfl, Z1.cell (i := 1) rfl, D1.range⟩ fun hS1 => ?_
  have b1 := step_below tb1 b0
  generalize X.drew = W1 at *
  clear Q0 D0 Z0 tb1 b0
  refine wpAnyH_take (i := 0) (v := .pointer (some ⟨w.heap.size, 0, none⟩)) rfl (by kernel_rfl) (by kernel_rfl) (by kernel_rfl) (fun _ _ _ h => h) (Or.inl ⟨by rfl, fun w' _ => by go_simp⟩) hS1 ?_
  change wpAnyH _ _ _ _ _ _ _ (Act.put _ (some 11) _) _
  simp only [Act.put, List.setIfInBounds_toArray, List.set_cons_zero, List.set_cons_succ]
  refine wpAnyH_take (i := 1) (v := .agg #[.int .i64 S, .slice A l.length c]) rfl (by kernel_rfl) (by kernel_rfl) (by kernel_rfl) (fun _ _ _ h => h) (Or.inl ⟨by rfl, fun w' h => ?_⟩) hS1 ?_
  · have c0 := h.1
    have c1 := h.2.1
    clear h
    go_simp
  change wpAnyH _ _ _ _ _ _ _ (Act.put _ (some 12) _) _
  simp only [Act.put, List.setIfInBounds_toArray, List.set_cons_zero, List.set_cons_succ]
  refine wpAnyH_take (i := 2) rfl (by kernel_rfl) (by kernel_rfl) (by kernel_rfl) (fun _ _ _ h => h) (yieldsIf_load_mid (by rfl) _ _ rfl (w.heap.size + 1) 0 rfl (dv q) _ (fun _ h => h.2.2.2.2) Tryz.underlying43 rfl (dInfo q)) hS1 ?_
  simp only [Act.put, List.setIfInBounds_toArray, List.set_cons_zero, List.set_cons_succ]
  refine wpAnyH_take (i := 4) (v := .pointer (some ⟨w.heap.size + 1 + 1, 0, none⟩)) rfl (by kernel_rfl) (by kernel_rfl) (by kernel_rfl) (fun _ _ _ h => h) (Or.inl ⟨by rfl, fun w' _ => by go_simp⟩) hS1 ?_
  change wpAnyH _ _ _ _ _ _ _ (Act.put _ (some 15) _) _
  simp only [Act.put, List.setIfInBounds_toArray, List.set_cons_zero, List.set_cons_succ]
  refine wpAnyH_take (i := 5) (v := .int .i16 F) rfl (by kernel_rfl) (by kernel_rfl) (by kernel_rfl) (fun _ _ _ h => h) (Or.inl ⟨by rfl, fun w' h => ?_⟩) hS1 ?_
  · have c0 := h.2.2.1
    clear h
    go_simp
  change wpAnyH _ _ _ _ _ _ _ (Act.put _ (some 16) _) _
  simp only [Act.put, List.setIfInBounds_toArray, List.set_cons_zero, List.set_cons_succ]
  refine wpAnyH_take (i := 6) (v := .int .i64 F) rfl (by kernel_rfl) (by kernel_rfl) (by kernel_rfl) (fun _ _ _ h => h) (Or.inl ⟨by rfl, fun w' _ => by go_simp⟩) hS1 ?_
  change wpAnyH _ _ _ _ _ _ _ (Act.put _ (some 17) _) _
  simp only [Act.put, List.setIfInBounds_toArray, List.set_cons_zero, List.set_cons_succ]
  refine wpAnyH_take (i := 7) (v := .agg #[.int .i16 F, .int .i16 T]) rfl (by kernel_rfl) (by kernel_rfl) (by kernel_rfl) (fun _ _ _ h => h) (Or.inl ⟨by rfl, fun w' h => ?_⟩) hS1 ?_
  · have c0 := h.2.2.1
    have c1 := h.2.2.2.1
    clear h
    go_simp
  change wpAnyH _ _ _ _ _ _ _ (Act.put _ (some 18) _) _
  simp only [Act.put, List.setIfInBounds_toArray, List.set_cons_zero, List.set_cons_succ]
  refine wpAnyH_ready (rs := [3]) (by kernel_rfl) (by simp) (AllReadyH.cons rfl ?_ AllReadyH.nil)
  intro K hK
  rw [if_pos (by rfl)]
  go_simp
  refine (notes_any S A c l q _ (hA.below b1) hS hl hwf hdr hq (hTab.keep b1)).mono ?_
  rintro en w2 ⟨C2, q2, rfl, own2, hb2⟩
  have Q2 := Q1.keep hb2
  have D2 := D1.keep hb2
  have Z2 := Z1.keep hb2
  have b2 := step_below hb2 b1
  refine hK.out _ _ ⟨Q2.plSteps, Q2.plHams, Z2.cell (i := 0) rfl, Z2.cell (i := 1) rfl, D2.range⟩ (fun hS2 => ?_)
  clear hK K
  try (change wpAnyH _ _ _ _ _ _ _ (Act.put _ (some 14) _) _)
  try simp only [Act.put, List.setIfInBounds_toArray, List.set_cons_zero, List.set_cons_succ]
  refine wpAnyH_ready (rs := [8]) (by kernel_rfl) (by simp) (AllReadyH.cons rfl ?_ AllReadyH.nil)
  intro K hK
  rw [if_pos (by rfl)]
  go_simp
  refine (secEnd_any (F : Int) (T : Int) ⟨by omega, by omega⟩ ⟨by omega, by omega⟩ _).mono ?_
  rintro en w3 ⟨rfl, hb3⟩
  have Q3 := Q2.keep hb3
  have D3 := D2.keep hb3
  have Z3 := Z2.keep hb3
  have b3 := step_below hb3 b2
  have own3 := own_keep own2 hb3
  refine hK.out _ _ ⟨Q3.plSteps, Q3.plHams, Z3.cell (i := 0) rfl, Z3.cell (i := 1) rfl, D3.range⟩ (fun hS3 => ?_)
  clear hK K
  try (change wpAnyH _ _ _ _ _ _ _ (Act.put _ (some 19) _) _)
  try simp only [Act.put, List.setIfInBounds_toArray, List.set_cons_zero, List.set_cons_succ]
  refine wpAnyH_ready (rs := [9]) (by kernel_rfl) (by simp) (AllReadyH.cons rfl ?_ AllReadyH.nil)
  intro K hK
  rw [if_pos (by rfl)]
  go_simp
  refine (between_any C2 q2 (toL l q) F ((F : Int) + T) f e _ (NA.of_own own3) (by omega) hLW (own_cap own3) hf he hfe).mono ?_
  rintro en w4 ⟨⟨A4, rfl, hN4⟩, hb4⟩
  have Q4 := Q3.keep hb4
  have D4 := D3.keep hb4
  have Z4 := Z3.keep hb4
  have b4 := step_below hb4 b3
  rw [hcp] at hN4
  replace hN4 := hN4.below hb4
  have KM := implMakeTune_any A4 (e - f) (scT l q F T) w4 hN4 (by omega) hTW
  rw [hlen] at KM
  refine hK.out _ _ ⟨Q4.plSteps, Q4.plHams, Z4.cell (i := 0) rfl, Z4.cell (i := 1) rfl, D4.range⟩ (fun hS4 => ?_)
  clear hK K
  try (change wpAnyH _ _ _ _ _ _ _ (Act.put _ (some 20) _) _)
  try simp only [Act.put, List.setIfInBounds_toArray, List.set_cons_zero, List.set_cons_succ]
  refine wpAnyH_ready (rs := [10]) (by kernel_rfl) (by simp) (AllReadyH.cons rfl ?_ AllReadyH.nil)
  intro K hK
  rw [if_pos (by rfl)]
  go_simp
  refine (KM).mono ?_
  rintro en w5 ⟨C5, q5, rfl, own5, hb5⟩
  have Q5 := Q4.keep hb5
  have D5 := D4.keep hb5
  have Z5 := Z4.keep hb5
  have b5 := step_below hb5 b4
  refine hK.out _ _ ⟨Q5.plSteps, Q5.plHams, Z5.cell (i := 0) rfl, Z5.cell (i := 1) rfl, D5.range⟩ (fun hS5 => ?_)
  clear hK K
  try (change wpAnyH _ _ _ _ _ _ _ (Act.put _ (some 21) _) _)
  try simp only [Act.put, List.setIfInBounds_toArray, List.set_cons_zero, List.set_cons_succ]
  obtain ⟨V, hV⟩ : ∃ V, V = mkV (scT l q F T) := ⟨_, rfl⟩
  obtain ⟨cc, hcc⟩ : ∃ cc, cc = mkC (scT l q F T) := ⟨_, rfl⟩
  rw [← hV] at own5
  rw [← hV, ← hcc]
  refine wpAnyH_take (i := 11) (v := .tuple #[.slice C5 V.length q5, .int .i64 cc]) rfl (by kernel_rfl) (by kernel_rfl) (by kernel_rfl) (fun _ _ _ h => h) (Or.inl ⟨by rfl, fun w' _ => by go_simp⟩) hS5 ?_
  change wpAnyH _ _ _ _ _ _ _ (Act.put _ (some 10) _) _
  simp only [Act.put, List.setIfInBounds_toArray, List.set_cons_zero, List.set_cons_succ]
  refine wpAnyH_take (i := 12) (v := .slice C5 V.length q5) rfl (by kernel_rfl) (by kernel_rfl) (by kernel_rfl) (fun _ _ _ h => h) (Or.inl ⟨by rfl, fun w' _ => by go_simp⟩) hS5 ?_
  change wpAnyH _ _ _ _ _ _ _ (Act.put _ (some 22) _) _
  simp only [Act.put, List.setIfInBounds_toArray, List.set_cons_zero, List.set_cons_succ]
  refine wpAnyH_take (i := 13) (v := .int .i64 cc) rfl (by kernel_rfl) (by kernel_rfl) (by kernel_rfl) (fun _ _ _ h => h) (Or.inl ⟨by rfl, fun w' _ => by go_simp⟩) hS5 ?_
  change wpAnyH _ _ _ _ _ _ _ (Act.put _ (some 23) _) _
  simp only [Act.put, List.setIfInBounds_toArray, List.set_cons_zero, List.set_cons_succ]
  refine wpAnyH_take (i := 14) (v := .slice C5 V.length q5) rfl (by kernel_rfl) (by kernel_rfl) (by kernel_rfl) (fun _ _ _ h => h) (Or.inl ⟨by rfl, fun w' _ => by go_simp⟩) hS5 ?_
  change wpAnyH _ _ _ _ _ _ _ (Act.put _ (some 8) _) _
  simp only [Act.put, List.setIfInBounds_toArray, List.set_cons_zero, List.set_cons_succ]
  refine wpAnyH_take (i := 15) (v := .int .i64 cc) rfl (by kernel_rfl) (by kernel_rfl) (by kernel_rfl) (fun _ _ _ h => h) (Or.inl ⟨by rfl, fun w' _ => by go_simp⟩) hS5 ?_
  change wpAnyH _ _ _ _ _ _ _ (Act.put _ (some 9) _) _
  simp only [Act.put, List.setIfInBounds_toArray, List.set_cons_zero, List.set_cons_succ]
  refine wpAnyH_done (by kernel_rfl) ?_ _
  by_cases h : (sortU (scT l q F T)).length ≤ 120
  · have hc0 : cc = 0 := by rw [hcc, hcm, if_pos h]
    have hV0 : V = sortU (scT l q F T) := by rw [hV, hcv, if_pos h]
    have KS := shifted_any (-(F : Int)) 0 C5 q5 (sortU (scT l q F T)) w5 (NA.of_own (by rw [← hV0]; exact own5)) (by omega) hSW (by omega) (by omega)
    rw [hs1, hs2, ← hsn, ← hV0] at KS
    obtain ⟨M, hM⟩ : ∃ M, M = sortU (scN l q F T) := ⟨_, rfl⟩
    have hM2 : M.length ≤ 120 := by rw [hM, hsnl]; exact h
    rw [← hM] at KS
    have HM := hide hM
    have HM2 := hide hM2
    have KS := hide KS
    have z0 := Z5.cell (i := 0) rfl
    have hb5s := b5.size
    subst hc0
    clear hV0 hV hcc h hcm hcv hs1 hs2 hsn hTW hLW hLn hTn hsl hSW hsnl hlen hf he hfe hcp own5 own2 own3 hN4 hM hM2 hS1 hS2 hS3 hS4 hS5
    go_wp2_with fail
    refine KS.out.mono ?_
    rintro en w6 ⟨C6, q6, rfl, own6, hb6⟩
    go_wp2
    go_ret2
    rw [show RV = M by rw [HRV.out, ← HM.out, if_pos HM2.out], show RC = 0 by rw [HRC.out, ← HM.out, if_pos HM2.out]]
    exact ⟨C6, q6, rfl, own_base own6 hb5s, step_below hb6 b5⟩
  · have hc0 : cc = 3 := by rw [hcc, hcm, if_neg h]
    have hM2 : ¬ (sortU (scN l q F T)).length ≤ 120 := by rw [hsnl]; exact h
    have HM2 := hide hM2
    subst hc0
    clear hV hcc h hcm hcv hs1 hs2 hsn hTW hLW hLn hTn hsl hSW hsnl hlen hf he hfe hcp own5 own2 own3 hN4 hM2 hS1 hS2 hS3 hS4 hS5
    go_wp2
    go_ret2
    rw [show RV = [] by rw [HRV.out, if_neg HM2.out], show RC = 3 by rw [HRC.out, if_neg HM2.out]]
    exact ownN_nil none 0 3 ⟨rfl, Or.inl ⟨rfl, rfl⟩⟩ b5
end Go.Proofs.YtehmkablandefaaGreatDoor
namespace Go.Proofs.YtehmkablandefaaGreatDoor
open Go.RowKit

theorem quiet_load_v {P : Program} {o : Oper} {a : Act} {C : World → Prop} {K : Act → Prop} (ty : TypeId) (x : Operand) (ho : o.op = .load ty x) (p : Value) (hx : a.eval x = p) (v : Value)
    (hl : ∀ w, C w → (Instr.loadAt ty p).run P w = .ok v w) (h : K (a.put o.dst v)) : o.quiet P a C K :=
  ⟨v, fun w hw => by
    unfold Oper.quietAt execOp
    simp only [ho, hx, Sem.run_bind, hl w hw, Result.andThen_ok, Sem.run_pure]
    exact ⟨rfl, rfl⟩, h⟩
theorem Bk.plLater {w : World} {g : Nat} {t : TypeId} {s : Int} {A : Option Addr} {n c : Nat} {B : Option Addr} {m d : Nat} {o : Nat → Int} (h : Bk w g t (plA s A n c B m d o)) (p : Later w) :
    (Instr.loadAt 76 (.pointer (some ⟨g, 0, none⟩))).run Tryz.prog p.w = .ok (.agg (plA s A n c B m d o)) p.w :=
  run_loadAt_mid p.w g 0 _ (plL s A n c B m d o) _ (h.keep p.h).plRange Tryz.underlying76 rfl (by rw [plInfo (s := s) (A := A) (n := n) (c := c) (B := B) (m := m) (d := d) (o := o), plA_size, plL_length])
def stC (s : Int) (l m : List (Int × Int)) (o : Nat → Int) (a x : Int) : Int := if prgB s l m o then (if inB a 0 (s - 1) && inB x 0 ((m.length : Int) - 1) then 0 else 2) else 1
def stV (s : Int) (l m : List (Int × Int)) (o : Nat → Int) (a x : Int) : Int := if stC s l m o a x = 0 then arI s (secF m x.toNat - a) else 0
end Go.Proofs.YtehmkablandefaaGreatDoor
