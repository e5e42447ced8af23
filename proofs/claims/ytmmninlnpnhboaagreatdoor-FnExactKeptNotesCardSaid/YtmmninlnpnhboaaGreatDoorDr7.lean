import Derived.Test.YtmmninlnpnhboaaGreatDoorAsk
namespace Go.Proofs.YtmmninlnpnhboaaGreatDoor
open Go.RowKit
theorem dfQ_inv {s : Int} {hl t : List (Int × Int)} {L : List Xc} (h : dfQ s hl t L = 0) : frB s hl = true ∧ okB t = true ∧ xsB L = true ∧ L.length = t.length := by
  by_cases h1 : frB s hl = true ∧ okB t = true ∧ xsB L = true
  · by_cases h2 : L.length = t.length
    · exact ⟨h1.1, h1.2.1, h1.2.2, h2⟩
    · rw [dfQ_uneven h1 h2] at h; exact absurd h (by decide)
  · rw [dfQ_no h1] at h; exact absurd h (by decide)
theorem dfC_q {s : Int} {hl t : List (Int × Int)} {L : List Xc} (h : dfQ s hl t L ≠ 0) : dfC s hl t L = dfQ s hl t L ∧ dfD s hl t L = fun _ => 0 := by
  have h1 : dfC s hl t L = dfQ s hl t L := by rw [dfC, if_neg h]
  exact ⟨h1, by rw [dfD, if_neg (by rw [h1]; exact h)]⟩
theorem dfC_four {s : Int} {hl t : List (Int × Int)} {L : List Xc} {k : Nat} (h : dfQ s hl t L = 0) (hf : dfF s.toNat hl t L = some k) : dfC s hl t L = 4 ∧ (dfD s hl t L = fun _ => 0) ∧ fiI s.toNat hl t L = k ∧ fiD s.toNat hl t L = fun _ => 0 := by
  have h1 : dfC s hl t L = 4 := by rw [dfC, if_pos h, hf]; rfl
  exact ⟨h1, by rw [dfD, if_neg (by rw [h1]; decide)], (fi_some hf).2, (fi_some hf).1⟩
theorem dfC_zero {s : Int} {hl t : List (Int × Int)} {L : List Xc} (h : dfQ s hl t L = 0) (hf : dfF s.toNat hl t L = none) : dfC s hl t L = 0 ∧ fiI s.toNat hl t L = -1 ∧ fiD s.toNat hl t L = dfD s hl t L := by
  have h1 : dfC s hl t L = 0 := by rw [dfC, if_pos h, hf]; rfl
  obtain ⟨d, hd⟩ := dfS_ex hf
  exact ⟨h1, (fi_none hd).2, by rw [(fi_none hd).1, dfD, if_pos h1, hd]; rfl⟩
theorem fiD_wf (S : Nat) (hl t : List (Int × Int)) (L : List Xc) : DWF (fiD S hl t L) := by
  unfold fiD
  split
  · exact zero_wfP
  · cases h : dfS S hl t L L.length with
    | none => exact zero_wfP
    | some d => exact dfS_wf h
/-- l07Fit with a frame whose size is an integer -/
theorem l07Fit_int (b : Nat) (s : Int) (A : Option Addr) (c : Nat) (hl : List (Int × Int)) (B : Option Addr) (ct : Nat) (t : List (Int × Int)) (C : Option Addr) (cl : Nat) (L : List Xc) (w : World) (hF : FP w b s A hl.length c) (hA : HA w A hl) (hB : NA w B t) (hC : ChA w C L) (hq : dfQ s hl t L = 0) :
    Calls Tryz.prog 43 #[.pointer (some ⟨b, 0, none⟩), .slice B t.length ct, .slice C L.length cl] w fun e w' => e = .returned (.tuple #[.agg (da (fiD s.toNat hl t L)), .int .i64 (fiI s.toNat hl t L)]) ∧ Below w.heap.size w w' := by
  obtain ⟨h1, h2, h3, h4⟩ := dfQ_inv hq
  obtain ⟨⟨s1, s2⟩, ⟨n1, n2⟩, hG⟩ := frB_all h1
  obtain ⟨S, rfl⟩ : ∃ S : Nat, s = (S : Int) := ⟨s.toNat, by omega⟩
  exact l07Fit_any b S A c hl B ct t C cl L w hF hA (by omega) n2 hG hB h2 hC h4
set_option maxRecDepth 20000 in
set_option maxHeartbeats 4000000 in
theorem l07Drum_any (b : Nat) (s : Int) (A : Option Addr) (c : Nat) (hl : List (Int × Int)) (B : Option Addr) (ct : Nat) (t : List (Int × Int)) (C : Option Addr) (cl : Nat) (L : List Xc) (w : World) (hF : FP w b s A hl.length c) (hA : HA w A hl) (hn : hl.length ≤ 1048576) (hwf : HWF hl) (hs : -32768 ≤ s ∧ s ≤ 32767)
    (hB : NA w B t) (hnt : t.length ≤ 1048576) (hwt : WF t) (hC : ChA w C L) (hnL : L.length ≤ 1048576) (hwL : ChWF L) :
    Calls Tryz.prog 33 #[.pointer (some ⟨b, 0, none⟩), .slice B t.length ct, .slice C L.length cl] w fun e w' => e = .returned (.tuple #[.agg (da (dfD s hl t L)), .int .i64 (dfC s hl t L)]) ∧ Below w.heap.size w w' := by
  have hz := zeroDrum
  have hzz : za.size = (da fun _ => 0).size := by rw [za_eq]
  have KQ := fun W (h0 : FP W b s A hl.length c) (h1 : HA W A hl) (h2 : NA W B t) (h3 : ChA W C L) => l07Asked_any b s A c hl B ct t C cl L W h0 h1 hn hwf hs h2 hnt hwt h3 hnL hwL
  obtain ⟨X, hX⟩ : ∃ X, X = w.alloc (.cells za 33) := ⟨_, rfl⟩
  have b0 : Below w.heap.size w X := by rw [hX]; exact (Below.refl _ _).alloc (Nat.le_refl _) _
  have Z0 : Dr X w.heap.size 33 (fun _ => 0) := by rw [hX, za_eq]; exact heap_alloc_new _ _
  by_cases hq : dfQ s hl t L = 0
  case neg =>
    have HR := hide (dfC_q hq)
    obtain ⟨q, hqe⟩ : ∃ q, q = dfQ s hl t L := ⟨_, rfl⟩
    rw [← hqe] at hq
    have HQ := hide hqe
    have hqn : (q != 0) = true := by simp [hq]
    simp only [← hqe] at KQ
    clear hqe hq
    go_enter Tryz.func33, Tryz.ntmps33
    go_upto_region 1 with fail
    rw [← hX]
    clear hX
    go_wp2_with fail
    refine (KQ X (hF.keep b0) (hA.below b0) (hB.below b0) (hC.below b0)).mono ?_
    rintro e w1 ⟨rfl, hb1⟩
    have b1 := step_below hb1 b0
    have Z1 := Z0.keep hb1
    have HZ := hide (show w1.heap[w.heap.size]? = some (.cells (da fun _ => 0) 33 (0, 0)) from Z1)
    clear KQ Z0 Z1
    go_wp2_with (first | (with_reducible refine wpList_build0 rfl rfl ?_) | (with_reducible refine wpList_store_row rfl 33 (.tmp 6) (.tmp 17) rfl w.heap.size (da fun _ => 0) rfl rfl 33 _ HZ.out (by rw [da_size]; exact info33) (by simp only [da_size]) (da_one _) ?_))
    exact bodyPost_ret (v := .tuple #[.agg (da fun _ => 0), .int .i64 q]) (results_dr Tryz.results33 _ _ w.heap.size 33 _ _ (by simp) (by simp) (setRow_heap _ _ _ _ _ _ HZ.out)) rfl ⟨by rw [HR.out.1, HR.out.2, HQ.out], below_setRow b1 (Nat.le_refl _)⟩
  have KT := fun W (h0 : FP W b s A hl.length c) (h1 : HA W A hl) (h2 : NA W B t) (h3 : ChA W C L) => l07Fit_int b s A c hl B ct t C cl L W h0 h1 h2 h3 hq
  rw [hq] at KQ
  obtain ⟨d, hd⟩ : ∃ d, d = fiD s.toNat hl t L := ⟨_, rfl⟩
  obtain ⟨i, hi⟩ : ∃ i, i = fiI s.toNat hl t L := ⟨_, rfl⟩
  rw [← hd, ← hi] at KT
  have HQ := hide hq
  have HD := hide hd
  have HI := hide hi
  have hzd : za.size = (da d).size := by rw [za_eq, da_size, da_size]
  clear hq hd hi
  go_enter Tryz.func33, Tryz.ntmps33
  go_upto_region 1 with fail
  rw [← hX]
  clear hX
  go_wp2_with fail
  refine (KQ X (hF.keep b0) (hA.below b0) (hB.below b0) (hC.below b0)).mono ?_
  rintro e w1 ⟨rfl, hb1⟩
  have b1 := step_below hb1 b0
  have Z1 := Z0.keep hb1
  clear KQ Z0
  go_wp2_with fail
  refine (KT w1 (hF.keep b1) (hA.below b1) (hB.below b1) (hC.below b1)).mono ?_
  rintro e w2 ⟨rfl, hb2⟩
  have b2 := step_below hb2 b1
  have Z2 := Z1.keep hb2
  clear KT Z1
  go_upto_region 5 with (with_reducible refine wpList_store_new rfl 33 (.tmp 9) (.tmp 24) rfl d rfl rfl 33 _ (dInfo d) hzd ?_)
  obtain ⟨Y, hY⟩ : ∃ Y, Y = w2.alloc (.cells (da d) 33) := ⟨_, rfl⟩
  have hb3 : Below w2.heap.size w2 Y := by rw [hY]; exact (Below.refl _ _).alloc (Nat.le_refl _) _
  have b3 := step_below hb3 b2
  have Z3 := Z2.keep hb3
  obtain ⟨g, hg⟩ : ∃ g, g = w2.heap.size := ⟨_, rfl⟩
  have G3 : Dr Y g 33 d := by rw [hY, hg]; exact heap_alloc_new _ _
  rw [← hY, ← hg]
  clear hY hg Z2
  have HZ := hide (show Y.heap[w.heap.size]? = some (.cells (da fun _ => 0) 33 (0, 0)) from Z3)
  have HG := hide G3.range
  clear Z3 G3
  cases hf : dfF s.toNat hl t L with
  | some k =>
    have hr := dfC_four HQ.out hf
    rw [← HI.out, ← HD.out] at hr
    have HR := hide hr
    have hge : (0 : Int) ≤ i := by rw [hr.2.2.1]; omega
    clear hf hr
    go_wp2_with (first | (with_reducible refine wpList_build0 rfl rfl ?_) | (with_reducible refine wpList_store_row rfl 33 (.tmp 6) (.tmp 28) rfl w.heap.size (da fun _ => 0) rfl rfl 33 _ HZ.out (by rw [da_size]; exact info33) (by simp only [da_size]) (da_one _) ?_))
    exact bodyPost_ret (v := .tuple #[.agg (da fun _ => 0), .int .i64 4]) (results_dr Tryz.results33 _ _ w.heap.size 33 _ _ (by simp) (by simp) (setRow_heap _ _ _ _ _ _ HZ.out)) rfl ⟨by rw [HR.out.1, HR.out.2.1], below_setRow b3 (Nat.le_refl _)⟩
  | none =>
    have hr := dfC_zero HQ.out hf
    rw [← HI.out, ← HD.out] at hr
    have HR := hide hr
    have hge : ¬ (0 : Int) ≤ i := by rw [hr.2.1]; omega
    clear hf hr
    go_wp2_with (first | (with_reducible refine wpList_load_da rfl 33 (.tmp 9) rfl g 0 rfl d _ HG.out Tryz.underlying33 rfl (dInfo d) ?_) | (with_reducible refine wpList_store_row rfl 33 (.tmp 6) (.tmp 29) rfl w.heap.size (da d) rfl rfl 33 _ HZ.out (by rw [da_size]; exact info33) (by simp only [da_size]) (da_one _) ?_))
    exact bodyPost_ret (v := .tuple #[.agg (da d), .int .i64 0]) (results_dr Tryz.results33 _ _ w.heap.size 33 _ _ (by simp) (by simp) (setRow_heap _ _ _ _ _ _ HZ.out)) rfl ⟨by rw [HR.out.1, HR.out.2.2], below_setRow b3 (Nat.le_refl _)⟩
set_option maxRecDepth 20000 in
set_option maxHeartbeats 4000000 in
theorem specDrumFor_any (s : Int) (A : Option Addr) (c : Nat) (hl : List (Int × Int)) (B : Option Addr) (ct : Nat) (t : List (Int × Int)) (C : Option Addr) (cl : Nat) (L : List Xc) (w : World) (hA : HA w A hl) (hn : hl.length ≤ 1048576) (hwf : HWF hl) (hs : -32768 ≤ s ∧ s ≤ 32767)
    (hB : NA w B t) (hnt : t.length ≤ 1048576) (hwt : WF t) (hC : ChA w C L) (hnL : L.length ≤ 1048576) (hwL : ChWF L) :
    Calls Tryz.prog 11 #[.agg #[.int .i16 s, .slice A hl.length c], .slice B t.length ct, .slice C L.length cl] w fun e w' => e = .returned (.tuple #[.agg (da (dfD s hl t L)), .int .i64 (dfC s hl t L)]) ∧ Below w.heap.size w w' := by
  have hz := zeroDrum
  have KD := fun b W (h0 : FP W b s A hl.length c) (h1 : HA W A hl) (h2 : NA W B t) (h3 : ChA W C L) => l07Drum_any b s A c hl B ct t C cl L W h0 h1 hn hwf hs h2 hnt hwt h3 hnL hwL
  obtain ⟨d, hd⟩ : ∃ d, d = dfD s hl t L := ⟨_, rfl⟩
  obtain ⟨i, hi⟩ : ∃ i, i = dfC s hl t L := ⟨_, rfl⟩
  rw [← hd, ← hi] at KD ⊢
  clear hd hi
  obtain ⟨X, hX⟩ : ∃ X, X = (w.alloc (.cells #[.int .i16 s, .slice A hl.length c] 38)).alloc (.cells za 33) := ⟨_, rfl⟩
  have b0 : Below w.heap.size w X := by rw [hX]; exact ((Below.refl _ _).alloc (Nat.le_refl _) _).alloc (by simp) _
  have R1 : X.heap[w.heap.size]? = some (.cells #[.int .i16 s, .slice A hl.length c] 38 (0, 0)) := by rw [hX]; exact heap_old' (heap_new' _ _ _ rfl)
  have Z1 : Dr X (w.heap.size + 1) 33 (fun _ => 0) := by rw [hX, za_eq]; exact heap_new' _ _ _ (by simp)
  have f0 := cell_of_row _ _ 0 _ _ _ R1
  have f1 := cell_of_row _ _ 1 _ _ _ R1
  simp at f0 f1
  go_enter Tryz.func11, Tryz.ntmps11
  go_upto_region 1 with fail
  rw [← hX]
  clear hX R1
  go_wp2_with fail
  refine (KD w.heap.size X ⟨f0, f1⟩ (hA.below b0) (hB.below b0) (hC.below b0)).mono ?_
  rintro e w1 ⟨rfl, hb1⟩
  have b1 := step_below hb1 b0
  have Z2 := Z1.keep hb1
  have HZ := hide (show w1.heap[w.heap.size + 1]? = some (.cells (da fun _ => 0) 33 (0, 0)) from Z2)
  clear KD Z1 Z2 f0 f1
  go_wp2_with (with_reducible refine wpList_store_row rfl 33 (.tmp 6) (.tmp 11) rfl (w.heap.size + 1) (da d) rfl rfl 33 _ HZ.out (by rw [da_size]; exact info33) (by simp only [da_size]) (da_one _) ?_)
  exact bodyPost_ret (v := .tuple #[.agg (da d), .int .i64 i]) (results_dr Tryz.results11 _ _ (w.heap.size + 1) 33 _ _ (by simp) (by simp) (setRow_heap _ _ _ _ _ _ HZ.out)) rfl ⟨rfl, below_setRow b1 (by omega)⟩
end Go.Proofs.YtmmninlnpnhboaaGreatDoor
