import Derived.Test.YtehmkablandefaaGreatDoorGbk
import Derived.Test.YtehmkablandefaaGreatDoorGbd
namespace Go.Proofs.YtehmkablandefaaGreatDoor
open Go.RowKit
set_option maxRecDepth 20000 in
set_option maxHeartbeats 4000000 in
theorem implChimeAt_any (s : Int) (A : Option Addr) (c : Nat) (l : List (Int × Int)) (q : Nat → Int) (B : Option Addr) (d : Nat) (m : List (Int × Int)) (o : Nat → Int) (x : Int) (w : World) (hA : HA w A l) (hn : l.length ≤ 1048576) (hwf : HWF l) (hs : -32768 ≤ s ∧ s ≤ 32767) (hq : DWF q) (hB : SecA w B m) (hm : m.length ≤ 1048576) (hswf : SWF m) (howf : OWF o) (hTab : TabW w) :
    Calls Tryz.prog 21 #[.agg #[.int .i16 s, .slice A l.length c], .agg (da q), .agg (prA B m.length d o), .int .i64 x] w (OwnN w (caV s l q m o x) (caC s l q m o x)) := by
  have hz := zeroPln
  go_enter Tryz.func21, Tryz.ntmps21
  go_upto_region 1 with fail
  obtain ⟨X, hX⟩ : ∃ X, X = ((w.alloc (.cells #[.int .i16 s, .slice A l.length c] 41)).alloc (.cells (da q) 43)).alloc (.cells (prA B m.length d o) 47) := ⟨_, rfl⟩
  have hb0 : Below w.heap.size w X := by rw [hX]; exact (((Below.refl _ _).alloc (Nat.le_refl _) _).alloc (by simp) _).alloc (by simp; omega) _
  have F0 : FP X w.heap.size s A l.length c := by
    have h : Bk X w.heap.size 41 #[.int .i16 s, .slice A l.length c] := by rw [hX]; exact ((Bk.new _ _ _ rfl).old _).old _
    exact ⟨h.cell rfl, h.cell rfl⟩
  have D0 : Dr X (w.heap.size + 1) 43 q := by rw [hX]; exact heap_old' (heap_new' _ _ _ (by simp))
  have P0 : Bk X (w.heap.size + 1 + 1) 47 (prA B m.length d o) := by rw [hX]; exact Bk.new _ _ _ (by simp)
  rw [← hX]
  clear hX
  have f0 := F0.1
  have f1 := F0.2
  have HP := hide P0.range49
  have HD := hide D0.range
  obtain ⟨b, hb⟩ : ∃ b, (prgB s l m o && drB s l.length q) = b := ⟨_, rfl⟩
  go_wp2_with (first | (with_reducible refine wpList_load_pr rfl 47 (.tmp 6) rfl (w.heap.size + 1 + 1) 0 rfl _ _ _ _ _ HP.out Tryz.underlying47 rfl (pInfo _ _ _ _) ?_) | (with_reducible refine wpList_load_da rfl 43 (.tmp 5) rfl (w.heap.size + 1) 0 rfl q _ HD.out Tryz.underlying43 rfl (dInfo q) ?_) | (with_reducible refine wpList_build1 rfl (.tmp 15) rfl q rfl ?_))
  have hx0 : Below X.heap.size X (X.alloc (.cells (da q) 43)) := (Below.refl _ _).alloc (Nat.le_refl _) _
  refine (planFor1_any s A c l q B d m o X (hA.below hb0) hn hwf hs hq (hB.below hb0) hm hswf howf _ rfl b hb).mono ?_
  rintro e w1 ⟨rfl, hb1⟩
  have bX1 := step_below hb1 hx0
  have b1 := step_below bX1 hb0
  have D1 := D0.keep bX1
  clear f0 f1 HP HD F0 P0 D0 hx0
  have hzi : (Tryz.prog.info? 76).map (·.size) = some zpl.size := by rw [zpl_eq]; exact plInfo
  have hzo : zpl.all (·.oneCell') = true := by rw [zpl_eq]; exact plA_one
  cases b
  · simp only [Bool.false_eq_true, if_false]
    have hcc : caC s l q m o x = 1 := by simp only [caC, hb]; rfl
    have HX := hide hcc
    have HY := hide (show caV s l q m o x = [] by simp [caV, hcc])
    clear hcc hb
    go_wp2_with (with_reducible refine wpList_store_newG rfl 76 (.tmp 10) (.tmp 18) rfl zpl rfl rfl 76 _ hzi rfl hzo ?_)
    go_ret2
    rw [HX.out, HY.out]
    exact ownN_nil none 0 1 ⟨rfl, Or.inl ⟨rfl, rfl⟩⟩ (b1.alloc b1.size _)
  simp only [if_true]
  have hal : Below w1.heap.size w1 (w1.alloc (.cells (plA s A l.length c B m.length d o) 76)) := (Below.refl _ _).alloc (Nat.le_refl _) _
  have Q0 : Bk (w1.alloc (.cells (plA s A l.length c B m.length d o) 76)) w1.heap.size 76 (plA s A l.length c B m.length d o) := Bk.new _ _ _ rfl
  have b2 := step_below hal b1
  have D2 := D1.keep hal
  go_upto_region 2 with (with_reducible refine wpList_store_newG rfl 76 (.tmp 10) (.tmp 18) rfl (plA s A l.length c B m.length d o) rfl rfl 76 _ plInfo (by rw [zpl_eq, plA_size, plA_size]) plA_one ?_)
  obtain ⟨Y, hY⟩ : ∃ Y, Y = w1.alloc (.cells (plA s A l.length c B m.length d o) 76) := ⟨_, rfl⟩
  rw [← hY] at hal Q0 b2 D2 ⊢
  clear hY hz hzi hzo hb1
  have A2 := hA.below b2
  have B2 := hB.below b2
  have hb' := hb
  rw [Bool.and_eq_true] at hb'
  have hpa := prgB_all hb'.1
  have hfa := frB_all (show frB s l = true by have := hb'.1; simp only [prgB, Bool.and_eq_true] at this; exact this.1.1.1)
  have HQ3 := hide Q0.plRange
  cases h2 : inB x 0 47
  · have K2 : ∀ W, Calls Tryz.prog 44 #[.int .i64 x] W fun e w' => e = .returned (.bool false) ∧ W = w' := fun W => by rw [← h2]; exact isQuarter_any _ W
    have hcc : caC s l q m o x = 2 := by simp only [caC, hb, h2]; rfl
    have HX := hide hcc
    have HY := hide (show caV s l q m o x = [] by simp [caV, hcc])
    clear hcc hb hb' h2 hpa hfa
    go_wp2_with (go_at_call 44; with_reducible refine (K2 _).mono ?_; rintro e w' ⟨rfl, rfl⟩)
    go_ret2
    rw [HX.out, HY.out]
    exact ownN_nil none 0 2 ⟨rfl, Or.inl ⟨rfl, rfl⟩⟩ b2
  have K2 : ∀ W, Calls Tryz.prog 44 #[.int .i64 x] W fun e w' => e = .returned (.bool true) ∧ W = w' := fun W => by rw [← h2]; exact isQuarter_any _ W
  obtain ⟨k, hk⟩ : ∃ k : Nat, x = (k : Int) := ⟨x.toNat, by simp [inB] at h2; omega⟩
  subst hk
  have hlt : k < 48 := by simp [inB] at h2; omega
  have hs96 := hpa.1
  have hm12 := hpa.2.1
  obtain ⟨S, rfl⟩ : ∃ S : Nat, s = (S : Int) := ⟨s.toNat, by omega⟩
  obtain ⟨F, T, hF, hT, hFT, hci⟩ := ca_in hb'.1 hlt
  have hL : caL l m q o k = sortU (scN l q F T) := by simp [caL, hF, hT]
  have hC : caC S l q m o k = if (sortU (scN l q F T)).length ≤ 120 then 0 else 3 := by simp only [caC, hb, h2, hL, if_true]
  have hV : caV S l q m o k = if (sortU (scN l q F T)).length ≤ 120 then sortU (scN l q F T) else [] := by simp only [caV, caC, hb, h2, hL, if_true]; split <;> simp_all
  have KT := fun W (hW : Below w.heap.size w W) => tuneIn_any S A c l q B m.length d o F T W (hA.below hW) (by omega) hfa.2.1.2 hwf hfa.2.2 hb'.2 hq (by omega) (hTab.keep hW)
  rw [← hC, ← hV] at KT
  have KP := hide (fun W (hW : Below w.heap.size w W) => playedAt_any S S A l.length c B d m o k F T W (hB.below hW) hm12 hlt hci)
  obtain ⟨RV, hRV⟩ : ∃ RV, RV = caV S l q m o k := ⟨_, rfl⟩
  obtain ⟨RC, hRC⟩ : ∃ RC, RC = caC S l q m o k := ⟨_, rfl⟩
  rw [← hRV, ← hRC] at KT
  have HRV := hide hRV
  have HRC := hide hRC
  have KT := hide KT
  clear hRV hRC hC hV hL hb hb' h2 hpa hfa hF hT hci hFT HQ3
  go_wp2_with (go_at_call 44; with_reducible refine (K2 _).mono ?_; rintro e w' ⟨rfl, rfl⟩)
  have tb : Below Y.heap.size Y Y.drew := (Below.refl _ _).drew
  have Q5 := Q0.keep tb
  have D5 := D2.keep tb
  have b5 := step_below tb b2
  refine wp_region_held_drew (S := fun w' => w'.rangeAt w1.heap.size 0 (plL S A l.length c B m.length d o) ∧ w'.rangeAt (w.heap.size + 1) 0 (dv q)) (by kernel_rfl) ⟨Q5.plRange, D5.range⟩ fun hS1 => ?_
  generalize Y.drew = W5 at *
  refine wpAnyH_take (i := 0) rfl (by kernel_rfl) (by kernel_rfl) (by kernel_rfl) (fun _ _ _ h => h) (yieldsIf_load_plS (by rfl) _ rfl w1.heap.size 0 rfl S A l.length c B m.length d o (fun _ h => h.1)) hS1 ?_
  simp only [Act.put, List.setIfInBounds_toArray, List.set_cons_zero, List.set_cons_succ]
  refine wpAnyH_take (i := 1) rfl (by kernel_rfl) (by kernel_rfl) (by kernel_rfl) (fun _ _ _ h => h) (yieldsIf_load_mid (by rfl) _ _ rfl (w.heap.size + 1) 0 rfl (dv q) _ (fun _ h => h.2) Tryz.underlying43 rfl (dInfo q)) hS1 ?_
  simp only [Act.put, List.setIfInBounds_toArray, List.set_cons_zero, List.set_cons_succ]
  refine wpAnyH_take (i := 2) rfl (by kernel_rfl) (by kernel_rfl) (by kernel_rfl) (fun _ _ _ h => h) (yieldsIf_load_plS (by rfl) _ rfl w1.heap.size 0 rfl S A l.length c B m.length d o (fun _ h => h.1)) hS1 ?_
  simp only [Act.put, List.setIfInBounds_toArray, List.set_cons_zero, List.set_cons_succ]
  refine wpAnyH_take (i := 3) (v := .int .i64 (k : Int)) rfl (by kernel_rfl) (by kernel_rfl) (by kernel_rfl) (fun _ _ _ h => h) (Or.inl ⟨by rfl, fun w' _ => by go_simp⟩) hS1 ?_
  change wpAnyH _ _ _ _ _ _ _ (Act.put _ (some 29) _) _
  simp only [Act.put, List.setIfInBounds_toArray, List.set_cons_zero, List.set_cons_succ]
  refine wpAnyH_ready (rs := [4]) (by kernel_rfl) (by simp) (AllReadyH.cons rfl ?_ AllReadyH.nil)
  intro K hK
  rw [if_pos (by rfl)]
  go_simp
  refine (KP.out _ b5).mono ?_
  rintro en w6 ⟨rfl, hb6⟩
  have Q6 := Q5.keep hb6
  have D6 := D5.keep hb6
  have b6 := step_below hb6 b5
  refine hK.out _ _ ⟨Q6.plRange, D6.range⟩ (fun hS6 => ?_)
  clear hK K
  try (change wpAnyH _ _ _ _ _ _ _ (Act.put _ (some 30) _) _)
  try simp only [Act.put, List.setIfInBounds_toArray, List.set_cons_zero, List.set_cons_succ]
  refine wpAnyH_ready (rs := [5]) (by kernel_rfl) (by simp) (AllReadyH.cons rfl ?_ AllReadyH.nil)
  intro K hK
  rw [if_pos (by rfl)]
  go_simp
  refine (KT.out _ b6).mono ?_
  rintro en w7 ⟨C7, q7, rfl, own7, hb7⟩
  have Q7 := Q6.keep hb7
  have D7 := D6.keep hb7
  refine hK.out _ _ ⟨Q7.plRange, D7.range⟩ (fun hS7 => ?_)
  clear hK K
  try (change wpAnyH _ _ _ _ _ _ _ (Act.put _ (some 31) _) _)
  try simp only [Act.put, List.setIfInBounds_toArray, List.set_cons_zero, List.set_cons_succ]
  refine wpAnyH_take (i := 6) (v := .slice C7 RV.length q7) rfl (by kernel_rfl) (by kernel_rfl) (by kernel_rfl) (fun _ _ _ h => h) (Or.inl ⟨by rfl, fun w' _ => by go_simp⟩) hS7 ?_
  change wpAnyH _ _ _ _ _ _ _ (Act.put _ (some 32) _) _
  simp only [Act.put, List.setIfInBounds_toArray, List.set_cons_zero, List.set_cons_succ]
  refine wpAnyH_take (i := 7) (v := .int .i64 RC) rfl (by kernel_rfl) (by kernel_rfl) (by kernel_rfl) (fun _ _ _ h => h) (Or.inl ⟨by rfl, fun w' _ => by go_simp⟩) hS7 ?_
  change wpAnyH _ _ _ _ _ _ _ (Act.put _ (some 33) _) _
  simp only [Act.put, List.setIfInBounds_toArray, List.set_cons_zero, List.set_cons_succ]
  refine wpAnyH_take (i := 8) (v := .slice C7 RV.length q7) rfl (by kernel_rfl) (by kernel_rfl) (by kernel_rfl) (fun _ _ _ h => h) (Or.inl ⟨by rfl, fun w' _ => by go_simp⟩) hS7 ?_
  change wpAnyH _ _ _ _ _ _ _ (Act.put _ (some 8) _) _
  simp only [Act.put, List.setIfInBounds_toArray, List.set_cons_zero, List.set_cons_succ]
  refine wpAnyH_take (i := 9) (v := .int .i64 RC) rfl (by kernel_rfl) (by kernel_rfl) (by kernel_rfl) (fun _ _ _ h => h) (Or.inl ⟨by rfl, fun w' _ => by go_simp⟩) hS7 ?_
  change wpAnyH _ _ _ _ _ _ _ (Act.put _ (some 9) _) _
  simp only [Act.put, List.setIfInBounds_toArray, List.set_cons_zero, List.set_cons_succ]
  refine wpAnyH_done (by kernel_rfl) ?_ _
  have hbs := b6.size
  clear hS1 hS6 hS7 Q6 D6 Q5 D5 Q7 D7
  go_wp2
  go_ret2
  rw [← HRV.out, ← HRC.out]
  exact ⟨C7, q7, rfl, own_base own7 hbs, step_below hb7 b6⟩
end Go.Proofs.YtehmkablandefaaGreatDoor
