import Derived.Test.YtehmkablandefaaGreatDoorWhm
import Derived.Test.YtehmkablandefaaGreatDoorGbk
import Derived.Test.YtehmkablandefaaGreatDoorGbd
import Derived.Test.YtehmkablandefaaGreatDoorGbr
namespace Go.Proofs.YtehmkablandefaaGreatDoor
open Go.RowKit
theorem clockHour_any (k : Nat) (w : World) (hk : k < 48) : Calls Tryz.prog 51 #[.int .i64 k] w fun e w' => e = .returned (.int .i64 (whH k)) ∧ w = w' := by
  by_cases h : k < 4
  · have HW := hide (show whH k = 12 by rw [whH, if_pos h])
    have h1 : (k : Int) < 4 := by omega
    go_enter Tryz.func51, Tryz.ntmps51
    go_wp2
    go_ret
    exact ⟨by rw [HW.out]; rfl, rfl⟩
  · obtain ⟨H, hH⟩ : ∃ H : Nat, H = k / 4 := ⟨_, rfl⟩
    have HW := hide (show whH k = H by rw [whH, if_neg h, hH])
    have h1 : ¬ (k : Int) < 4 := by omega
    have h2 : (k : Int) / 4 = (H : Int) := by omega
    have h3 : (k : Int).tdiv 4 = (H : Int) := by rw [Int.tdiv_eq_ediv_of_nonneg (by omega)]; exact h2
    have h4 : IntKind.i64.wrap (H : Int) = (H : Int) := IntWalk.i64_in _ (by omega)
    clear hH
    go_enter Tryz.func51, Tryz.ntmps51
    go_wp2
    go_ret
    exact ⟨by rw [HW.out]; rfl, rfl⟩
theorem clockFull_any (k : Nat) (w : World) (hk : k < 48) : Calls Tryz.prog 52 #[.int .i64 k] w fun e w' => e = .returned (.bool (decide (k % 4 = 0))) ∧ w = w' := by
  obtain ⟨r, hr⟩ : ∃ r : Nat, k % 4 = r := ⟨_, rfl⟩
  have h2 : (k : Int) % 4 = (r : Int) := by omega
  have h3 : (k : Int).tmod 4 = (r : Int) := by rw [Int.tmod_eq_emod_of_nonneg (by omega)]; exact h2
  have hr4 : r < 4 := by omega
  rw [hr]
  clear hr
  obtain ⟨b, hb⟩ : ∃ b, b = decide (r = 0) := ⟨_, rfl⟩
  have hq : ((r : Int) == 0) = b := by rw [hb, Bool.eq_iff_iff]; simp
  rw [← hb]
  clear hb
  go_enter Tryz.func52, Tryz.ntmps52
  go_wp2
  go_ret
  exact ⟨rfl, rfl⟩
set_option maxRecDepth 20000 in
set_option maxHeartbeats 4000000 in
theorem implWholeChime_any (s : Int) (A : Option Addr) (c : Nat) (l : List (Int × Int)) (q : Nat → Int) (B : Option Addr) (d : Nat) (m : List (Int × Int)) (o : Nat → Int) (x p g : Int) (w : World) (hA : HA w A l) (hn : l.length ≤ 1048576) (hwf : HWF l) (hs : -32768 ≤ s ∧ s ≤ 32767) (hq : DWF q) (hB : SecA w B m) (hm : m.length ≤ 1048576) (hswf : SWF m) (howf : OWF o) (hTab : TabW w) :
    Calls Tryz.prog 23 #[.agg #[.int .i16 s, .slice A l.length c], .agg (da q), .agg (prA B m.length d o), .int .i64 x, .int .i64 p, .int .i64 g] w (OwnN w (wcV s l q m o x p g) (wcC s l q m o x p g)) := by
  have hz := zeroPln
  go_enter Tryz.func23, Tryz.ntmps23
  go_upto_region 1 with fail
  obtain ⟨X, hX⟩ : ∃ X, X = ((w.alloc (.cells #[.int .i16 s, .slice A l.length c] 41)).alloc (.cells (da q) 43)).alloc (.cells (prA B m.length d o) 47) := ⟨_, rfl⟩
  have hb0 : Below w.heap.size w X := by rw [hX]; exact (((Below.refl _ _).alloc (Nat.le_refl _) _).alloc (by simp) _).alloc (by simp; omega) _
  have F0 : FP X w.heap.size s A l.length c := by
    have h : Bk X w.heap.size 41 #[.int .i16 s, .slice A l.length c] := by rw [hX]; exact ((Bk.new _ _ _ rfl).old _).old _
    exact ⟨h.cell rfl, h.cell rfl⟩
  have D0 : Dr X (w.heap.size + 1) 43 q := by rw [hX]; exact heap_old' (heap_new' _ _ _ (by simp))
  have P0 : Bk X (w.heap.size + 1 + 1) 47 (prA B m.length d o) := by rw [hX]; exact Bk.new _ _ _ (by simp)
  rw [← hX]
  clear hX
  have f0 := F0.1
  have f1 := F0.2
  have HP := hide P0.range49
  have HD := hide D0.range
  obtain ⟨b, hb⟩ : ∃ b, (prgB s l m o && drB s l.length q) = b := ⟨_, rfl⟩
  go_wp2_with (first | (with_reducible refine wpList_load_pr rfl 47 (.tmp 8) rfl (w.heap.size + 1 + 1) 0 rfl _ _ _ _ _ HP.out Tryz.underlying47 rfl (pInfo _ _ _ _) ?_) | (with_reducible refine wpList_load_da rfl 43 (.tmp 7) rfl (w.heap.size + 1) 0 rfl q _ HD.out Tryz.underlying43 rfl (dInfo q) ?_) | (with_reducible refine wpList_build1 rfl (.tmp 22) rfl q rfl ?_))
  have hx0 : Below X.heap.size X (X.alloc (.cells (da q) 43)) := (Below.refl _ _).alloc (Nat.le_refl _) _
  refine (planFor1_any s A c l q B d m o X (hA.below hb0) hn hwf hs hq (hB.below hb0) hm hswf howf _ rfl b hb).mono ?_
  rintro e w1 ⟨rfl, hb1⟩
  have bX1 := step_below hb1 hx0
  have b1 := step_below bX1 hb0
  have D1 := D0.keep bX1
  clear f0 f1 HP HD F0 P0 D0 hx0
  have hzi : (Tryz.prog.info? 76).map (·.size) = some zpl.size := by rw [zpl_eq]; exact plInfo
  have hzo : zpl.all (·.oneCell') = true := by rw [zpl_eq]; exact plA_one
  cases b
  · simp only [Bool.false_eq_true, if_false]
    have hcc : wcC s l q m o x p g = 1 := by simp only [wcC, hb]; rfl
    have HX := hide hcc
    have HY := hide (show wcV s l q m o x p g = [] by simp [wcV, hcc])
    clear hcc hb
    go_wp2_with (with_reducible refine wpList_store_newG rfl 76 (.tmp 14) (.tmp 25) rfl zpl rfl rfl 76 _ hzi rfl hzo ?_)
    go_ret2
    rw [HX.out, HY.out]
    exact ownN_nil none 0 1 ⟨rfl, Or.inl ⟨rfl, rfl⟩⟩ (b1.alloc b1.size _)
  simp only [if_true]
  have hal : Below w1.heap.size w1 (w1.alloc (.cells (plA s A l.length c B m.length d o) 76)) := (Below.refl _ _).alloc (Nat.le_refl _) _
  have Q0 : Bk (w1.alloc (.cells (plA s A l.length c B m.length d o) 76)) w1.heap.size 76 (plA s A l.length c B m.length d o) := Bk.new _ _ _ rfl
  have b2 := step_below hal b1
  have D2 := D1.keep hal
  go_upto_region 2 with (with_reducible refine wpList_store_newG rfl 76 (.tmp 14) (.tmp 25) rfl (plA s A l.length c B m.length d o) rfl rfl 76 _ plInfo (by rw [zpl_eq, plA_size, plA_size]) plA_one ?_)
  obtain ⟨Y, hY⟩ : ∃ Y, Y = w1.alloc (.cells (plA s A l.length c B m.length d o) 76) := ⟨_, rfl⟩
  rw [← hY] at hal Q0 b2 D2 ⊢
  clear hY hz hzi hzo hb1
  have A2 := hA.below b2
  have B2 := hB.below b2
  have hb' := hb
  rw [Bool.and_eq_true] at hb'
  have hpa := prgB_all hb'.1
  have hfa := frB_all (show frB s l = true by have := hb'.1; simp only [prgB, Bool.and_eq_true] at this; exact this.1.1.1)
  have HQ3 := hide Q0.plRange
  clear HQ3
  have HQ3 := hide Q0.plRange
  cases h2 : inB x 0 47
  · have K2 : ∀ W, Calls Tryz.prog 44 #[.int .i64 x] W fun e w' => e = .returned (.bool false) ∧ W = w' := fun W => by rw [← h2]; exact isQuarter_any _ W
    have hcc : wcC s l q m o x p g = 2 := by simp only [wcC, hb, h2]; rfl
    have HX := hide hcc
    have HY := hide (show wcV s l q m o x p g = [] by simp [wcV, hcc])
    clear hcc hb hb' h2 hpa hfa
    go_wp2_with (go_at_call 44; with_reducible refine (K2 _).mono ?_; rintro e w' ⟨rfl, rfl⟩)
    go_ret2
    rw [HX.out, HY.out]
    exact ownN_nil none 0 2 ⟨rfl, Or.inl ⟨rfl, rfl⟩⟩ b2
  have K2 : ∀ W, Calls Tryz.prog 44 #[.int .i64 x] W fun e w' => e = .returned (.bool true) ∧ W = w' := fun W => by rw [← h2]; exact isQuarter_any _ W
  obtain ⟨k, hk⟩ : ∃ k : Nat, x = (k : Int) := ⟨x.toNat, by simp [inB] at h2; omega⟩
  subst hk
  have hlt : k < 48 := by simp [inB] at h2; omega
  have hh := whH_in hlt
  have hs96 := hpa.1
  have hm12 := hpa.2.1
  obtain ⟨S, rfl⟩ : ∃ S : Nat, s = (S : Int) := ⟨s.toNat, by omega⟩
  have KH : ∀ W, Calls Tryz.prog 51 #[.int .i64 k] W fun e w' => e = .returned (.int .i64 (whH k)) ∧ W = w' := fun W => clockHour_any k W hlt
  have KS := fun W => implStrikeTune_any (whH k) p g W
  have hi12 : inB (whH k : Int) 1 12 = true := by simp [inB]; omega
  obtain ⟨H, hH⟩ : ∃ H, H = whH k := ⟨_, rfl⟩
  cases h3 : inB p 0 47 && inB g 1 16
  · have hsc : skC (whH k) p g = 2 := by unfold skC; rw [Bool.and_assoc, h3, Bool.and_false]; rfl
    have hsv : skV (whH k) p g = [] := by simp [skV, hsc]
    rw [hsc, hsv] at KS
    rw [← hH] at KH KS
    have hcc : wcC S l q m o k p g = 2 := by simp only [wcC, hb, h2, h3]; rfl
    have HX := hide hcc
    have HY := hide (show wcV S l q m o k p g = [] by simp [wcV, hcc])
    clear hcc hb hb' h2 h3 hpa hfa hsc hsv hH
    go_wp2_with (first | (go_at_call 44; with_reducible refine (K2 _).mono ?_; rintro e w' ⟨rfl, rfl⟩) | (go_at_call 51; with_reducible refine (KH _).mono ?_; rintro e w' ⟨rfl, rfl⟩))
    refine (KS _).mono ?_
    rintro e w3 ⟨C3, q3, rfl, own3, hb3⟩
    have b3 := step_below hb3 b2
    go_wp2
    go_ret2
    rw [HX.out, HY.out]
    exact ownN_nil none 0 2 ⟨rfl, Or.inl ⟨rfl, rfl⟩⟩ b3
  have hpg : (0 ≤ p ∧ p ≤ 47) ∧ (1 ≤ g ∧ g ≤ 16) := by simpa [inB] using h3
  have hsc : skC (whH k) p g = 0 := by unfold skC; rw [Bool.and_assoc, h3, hi12]; rfl
  have hsv : skV (whH k) p g = skN p g (whH k) := by simp [skV, hsc]
  rw [hsc, hsv] at KS
  obtain ⟨F, T, hF, hT, hFT, hci⟩ := ca_in hb'.1 hlt
  have hT96 : T ≤ 96 := by omega
  have hG := scG_of (F := F) (T := T) hfa.2.2 hb'.2 hq (by omega) hfa.2.1.2 hFT
  have hL : caL l m q o k = sortU (scN l q F T) := by simp [caL, hF, hT]
  have hWL : wcL l m q o k p g = sortU (scN l q F T) ++ (if k % 4 = 0 then skS T p g (whH k) else []) := by rw [wcL, hL, Int.toNat_natCast, hT]
  have HC := hide (show wcC S l q m o k p g = if okB (wcL l m q o k p g) then 0 else 3 by simp only [wcC, hb, h2, h3, Bool.and_self, if_true])
  have HV := hide (show wcV S l q m o k p g = if okB (wcL l m q o k p g) then wcL l m q o k p g else [] by rw [wcV, HC.out]; cases okB (wcL l m q o k p g) <;> simp)
  have KT := fun W (hW : Below w.heap.size w W) => tuneIn_any S A c l q B m.length d o F T W (hA.below hW) (by omega) hfa.2.1.2 hwf hfa.2.2 hb'.2 hq (by omega) (hTab.keep hW)
  have KP := hide (fun W (hW : Below w.heap.size w W) => playedAt_any S S A l.length c B d m o k F T W (hB.below hW) hm12 hlt hci)
  obtain ⟨M, hM⟩ : ∃ M, M = sortU (scN l q F T) := ⟨_, rfl⟩
  rw [← hM] at KT hG hWL
  obtain ⟨V, C, hv1, hv2, hv3, hv4, hv5, hv6, hv7⟩ := wh_made hG hT96 hh.2 hpg.1 hpg.2
  rw [hH.symm] at hv1 hv2 hv6 hv7
  obtain ⟨N, hN⟩ : ∃ N, N = skN p g H := ⟨_, rfl⟩
  have hNl : N.length ≤ 12 := by rw [hN, skN_len, hH]; exact hh.2
  have hNw : WF N := by
    have h9 := skS_wf (F := 0) (p := p) (g := g) (k := H) (by omega) (by omega) hpg.1 hpg.2
    have e : skS 0 p g H = N := by rw [hN, skS, skN]; simp
    rwa [e] at h9
  rw [← hH, ← hN] at KS
  rw [← hH] at KH hWL
  rw [← hN] at hv1 hv2
  have hMw := hG.wf hT96
  have hok1 := ok_short hG hT96
  have hFT2 : F ≤ 96 := by omega
  have HWL := hide hWL
  have HW7 := hide (And.intro hv6 hv7)
  clear hF hT hci hL hM hN hH hb hb' h2 h3 hpa hfa hWL hv6 hv7 hsc hsv hi12 hG
  have HDD := hide D2.range
  have hal4 := True.intro
  go_wp2_with (first | (go_at_call 44; with_reducible refine (K2 _).mono ?_; rintro e w' ⟨rfl, rfl⟩) | (go_at_call 51; with_reducible refine (KH _).mono ?_; rintro e w' ⟨rfl, rfl⟩))
  refine (KS _).mono ?_
  rintro e w3 ⟨C3, q3, rfl, own3, hb3⟩
  have b3 := step_below hb3 b2
  have Q3 := Q0.keep hb3
  have D3 := D2.keep hb3
  have HP3 := hide Q3.plRange
  clear HQ3 HDD Q0 D2 KS
  go_wp2_with (first | (with_reducible refine wpList_want_pl rfl (.tmp 14) rfl w1.heap.size 0 rfl _ _ _ _ _ _ _ _ HP3.out ?_))
  refine (KP.out _ b3).mono ?_
  rintro e w4 ⟨rfl, hb4⟩
  have b4 := step_below hb4 b3
  have Q4 := Q3.keep hb4
  have D4 := D3.keep hb4
  have own4 := own_keep own3 hb4
  obtain ⟨Z, hZ⟩ : ∃ Z, Z = w4.alloc (.cells #[.int .i16 F, .int .i16 T] 68) := ⟨_, rfl⟩
  have hbz : Below w4.heap.size w4 Z := by rw [hZ]; exact (Below.refl _ _).alloc (Nat.le_refl _) _
  have S5 : Bk Z w4.heap.size 68 #[.int .i16 F, .int .i16 T] := by rw [hZ]; exact Bk.new _ _ _ rfl
  have b5 := step_below hbz b4
  have Q5 := Q4.keep hbz
  have D5 := D4.keep hbz
  have own5 := own_keep own4 hbz
  have HP5 := hide Q5.plRange
  have HD5 := hide D5.range
  have s0 := S5.cell (i := 0) rfl
  have s1 := S5.cell (i := 1) rfl
  clear HP3 Q3 D3 own3 Q4 D4 own4
  go_upto_region 10 with fail
  rw [← hZ]
  clear hZ
  have KTZ := KT Z b5
  by_cases h120 : M.length ≤ 120
  case neg =>
    rw [if_neg h120, if_neg h120] at KTZ
    have hno : okB (wcL l m q o k p g) = false := by
      cases ho : okB (wcL l m q o k p g)
      · rfl
      · have := ok_len ho
        rw [HWL.out, List.length_append] at this
        omega
    have HX := hide (show wcC S l q m o k p g = 3 by rw [HC.out, hno]; rfl)
    have HY := hide (show wcV S l q m o k p g = [] by rw [HV.out, hno]; rfl)
    clear hno h120 hok1 KT
    go_wp2_with (first | (with_reducible refine wpList_want_pl rfl (.tmp 14) rfl w1.heap.size 0 rfl _ _ _ _ _ _ _ _ HP5.out ?_) | (with_reducible refine wpList_load_da rfl 43 (.tmp 7) rfl (w.heap.size + 1) 0 rfl q _ HD5.out Tryz.underlying43 rfl (dInfo q) ?_))
    refine KTZ.mono ?_
    rintro e w6 ⟨C6, q6, rfl, own6, hb6⟩
    go_wp2
    go_ret2
    rw [HX.out, HY.out]
    exact ⟨C6, q6, rfl, own_base own6 b5.size, step_below hb6 b5⟩
  rw [if_pos h120, if_pos h120] at KTZ
  rw [decide_eq_true h120] at hok1
  obtain ⟨r, hr⟩ : ∃ r : Nat, k % 4 = r := ⟨_, rfl⟩
  have KF : ∀ W, Calls Tryz.prog 52 #[.int .i64 k] W fun e w' => e = .returned (.bool (decide (r = 0))) ∧ W = w' := fun W => by rw [← hr]; exact clockFull_any k W hlt
  by_cases h0 : r = 0
  · rw [decide_eq_true h0] at KF
    have HL2 := hide (show wcL l m q o k p g = M ++ skS T p g H by rw [HWL.out, if_pos (show k % 4 = 0 by omega)])
    have HC2 := hide (show wcC S l q m o k p g = if C = 0 then mkC (M ++ V) else 3 by rw [HC.out, HL2.out]; exact HW7.out.2.symm)
    have HV2 := hide (show wcV S l q m o k p g = if C = 0 then mkV (M ++ V) else [] by rw [HV.out, HL2.out]; exact HW7.out.1.symm)
    have hwT : IntKind.i64.wrap (T : Int) = (T : Int) := IntWalk.i64_in _ (by omega)
    obtain ⟨RV, hRV⟩ : ∃ RV, RV = wcV S l q m o k p g := ⟨_, rfl⟩
    obtain ⟨RC, hRC⟩ : ∃ RC, RC = wcC S l q m o k p g := ⟨_, rfl⟩
    have KW := fun W C6 q6 (h1 : NA W C6 M) (h2 : NA W C3 N) => with_any T C6 q6 M C3 q3 N V C W h1 (by omega) hMw h2 (by omega) hNw (by omega) hv1 hv2 hv3 hv4 hv5
    rw [← HC2.out, ← HV2.out, ← hRV, ← hRC] at KW
    have HRV := hide hRV
    have HRC := hide hRC
    clear hRV hRC hok1 hr KT HC2 HV2 HW7 HL2 HC HV hv1 hv2 hv3 hv4 hv5 h0
    go_wp2_with (first | (with_reducible refine wpList_want_pl rfl (.tmp 14) rfl w1.heap.size 0 rfl _ _ _ _ _ _ _ _ HP5.out ?_) | (with_reducible refine wpList_load_da rfl 43 (.tmp 7) rfl (w.heap.size + 1) 0 rfl q _ HD5.out Tryz.underlying43 rfl (dInfo q) ?_))
    refine KTZ.mono ?_
    rintro e w6 ⟨C6, q6, rfl, own6, hb6⟩
    have b6 := step_below hb6 b5
    have s1' := (S5.keep hb6).cell (i := 1) rfl
    have KW6 := KW w6 C6 q6 (NA.of_own own6) ((NA.of_own own5).below hb6)
    clear KW own6 own5
    go_wp2_with (go_at_call 52; with_reducible refine (KF _).mono ?_; rintro e w' ⟨rfl, rfl⟩)
    refine KW6.mono ?_
    rintro e w7 ⟨C7, q7, rfl, own7, hb7⟩
    go_wp2
    go_ret2
    rw [← HRV.out, ← HRC.out]
    exact ⟨C7, q7, rfl, own_base own7 b6.size, step_below hb7 b6⟩
  · rw [decide_eq_false h0] at KF
    have HL2 := hide (show wcL l m q o k p g = M by rw [HWL.out, if_neg (show ¬ k % 4 = 0 by omega), List.append_nil])
    have HX := hide (show wcC S l q m o k p g = 0 by rw [HC.out, HL2.out, hok1]; rfl)
    have HY := hide (show wcV S l q m o k p g = M by rw [HV.out, HL2.out, hok1]; rfl)
    clear hok1 hr KT HW7 HL2 HC HV hv1 hv2 hv3 hv4 hv5
    go_wp2_with (first | (with_reducible refine wpList_want_pl rfl (.tmp 14) rfl w1.heap.size 0 rfl _ _ _ _ _ _ _ _ HP5.out ?_) | (with_reducible refine wpList_load_da rfl 43 (.tmp 7) rfl (w.heap.size + 1) 0 rfl q _ HD5.out Tryz.underlying43 rfl (dInfo q) ?_))
    refine KTZ.mono ?_
    rintro e w6 ⟨C6, q6, rfl, own6, hb6⟩
    go_wp2_with (go_at_call 52; with_reducible refine (KF _).mono ?_; rintro e w' ⟨rfl, rfl⟩)
    go_ret2
    rw [HX.out, HY.out]
    exact ⟨C6, q6, rfl, own_base own6 b5.size, step_below hb6 b5⟩
end Go.Proofs.YtehmkablandefaaGreatDoor
