import Derived.Test.YtehmkablandefaaGreatDoorWhm
import Derived.Test.YtehmkablandefaaGreatDoorGbo
import Derived.Test.YtehmkablandefaaGreatDoorGbp
namespace Go.Proofs.YtehmkablandefaaGreatDoor
open Go.RowKit
set_option maxRecDepth 20000 in
set_option maxHeartbeats 2000000 in
theorem l04StrikesF_any (F : Nat) (h : Nat) (p g : Int) (w : World) (hF : F ≤ 96) (hh : 1 ≤ h ∧ h ≤ 12) (hp : 0 ≤ p ∧ p ≤ 47) (hg : 1 ≤ g ∧ g ≤ 16) :
    Calls Tryz.prog 47 #[.int .i64 h, .int .i64 p, .int .i64 g, .int .i64 F] w fun e w' => ∃ (C : Option Addr) (q : Nat), e = .returned (.slice C (skS F p g h).length q) ∧ w'.ownsRow w.heap.size 83 2 (.slice C (skS F p g h).length q) (skS F p g h).length (cellsOf (skS F p g h)) ∧ Below w.heap.size w w' := by
  obtain ⟨i0, hi, hz0, hz1, hz2⟩ := info_parts info83
  obtain ⟨h1, h2⟩ := hh
  obtain ⟨p1, p2⟩ := hp
  obtain ⟨g1, g2⟩ := hg
  have hal : Below w.heap.size w (w.alloc (.cells #[] 83)) := (Below.refl _ _).alloc (Nat.le_refl _) _
  go_enter Tryz.func47, Tryz.ntmps47
  go_wp2_with fail
  go_loopw [9, 10] (fun v i wr => ∃ k : Nat, k ≤ h ∧ i = .int .i64 k ∧ wr.ownsRow w.heap.size 83 2 v (skS F p g k).length (cellsOf (skS F p g k)) ∧ Below w.heap.size w wr)
    (fun _ i _ => h - (intOf i).toNat)
  case atStart => exact ⟨0, Nat.zero_le _, rfl, own_emptyT _ _ (Nat.le_refl _), hal⟩
  case round =>
    obtain ⟨k, hk, rfl, hown, hb⟩ := hrel
    obtain ⟨A', c', rfl⟩ := own_shape hown
    by_cases hlt : k < h
    · have own3 := hown.alloc (.cells #[.int .i16 ((k : Int) * g + F), .int .i8 p] 83)
      have hnew := cell_two_new' wr (.int .i16 ((k : Int) * g + F)) (.int .i8 p) 83
      have hlen := skS_len F p g k
      have hkg1 : 0 ≤ (k : Int) * g := Int.mul_nonneg (by omega) (by omega)
      have hkg2 : (k : Int) * g ≤ 12 * 16 := Int.mul_le_mul (by omega) (by omega) (by omega) (by omega)
      have HKG := hide (skS_succ F p g k)
      obtain ⟨y, hy⟩ : ∃ y, y = (k : Int) * g := ⟨_, rfl⟩
      have hwy : IntKind.i64.wrap ((k : Int) * g) = y := by rw [hy]; exact IntWalk.i64_in _ (by omega)
      rw [← hy] at own3 hnew hkg1 hkg2 HKG
      have HY := hide hy
      clear hy
      obtain ⟨z, hz⟩ : ∃ z, z = y + (F : Int) := ⟨_, rfl⟩
      have hwz : IntKind.i64.wrap ((F : Int) + y) = z := by rw [hz, Int.add_comm]; exact IntWalk.i64_in _ (by omega)
      have hzb : 0 ≤ z ∧ z ≤ 300 := by omega
      rw [← hz] at own3 hnew HKG
      have HZ := hide hz
      clear hz
      have hw16 : IntKind.i16.wrap z = z := by simp [IntKind.wrap, IntKind.signed, IntKind.bits]; omega
      have hw8 : IntKind.i8.wrap p = p := by simp [IntKind.wrap, IntKind.signed, IntKind.bits]; omega
      go_wp2_with (at_builtin; refine wpList_append_own _ rfl _ _ 36 rfl w.heap.size 83 i0 (.agg #[.int .i16 0, .int .i8 0]) 2 4 Tryz.underlying36 hi hz0 hz1 hz2 rfl (by decide) _ _ _ rfl own3 ⟨wr.heap.size, 0, none⟩ 1 1 [.int .i16 (z), .int .i8 p] rfl rfl hnew (fun x hx => by simp at hx; rcases hx with rfl | rfl <;> rfl) (by unfold maxLen; omega) (by omega) (by simp; have := hb.size; omega) ?_; intro v' w3 hown3 hgrow3 hnil3)
      have hb3 := (hb.alloc hb.size (.cells #[.int .i16 z, .int .i8 p] 83)).grown hgrow3 (by simp; have := hb.size; omega) (fun j hj => (hown.lt j hj).1)
      go_roundw
      case rel => exact ⟨k + 1, hlt, by go_num, by rw [HKG.out, List.length_append, cellsOf_append]; exact hown3, hb3⟩
      case measure => simp [intOf]; omega
    · obtain rfl : k = h := by omega
      go_wp2
      go_ret
      exact ⟨A', c', rfl, hown, hb⟩
theorem l04HourQ_any (k : Nat) (w : World) (hk : k < 48) : Calls Tryz.prog 48 #[.int .i64 k] w fun e w' => e = .returned (.int .i64 (whH k)) ∧ w = w' := by
  by_cases h : k < 4
  · have HW := hide (show whH k = 12 by rw [whH, if_pos h])
    have h1 : (k : Int) < 4 := by omega
    go_enter Tryz.func48, Tryz.ntmps48
    go_wp2
    go_ret
    exact ⟨by rw [HW.out]; rfl, rfl⟩
  · obtain ⟨H, hH⟩ : ∃ H : Nat, H = k / 4 := ⟨_, rfl⟩
    have HW := hide (show whH k = H by rw [whH, if_neg h, hH])
    have h1 : ¬ (k : Int) < 4 := by omega
    have h2 : (k : Int) / 4 = (H : Int) := by omega
    have h3 : (k : Int).tdiv 4 = (H : Int) := by rw [Int.tdiv_eq_ediv_of_nonneg (by omega)]; exact h2
    have h4 : IntKind.i64.wrap (H : Int) = (H : Int) := IntWalk.i64_in _ (by omega)
    clear hH
    go_enter Tryz.func48, Tryz.ntmps48
    go_wp2
    go_ret
    exact ⟨by rw [HW.out]; rfl, rfl⟩
set_option maxRecDepth 20000 in
set_option maxHeartbeats 4000000 in
theorem specWholeChime_any (s : Int) (A : Option Addr) (c : Nat) (l : List (Int × Int)) (q : Nat → Int) (B : Option Addr) (d : Nat) (m : List (Int × Int)) (o : Nat → Int) (x p g : Int) (w : World) (hA : HA w A l) (hn : l.length ≤ 1048576) (hwf : HWF l) (hs : -32768 ≤ s ∧ s ≤ 32767) (hq : DWF q) (hB : SecA w B m) (hm : m.length ≤ 1048576) (hswf : SWF m) (howf : OWF o) :
    Calls Tryz.prog 22 #[.agg #[.int .i16 s, .slice A l.length c], .agg (da q), .agg (prA B m.length d o), .int .i64 x, .int .i64 p, .int .i64 g] w (OwnN w (wcV s l q m o x p g) (wcC s l q m o x p g)) := by
  obtain ⟨i0, hi, hz0, hz1, hz2⟩ := info_parts info83
  go_enter Tryz.func22, Tryz.ntmps22
  go_upto_region 1 with fail
  obtain ⟨X, hX⟩ : ∃ X, X = ((w.alloc (.cells #[.int .i16 s, .slice A l.length c] 41)).alloc (.cells (da q) 43)).alloc (.cells (prA B m.length d o) 47) := ⟨_, rfl⟩
  have hb0 : Below w.heap.size w X := by rw [hX]; exact (((Below.refl _ _).alloc (Nat.le_refl _) _).alloc (by simp) _).alloc (by simp; omega) _
  have F0 : FP X w.heap.size s A l.length c := by
    have h : Bk X w.heap.size 41 #[.int .i16 s, .slice A l.length c] := by rw [hX]; exact ((Bk.new _ _ _ rfl).old _).old _
    exact ⟨h.cell rfl, h.cell rfl⟩
  have D0 : Dr X (w.heap.size + 1) 43 q := by rw [hX]; exact heap_old' (heap_new' _ _ _ (by simp))
  have P0 : Bk X (w.heap.size + 1 + 1) 47 (prA B m.length d o) := by rw [hX]; exact Bk.new _ _ _ (by simp)
  rw [← hX]
  clear hX
  go_wp2_with fail
  refine (l04Whole_any w.heap.size (w.heap.size + 1) (w.heap.size + 1 + 1) s A c l q B d m o X F0 (hA.below hb0) hn hwf hs D0 hq P0 (hB.below hb0) hm hswf howf).mono ?_
  rintro e w1 ⟨rfl, hb1⟩
  have b1 := step_below hb1 hb0
  have F1 := F0.keep hb1
  have D1 := D0.keep hb1
  have P1 := P0.keep hb1
  have A1 := hA.below b1
  have B1 := hB.below b1
  cases hp : (prgB s l m o && drB s l.length q)
  · simp only [codeI]
    have hcc : wcC s l q m o x p g = 1 := by simp only [wcC, hp]; rfl
    have HX := hide hcc
    have HY := hide (show wcV s l q m o x p g = [] by simp [wcV, hcc])
    clear hcc hp
    go_wp2
    go_ret2
    rw [HX.out, HY.out]
    exact ownN_nil (some ⟨w1.heap.size, 0, none⟩) 0 1 (own_emptyT _ _ b1.size) (b1.alloc b1.size _)
  simp only [codeI]
  have hp' := hp
  rw [Bool.and_eq_true] at hp'
  have hpa := prgB_all hp'.1
  have hfa := frB_all (show frB s l = true by have := hp'.1; simp only [prgB, Bool.and_eq_true] at this; exact this.1.1.1)
  have c0 := P1.slice
  have hs96 := hpa.1
  have hm12 := hpa.2.1
  obtain ⟨S, rfl⟩ : ∃ S : Nat, s = (S : Int) := ⟨s.toNat, by omega⟩
  cases h2 : inB x 0 47
  · have K2 : ∀ W, Calls Tryz.prog 42 #[.int .i64 x] W fun e w' => e = .returned (.bool false) ∧ W = w' := fun W => by rw [← h2]; exact l04Quarter_any _ W
    have hcc : wcC S l q m o x p g = 2 := by simp only [wcC, hp, h2]; rfl
    have HX := hide hcc
    have HY := hide (show wcV S l q m o x p g = [] by simp [wcV, hcc])
    clear hcc hp h2 hpa hp' hfa
    go_wp2_with (go_at_call 42; with_reducible refine (K2 _).mono ?_; rintro e w' ⟨rfl, rfl⟩)
    go_ret2
    rw [HX.out, HY.out]
    exact ownN_nil (some ⟨w1.heap.size, 0, none⟩) 0 2 (own_emptyT _ _ b1.size) (b1.alloc b1.size _)
  have K2 : ∀ W, Calls Tryz.prog 42 #[.int .i64 x] W fun e w' => e = .returned (.bool true) ∧ W = w' := fun W => by rw [← h2]; exact l04Quarter_any _ W
  cases h3 : inB p 0 47 && inB g 1 16
  · have K3 : ∀ W, Calls Tryz.prog 46 #[.int .i64 p, .int .i64 g] W fun e w' => e = .returned (.bool false) ∧ W = w' := fun W => by rw [← h3]; exact l04Bell_any _ _ W
    have hcc : wcC S l q m o x p g = 2 := by simp only [wcC, hp, h2, h3]; rfl
    have HX := hide hcc
    have HY := hide (show wcV S l q m o x p g = [] by simp [wcV, hcc])
    clear hcc hp h2 h3 hpa hp' hfa
    go_wp2_with (first | (go_at_call 42; with_reducible refine (K2 _).mono ?_; rintro e w' ⟨rfl, rfl⟩) | (go_at_call 46; with_reducible refine (K3 _).mono ?_; rintro e w' ⟨rfl, rfl⟩))
    go_ret2
    rw [HX.out, HY.out]
    exact ownN_nil (some ⟨w1.heap.size, 0, none⟩) 0 2 (own_emptyT _ _ b1.size) (b1.alloc b1.size _)
  have K3 : ∀ W, Calls Tryz.prog 46 #[.int .i64 p, .int .i64 g] W fun e w' => e = .returned (.bool true) ∧ W = w' := fun W => by rw [← h3]; exact l04Bell_any _ _ W
  have hpg : (0 ≤ p ∧ p ≤ 47) ∧ (1 ≤ g ∧ g ≤ 16) := by simpa [inB] using h3
  obtain ⟨k, hk⟩ : ∃ k : Nat, x = (k : Int) := ⟨x.toNat, by simp [inB] at h2; omega⟩
  subst hk
  have hlt : k < 48 := by simp [inB] at h2; omega
  have hh := whH_in hlt
  obtain ⟨F, T, hF, hT, hFT, hci⟩ := ca_in hp'.1 hlt
  have hT96 : T ≤ 96 := by omega
  have hL : caL l m q o k = sortU (scN l q F T) := by simp [caL, hF, hT]
  have hG := scG_of (F := F) (T := T) hfa.2.2 hp'.2 hq (by omega) hfa.2.1.2 hFT
  have KS := hide (l04Chime_any w.heap.size (w.heap.size + 1) (w.heap.size + 1 + 1) S A c l q B d m o k F T w1 F1 D1 P1 A1 B1 (by omega) hfa.2.1.2 hwf hfa.2.2 hp'.2 hq hm12 hlt hci)
  have hsl : (sortU (scN l q F T)).length ≤ 4000 := by
    have h1 := sortU_le (scN l q F T)
    have h3 := scN_len l q F T
    have h4 : T * l.length ≤ 96 * 24 := Nat.mul_le_mul (by omega) hfa.2.1.2
    omega
  have hWL : wcL l m q o k p g = sortU (scN l q F T) ++ (if k % 4 = 0 then skS T p g (whH k) else []) := by rw [wcL, hL, Int.toNat_natCast, hT]
  obtain ⟨M, hM⟩ : ∃ M, M = sortU (scN l q F T) := ⟨_, rfl⟩
  rw [← hM] at KS hsl hG hWL
  have HC := hide (show wcC S l q m o k p g = if okB (wcL l m q o k p g) then 0 else 3 by simp only [wcC, hp, h2, h3, Bool.and_self, if_true])
  have HV := hide (show wcV S l q m o k p g = if okB (wcL l m q o k p g) then wcL l m q o k p g else [] by rw [wcV, HC.out]; cases okB (wcL l m q o k p g) <;> simp)
  have HG := hide hG
  have HWL := hide hWL
  clear hp hp' h2 h3 hpa hfa hL hM hF hT hci hWL hG
  go_wp2_with (first | (go_at_call 42; with_reducible refine (K2 _).mono ?_; rintro e w' ⟨rfl, rfl⟩) | (go_at_call 46; with_reducible refine (K3 _).mono ?_; rintro e w' ⟨rfl, rfl⟩))
  refine KS.out.mono ?_
  rintro e w3 ⟨C3, q3, rfl, own3, hb3⟩
  have b3 := step_below hb3 b1
  by_cases h120 : M.length ≤ 120
  case neg =>
    have h1 : (120 : Int) < (M.length : Int) := by omega
    have hno : okB (wcL l m q o k p g) = false := by
      cases ho : okB (wcL l m q o k p g)
      · rfl
      · have := ok_len ho
        rw [HWL.out, List.length_append] at this
        omega
    have HX := hide (show wcC S l q m o k p g = 3 by rw [HC.out, hno]; rfl)
    have HY := hide (show wcV S l q m o k p g = [] by rw [HV.out, hno]; rfl)
    clear hno h120
    go_wp2
    go_ret2
    rw [HX.out, HY.out]
    exact ownN_nil (some ⟨w3.heap.size, 0, none⟩) 0 3 (own_emptyT _ _ b3.size) (b3.alloc b3.size _)
  have h1 : ¬ (120 : Int) < (M.length : Int) := by omega
  obtain ⟨r, hr⟩ : ∃ r : Nat, k % 4 = r := ⟨_, rfl⟩
  have hr1 : (k : Int) % 4 = (r : Int) := by omega
  have hr2 : (k : Int).tmod 4 = (r : Int) := by rw [Int.tmod_eq_emod_of_nonneg (by omega)]; exact hr1
  by_cases h0 : r = 0
  · subst h0
    have HL2 := hide (show wcL l m q o k p g = M ++ skS T p g (whH k) by rw [HWL.out, if_pos hr])
    obtain ⟨N, hN⟩ : ∃ N, N = skS T p g (whH k) := ⟨_, rfl⟩
    have hNl : N.length ≤ 12 := by rw [hN, skS_len]; exact hh.2
    have HNW := hide (show WF (M ++ N) by rw [hN]; exact (HG.out.wf hT96).append (skS_wf (by omega) hh.2 hpg.1 hpg.2))
    have KH : ∀ W, Calls Tryz.prog 48 #[.int .i64 k] W fun e w' => e = .returned (.int .i64 (whH k)) ∧ W = w' := fun W => l04HourQ_any k W hlt
    have KN : ∀ W, Calls Tryz.prog 47 #[.int .i64 (whH k), .int .i64 p, .int .i64 g, .int .i64 T] W fun e w' => ∃ (C : Option Addr) (q : Nat), e = .returned (.slice C N.length q) ∧ w'.ownsRow W.heap.size 83 2 (.slice C N.length q) N.length (cellsOf N) ∧ Below W.heap.size W w' := fun W => by rw [hN]; exact l04StrikesF_any T (whH k) p g W hT96 hh hpg.1 hpg.2
    rw [← hN] at HL2
    have HN := hide hN
    obtain ⟨H, hH⟩ : ∃ H, H = whH k := ⟨_, rfl⟩
    rw [← hH] at KH KN hh
    have hr3 : (k : Int) % 4 = 0 := by omega
    clear hN hH hr hr1
    replace hr2 : (k : Int).tmod 4 = 0 := hr2
    have hal3 : Below w3.heap.size w3 (w3.alloc (.cells #[] 83)) := (Below.refl _ _).alloc (Nat.le_refl _) _
    have hE : (w3.alloc (.cells #[] 83)).ownsRow w3.heap.size 83 2 (.slice (some ⟨w3.heap.size, 0, none⟩) 0 0) 0 [] := own_emptyT _ _ (Nat.le_refl _)
    obtain ⟨A4, c4, w4, hr4, own4, gr4⟩ := run_append_na _ 36 36 83 Tryz.underlying36 Tryz.underlying36 w3.heap.size i0 hi hz0 hz1 hz2 _ 0 [] hE C3 q3 M ((NA.of_own own3).below hal3) (by omega) (by omega) hal3.size
    simp only [Nat.zero_add, List.nil_append] at hr4 own4
    have hb4 : Below w3.heap.size w3 w4 := hal3.grown gr4 hal3.size (fun j hj => (hE.lt j hj).1)
    have b4 := step_below hb4 b3
    clear gr4 hE hal3 own3
    go_wp2_with (first | (at_builtin; refine Lib.wpList_append_run _ rfl (.tmp 44) (.tmp 45) _ _ rfl _ _ rfl rfl _ _ (hr4 _) ?_) | (go_at_call 48; with_reducible refine (KH _).mono ?_; rintro e w' ⟨rfl, rfl⟩))
    refine (KN _).mono ?_
    rintro e w5 ⟨C5, q5, rfl, own5, hb5⟩
    have own45 := own_keep own4 hb5
    have b35 := step_below hb5 hb4
    obtain ⟨A6, c6, w6, hr6, own6, gr6⟩ := run_append_na _ 36 36 83 Tryz.underlying36 Tryz.underlying36 w3.heap.size i0 hi hz0 hz1 hz2 _ M.length (cellsOf M) own45 C5 q5 N (NA.of_own own5) (by omega) (by omega) b35.size
    rw [← cellsOf_append] at own6
    have hb6 : Below w3.heap.size w3 w6 := b35.grown gr6 b35.size (fun j hj => (own45.lt j hj).1)
    have b6 := step_below hb6 b3
    obtain ⟨Z, hZ⟩ : ∃ Z, Z = M ++ N := ⟨_, rfl⟩
    have hZl : M.length + N.length = Z.length := by rw [hZ, List.length_append]
    rw [← hZ] at own6 HNW HL2
    rw [hZl] at own6 hr6
    have hZb : Z.length ≤ 1048576 := by omega
    clear gr6 own4 own45 own5 hZ hZl
    have KO := fun W (hW : Below w6.heap.size w6 W) => l01Ok_any A6 c6 Z W ((NA.of_own own6).below hW) hZb HNW.out
    rw [HL2.out] at HC HV
    cases ho : okB Z
    · rw [ho] at KO
      have HX := hide (show wcC S l q m o k p g = 3 by rw [HC.out, ho]; rfl)
      have HY := hide (show wcV S l q m o k p g = [] by rw [HV.out, ho]; rfl)
      clear ho
      go_wp2_with (at_builtin; refine Lib.wpList_append_run _ rfl (.tmp 46) (.tmp 52) _ _ rfl _ _ rfl rfl _ _ (hr6 _) ?_)
      refine (KO _ (Below.refl _ _)).mono ?_
      rintro e w7 ⟨rfl, hb7⟩
      have b7 := step_below hb7 b6
      go_wp2
      go_ret2
      rw [HX.out, HY.out]
      exact ownN_nil (some ⟨w7.heap.size, 0, none⟩) 0 3 (own_emptyT _ _ b7.size) (b7.alloc b7.size _)
    · rw [ho] at KO
      have HX := hide (show wcC S l q m o k p g = 0 by rw [HC.out, ho]; rfl)
      have HY := hide (show wcV S l q m o k p g = Z by rw [HV.out, ho]; rfl)
      clear ho
      go_wp2_with (at_builtin; refine Lib.wpList_append_run _ rfl (.tmp 46) (.tmp 52) _ _ rfl _ _ rfl rfl _ _ (hr6 _) ?_)
      refine (KO _ (Below.refl _ _)).mono ?_
      rintro e w7 ⟨rfl, hb7⟩
      have b7 := step_below hb7 b6
      have own7 := own_keep own6 hb7
      go_wp2
      go_ret2
      rw [HX.out, HY.out]
      exact ⟨A6, c6, rfl, own_base own7 b3.size, b7⟩
  · have hrn : ((r : Int) == 0) = false := by simp; omega
    have hrn2 : ¬ (r : Int) = 0 := by omega
    have HL2 := hide (show wcL l m q o k p g = M by rw [HWL.out, if_neg (show ¬ k % 4 = 0 by omega), List.append_nil])
    have hok := ok_short HG.out hT96
    rw [decide_eq_true h120] at hok
    have KO := l01Ok_any C3 q3 M w3 (NA.of_own own3) (by omega) (HG.out.wf hT96)
    rw [hok] at KO
    rw [HL2.out] at HC HV
    have HX := hide (show wcC S l q m o k p g = 0 by rw [HC.out, hok]; rfl)
    have HY := hide (show wcV S l q m o k p g = M by rw [HV.out, hok]; rfl)
    clear hok hr
    go_wp2_with fail
    refine KO.mono ?_
    rintro e w7 ⟨rfl, hb7⟩
    have b7 := step_below hb7 b3
    have own7 := own_keep own3 hb7
    go_wp2
    go_ret2
    rw [HX.out, HY.out]
    exact ⟨C3, q3, rfl, own_base own7 b1.size, b7⟩
end Go.Proofs.YtehmkablandefaaGreatDoor
namespace Go.Proofs.YtehmkablandefaaGreatDoor
open Go.RowKit
set_option maxRecDepth 20000 in
set_option maxHeartbeats 2000000 in
theorem with_any (s : Int) (A : Option Addr) (c : Nat) (l : List (Int × Int)) (B : Option Addr) (d : Nat) (m V : List (Int × Int)) (C : Int) (w : World) (hA : NA w A l) (hl : l.length ≤ 1000) (hwl : WF l) (hB : NA w B m) (hm : m.length ≤ 1000) (hwm : WF m) (hs : -100000 ≤ s ∧ s ≤ 100000)
    (hC : chC (shP s 0) m = C) (hV : chV (shP s 0) m = V) (hC0 : C = 0 ∨ C = 4) (hVl : V.length ≤ 1000) (hVw : WF V) :
    Calls Tryz.prog 53 #[.slice A l.length c, .slice B m.length d, .int .i64 s] w (OwnN w (if C = 0 then mkV (l ++ V) else []) (if C = 0 then mkC (l ++ V) else 3)) := by
  have KS := shifted_any s 0 B d m w hB (by omega) hwm hs (by omega)
  rw [hC, hV] at KS
  clear hC hV
  rcases hC0 with rfl | rfl
  · have KMk : ∀ W C q, NA W C (l ++ V) → Calls Tryz.prog 67 #[.slice C (l ++ V).length q] W (OwnN W (mkV (l ++ V)) (mkC (l ++ V))) := fun W C q h => implMakeTune_any C q (l ++ V) W h (by rw [List.length_append]; omega) (hwl.append hVw)
    rw [if_pos rfl, if_pos rfl]
    obtain ⟨MC, hMC⟩ : ∃ x, x = mkC (l ++ V) := ⟨_, rfl⟩
    obtain ⟨MV, hMV⟩ : ∃ x, x = mkV (l ++ V) := ⟨_, rfl⟩
    rw [← hMC, ← hMV]
    rw [← hMC, ← hMV] at KMk
    clear hMC hMV
    obtain ⟨L, hL⟩ : ∃ L, L = l ++ V := ⟨_, rfl⟩
    rw [← hL] at KMk
    go_enter Tryz.func53, Tryz.ntmps53
    go_wp2_with fail
    refine KS.mono ?_
    rintro e w2 ⟨C2, q2, rfl, own2, b2⟩
    have hal : Below w2.heap.size w2 (w2.alloc (.cells #[.slice A l.length c, .slice C2 V.length q2] 36)) := (Below.refl _ _).alloc (Nat.le_refl _) _
    have b3 := step_below hal b2
    obtain ⟨g0, g1⟩ := two_new w2 (.slice A l.length c) (.slice C2 V.length q2) 36
    have KC := concat_any w2.heap.size A c l C2 q2 V (w2.alloc (.cells #[.slice A l.length c, .slice C2 V.length q2] 36)) g0 g1 (by simp) (hA.below b3) ((NA.of_own own2).below hal) (by omega) (by omega)
    rw [← hL] at KC
    clear g0 g1 hL
    go_wp2_with fail
    refine KC.mono ?_
    rintro e w4 ⟨C4, q4, rfl, own4, hb4⟩
    have b4 := step_below hb4 b3
    have KM4 := KMk w4 C4 q4 (NA.of_own own4)
    clear own4 KC
    go_wp2_with fail
    refine KM4.mono ?_
    rintro e w5 ⟨C5, q5, rfl, own5, hb5⟩
    go_wp2
    go_ret2
    exact ⟨C5, q5, rfl, own_base own5 b4.size, step_below hb5 b4⟩
  · go_enter Tryz.func53, Tryz.ntmps53
    go_wp2_with fail
    refine KS.mono ?_
    rintro e w2 ⟨C2, q2, rfl, own2, b2⟩
    go_wp2
    go_ret2
    exact ownN_nil none 0 3 ⟨rfl, Or.inl ⟨rfl, rfl⟩⟩ b2
end Go.Proofs.YtehmkablandefaaGreatDoor
