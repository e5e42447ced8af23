import Derived.Test.YtcdjfflmgjpobaaDoorCof
import Derived.Deep.RegionHeld3
namespace Go.Proofs.YtcdjfflmgjpobaaDoor
open Go.RowKit

theorem lawClashesOf_big (s : Int) (A : Option Addr) (c : Nat) (l : List (Int × Int)) (d0 : Nat → Int)  (w : World) (hn : 1048576 < l.length) (hm : l.length ≤ maxLen) :
    Calls Tryd.prog 6 #[.agg #[.int .i16 s, .slice A l.length c], .agg (da d0)] w (Says true w) := by
  have hb0 : Below w.heap.size w ((w.alloc (.cells #[.int .i16 s, .slice A l.length c] 25)).alloc (.cells (da d0) 27)) := ((Below.refl _ _).alloc (Nat.le_refl _) _).alloc (by simp) _
  go_enter Tryd.func6, Tryd.ntmps6
  go_wp2_with (go_at_call 11; refine (szFrame_big s A l.length c hm hn _).mono ?_; rintro e w' ⟨rfl, hb⟩)
  go_ret
  exact ⟨rfl, hb0.trans (hb.mono hb0.size)⟩

set_option maxRecDepth 20000 in
set_option maxHeartbeats 4000000 in
theorem lawClashesOf_small (s : Int) (A : Option Addr) (c : Nat) (l : List (Int × Int)) (d0 : Nat → Int)  (w : World) (hA : HA w A l) (hn : l.length ≤ 1048576) (hwf : HWF l) (hs : -32768 ≤ s ∧ s ≤ 32767) (hd0 : DWF d0) (hT : TabW w) :
    Calls Tryd.prog 6 #[.agg #[.int .i16 s, .slice A l.length c], .agg (da d0)] w (Says true w) := by
  obtain ⟨n, hnn⟩ : ∃ n : Nat, n = (coL s l d0).length := ⟨_, rfl⟩
  obtain ⟨zs, hz⟩ : ∃ zs, zs = flatP (coL s l d0) := ⟨_, rfl⟩
  obtain ⟨cc, hcc⟩ : ∃ cc : Int, cc = codeI (askB s l d0) := ⟨_, rfl⟩
  have hn2 : n ≤ 1048576 := by have := coL_len s l d0; omega
  have hzl : zs.length = n * 2 := by rw [hz, hnn, flatP_len]
  have KS : ∀ (B : Option Addr) (W : World), HA W B l → Calls Tryd.prog 25 #[.agg #[.int .i16 s, .slice B l.length l.length], .agg (da d0)] W (OwnAZ W n zs cc) := fun B W h => by rw [hz, hcc, hnn]; exact specClashesOf_any s B l.length l d0 W h hn hwf hs hd0
  have KI : ∀ (B : Option Addr) (W : World), HA W B l → TabW W → Calls Tryd.prog 26 #[.agg #[.int .i16 s, .slice B l.length l.length], .agg (da d0)] W (OwnAZ W n zs cc) := fun B W h ht => by rw [hz, hcc, hnn]; exact implClashesOf_any s B l.length l d0 W h hn hwf hs hd0 ht
  clear hz hcc hnn
  have b0 : Below w.heap.size w ((w.alloc (.cells #[.int .i16 s, .slice A l.length c] 25)).alloc (.cells (da d0) 27)) := ((Below.refl _ _).alloc (Nat.le_refl _) _).alloc (by simp) _
  have F0 : FP ((w.alloc (.cells #[.int .i16 s, .slice A l.length c] 25)).alloc (.cells (da d0) 27)) w.heap.size s A l.length c := ⟨by simp [go_sem], by simp [go_sem]⟩
  have D0 : Dr ((w.alloc (.cells #[.int .i16 s, .slice A l.length c] 25)).alloc (.cells (da d0) 27)) (w.heap.size + 1) 27 d0 := heap_new' _ _ _ (by simp)
  have hU := Tryd.underlying27
  have hI := infoLt d0
  go_enter Tryd.func6, Tryd.ntmps6
  go_wp2_with fail
  refine (szFrame_small s A l.length c hn _).mono ?_
  rintro e w1 ⟨rfl, hb1⟩
  have b1 := step_below hb1 b0
  have F1 := F0.keep hb1
  have D1 := D0.keep hb1
  have p1 := F1.1
  have q1 := F1.2
  have r1 := D1.range
  have hw1 : w.heap.size + 1 < w1.heap.size := D1.lt
  go_wp2_with fail
  have hb2 : Below w1.heap.size w1 w1.drew := (Below.refl _ _).drew
  have b2 := step_below hb2 b1
  have F2 := F1.keep hb2
  have D2 := D1.keep hb2
  have p2 := F2.1
  have q2 := F2.2
  have r2 := D2.range
  go_region_held3 (fun w' => w'.cell? ⟨w.heap.size, 0, none⟩ = some (.int .i16 s) ∧ w'.cell? ⟨w.heap.size, 1, none⟩ = some (.slice A l.length c) ∧ w'.rangeAt (w.heap.size + 1) 0 (dv d0)) (first | with_reducible exact ⟨p2, q2, r2⟩ | with_reducible exact ⟨p3, q3, r3⟩ | with_reducible exact ⟨p4, q4, r4⟩ | with_reducible exact ⟨p5, q5, r5⟩) ((first | (go_at_call 13; refine (toFrame_any s A c l _ (hA.below b2) hn).mono ?_; rintro e w3 ⟨g3, rfl, hg3, own3, hb3⟩; have b3 := step_below hb3 b2; have F3 := F2.keep hb3; have D3 := D2.keep hb3; have p3 := F3.1; have q3 := F3.2; have r3 := D3.range; have H3 := HA.of_own own3) | (go_at_call 14; refine (toDrum_any d0 _).mono ?_; rintro e w4 ⟨rfl, hb4⟩; have b4 := step_below hb4 b3; have F4 := F3.keep hb4; have D4 := D3.keep hb4; have p4 := F4.1; have q4 := F4.2; have r4 := D4.range; have H4 := H3.below hb4) | (go_at_call 25; refine (KS _ _ H4).mono ?_; rintro e w5 ⟨A5, c5, rfl, own5, hb5⟩; have b5 := step_below hb5 b4; have F5 := F4.keep hb5; have D5 := D4.keep hb5; have p5 := F5.1; have q5 := F5.2; have r5 := D5.range)))
  have S5 := SA.of_own hzl own5
  go_wp2_with fail
  refine (toFrame_any s A c l _ (hA.below b5) hn).mono ?_
  rintro e w6 ⟨g6, rfl, hg6, own6, hb6⟩
  have b6 := step_below hb6 b5
  have F6 := F5.keep hb6
  have D6 := D5.keep hb6
  have p6 := F6.1
  have q6 := F6.2
  have r6 := D6.range
  have hb7 : Below w6.heap.size w6 (w6.alloc (.cells #[.int .i16 s, .slice (some ⟨g6, 0, none⟩) l.length l.length] 34)) := (Below.refl _ _).alloc (Nat.le_refl _) _
  have X7 : FP (w6.alloc (.cells #[.int .i16 s, .slice (some ⟨g6, 0, none⟩) l.length l.length] 34)) w6.heap.size s (some ⟨g6, 0, none⟩) l.length l.length := ⟨by simp [go_sem], by simp [go_sem]⟩
  have b7 := step_below hb7 b6
  have F7 := F6.keep hb7
  have D7 := D6.keep hb7
  have p7 := F7.1
  have q7 := F7.2
  have r7 := D7.range
  have own7 := own_keep own6 hb7
  have hg6lt : g6 < w6.heap.size := (own6.lt g6 rfl).2
  go_wp2_with fail
  have hb8 : Below (w6.alloc (.cells #[.int .i16 s, .slice (some ⟨g6, 0, none⟩) l.length l.length] 34)).heap.size (w6.alloc (.cells #[.int .i16 s, .slice (some ⟨g6, 0, none⟩) l.length l.length] 34)) (w6.alloc (.cells #[.int .i16 s, .slice (some ⟨g6, 0, none⟩) l.length l.length] 34)).drew := (Below.refl _ _).drew
  have b8 := step_below hb8 b7
  have F8 := F7.keep hb8
  have D8 := D7.keep hb8
  have X8 := X7.keep hb8
  have p8 := F8.1
  have q8 := F8.2
  have r8 := D8.range
  have y8 := X8.1
  have z8 := X8.2
  have own8 := own_keep own7 hb8
  have H8 := HA.of_own own8
  have t8 : Below w5.heap.size w5 (w6.alloc (.cells #[.int .i16 s, .slice (some ⟨g6, 0, none⟩) l.length l.length] 34)).drew := step_below hb8 (step_below hb7 hb6)
  go_region_held3 (fun w' => w'.cell? ⟨w.heap.size, 0, none⟩ = some (.int .i16 s) ∧ w'.cell? ⟨w.heap.size, 1, none⟩ = some (.slice A l.length c) ∧ w'.rangeAt (w.heap.size + 1) 0 (dv d0) ∧ w'.cell? ⟨w6.heap.size, 0, none⟩ = some (.int .i16 s) ∧ w'.cell? ⟨w6.heap.size, 1, none⟩ = some (.slice (some ⟨g6, 0, none⟩) l.length l.length)) (first | with_reducible exact ⟨p8, q8, r8, y8, z8⟩ | with_reducible exact ⟨p9, q9, r9, y9, z9⟩ | with_reducible exact ⟨p10, q10, r10, y10, z10⟩) ((first | (go_at_call 14; refine (toDrum_any d0 _).mono ?_; rintro e w9 ⟨rfl, hb9⟩; have b9 := step_below hb9 b8; have F9 := F8.keep hb9; have D9 := D8.keep hb9; have X9 := X8.keep hb9; have p9 := F9.1; have q9 := F9.2; have r9 := D9.range; have y9 := X9.1; have z9 := X9.2; have own9 := own_keep own8 hb9; have H9 := HA.of_own own9; have t9 := step_below hb9 t8) | (go_at_call 26; refine (KI _ _ H9 (hT.keep b9)).mono ?_; rintro e w10 ⟨A10, c10, rfl, own10, hb10⟩; have b10 := step_below hb10 b9; have F10 := F9.keep hb10; have D10 := D9.keep hb10; have X10 := X9.keep hb10; have p10 := F10.1; have q10 := F10.2; have r10 := D10.range; have y10 := X10.1; have z10 := X10.2; have hm10 := own_keep own9 hb10; have t10 := step_below hb10 t9)))
  have S10 := S5.below t10
  have G10 := SA.of_own hzl own10
  go_wp2_with fail
  refine (eqInt64A2S_any A10 A5 c10 c5 n zs w10.heap.size _ G10 (S10.up t10.size) (Nat.le_refl _) hn2).mono ?_
  rintro e w11 ⟨rfl, hb11⟩
  have b11 := step_below hb11 b10
  have F11 := F10.keep hb11
  have D11 := D10.keep hb11
  have X11 := X10.keep hb11
  have p11 := F11.1
  have q11 := F11.2
  have r11 := D11.range
  have y11 := X11.1
  have z11 := X11.2
  have hm11 := own_keep hm10 hb11
  have own11 := own_keep own10 hb11
  have t11 := step_below hb11 t10
  go_wp2_with fail
  have hb12 : Below w11.heap.size w11 w11.drew := (Below.refl _ _).drew
  have b12 := step_below hb12 b11
  have F12 := F11.keep hb12
  have D12 := D11.keep hb12
  have X12 := X11.keep hb12
  have p12 := F12.1
  have q12 := F12.2
  have r12 := D12.range
  have y12 := X12.1
  have z12 := X12.2
  have hm12 := own_keep hm11 hb12
  have own12 := own_keep own11 hb12
  have t12 := step_below hb12 t11
  go_region_held3 (fun w' => w'.cell? ⟨w.heap.size, 0, none⟩ = some (.int .i16 s) ∧ w'.cell? ⟨w.heap.size, 1, none⟩ = some (.slice A l.length c) ∧ w'.rangeAt (w.heap.size + 1) 0 (dv d0) ∧ w'.cell? ⟨w6.heap.size, 0, none⟩ = some (.int .i16 s) ∧ w'.cell? ⟨w6.heap.size, 1, none⟩ = some (.slice (some ⟨g6, 0, none⟩) l.length l.length)) (first | with_reducible exact ⟨p12, q12, r12, y12, z12⟩ | with_reducible exact ⟨p13, q13, r13, y13, z13⟩ | with_reducible exact ⟨p14, q14, r14, y14, z14⟩) ((first | (go_at_call 13; refine (toFrame_any s A c l _ (hA.below b12) hn).mono ?_; rintro e w13 ⟨g13, rfl, hg13, own13f, hb13⟩; have b13 := step_below hb13 b12; have F13 := F12.keep hb13; have D13 := D12.keep hb13; have X13 := X12.keep hb13; have p13 := F13.1; have q13 := F13.2; have r13 := D13.range; have y13 := X13.1; have z13 := X13.2; have hm13 := own_keep hm12 hb13; have own13 := own_keep own12 hb13; have t13 := step_below hb13 t12; have H13 := HA.of_own hm13; have H13f := HA.of_own own13f) | (go_at_call 17; refine (eqFrame_any s _ _ _ _ l _ H13 H13f hn).mono ?_; rintro e w14 ⟨rfl, hb14⟩; have b14 := step_below hb14 b13; have F14 := F13.keep hb14; have D14 := D13.keep hb14; have X14 := X13.keep hb14; have p14 := F14.1; have q14 := F14.2; have r14 := D14.range; have y14 := X14.1; have z14 := X14.2; have hm14 := own_keep hm13 hb14; have own14 := own_keep own13 hb14; have t14 := step_below hb14 t13)))
  go_wp2_with fail
  refine (markFrame_any s _ _ l _ _ hm14 hn).mono ?_
  rintro e w15 ⟨rfl, hgr⟩
  have t15 : Below w5.heap.size w5 w15 := t14.grown hgr t14.size (fun j hj => by cases hj; exact hg6)
  have own15 := own14.kept hgr (Or.inr (fun e => by have h1 := own14.lt g6 (by rw [e]; rfl); have h2 := hb9.size; have h3 := hb8.size; have h4 := hb7.size; omega))
  have b15 : Below w.heap.size w w15 := b5.trans (t15.mono b5.size)
  have F15 := F5.keep t15
  have D15 := D5.keep t15
  have S15 := S5.below t15
  have G15 := SA.of_own hzl own15
  have hneg1 : decide (2 * (l.length : Int) + 1 < 0) = false := by simp; omega
  go_wp2_with fail
  refine (eqInt64A2S_any A10 A5 c10 c5 n zs w15.heap.size _ G15 (S15.up t15.size) (Nat.le_refl _) hn2).mono ?_
  rintro e w16 ⟨rfl, hb16⟩
  have t16 := step_below hb16 t15
  have own16 := own_keep own15 hb16
  have hsz16 : w9.heap.size ≤ w16.heap.size := by
    have h1 := hb10.size
    have h2 := hb11.size
    have h3 := hb12.size
    have h4 := hb13.size
    have h5 := hb14.size
    have h6 := hgr.size
    have h7 := hb16.size
    omega
  go_wp2_with fail
  refine (markInt64A2S_any A10 c10 n zs 0 w9.heap.size _ hzl own16 hn2 hsz16).mono ?_
  rintro e w17 ⟨rfl, own17, hb17⟩
  have t17 := t16.trans (hb17.mono t9.size)
  have G17 : SA w17 w17.heap.size A10 n (mks (n * 2)) := SA.of_own (by rw [mks_length]) own17
  have hneg2 : decide (2 * (n : Int) + 1 < 0) = false := by simp; omega
  have hneq2 : ((2 * (n : Int) + 1) != (2 * (n : Int) + 1)) = false := by simp
  go_wp2_with fail
  refine (heldInt64A2S_any A10 c10 n _ _ G17 hn2).mono ?_
  rintro e w17' ⟨rfl, rfl⟩
  go_wp2_with fail
  have hb18 : Below w17.heap.size w17 w17.drew := (Below.refl _ _).drew
  have t18 := step_below hb18 t17
  have b18 : Below w.heap.size w w17.drew := b5.trans (t18.mono b5.size)
  have F18 := F5.keep t18
  have D18 := D5.keep t18
  have p18 := F18.1
  have q18 := F18.2
  have r18 := D18.range
  have u18 := hb18
  go_region_held3 (fun w' => w'.cell? ⟨w.heap.size, 0, none⟩ = some (.int .i16 s) ∧ w'.cell? ⟨w.heap.size, 1, none⟩ = some (.slice A l.length c) ∧ w'.rangeAt (w.heap.size + 1) 0 (dv d0)) (first | with_reducible exact ⟨p18, q18, r18⟩ | with_reducible exact ⟨p19, q19, r19⟩ | with_reducible exact ⟨p20, q20, r20⟩ | with_reducible exact ⟨p21, q21, r21⟩) ((first | (go_at_call 13; refine (toFrame_any s A c l _ (hA.below b18) hn).mono ?_; rintro e w19 ⟨g19, rfl, hg19, own19, hb19⟩; have b19 := step_below hb19 b18; have F19 := F18.keep hb19; have D19 := D18.keep hb19; have p19 := F19.1; have q19 := F19.2; have r19 := D19.range; have H19 := HA.of_own own19; have t19 := step_below hb19 t18; have u19 := step_below hb19 u18) | (go_at_call 14; refine (toDrum_any d0 _).mono ?_; rintro e w20 ⟨rfl, hb20⟩; have b20 := step_below hb20 b19; have F20 := F19.keep hb20; have D20 := D19.keep hb20; have p20 := F20.1; have q20 := F20.2; have r20 := D20.range; have H20 := H19.below hb20; have t20 := step_below hb20 t19; have u20 := step_below hb20 u19) | (go_at_call 26; refine (KI _ _ H20 (hT.keep b20)).mono ?_; rintro e w21 ⟨A21, c21, rfl, own21, hb21⟩; have b21 := step_below hb21 b20; have F21 := F20.keep hb21; have D21 := D20.keep hb21; have p21 := F21.1; have q21 := F21.2; have r21 := D21.range; have t21 := step_below hb21 t20; have u21 := step_below hb21 u20)))
  have S21 := S5.below t21
  have G21 := SA.of_own hzl own21
  go_wp2_with fail
  refine (eqInt64A2S_any A21 A5 c21 c5 n zs w21.heap.size _ G21 (S21.up t21.size) (Nat.le_refl _) hn2).mono ?_
  rintro e w22 ⟨rfl, hb22⟩
  have u22 := step_below hb22 u21
  have b22 := step_below hb22 b21
  have G22 := G17.below u22
  go_wp2_with fail
  refine (heldInt64A2S_any A10 c10 n _ _ G22 hn2).mono ?_
  rintro e w22' ⟨rfl, rfl⟩
  go_wp2
  go_ret
  exact ⟨rfl, b22⟩
theorem lawClashesOf_any (s : Int) (A : Option Addr) (c : Nat) (l : List (Int × Int)) (d0 : Nat → Int)  (w : World) (hA : HA w A l) (hm : l.length ≤ maxLen) (hwf : HWF l) (hs : -32768 ≤ s ∧ s ≤ 32767) (hd0 : DWF d0) (hT : TabW w)  :
    Calls Tryd.prog 6 #[.agg #[.int .i16 s, .slice A l.length c], .agg (da d0)] w (Says true w) := by
  rcases Nat.lt_or_ge 1048576 l.length with h | h
  · exact lawClashesOf_big s A c l d0 w h hm
  · exact lawClashesOf_small s A c l d0 w hA h hwf hs hd0 hT
end Go.Proofs.YtcdjfflmgjpobaaDoor
