import Derived.Test.YtcdjfflmgjpobaaDoorFcl
namespace Go.Proofs.YtcdjfflmgjpobaaDoor
open Go.RowKit

theorem lawFirstClash_big (s : Int) (A : Option Addr) (c : Nat) (l : List (Int × Int)) (d0 : Nat → Int)  (w : World) (hn : 1048576 < l.length) (hm : l.length ≤ maxLen) :
    Calls Tryd.prog 5 #[.agg #[.int .i16 s, .slice A l.length c], .agg (da d0)] w (Says true w) := by
  have hb0 : Below w.heap.size w ((w.alloc (.cells #[.int .i16 s, .slice A l.length c] 25)).alloc (.cells (da d0) 27)) := ((Below.refl _ _).alloc (Nat.le_refl _) _).alloc (by simp) _
  go_enter Tryd.func5, Tryd.ntmps5
  go_wp2_with (go_at_call 11; refine (szFrame_big s A l.length c hm hn _).mono ?_; rintro e w' ⟨rfl, hb⟩)
  go_ret
  exact ⟨rfl, hb0.trans (hb.mono hb0.size)⟩

set_option maxRecDepth 20000 in
set_option maxHeartbeats 2000000 in
theorem lawFirstClash_small (s : Int) (A : Option Addr) (c : Nat) (l : List (Int × Int)) (d0 : Nat → Int)  (w : World) (hA : HA w A l) (hn : l.length ≤ 1048576) (hwf : HWF l) (hs : -32768 ≤ s ∧ s ≤ 32767) (hd0 : DWF d0) (hT : TabW w) :
    Calls Tryd.prog 5 #[.agg #[.int .i16 s, .slice A l.length c], .agg (da d0)] w (Says true w) := by
  have hb0 : Below w.heap.size w ((w.alloc (.cells #[.int .i16 s, .slice A l.length c] 25)).alloc (.cells (da d0) 27)) := ((Below.refl _ _).alloc (Nat.le_refl _) _).alloc (by simp) _
  have F0 : FP ((w.alloc (.cells #[.int .i16 s, .slice A l.length c] 25)).alloc (.cells (da d0) 27)) w.heap.size s A l.length c := ⟨by simp [go_sem], by simp [go_sem]⟩
  have D0_0 : Dr ((w.alloc (.cells #[.int .i16 s, .slice A l.length c] 25)).alloc (.cells (da d0) 27)) (w.heap.size + 1) 27 d0 := heap_new' _ _ _ (by simp)
  have b0 := hb0
  go_enter Tryd.func5, Tryd.ntmps5
  go_wp2_with fail
  refine (szFrame_small s A l.length c hn _).mono ?_
  rintro e w1 ⟨rfl, hb1⟩
  have b1 := step_below hb1 b0
  have F1 := F0.keep hb1
  have D1_0 := D0_0.keep hb1
  have p1 := F1.1
  have q1 := F1.2
  have r1_0 := D1_0.range
  go_wp2_with fail
  have hd1 : Below w1.heap.size w1 w1.drew := (Below.refl _ _).drew
  have b2 := b1.drew
  have F2 := F1.keep hd1
  have D2_0 := D1_0.keep hd1
  have p2 := F2.1
  have q2 := F2.2
  have r2_0 := D2_0.range
  have hU := Tryd.underlying27
  have hI0 := infoLt d0
  go_region_held3 (fun w' => w'.cell? ⟨w.heap.size, 0, none⟩ = some (.int .i16 s) ∧ w'.cell? ⟨w.heap.size, 1, none⟩ = some (.slice A l.length c) ∧ w'.rangeAt (w.heap.size + 1) 0 (dv d0)) (first | exact ⟨p2, q2, r2_0⟩ | exact ⟨p3, q3, r3_0⟩ | exact ⟨p4, q4, r4_0⟩ | exact ⟨p5, q5, r5_0⟩) ((first | (go_at_call 13; refine (toFrame_any s A c l _ (hA.below b2) hn).mono ?_; rintro e w3 ⟨g3, rfl, hg3, own3, hb3⟩; have b3 := step_below hb3 b2; have F3 := F2.keep hb3; have D3_0 := D2_0.keep hb3; have p3 := F3.1; have q3 := F3.2; have r3_0 := D3_0.range) | (go_at_call 14; refine (toDrum_any d0 _).mono ?_; rintro e w4 ⟨rfl, hb4⟩; have b4 := step_below hb4 b3; have F4 := F3.keep hb4; have D4_0 := D3_0.keep hb4; have own4 := own_keep own3 hb4; have p4 := F4.1; have q4 := F4.2; have r4_0 := D4_0.range) | (go_at_call 23; refine (specFirstClash_any s _ _ l d0 _ (HA.of_own own4) hn hwf hs hd0).mono ?_; rintro e w5 ⟨rfl, hb5⟩; have b5 := step_below hb5 b4; have F5 := F4.keep hb5; have D5_0 := D4_0.keep hb5; have p5 := F5.1; have q5 := F5.2; have r5_0 := D5_0.range)))
  go_wp2_with fail
  refine (toFrame_any s A c l _ (hA.below b5) hn).mono ?_
  rintro e w6 ⟨g6, rfl, hg6, own6, hb6⟩
  have b6 := step_below hb6 b5
  have F6 := F5.keep hb6
  have D6_0 := D5_0.keep hb6
  have p6 := F6.1
  have q6 := F6.2
  have r6_0 := D6_0.range
  have hx7 : Below w6.heap.size w6 (w6.alloc (.cells #[.int .i16 s, .slice (some ⟨g6, 0, none⟩) l.length l.length] 34)) := (Below.refl _ _).alloc (Nat.le_refl _) _
  have X7 : FP (w6.alloc (.cells #[.int .i16 s, .slice (some ⟨g6, 0, none⟩) l.length l.length] 34)) w6.heap.size s (some ⟨g6, 0, none⟩) l.length l.length := ⟨by simp [go_sem], by simp [go_sem]⟩
  have b7 := b6.alloc b6.size (.cells #[.int .i16 s, .slice (some ⟨g6, 0, none⟩) l.length l.length] 34)
  have F7 := F6.keep hx7
  have D7_0 := D6_0.keep hx7
  have own7 := own_keep own6 hx7
  go_wp2_with fail
  have hd8 : Below (w6.alloc (.cells #[.int .i16 s, .slice (some ⟨g6, 0, none⟩) l.length l.length] 34)).heap.size (w6.alloc (.cells #[.int .i16 s, .slice (some ⟨g6, 0, none⟩) l.length l.length] 34)) (w6.alloc (.cells #[.int .i16 s, .slice (some ⟨g6, 0, none⟩) l.length l.length] 34)).drew := (Below.refl _ _).drew
  have b8 := b7.drew
  have F8 := F7.keep hd8
  have D8_0 := D7_0.keep hd8
  have X8 := X7.keep hd8
  have own8 := own_keep own7 hd8
  have p8 := F8.1
  have q8 := F8.2
  have r8_0 := D8_0.range
  have y8 := X8.1
  have z8 := X8.2
  go_region_held3 (fun w' => w'.cell? ⟨w.heap.size, 0, none⟩ = some (.int .i16 s) ∧ w'.cell? ⟨w.heap.size, 1, none⟩ = some (.slice A l.length c) ∧ w'.rangeAt (w.heap.size + 1) 0 (dv d0) ∧ w'.cell? ⟨w6.heap.size, 0, none⟩ = some (.int .i16 s) ∧ w'.cell? ⟨w6.heap.size, 1, none⟩ = some (.slice (some ⟨g6, 0, none⟩) l.length l.length)) (first | exact ⟨p8, q8, r8_0, y8, z8⟩ | exact ⟨p9, q9, r9_0, y9, z9⟩ | exact ⟨p10, q10, r10_0, y10, z10⟩) ((first | (go_at_call 14; refine (toDrum_any d0 _).mono ?_; rintro e w9 ⟨rfl, hb9⟩; have b9 := step_below hb9 b8; have F9 := F8.keep hb9; have D9_0 := D8_0.keep hb9; have X9 := X8.keep hb9; have own9 := own_keep own8 hb9; have p9 := F9.1; have q9 := F9.2; have r9_0 := D9_0.range; have y9 := X9.1; have z9 := X9.2) | (go_at_call 24; refine (implFirstClash_any s _ _ l d0 _ (HA.of_own own9) hn hwf hs hd0 (hT.keep b9)).mono ?_; rintro e w10 ⟨rfl, hb10⟩; have b10 := step_below hb10 b9; have F10 := F9.keep hb10; have D10_0 := D9_0.keep hb10; have X10 := X9.keep hb10; have own10 := own_keep own9 hb10; have p10 := F10.1; have q10 := F10.2; have r10_0 := D10_0.range; have y10 := X10.1; have z10 := X10.2)))
  go_wp2_with fail
  have hd11 : Below w10.heap.size w10 w10.drew := (Below.refl _ _).drew
  have b11 := b10.drew
  have F11 := F10.keep hd11
  have X11 := X10.keep hd11
  have own11 := own_keep own10 hd11
  have p11 := F11.1
  have q11 := F11.2
  have y11 := X11.1
  have z11 := X11.2
  go_region_held3 (fun w' => w'.cell? ⟨w.heap.size, 0, none⟩ = some (.int .i16 s) ∧ w'.cell? ⟨w.heap.size, 1, none⟩ = some (.slice A l.length c) ∧ w'.cell? ⟨w6.heap.size, 0, none⟩ = some (.int .i16 s) ∧ w'.cell? ⟨w6.heap.size, 1, none⟩ = some (.slice (some ⟨g6, 0, none⟩) l.length l.length)) (first | exact ⟨p11, q11, y11, z11⟩ | exact ⟨p12, q12, y12, z12⟩ | exact ⟨p13, q13, y13, z13⟩) ((first | (go_at_call 13; refine (toFrame_any s A c l _ (hA.below b11) hn).mono ?_; rintro e w12 ⟨g12, rfl, hg12, ownN, hb12⟩; have b12 := step_below hb12 b11; have F12 := F11.keep hb12; have X12 := X11.keep hb12; have own12 := own_keep own11 hb12; have p12 := F12.1; have q12 := F12.2; have y12 := X12.1; have z12 := X12.2) | (go_at_call 17; refine (eqFrame_any s _ _ _ _ l _ (HA.of_own own12) (HA.of_own ownN) hn).mono ?_; rintro e w13 ⟨rfl, hb13⟩; have b13 := step_below hb13 b12; have F13 := F12.keep hb13; have X13 := X12.keep hb13; have p13 := F13.1; have q13 := F13.2; have y13 := X13.1; have z13 := X13.2)))
  go_wp2
  go_ret
  exact ⟨rfl, b13⟩
theorem lawFirstClash_any (s : Int) (A : Option Addr) (c : Nat) (l : List (Int × Int)) (d0 : Nat → Int)  (w : World) (hA : HA w A l) (hm : l.length ≤ maxLen) (hwf : HWF l) (hs : -32768 ≤ s ∧ s ≤ 32767) (hd0 : DWF d0) (hT : TabW w)  :
    Calls Tryd.prog 5 #[.agg #[.int .i16 s, .slice A l.length c], .agg (da d0)] w (Says true w) := by
  rcases Nat.lt_or_ge 1048576 l.length with h | h
  · exact lawFirstClash_big s A c l d0 w h hm
  · exact lawFirstClash_small s A c l d0 w hA h hwf hs hd0 hT
end Go.Proofs.YtcdjfflmgjpobaaDoor
