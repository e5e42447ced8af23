import Derived.Test.YtlbjakmfalhliaaPtm
import Derived.Deep.CutRange
import Derived.Deep.RegionHeld3
namespace Go.Proofs.Ytlbjakmfalhliaa
open Go.RowKit

theorem lawPinsToMove_big (s : Int) (A : Option Addr) (c : Nat) (l : List (Int × Int)) (d0 : Nat → Int) (d1 : Nat → Int)  (w : World) (hn : 1048576 < l.length) (hm : l.length ≤ maxLen) :
    Calls Try.prog 11 #[.agg #[.int .i16 s, .slice A l.length c], .agg (da d0), .agg (da d1)] w (Says true w) := by
  have hb0 : Below w.heap.size w (((w.alloc (.cells #[.int .i16 s, .slice A l.length c] 25)).alloc (.cells (da d0) 35)).alloc (.cells (da d1) 35)) := (((Below.refl _ _).alloc (Nat.le_refl _) _).alloc (by simp) _).alloc (by simp; omega) _
  go_enter Try.func11, Try.ntmps11
  go_wp2_with (go_at_call 15; refine (szFrame_big s A l.length c hm hn _).mono ?_; rintro e w' ⟨rfl, hb⟩)
  go_ret
  exact ⟨rfl, hb0.trans (hb.mono hb0.size)⟩

theorem Dr.later35 {w : World} {g : Nat} {d : Nat → Int} (h : Dr w g 35 d) (p : Later w) : (Instr.loadAt 35 (.pointer (some ⟨g, 0, none⟩))).run Try.prog p.w = .ok (.agg (da d)) p.w :=
  run_loadAt_mid p.w g 0 _ (dv d) _ (h.keep p.h).range Try.underlying35 rfl (infoLt d)
set_option maxRecDepth 20000 in
set_option maxHeartbeats 4000000 in
theorem lawPinsToMove_small (s : Int) (A : Option Addr) (c : Nat) (l : List (Int × Int)) (d0 : Nat → Int) (d1 : Nat → Int)  (w : World) (hA : HA w A l) (hn : l.length ≤ 1048576) (hwf : HWF l) (hs : -32768 ≤ s ∧ s ≤ 32767) (hd0 : DWF d0) (hd1 : DWF d1) :
    Calls Try.prog 11 #[.agg #[.int .i16 s, .slice A l.length c], .agg (da d0), .agg (da d1)] w (Says true w) := by
  have hb0 : Below w.heap.size w (((w.alloc (.cells #[.int .i16 s, .slice A l.length c] 25)).alloc (.cells (da d0) 35)).alloc (.cells (da d1) 35)) := (((Below.refl _ _).alloc (Nat.le_refl _) _).alloc (by simp) _).alloc (by simp; omega) _
  have F0 : FP (((w.alloc (.cells #[.int .i16 s, .slice A l.length c] 25)).alloc (.cells (da d0) 35)).alloc (.cells (da d1) 35)) w.heap.size s A l.length c := ⟨by simp [go_sem], by simp [go_sem]⟩
  have D0_0 : Dr (((w.alloc (.cells #[.int .i16 s, .slice A l.length c] 25)).alloc (.cells (da d0) 35)).alloc (.cells (da d1) 35)) (w.heap.size + 1) 35 d0 := heap_old' (heap_new' _ _ _ (by simp))
  have D0_1 : Dr (((w.alloc (.cells #[.int .i16 s, .slice A l.length c] 25)).alloc (.cells (da d0) 35)).alloc (.cells (da d1) 35)) (w.heap.size + 1 + 1) 35 d1 := heap_new' _ _ _ (by simp)
  have b0 := hb0
  go_enter Try.func11, Try.ntmps11
  go_wp2_with fail
  refine (szFrame_small s A l.length c hn _).mono ?_
  rintro e w1 ⟨rfl, hb1⟩
  have b1 := step_below hb1 b0
  have F1 := F0.keep hb1
  have D1_0 := D0_0.keep hb1
  have D1_1 := D0_1.keep hb1
  have p1 := F1.1
  have q1 := F1.2
  have r1_0 := D1_0.range
  have r1_1 := D1_1.range
  go_wp2_with fail
  have hdw1 : Below w1.heap.size w1 w1.drew := (Below.refl _ _).drew
  have b2 := b1.drew
  have F2 := F1.keep hdw1
  have D2_0 := D1_0.keep hdw1
  have D2_1 := D1_1.keep hdw1
  have p2 := F2.1
  have q2 := F2.2
  have r2_0 := D2_0.range
  have r2_1 := D2_1.range
  have hU := Try.underlying35
  have hI0 := infoLt d0
  have hI1 := infoLt d1
  clear hI0 hI1
  go_cut [8, 9, 10] from 20 to 30 (fun a b cx wx => a = .int .i64 (mvP s l d0 d1 d1 d0) ∧ b = .int .i64 (mvP s l d0 d1 d0 d1) ∧ cx = .int .i64 (codeI (ask2B s l d0 d1)) ∧ FP wx w.heap.size s A l.length c ∧ Dr wx (w.heap.size + 1) 35 d0 ∧ Dr wx (w.heap.size + 1 + 1) 35 d1 ∧ Below w.heap.size w wx)
  case first =>
    refine wp_region_held_drew (S := (fun w' => w'.cell? ⟨w.heap.size, 0, none⟩ = some (.int .i16 s) ∧ w'.cell? ⟨w.heap.size, 1, none⟩ = some (.slice A l.length c) ∧ w'.rangeAt (w.heap.size + 1) 0 (dv d0) ∧ w'.rangeAt (w.heap.size + 1 + 1) 0 (dv d1))) (by kernel_rfl) ⟨p2, q2, r2_0, r2_1⟩ fun hS => ?_
    refine wpAnyH_take (i := 2) rfl (by kernel_rfl) (by kernel_rfl) (by kernel_rfl) (fun _ _ _ h => h) (yieldsIf_load_mid (by rfl) _ _ rfl (w.heap.size + 1) 0 rfl (dv d0) _ (fun _ h => h.2.2.1) hU rfl (infoLt d0)) hS ?_
    simp only [Act.put, List.setIfInBounds_toArray, List.set_cons_zero, List.set_cons_succ]
    refine wpAnyH_take (i := 4) rfl (by kernel_rfl) (by kernel_rfl) (by kernel_rfl) (fun _ _ _ h => h) (yieldsIf_load_mid (by rfl) _ _ rfl (w.heap.size + 1 + 1) 0 rfl (dv d1) _ (fun _ h => h.2.2.2) hU rfl (infoLt d1)) hS ?_
    simp only [Act.put, List.setIfInBounds_toArray, List.set_cons_zero, List.set_cons_succ]
    refine wpAnyH_take (i := 0) (v := .agg #[.int .i16 s, .slice A l.length c]) rfl (by kernel_rfl) (by kernel_rfl) (by kernel_rfl) (fun _ _ _ h => h) (Or.inl ⟨by rfl, fun w' h => ?_⟩) hS ?_
    · obtain ⟨h1, h2, _⟩ := h
      go_simp
    simp only [Act.put, List.setIfInBounds_toArray, List.set_cons_zero, List.set_cons_succ]
    refine wpAnyH_ready (rs := [1]) (by kernel_rfl) (by simp) (AllReadyH.cons rfl ?_ AllReadyH.nil)
    intro K hK
    rw [if_pos (by rfl)]
    go_simp
    refine (toFrame_any s A c l _ (hA.below b2) hn).mono ?_
    rintro e w3 ⟨g3, rfl, hg3, own3, hb3⟩
    have b3 := step_below hb3 b2
    have F3 := F2.keep hb3
    have D3_0 := D2_0.keep hb3
    have D3_1 := D2_1.keep hb3
    refine hK.out _ _ ⟨F3.1, F3.2, D3_0.range, D3_1.range⟩ (fun hS3 => ?_)
    clear hK K
    refine wpAnyH_ready (rs := [3]) (by kernel_rfl) (by simp) (AllReadyH.cons rfl ?_ AllReadyH.nil)
    intro K hK
    rw [if_pos (by rfl)]
    go_simp
    refine (toDrum_any d0 _).mono ?_
    rintro e w4 ⟨rfl, hb4⟩
    have b4 := step_below hb4 b3
    have F4 := F3.keep hb4
    have D4_0 := D3_0.keep hb4
    have D4_1 := D3_1.keep hb4
    have own4 := own_keep own3 hb4
    refine hK.out _ _ ⟨F4.1, F4.2, D4_0.range, D4_1.range⟩ (fun hS4 => ?_)
    clear hK K
    refine wpAnyH_ready (rs := [5]) (by kernel_rfl) (by simp) (AllReadyH.cons rfl ?_ AllReadyH.nil)
    intro K hK
    rw [if_pos (by rfl)]
    go_simp
    refine (toDrum_any d1 _).mono ?_
    rintro e w5 ⟨rfl, hb5⟩
    have b5 := step_below hb5 b4
    have F5 := F4.keep hb5
    have D5_0 := D4_0.keep hb5
    have D5_1 := D4_1.keep hb5
    have own5 := own_keep own4 hb5
    refine hK.out _ _ ⟨F5.1, F5.2, D5_0.range, D5_1.range⟩ (fun hS5 => ?_)
    clear hK K
    refine wpAnyH_ready (rs := [6]) (by kernel_rfl) (by simp) (AllReadyH.cons rfl ?_ AllReadyH.nil)
    intro K hK
    rw [if_pos (by rfl)]
    go_simp
    refine (specPinsToMove_any s _ _ l d0 d1 _ (HA.of_own own5) hn hwf hs hd0 hd1).mono ?_
    rintro e w6 ⟨rfl, hb6⟩
    have b6 := step_below hb6 b5
    have F6 := F5.keep hb6
    have D6_0 := D5_0.keep hb6
    have D6_1 := D5_1.keep hb6
    refine hK.out _ _ ⟨F6.1, F6.2, D6_0.range, D6_1.range⟩ (fun hS6 => ?_)
    clear hK K
    refine wpAnyH_take (i := 7) (v := .tuple #[.int .i64 (mvP s l d0 d1 d1 d0), .int .i64 (mvP s l d0 d1 d0 d1), .int .i64 (codeI (ask2B s l d0 d1))]) rfl (by kernel_rfl) (by kernel_rfl) (by kernel_rfl) (fun _ _ _ h => h) (Or.inl ⟨by rfl, fun w' _ => by go_simp⟩) hS6 ?_
    change wpAnyH _ _ _ _ _ _ _ (Act.put _ (some 20) _) _
    simp only [Act.put, List.setIfInBounds_toArray, List.set_cons_zero, List.set_cons_succ]
    refine wpAnyH_take (i := 8) (v := .int .i64 (mvP s l d0 d1 d1 d0)) rfl (by kernel_rfl) (by kernel_rfl) (by kernel_rfl) (fun _ _ _ h => h) (Or.inl ⟨by rfl, fun w' _ => by go_simp⟩) hS6 ?_
    change wpAnyH _ _ _ _ _ _ _ (Act.put _ (some 28) _) _
    simp only [Act.put, List.setIfInBounds_toArray, List.set_cons_zero, List.set_cons_succ]
    refine wpAnyH_take (i := 9) (v := .int .i64 (mvP s l d0 d1 d0 d1)) rfl (by kernel_rfl) (by kernel_rfl) (by kernel_rfl) (fun _ _ _ h => h) (Or.inl ⟨by rfl, fun w' _ => by go_simp⟩) hS6 ?_
    change wpAnyH _ _ _ _ _ _ _ (Act.put _ (some 29) _) _
    simp only [Act.put, List.setIfInBounds_toArray, List.set_cons_zero, List.set_cons_succ]
    refine wpAnyH_take (i := 10) (v := .int .i64 (codeI (ask2B s l d0 d1))) rfl (by kernel_rfl) (by kernel_rfl) (by kernel_rfl) (fun _ _ _ h => h) (Or.inl ⟨by rfl, fun w' _ => by go_simp⟩) hS6 ?_
    change wpAnyH _ _ _ _ _ _ _ (Act.put _ (some 30) _) _
    simp only [Act.put, List.setIfInBounds_toArray, List.set_cons_zero, List.set_cons_succ]
    refine wpAnyH_take (i := 11) (v := .int .i64 (mvP s l d0 d1 d1 d0)) rfl (by kernel_rfl) (by kernel_rfl) (by kernel_rfl) (fun _ _ _ h => h) (Or.inl ⟨by rfl, fun w' _ => by go_simp⟩) hS6 ?_
    change wpAnyH _ _ _ _ _ _ _ (Act.put _ (some 8) _) _
    simp only [Act.put, List.setIfInBounds_toArray, List.set_cons_zero, List.set_cons_succ]
    refine wpAnyH_take (i := 12) (v := .int .i64 (mvP s l d0 d1 d0 d1)) rfl (by kernel_rfl) (by kernel_rfl) (by kernel_rfl) (fun _ _ _ h => h) (Or.inl ⟨by rfl, fun w' _ => by go_simp⟩) hS6 ?_
    change wpAnyH _ _ _ _ _ _ _ (Act.put _ (some 9) _) _
    simp only [Act.put, List.setIfInBounds_toArray, List.set_cons_zero, List.set_cons_succ]
    refine wpAnyH_take (i := 13) (v := .int .i64 (codeI (ask2B s l d0 d1))) rfl (by kernel_rfl) (by kernel_rfl) (by kernel_rfl) (fun _ _ _ h => h) (Or.inl ⟨by rfl, fun w' _ => by go_simp⟩) hS6 ?_
    change wpAnyH _ _ _ _ _ _ _ (Act.put _ (some 10) _) _
    simp only [Act.put, List.setIfInBounds_toArray, List.set_cons_zero, List.set_cons_succ]
    refine wpAnyH_done (by kernel_rfl) ?_ _
    go_wp2_with fail
    go_meet
    exact ⟨rfl, rfl, rfl, F6, D6_0, D6_1, b6⟩
  case rest =>
    obtain ⟨rfl, rfl, rfl, F6, D6_0, D6_1, b6⟩ := hcut
    have p6 := F6.1
    have q6 := F6.2
    go_wp2_with fail
    refine (toFrame_any s A c l _ (hA.below b6) hn).mono ?_
    rintro e w7 ⟨g7, rfl, hg7, own7, hb7⟩
    have b7 := step_below hb7 b6
    have F7 := F6.keep hb7
    have D7_0 := D6_0.keep hb7
    have D7_1 := D6_1.keep hb7
    have p7 := F7.1
    have q7 := F7.2
    have r7_0 := D7_0.range
    have r7_1 := D7_1.range
    have hx8 : Below w7.heap.size w7 (w7.alloc (.cells #[.int .i16 s, .slice (some ⟨g7, 0, none⟩) l.length l.length] 30)) := (Below.refl _ _).alloc (Nat.le_refl _) _
    have X8 : FP (w7.alloc (.cells #[.int .i16 s, .slice (some ⟨g7, 0, none⟩) l.length l.length] 30)) w7.heap.size s (some ⟨g7, 0, none⟩) l.length l.length := ⟨by simp [go_sem], by simp [go_sem]⟩
    have b8 := b7.alloc b7.size (.cells #[.int .i16 s, .slice (some ⟨g7, 0, none⟩) l.length l.length] 30)
    have F8 := F7.keep hx8
    have D8_0 := D7_0.keep hx8
    have D8_1 := D7_1.keep hx8
    have own8 := own_keep own7 hx8
    go_wp2_with fail
    have H8 : HA (w7.alloc (.cells #[.int .i16 s, .slice (some ⟨g7, 0, none⟩) l.length l.length] 30)) (some ⟨g7, 0, none⟩) l := HA.of_own own8
    have KI : ∀ p : Later (w7.alloc (.cells #[.int .i16 s, .slice (some ⟨g7, 0, none⟩) l.length l.length] 30)), Calls Try.prog 37 #[.agg #[.int .i16 s, .slice (some ⟨g7, 0, none⟩) l.length l.length], .agg (da d0), .agg (da d1)] p.w (Trip (.int .i64 (mvP s l d0 d1 d1 d0)) (.int .i64 (mvP s l d0 d1 d0 d1)) (.int .i64 (codeI (ask2B s l d0 d1))) p.w) := fun p => implPinsToMove_any s _ _ l d0 d1 p.w (H8.below p.h) hn hwf hs hd0 hd1
    have LY := Later.cell X8.1
    have LZ := Later.cell X8.2
    have L0 := hide (fun p => D8_0.later35 p)
    have L1 := hide (fun p => D8_1.later35 p)
    refine wp_region_later (by kernel_rfl) (by kernel_rfl) ?_
    repeat (first | (go_big_quiet_want; with_reducible refine quiet_load_da 35 (.tmp 4) rfl (.pointer (some ⟨w.heap.size + 1, 0, none⟩)) rfl (.agg (da d0)) (by rintro _ ⟨p, rfl⟩; exact L0.out p) ?_; go_simp; go_big_quiet_on) | (go_big_quiet_want; with_reducible refine quiet_load_da 35 (.tmp 5) rfl (.pointer (some ⟨w.heap.size + 1 + 1, 0, none⟩)) rfl (.agg (da d1)) (by rintro _ ⟨p, rfl⟩; exact L1.out p) ?_; go_simp; go_big_quiet_on) | go_big_quiet_step (first | (go_at_call 21; with_reducible exact Later.call (toDrum_any d0 _)) | (go_at_call 21; with_reducible exact Later.call (toDrum_any d1 _)) | (go_at_call 37; with_reducible exact Later.call (KI _))))
    refine wpQuiet_nil ?_
    rintro w12 ⟨⟨_, hb12⟩, rfl⟩
    have b12 := step_below hb12 b8
    have F12 := F8.keep hb12
    have X12 := X8.keep hb12
    have own12 := own_keep own8 hb12

    go_wp2_with fail
    have hd13 : Below w12.heap.size w12 w12.drew := (Below.refl _ _).drew
    have b13 := b12.drew
    have F13 := F12.keep hd13
    have X13 := X12.keep hd13
    have own13 := own_keep own12 hd13
    have p13 := F13.1
    have q13 := F13.2
    have y13 := X13.1
    have z13 := X13.2
    go_region_held3 (fun w' => w'.cell? ⟨w.heap.size, 0, none⟩ = some (.int .i16 s) ∧ w'.cell? ⟨w.heap.size, 1, none⟩ = some (.slice A l.length c) ∧ w'.cell? ⟨w7.heap.size, 0, none⟩ = some (.int .i16 s) ∧ w'.cell? ⟨w7.heap.size, 1, none⟩ = some (.slice (some ⟨g7, 0, none⟩) l.length l.length)) (first | exact ⟨p13, q13, y13, z13⟩ | exact ⟨p14, q14, y14, z14⟩ | exact ⟨p15, q15, y15, z15⟩) ((first | (go_at_call 17; refine (toFrame_any s A c l _ (hA.below b13) hn).mono ?_; rintro e w14 ⟨g14, rfl, hg14, ownN, hb14⟩; have b14 := step_below hb14 b13; have F14 := F13.keep hb14; have X14 := X13.keep hb14; have own14 := own_keep own13 hb14; have p14 := F14.1; have q14 := F14.2; have y14 := X14.1; have z14 := X14.2) | (go_at_call 19; refine (eqFrame_any s _ _ _ _ l _ (HA.of_own own14) (HA.of_own ownN) hn).mono ?_; rintro e w15 ⟨rfl, hb15⟩; have b15 := step_below hb15 b14; have F15 := F14.keep hb15; have X15 := X14.keep hb15; have p15 := F15.1; have q15 := F15.2; have y15 := X15.1; have z15 := X15.2)))
    go_wp2
    go_ret
    exact ⟨rfl, b15⟩
theorem lawPinsToMove_any (s : Int) (A : Option Addr) (c : Nat) (l : List (Int × Int)) (d0 : Nat → Int) (d1 : Nat → Int)  (w : World) (hA : HA w A l) (hm : l.length ≤ maxLen) (hwf : HWF l) (hs : -32768 ≤ s ∧ s ≤ 32767) (hd0 : DWF d0) (hd1 : DWF d1)  :
    Calls Try.prog 11 #[.agg #[.int .i16 s, .slice A l.length c], .agg (da d0), .agg (da d1)] w (Says true w) := by
  rcases Nat.lt_or_ge 1048576 l.length with h | h
  · exact lawPinsToMove_big s A c l d0 d1 w h hm
  · exact lawPinsToMove_small s A c l d0 d1 w hA h hwf hs hd0 hd1
end Go.Proofs.Ytlbjakmfalhliaa
