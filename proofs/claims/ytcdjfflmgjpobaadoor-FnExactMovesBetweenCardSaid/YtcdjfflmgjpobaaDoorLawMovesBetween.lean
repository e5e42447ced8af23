import Derived.Test.YtcdjfflmgjpobaaDoorMvb
import Derived.Deep.RegionHeld3
namespace Go.Proofs.YtcdjfflmgjpobaaDoor
open Go.RowKit

theorem lawMovesBetween_big (s : Int) (A : Option Addr) (c : Nat) (l : List (Int × Int)) (d0 d1 : Nat → Int) (w : World) (hn : 1048576 < l.length) (hm : l.length ≤ maxLen) :
    Calls Tryd.prog 7 #[.agg #[.int .i16 s, .slice A l.length c], .agg (da d0), .agg (da d1)] w (Says true w) := by
  have hb0 : Below w.heap.size w (((w.alloc (.cells #[.int .i16 s, .slice A l.length c] 25)).alloc (.cells (da d0) 27)).alloc (.cells (da d1) 27)) := (((Below.refl _ _).alloc (Nat.le_refl _) _).alloc (by simp) _).alloc (by simp; omega) _
  go_enter Tryd.func7, Tryd.ntmps7
  go_wp2_with (go_at_call 11; refine (szFrame_big s A l.length c hm hn _).mono ?_; rintro e w' ⟨rfl, hb⟩)
  go_ret
  exact ⟨rfl, hb0.trans (hb.mono hb0.size)⟩

theorem own_apart {W X : World} {B size k : Nat} {e : TypeId} {v : Value} {xs : List Value} {row : Option Nat} (hr : W.ownsRow B e size v k xs) (hg : W.grownBy X row) (hlt : ∀ j, row = some j → j < B) : X.ownsRow B e size v k xs := by
  refine hr.kept hg ?_
  rcases hr.2 with ⟨rfl, _⟩ | ⟨g, cap, cur, rfl, hgB, _, _⟩
  · exact .inl rfl
  · refine .inr fun e' => ?_
    have := hlt g (by rw [← e']; rfl)
    omega
theorem own_apart2 {W X : World} {base B size k : Nat} {e : TypeId} {v : Value} {xs : List Value} {row : Option Nat} (hr : W.ownsRow base e size v k xs) (hv : ∀ j, v.ownBlock = some j → j < B) (hg : W.grownBy X row) (hlt : ∀ j, row = some j → B ≤ j) : X.ownsRow base e size v k xs := by
  refine hr.kept hg ?_
  rcases hr.2 with ⟨rfl, _⟩ | ⟨g, cap, cur, rfl, hgB, _, _⟩
  · exact .inl rfl
  · refine .inr fun e' => ?_
    have h1 := hlt g (by rw [← e']; rfl)
    have h2 := hv g rfl
    omega
/-- two fresh lists of pairs of numbers, the second behind the first, and a code -/
def OwnZZ (w : World) (n0 : Nat) (zs0 : List Int) (n1 : Nat) (zs1 : List Int) (cc : Int) (e : Ending) (w' : World) : Prop := ∃ (A0 : Option Addr) (c0 : Nat) (A1 : Option Addr) (c1 B : Nat), e = .returned (.tuple #[.slice A0 n0 c0, .slice A1 n1 c1, .int .i64 cc]) ∧ w'.ownsRow w.heap.size 89 2 (.slice A0 n0 c0) n0 (icells zs0) ∧ w'.ownsRow B 89 2 (.slice A1 n1 c1) n1 (icells zs1) ∧ (∀ j, (Value.slice A0 n0 c0).ownBlock = some j → j < B) ∧ w.heap.size ≤ B ∧ B ≤ w'.heap.size ∧ Below w.heap.size w w'
theorem OwnAA.zz {w w' : World} {ps qs : List (Nat × Nat)} {cc : Int} {e : Ending} (h : OwnAA w ps qs cc e w') : OwnZZ w ps.length (flatP ps) qs.length (flatP qs) cc e w' := by
  obtain ⟨A0, c0, A1, c1, B, h1, h2, h3, h4⟩ := h
  rw [acells_flat] at h2 h3
  exact ⟨A0, c0, A1, c1, B, h1, h2, h3, h4⟩

set_option maxRecDepth 20000 in
set_option maxHeartbeats 8000000 in
theorem lawMovesBetween_small (s : Int) (A : Option Addr) (c : Nat) (l : List (Int × Int)) (d0 d1 : Nat → Int) (w : World) (hA : HA w A l) (hn : l.length ≤ 1048576) (hwf : HWF l) (hs : -32768 ≤ s ∧ s ≤ 32767) (hd0 : DWF d0) (hd1 : DWF d1) (hT : TabW w) :
    Calls Tryd.prog 7 #[.agg #[.int .i16 s, .slice A l.length c], .agg (da d0), .agg (da d1)] w (Says true w) := by
  obtain ⟨n0, hnn0⟩ : ∃ n : Nat, n = (mbL s l d0 d1 d0 d1).length := ⟨_, rfl⟩
  obtain ⟨n1, hnn1⟩ : ∃ n : Nat, n = (mbL s l d0 d1 d1 d0).length := ⟨_, rfl⟩
  obtain ⟨zs0, hz0⟩ : ∃ zs, zs = flatP (mbL s l d0 d1 d0 d1) := ⟨_, rfl⟩
  obtain ⟨zs1, hz1⟩ : ∃ zs, zs = flatP (mbL s l d0 d1 d1 d0) := ⟨_, rfl⟩
  obtain ⟨cc, hcc⟩ : ∃ cc : Int, cc = codeI (ask2B s l d0 d1) := ⟨_, rfl⟩
  have hm0 : n0 ≤ 4000 := by have := mbL_len s l d0 d1 d0 d1; omega
  have hm1 : n1 ≤ 4000 := by have := mbL_len s l d0 d1 d1 d0; omega
  have hl0 : zs0.length = n0 * 2 := by rw [hz0, hnn0, flatP_len]
  have hl1 : zs1.length = n1 * 2 := by rw [hz1, hnn1, flatP_len]
  have KS : ∀ (B : Option Addr) (W : World), HA W B l → Calls Tryd.prog 30 #[.agg #[.int .i16 s, .slice B l.length l.length], .agg (da d0), .agg (da d1)] W (OwnZZ W n0 zs0 n1 zs1 cc) := fun B W h => by rw [hz0, hz1, hcc, hnn0, hnn1]; exact (specMovesBetween_any s B l.length l d0 d1 W h hn hwf hs hd0 hd1).mono fun e w' h => h.zz
  have KI : ∀ (B : Option Addr) (W : World), HA W B l → TabW W → Calls Tryd.prog 31 #[.agg #[.int .i16 s, .slice B l.length l.length], .agg (da d0), .agg (da d1)] W (OwnZZ W n0 zs0 n1 zs1 cc) := fun B W h ht => by rw [hz0, hz1, hcc, hnn0, hnn1]; exact (implMovesBetween_any s B l.length l d0 d1 W h hn hwf hs hd0 hd1 ht).mono fun e w' h => h.zz
  clear hz0 hz1 hcc hnn0 hnn1
  have hk0 : n0 ≤ 1048576 := by omega
  have hk1 : n1 ≤ 1048576 := by omega
  have b0 : Below w.heap.size w (((w.alloc (.cells #[.int .i16 s, .slice A l.length c] 25)).alloc (.cells (da d0) 27)).alloc (.cells (da d1) 27)) := (((Below.refl _ _).alloc (Nat.le_refl _) _).alloc (by simp) _).alloc (by simp; omega) _
  have F0 : FP (((w.alloc (.cells #[.int .i16 s, .slice A l.length c] 25)).alloc (.cells (da d0) 27)).alloc (.cells (da d1) 27)) w.heap.size s A l.length c := ⟨by simp [go_sem], by simp [go_sem]⟩
  have D0 : Dr (((w.alloc (.cells #[.int .i16 s, .slice A l.length c] 25)).alloc (.cells (da d0) 27)).alloc (.cells (da d1) 27)) (w.heap.size + 1) 27 d0 := heap_old' (heap_new' _ _ _ (by simp))
  have E0 : Dr (((w.alloc (.cells #[.int .i16 s, .slice A l.length c] 25)).alloc (.cells (da d0) 27)).alloc (.cells (da d1) 27)) (w.heap.size + 1 + 1) 27 d1 := heap_new' _ _ _ (by simp)
  have hU := Tryd.underlying27
  have hI0 := infoLt d0
  have hI1 := infoLt d1
  have hneg1 : decide (2 * (l.length : Int) + 1 < 0) = false := by simp; omega
  have hneg2 : decide (2 * (n0 : Int) + 1 < 0) = false := by simp; omega
  have hneg3 : decide (2 * (n1 : Int) + (2 * (n0 : Int) + 1) < 0) = false := by simp; omega
  have hneq : ((2 * (n1 : Int) + (2 * (n0 : Int) + 1)) != (2 * (n1 : Int) + (2 * (n0 : Int) + 1))) = false := by simp
  have HOX := hide (show (2 * (n0 : Int) + 1) = ((2 * n0 + 1 : Nat) : Int) by omega)
  have hoo : 2 * n0 + 1 ≤ 4194304 := by omega
  go_enter Tryd.func7, Tryd.ntmps7
  go_wp2_with fail
  refine (szFrame_small s A l.length c hn _).mono ?_
  rintro e w1 ⟨rfl, hb1⟩
  have b1 := step_below hb1 b0
  have F1 := F0.keep hb1
  have D1 := D0.keep hb1
  have E1 := E0.keep hb1
  have p1 := F1.1
  have q1 := F1.2
  have r1 := D1.range
  have s1 := E1.range
  have hw1 : w.heap.size + 1 + 1 < w1.heap.size := E1.lt
  go_wp2_with fail
  have hb2 : Below w1.heap.size w1 w1.drew := (Below.refl _ _).drew
  have b2 := step_below hb2 b1
  have F2 := F1.keep hb2
  have D2 := D1.keep hb2
  have E2 := E1.keep hb2
  have p2 := F2.1
  have q2 := F2.2
  have r2 := D2.range
  have s2 := E2.range
  refine wp_region_held_drew (S := fun w' => w'.cell? ⟨w.heap.size, 0, none⟩ = some (.int .i16 s) ∧ w'.cell? ⟨w.heap.size, 1, none⟩ = some (.slice A l.length c) ∧ w'.rangeAt (w.heap.size + 1) 0 (dv d0) ∧ w'.rangeAt (w.heap.size + 1 + 1) 0 (dv d1)) (by kernel_rfl) ⟨p2, q2, r2, s2⟩ fun hS2 => ?_
  refine wpAnyH_take (i := 2) rfl (by kernel_rfl) (by kernel_rfl) (by kernel_rfl) (fun _ _ _ h => h) (yieldsIf_load_mid (by rfl) _ _ rfl (w.heap.size + 1) 0 rfl (dv d0) _ (fun _ h => h.2.2.1) hU rfl hI0) hS2 ?_
  simp only [Act.put, List.setIfInBounds_toArray, List.set_cons_zero, List.set_cons_succ]
  refine wpAnyH_take (i := 4) rfl (by kernel_rfl) (by kernel_rfl) (by kernel_rfl) (fun _ _ _ h => h) (yieldsIf_load_mid (by rfl) _ _ rfl (w.heap.size + 1 + 1) 0 rfl (dv d1) _ (fun _ h => h.2.2.2) hU rfl hI1) hS2 ?_
  simp only [Act.put, List.setIfInBounds_toArray, List.set_cons_zero, List.set_cons_succ]
  refine wpAnyH_take (i := 0) (v := .agg #[.int .i16 s, .slice A l.length c]) rfl (by kernel_rfl) (by kernel_rfl) (by kernel_rfl) (fun _ _ _ h => h) (Or.inl ⟨by rfl, fun w' h => ?_⟩) hS2 ?_
  · obtain ⟨h1, h2, _⟩ := h
    go_simp
  simp only [Act.put, List.setIfInBounds_toArray, List.set_cons_zero, List.set_cons_succ]
  refine wpAnyH_ready (rs := [1]) (by kernel_rfl) (by simp) (AllReadyH.cons rfl ?_ AllReadyH.nil)
  intro K hK
  rw [if_pos (by rfl)]
  go_simp
  refine (toFrame_any s A c l _ (hA.below b2) hn).mono ?_
  rintro e w3 ⟨g3, rfl, hg3, own3, hb3⟩
  have b3 := step_below hb3 b2
  have F3 := F2.keep hb3
  have D3 := D2.keep hb3
  have E3 := E2.keep hb3
  have p3 := F3.1
  have q3 := F3.2
  have r3 := D3.range
  have s3 := E3.range
  refine hK.out _ _ ⟨p3, q3, r3, s3⟩ (fun hS3 => ?_)
  clear hK K
  refine wpAnyH_ready (rs := [3]) (by kernel_rfl) (by simp) (AllReadyH.cons rfl ?_ AllReadyH.nil)
  intro K hK
  rw [if_pos (by rfl)]
  go_simp
  refine (toDrum_any d0 _).mono ?_
  rintro e w4 ⟨rfl, hb4⟩
  have b4 := step_below hb4 b3
  have F4 := F3.keep hb4
  have D4 := D3.keep hb4
  have E4 := E3.keep hb4
  have p4 := F4.1
  have q4 := F4.2
  have r4 := D4.range
  have s4 := E4.range
  have own4 := own_keep own3 hb4
  refine hK.out _ _ ⟨p4, q4, r4, s4⟩ (fun hS4 => ?_)
  clear hK K
  refine wpAnyH_ready (rs := [5]) (by kernel_rfl) (by simp) (AllReadyH.cons rfl ?_ AllReadyH.nil)
  intro K hK
  rw [if_pos (by rfl)]
  go_simp
  refine (toDrum_any d1 _).mono ?_
  rintro e w5 ⟨rfl, hb5⟩
  have b5 := step_below hb5 b4
  have F5 := F4.keep hb5
  have D5 := D4.keep hb5
  have E5 := E4.keep hb5
  have p5 := F5.1
  have q5 := F5.2
  have r5 := D5.range
  have s5 := E5.range
  have own5 := own_keep own4 hb5
  refine hK.out _ _ ⟨p5, q5, r5, s5⟩ (fun hS5 => ?_)
  clear hK K
  refine wpAnyH_ready (rs := [6]) (by kernel_rfl) (by simp) (AllReadyH.cons rfl ?_ AllReadyH.nil)
  intro K hK
  rw [if_pos (by rfl)]
  go_simp
  refine (KS _ _ (HA.of_own own5)).mono ?_
  rintro e w6 ⟨A6, c6, C6, e6, B6, rfl, own6, ewn6, hv6, hB6, hB6s, hb6⟩
  have b6 := step_below hb6 b5
  have F6 := F5.keep hb6
  have D6 := D5.keep hb6
  have E6 := E5.keep hb6
  have p6 := F6.1
  have q6 := F6.2
  have r6 := D6.range
  have s6 := E6.range
  refine hK.out _ _ ⟨p6, q6, r6, s6⟩ (fun hS6 => ?_)
  clear hK K
  refine wpAnyH_take (i := 7) (v := .tuple #[.slice A6 n0 c6, .slice C6 n1 e6, .int .i64 cc]) rfl (by kernel_rfl) (by kernel_rfl) (by kernel_rfl) (fun _ _ _ h => h) (Or.inl ⟨by rfl, fun w' _ => by go_simp⟩) hS6 ?_
  change wpAnyH _ _ _ _ _ _ _ (Act.put _ (some 26) _) _
  simp only [Act.put, List.setIfInBounds_toArray, List.set_cons_zero, List.set_cons_succ]
  refine wpAnyH_take (i := 8) (v := .slice A6 n0 c6) rfl (by kernel_rfl) (by kernel_rfl) (by kernel_rfl) (fun _ _ _ h => h) (Or.inl ⟨by rfl, fun w' _ => by go_simp⟩) hS6 ?_
  change wpAnyH _ _ _ _ _ _ _ (Act.put _ (some 34) _) _
  simp only [Act.put, List.setIfInBounds_toArray, List.set_cons_zero, List.set_cons_succ]
  refine wpAnyH_take (i := 9) (v := .slice C6 n1 e6) rfl (by kernel_rfl) (by kernel_rfl) (by kernel_rfl) (fun _ _ _ h => h) (Or.inl ⟨by rfl, fun w' _ => by go_simp⟩) hS6 ?_
  change wpAnyH _ _ _ _ _ _ _ (Act.put _ (some 35) _) _
  simp only [Act.put, List.setIfInBounds_toArray, List.set_cons_zero, List.set_cons_succ]
  refine wpAnyH_take (i := 10) (v := .int .i64 cc) rfl (by kernel_rfl) (by kernel_rfl) (by kernel_rfl) (fun _ _ _ h => h) (Or.inl ⟨by rfl, fun w' _ => by go_simp⟩) hS6 ?_
  change wpAnyH _ _ _ _ _ _ _ (Act.put _ (some 36) _) _
  simp only [Act.put, List.setIfInBounds_toArray, List.set_cons_zero, List.set_cons_succ]
  refine wpAnyH_take (i := 11) (v := .slice A6 n0 c6) rfl (by kernel_rfl) (by kernel_rfl) (by kernel_rfl) (fun _ _ _ h => h) (Or.inl ⟨by rfl, fun w' _ => by go_simp⟩) hS6 ?_
  change wpAnyH _ _ _ _ _ _ _ (Act.put _ (some 8) _) _
  simp only [Act.put, List.setIfInBounds_toArray, List.set_cons_zero, List.set_cons_succ]
  refine wpAnyH_take (i := 12) (v := .slice C6 n1 e6) rfl (by kernel_rfl) (by kernel_rfl) (by kernel_rfl) (fun _ _ _ h => h) (Or.inl ⟨by rfl, fun w' _ => by go_simp⟩) hS6 ?_
  change wpAnyH _ _ _ _ _ _ _ (Act.put _ (some 9) _) _
  simp only [Act.put, List.setIfInBounds_toArray, List.set_cons_zero, List.set_cons_succ]
  refine wpAnyH_take (i := 13) (v := .int .i64 cc) rfl (by kernel_rfl) (by kernel_rfl) (by kernel_rfl) (fun _ _ _ h => h) (Or.inl ⟨by rfl, fun w' _ => by go_simp⟩) hS6 ?_
  change wpAnyH _ _ _ _ _ _ _ (Act.put _ (some 10) _) _
  simp only [Act.put, List.setIfInBounds_toArray, List.set_cons_zero, List.set_cons_succ]
  refine wpAnyH_done (by kernel_rfl) ?_ _
  have S6 := SA.of_own hl0 own6
  have R6 := SA.of_own hl1 ewn6
  go_wp2_with fail
  refine (toFrame_any s A c l _ (hA.below b6) hn).mono ?_
  rintro e w7 ⟨g7, rfl, hg7, own7, hb7⟩
  have b7 := step_below hb7 b6
  have F7 := F6.keep hb7
  have D7 := D6.keep hb7
  have E7 := E6.keep hb7
  have p7 := F7.1
  have q7 := F7.2
  have r7 := D7.range
  have s7 := E7.range
  have hb8 : Below w7.heap.size w7 (w7.alloc (.cells #[.int .i16 s, .slice (some ⟨g7, 0, none⟩) l.length l.length] 34)) := (Below.refl _ _).alloc (Nat.le_refl _) _
  have X8 : FP (w7.alloc (.cells #[.int .i16 s, .slice (some ⟨g7, 0, none⟩) l.length l.length] 34)) w7.heap.size s (some ⟨g7, 0, none⟩) l.length l.length := ⟨by simp [go_sem], by simp [go_sem]⟩
  have b8 := step_below hb8 b7
  have F8 := F7.keep hb8
  have D8 := D7.keep hb8
  have E8 := E7.keep hb8
  have p8 := F8.1
  have q8 := F8.2
  have r8 := D8.range
  have s8 := E8.range
  have own8 := own_keep own7 hb8
  have hg7lt : g7 < w7.heap.size := (own7.lt g7 rfl).2
  go_wp2_with fail
  have hb9 : Below (w7.alloc (.cells #[.int .i16 s, .slice (some ⟨g7, 0, none⟩) l.length l.length] 34)).heap.size (w7.alloc (.cells #[.int .i16 s, .slice (some ⟨g7, 0, none⟩) l.length l.length] 34)) (w7.alloc (.cells #[.int .i16 s, .slice (some ⟨g7, 0, none⟩) l.length l.length] 34)).drew := (Below.refl _ _).drew
  have b9 := step_below hb9 b8
  have F9 := F8.keep hb9
  have D9 := D8.keep hb9
  have E9 := E8.keep hb9
  have X9 := X8.keep hb9
  have p9 := F9.1
  have q9 := F9.2
  have r9 := D9.range
  have s9 := E9.range
  have y9 := X9.1
  have z9 := X9.2
  have own9 := own_keep own8 hb9
  have t9 : Below w6.heap.size w6 (w7.alloc (.cells #[.int .i16 s, .slice (some ⟨g7, 0, none⟩) l.length l.length] 34)).drew := step_below hb9 (step_below hb8 hb7)
  have hs9 : w7.heap.size ≤ (w7.alloc (.cells #[.int .i16 s, .slice (some ⟨g7, 0, none⟩) l.length l.length] 34)).drew.heap.size := Nat.le_trans hb8.size hb9.size
  refine wp_region_held_drew (S := fun w' => w'.cell? ⟨w.heap.size, 0, none⟩ = some (.int .i16 s) ∧ w'.cell? ⟨w.heap.size, 1, none⟩ = some (.slice A l.length c) ∧ w'.rangeAt (w.heap.size + 1) 0 (dv d0) ∧ w'.rangeAt (w.heap.size + 1 + 1) 0 (dv d1) ∧ w'.cell? ⟨w7.heap.size, 0, none⟩ = some (.int .i16 s) ∧ w'.cell? ⟨w7.heap.size, 1, none⟩ = some (.slice (some ⟨g7, 0, none⟩) l.length l.length)) (by kernel_rfl) ⟨p9, q9, r9, s9, y9, z9⟩ fun hS9 => ?_
  refine wpAnyH_take (i := 1) rfl (by kernel_rfl) (by kernel_rfl) (by kernel_rfl) (fun _ _ _ h => h) (yieldsIf_load_mid (by rfl) _ _ rfl (w.heap.size + 1) 0 rfl (dv d0) _ (fun _ h => h.2.2.1) hU rfl hI0) hS9 ?_
  simp only [Act.put, List.setIfInBounds_toArray, List.set_cons_zero, List.set_cons_succ]
  refine wpAnyH_take (i := 3) rfl (by kernel_rfl) (by kernel_rfl) (by kernel_rfl) (fun _ _ _ h => h) (yieldsIf_load_mid (by rfl) _ _ rfl (w.heap.size + 1 + 1) 0 rfl (dv d1) _ (fun _ h => h.2.2.2.1) hU rfl hI1) hS9 ?_
  simp only [Act.put, List.setIfInBounds_toArray, List.set_cons_zero, List.set_cons_succ]
  refine wpAnyH_take (i := 0) (v := .agg #[.int .i16 s, .slice (some ⟨g7, 0, none⟩) l.length l.length]) rfl (by kernel_rfl) (by kernel_rfl) (by kernel_rfl) (fun _ _ _ h => h) (Or.inl ⟨by rfl, fun w' h => ?_⟩) hS9 ?_
  · obtain ⟨_, _, _, _, h1, h2⟩ := h
    go_simp
  simp only [Act.put, List.setIfInBounds_toArray, List.set_cons_zero, List.set_cons_succ]
  refine wpAnyH_ready (rs := [2]) (by kernel_rfl) (by simp) (AllReadyH.cons rfl ?_ AllReadyH.nil)
  intro K hK
  rw [if_pos (by rfl)]
  go_simp
  refine (toDrum_any d0 _).mono ?_
  rintro e w10 ⟨rfl, hb10⟩
  have b10 := step_below hb10 b9
  have F10 := F9.keep hb10
  have D10 := D9.keep hb10
  have E10 := E9.keep hb10
  have X10 := X9.keep hb10
  have p10 := F10.1
  have q10 := F10.2
  have r10 := D10.range
  have s10 := E10.range
  have y10 := X10.1
  have z10 := X10.2
  have own10 := own_keep own9 hb10
  have t10 := step_below hb10 t9
  refine hK.out _ _ ⟨p10, q10, r10, s10, y10, z10⟩ (fun hS10 => ?_)
  clear hK K
  refine wpAnyH_ready (rs := [4]) (by kernel_rfl) (by simp) (AllReadyH.cons rfl ?_ AllReadyH.nil)
  intro K hK
  rw [if_pos (by rfl)]
  go_simp
  refine (toDrum_any d1 _).mono ?_
  rintro e w11 ⟨rfl, hb11⟩
  have b11 := step_below hb11 b10
  have F11 := F10.keep hb11
  have D11 := D10.keep hb11
  have E11 := E10.keep hb11
  have X11 := X10.keep hb11
  have p11 := F11.1
  have q11 := F11.2
  have r11 := D11.range
  have s11 := E11.range
  have y11 := X11.1
  have z11 := X11.2
  have own11 := own_keep own10 hb11
  have t11 := step_below hb11 t10
  refine hK.out _ _ ⟨p11, q11, r11, s11, y11, z11⟩ (fun hS11 => ?_)
  clear hK K
  refine wpAnyH_ready (rs := [5]) (by kernel_rfl) (by simp) (AllReadyH.cons rfl ?_ AllReadyH.nil)
  intro K hK
  rw [if_pos (by rfl)]
  go_simp
  refine (KI _ _ (HA.of_own own11) (hT.keep b11)).mono ?_
  rintro e w12 ⟨A12, c12, C12, e12, B12, rfl, own12, ewn12, hv12, hB12, hB12s, hb12⟩
  have b12 := step_below hb12 b11
  have F12 := F11.keep hb12
  have D12 := D11.keep hb12
  have E12 := E11.keep hb12
  have X12 := X11.keep hb12
  have p12 := F12.1
  have q12 := F12.2
  have r12 := D12.range
  have s12 := E12.range
  have y12 := X12.1
  have z12 := X12.2
  have fwn12 := own_keep own11 hb12
  have t12 := step_below hb12 t11
  refine hK.out _ _ ⟨p12, q12, r12, s12, y12, z12⟩ (fun hS12 => ?_)
  clear hK K
  refine wpAnyH_take (i := 6) (v := .tuple #[.slice A12 n0 c12, .slice C12 n1 e12, .int .i64 cc]) rfl (by kernel_rfl) (by kernel_rfl) (by kernel_rfl) (fun _ _ _ h => h) (Or.inl ⟨by rfl, fun w' _ => by go_simp⟩) hS12 ?_
  change wpAnyH _ _ _ _ _ _ _ (Act.put _ (some 39) _) _
  simp only [Act.put, List.setIfInBounds_toArray, List.set_cons_zero, List.set_cons_succ]
  refine wpAnyH_take (i := 7) (v := .slice A12 n0 c12) rfl (by kernel_rfl) (by kernel_rfl) (by kernel_rfl) (fun _ _ _ h => h) (Or.inl ⟨by rfl, fun w' _ => by go_simp⟩) hS12 ?_
  change wpAnyH _ _ _ _ _ _ _ (Act.put _ (some 46) _) _
  simp only [Act.put, List.setIfInBounds_toArray, List.set_cons_zero, List.set_cons_succ]
  refine wpAnyH_take (i := 8) (v := .slice C12 n1 e12) rfl (by kernel_rfl) (by kernel_rfl) (by kernel_rfl) (fun _ _ _ h => h) (Or.inl ⟨by rfl, fun w' _ => by go_simp⟩) hS12 ?_
  change wpAnyH _ _ _ _ _ _ _ (Act.put _ (some 47) _) _
  simp only [Act.put, List.setIfInBounds_toArray, List.set_cons_zero, List.set_cons_succ]
  refine wpAnyH_take (i := 9) (v := .int .i64 cc) rfl (by kernel_rfl) (by kernel_rfl) (by kernel_rfl) (fun _ _ _ h => h) (Or.inl ⟨by rfl, fun w' _ => by go_simp⟩) hS12 ?_
  change wpAnyH _ _ _ _ _ _ _ (Act.put _ (some 48) _) _
  simp only [Act.put, List.setIfInBounds_toArray, List.set_cons_zero, List.set_cons_succ]
  refine wpAnyH_take (i := 10) (v := .slice A12 n0 c12) rfl (by kernel_rfl) (by kernel_rfl) (by kernel_rfl) (fun _ _ _ h => h) (Or.inl ⟨by rfl, fun w' _ => by go_simp⟩) hS12 ?_
  change wpAnyH _ _ _ _ _ _ _ (Act.put _ (some 12) _) _
  simp only [Act.put, List.setIfInBounds_toArray, List.set_cons_zero, List.set_cons_succ]
  refine wpAnyH_take (i := 11) (v := .slice C12 n1 e12) rfl (by kernel_rfl) (by kernel_rfl) (by kernel_rfl) (fun _ _ _ h => h) (Or.inl ⟨by rfl, fun w' _ => by go_simp⟩) hS12 ?_
  change wpAnyH _ _ _ _ _ _ _ (Act.put _ (some 13) _) _
  simp only [Act.put, List.setIfInBounds_toArray, List.set_cons_zero, List.set_cons_succ]
  refine wpAnyH_take (i := 12) (v := .int .i64 cc) rfl (by kernel_rfl) (by kernel_rfl) (by kernel_rfl) (fun _ _ _ h => h) (Or.inl ⟨by rfl, fun w' _ => by go_simp⟩) hS12 ?_
  change wpAnyH _ _ _ _ _ _ _ (Act.put _ (some 14) _) _
  simp only [Act.put, List.setIfInBounds_toArray, List.set_cons_zero, List.set_cons_succ]
  refine wpAnyH_done (by kernel_rfl) ?_ _
  have hs11 : w7.heap.size ≤ w11.heap.size := Nat.le_trans hs9 (Nat.le_trans hb10.size hb11.size)
  have h611 : w6.heap.size ≤ w11.heap.size := t11.size
  have S12 := S6.below t12
  have R12 := R6.below t12
  have G12 := SA.of_own hl0 own12
  have H12 := SA.of_own hl1 ewn12
  go_wp2_with fail
  refine (eqInt64A2S_any A12 A6 c12 c6 n0 zs0 w12.heap.size _ G12 (S12.up t12.size) (Nat.le_refl _) hk0).mono ?_
  rintro e w13 ⟨rfl, hb13⟩
  have b13 := step_below hb13 b12
  have F13 := F12.keep hb13
  have D13 := D12.keep hb13
  have E13 := E12.keep hb13
  have X13 := X12.keep hb13
  have p13 := F13.1
  have q13 := F13.2
  have r13 := D13.range
  have s13 := E13.range
  have y13 := X13.1
  have z13 := X13.2
  have own13 := own_keep own12 hb13
  have ewn13 := own_keep ewn12 hb13
  have fwn13 := own_keep fwn12 hb13
  have t13 := step_below hb13 t12
  have R13 := R6.below t13
  have H13 := SA.of_own hl1 ewn13
  go_wp2_with fail
  refine (eqInt64A2S_any C12 C6 e12 e6 n1 zs1 w13.heap.size _ H13 (R13.up t13.size) (Nat.le_refl _) hk1).mono ?_
  rintro e w14 ⟨rfl, hb14⟩
  have b14 := step_below hb14 b13
  have F14 := F13.keep hb14
  have D14 := D13.keep hb14
  have E14 := E13.keep hb14
  have X14 := X13.keep hb14
  have p14 := F14.1
  have q14 := F14.2
  have r14 := D14.range
  have s14 := E14.range
  have y14 := X14.1
  have z14 := X14.2
  have own14 := own_keep own13 hb14
  have ewn14 := own_keep ewn13 hb14
  have fwn14 := own_keep fwn13 hb14
  have t14 := step_below hb14 t13
  go_wp2_with fail
  have hb15 : Below w14.heap.size w14 w14.drew := (Below.refl _ _).drew
  have b15 := step_below hb15 b14
  have F15 := F14.keep hb15
  have D15 := D14.keep hb15
  have E15 := E14.keep hb15
  have X15 := X14.keep hb15
  have p15 := F15.1
  have q15 := F15.2
  have r15 := D15.range
  have s15 := E15.range
  have y15 := X15.1
  have z15 := X15.2
  have own15 := own_keep own14 hb15
  have ewn15 := own_keep ewn14 hb15
  have fwn15 := own_keep fwn14 hb15
  have t15 := step_below hb15 t14
  go_region_held3 (fun w' => w'.cell? ⟨w.heap.size, 0, none⟩ = some (.int .i16 s) ∧ w'.cell? ⟨w.heap.size, 1, none⟩ = some (.slice A l.length c) ∧ w'.cell? ⟨w7.heap.size, 0, none⟩ = some (.int .i16 s) ∧ w'.cell? ⟨w7.heap.size, 1, none⟩ = some (.slice (some ⟨g7, 0, none⟩) l.length l.length)) (first | with_reducible exact ⟨p15, q15, y15, z15⟩ | with_reducible exact ⟨p16, q16, y16, z16⟩ | with_reducible exact ⟨p17, q17, y17, z17⟩) ((first | (go_at_call 13; refine (toFrame_any s A c l _ (hA.below b15) hn).mono ?_; rintro e w16 ⟨g16, rfl, hg16, gwn16, hb16⟩; have b16 := step_below hb16 b15; have F16 := F15.keep hb16; have D16 := D15.keep hb16; have E16 := E15.keep hb16; have X16 := X15.keep hb16; have p16 := F16.1; have q16 := F16.2; have y16 := X16.1; have z16 := X16.2; have own16 := own_keep own15 hb16; have ewn16 := own_keep ewn15 hb16; have fwn16 := own_keep fwn15 hb16; have t16 := step_below hb16 t15; have H16 := HA.of_own fwn16; have H16f := HA.of_own gwn16) | (go_at_call 17; refine (eqFrame_any s _ _ _ _ l _ H16 H16f hn).mono ?_; rintro e w17 ⟨rfl, hb17⟩; have b17 := step_below hb17 b16; have F17 := F16.keep hb17; have D17 := D16.keep hb17; have E17 := E16.keep hb17; have X17 := X16.keep hb17; have p17 := F17.1; have q17 := F17.2; have y17 := X17.1; have z17 := X17.2; have own17 := own_keep own16 hb17; have ewn17 := own_keep ewn16 hb17; have fwn17 := own_keep fwn16 hb17; have t17 := step_below hb17 t16)))
  go_wp2_with fail
  refine (markFrame_any s _ _ l _ _ fwn17 hn).mono ?_
  rintro e w18 ⟨rfl, hgr⟩
  have t18 : Below w6.heap.size w6 w18 := t17.grown hgr t17.size (fun j hj => by cases hj; exact hg7)
  have own18 := own_apart own17 hgr (fun j hj => by cases hj; show g7 < _; omega)
  have ewn18 := own_apart ewn17 hgr (fun j hj => by cases hj; show g7 < _; omega)
  have S18 := S6.below t18
  have R18 := R6.below t18
  have G18 := SA.of_own hl0 own18
  go_wp2_with fail
  refine (eqInt64A2S_any A12 A6 c12 c6 n0 zs0 w18.heap.size _ G18 (S18.up t18.size) (Nat.le_refl _) hk0).mono ?_
  rintro e w19 ⟨rfl, hb19⟩
  have t19 := step_below hb19 t18
  have own19 := own_keep own18 hb19
  have ewn19 := own_keep ewn18 hb19
  have R19 := R6.below t19
  have H19 := SA.of_own hl1 ewn19
  go_wp2_with fail
  refine (eqInt64A2S_any C12 C6 e12 e6 n1 zs1 w19.heap.size _ H19 (R19.up t19.size) (Nat.le_refl _) hk1).mono ?_
  rintro e w20 ⟨rfl, hb20⟩
  have t20 := step_below hb20 t19
  have own20 := own_keep own19 hb20
  have ewn20 := own_keep ewn19 hb20
  have h1220 : w12.heap.size ≤ w20.heap.size := by
    have i13 := hb13.size
    have i14 := hb14.size
    have i15 := hb15.size
    have i16 := hb16.size
    have i17 := hb17.size
    have i18 := hgr.size
    have i19 := hb19.size
    have i20 := hb20.size
    have i21 : w14.drew.heap.size = w14.heap.size := rfl
    omega
  have h1120 : w11.heap.size ≤ w20.heap.size := Nat.le_trans (Nat.le_trans hB12 hB12s) h1220
  have hB20 : B12 ≤ w20.heap.size := Nat.le_trans hB12s h1220
  go_wp2_with fail
  refine (markInt64A2S_at A12 c12 n0 zs0 1 1 rfl (by omega) w11.heap.size _ hl0 own20 hk0 h1120).mono ?_
  rintro e w21 ⟨rfl, own21, hg21⟩
  have ewn21 := own_apart ewn20 hg21 hv12
  have t21 := t20.grown hg21 t20.size (fun j hj => Nat.le_trans h611 (own20.lt j hj).1)
  have hB21 : B12 ≤ w21.heap.size := Nat.le_trans hB20 hg21.size
  go_wp2_with fail
  refine (markInt64A2S_at C12 e12 n1 zs1 (2 * n0 + 1) (2 * (n0 : Int) + 1) HOX.out hoo B12 _ hl1 ewn21 hk1 hB21).mono ?_
  rintro e w22 ⟨rfl, ewn22, hg22⟩
  have own22 := own_apart2 own21 hv12 hg22 (fun j hj => (ewn21.lt j hj).1)
  have t22 := t21.grown hg22 t21.size (fun j hj => Nat.le_trans h611 (Nat.le_trans hB12 (ewn21.lt j hj).1))
  have G22 := SA.of_own (by rw [mkO_length]) own22
  have H22 := SA.of_own (by rw [mkO_length]) ewn22
  go_wp2_with fail
  refine (heldInt64A2S_at A12 c12 n0 1 1 rfl (by omega) _ _ G22 hk0).mono ?_
  rintro e w22' ⟨rfl, rfl⟩
  go_wp2_with fail
  refine (heldInt64A2S_at C12 e12 n1 (2 * n0 + 1) (2 * (n0 : Int) + 1) HOX.out hoo _ _ H22 hk1).mono ?_
  rintro e w22' ⟨rfl, rfl⟩
  go_wp2_with fail
  have hb23 : Below w22.heap.size w22 w22.drew := (Below.refl _ _).drew
  have t23 := step_below hb23 t22
  have u23 := hb23
  have b23 : Below w.heap.size w w22.drew := b6.trans (t23.mono b6.size)
  have F23 := F6.keep t23
  have D23 := D6.keep t23
  have E23 := E6.keep t23
  have p23 := F23.1
  have q23 := F23.2
  have r23 := D23.range
  have s23 := E23.range
  refine wp_region_held_drew (S := fun w' => w'.cell? ⟨w.heap.size, 0, none⟩ = some (.int .i16 s) ∧ w'.cell? ⟨w.heap.size, 1, none⟩ = some (.slice A l.length c) ∧ w'.rangeAt (w.heap.size + 1) 0 (dv d0) ∧ w'.rangeAt (w.heap.size + 1 + 1) 0 (dv d1)) (by kernel_rfl) ⟨p23, q23, r23, s23⟩ fun hS23 => ?_
  refine wpAnyH_take (i := 2) rfl (by kernel_rfl) (by kernel_rfl) (by kernel_rfl) (fun _ _ _ h => h) (yieldsIf_load_mid (by rfl) _ _ rfl (w.heap.size + 1) 0 rfl (dv d0) _ (fun _ h => h.2.2.1) hU rfl hI0) hS23 ?_
  simp only [Act.put, List.setIfInBounds_toArray, List.set_cons_zero, List.set_cons_succ]
  refine wpAnyH_take (i := 4) rfl (by kernel_rfl) (by kernel_rfl) (by kernel_rfl) (fun _ _ _ h => h) (yieldsIf_load_mid (by rfl) _ _ rfl (w.heap.size + 1 + 1) 0 rfl (dv d1) _ (fun _ h => h.2.2.2) hU rfl hI1) hS23 ?_
  simp only [Act.put, List.setIfInBounds_toArray, List.set_cons_zero, List.set_cons_succ]
  refine wpAnyH_take (i := 0) (v := .agg #[.int .i16 s, .slice A l.length c]) rfl (by kernel_rfl) (by kernel_rfl) (by kernel_rfl) (fun _ _ _ h => h) (Or.inl ⟨by rfl, fun w' h => ?_⟩) hS23 ?_
  · obtain ⟨h1, h2, _⟩ := h
    go_simp
  simp only [Act.put, List.setIfInBounds_toArray, List.set_cons_zero, List.set_cons_succ]
  refine wpAnyH_ready (rs := [1]) (by kernel_rfl) (by simp) (AllReadyH.cons rfl ?_ AllReadyH.nil)
  intro K hK
  rw [if_pos (by rfl)]
  go_simp
  refine (toFrame_any s A c l _ (hA.below b23) hn).mono ?_
  rintro e w24 ⟨g24, rfl, hg24, own24, hb24⟩
  have b24 := step_below hb24 b23
  have F24 := F23.keep hb24
  have D24 := D23.keep hb24
  have E24 := E23.keep hb24
  have p24 := F24.1
  have q24 := F24.2
  have r24 := D24.range
  have s24 := E24.range
  have t24 := step_below hb24 t23
  have u24 := step_below hb24 u23
  refine hK.out _ _ ⟨p24, q24, r24, s24⟩ (fun hS24 => ?_)
  clear hK K
  refine wpAnyH_ready (rs := [3]) (by kernel_rfl) (by simp) (AllReadyH.cons rfl ?_ AllReadyH.nil)
  intro K hK
  rw [if_pos (by rfl)]
  go_simp
  refine (toDrum_any d0 _).mono ?_
  rintro e w25 ⟨rfl, hb25⟩
  have b25 := step_below hb25 b24
  have F25 := F24.keep hb25
  have D25 := D24.keep hb25
  have E25 := E24.keep hb25
  have p25 := F25.1
  have q25 := F25.2
  have r25 := D25.range
  have s25 := E25.range
  have own25 := own_keep own24 hb25
  have t25 := step_below hb25 t24
  have u25 := step_below hb25 u24
  refine hK.out _ _ ⟨p25, q25, r25, s25⟩ (fun hS25 => ?_)
  clear hK K
  refine wpAnyH_ready (rs := [5]) (by kernel_rfl) (by simp) (AllReadyH.cons rfl ?_ AllReadyH.nil)
  intro K hK
  rw [if_pos (by rfl)]
  go_simp
  refine (toDrum_any d1 _).mono ?_
  rintro e w26 ⟨rfl, hb26⟩
  have b26 := step_below hb26 b25
  have F26 := F25.keep hb26
  have D26 := D25.keep hb26
  have E26 := E25.keep hb26
  have p26 := F26.1
  have q26 := F26.2
  have r26 := D26.range
  have s26 := E26.range
  have own26 := own_keep own25 hb26
  have t26 := step_below hb26 t25
  have u26 := step_below hb26 u25
  refine hK.out _ _ ⟨p26, q26, r26, s26⟩ (fun hS26 => ?_)
  clear hK K
  refine wpAnyH_ready (rs := [6]) (by kernel_rfl) (by simp) (AllReadyH.cons rfl ?_ AllReadyH.nil)
  intro K hK
  rw [if_pos (by rfl)]
  go_simp
  refine (KI _ _ (HA.of_own own26) (hT.keep b26)).mono ?_
  rintro e w27 ⟨A27, c27, C27, e27, B27, rfl, own27, ewn27, hv27, hB27, hB27s, hb27⟩
  have b27 := step_below hb27 b26
  have F27 := F26.keep hb27
  have D27 := D26.keep hb27
  have E27 := E26.keep hb27
  have p27 := F27.1
  have q27 := F27.2
  have r27 := D27.range
  have s27 := E27.range
  have t27 := step_below hb27 t26
  have u27 := step_below hb27 u26
  refine hK.out _ _ ⟨p27, q27, r27, s27⟩ (fun hS27 => ?_)
  clear hK K
  refine wpAnyH_take (i := 7) (v := .tuple #[.slice A27 n0 c27, .slice C27 n1 e27, .int .i64 cc]) rfl (by kernel_rfl) (by kernel_rfl) (by kernel_rfl) (fun _ _ _ h => h) (Or.inl ⟨by rfl, fun w' _ => by go_simp⟩) hS27 ?_
  change wpAnyH _ _ _ _ _ _ _ (Act.put _ (some 110) _) _
  simp only [Act.put, List.setIfInBounds_toArray, List.set_cons_zero, List.set_cons_succ]
  refine wpAnyH_take (i := 8) (v := .slice A27 n0 c27) rfl (by kernel_rfl) (by kernel_rfl) (by kernel_rfl) (fun _ _ _ h => h) (Or.inl ⟨by rfl, fun w' _ => by go_simp⟩) hS27 ?_
  change wpAnyH _ _ _ _ _ _ _ (Act.put _ (some 118) _) _
  simp only [Act.put, List.setIfInBounds_toArray, List.set_cons_zero, List.set_cons_succ]
  refine wpAnyH_take (i := 9) (v := .slice C27 n1 e27) rfl (by kernel_rfl) (by kernel_rfl) (by kernel_rfl) (fun _ _ _ h => h) (Or.inl ⟨by rfl, fun w' _ => by go_simp⟩) hS27 ?_
  change wpAnyH _ _ _ _ _ _ _ (Act.put _ (some 119) _) _
  simp only [Act.put, List.setIfInBounds_toArray, List.set_cons_zero, List.set_cons_succ]
  refine wpAnyH_take (i := 10) (v := .int .i64 cc) rfl (by kernel_rfl) (by kernel_rfl) (by kernel_rfl) (fun _ _ _ h => h) (Or.inl ⟨by rfl, fun w' _ => by go_simp⟩) hS27 ?_
  change wpAnyH _ _ _ _ _ _ _ (Act.put _ (some 120) _) _
  simp only [Act.put, List.setIfInBounds_toArray, List.set_cons_zero, List.set_cons_succ]
  refine wpAnyH_take (i := 11) (v := .slice A27 n0 c27) rfl (by kernel_rfl) (by kernel_rfl) (by kernel_rfl) (fun _ _ _ h => h) (Or.inl ⟨by rfl, fun w' _ => by go_simp⟩) hS27 ?_
  change wpAnyH _ _ _ _ _ _ _ (Act.put _ (some 18) _) _
  simp only [Act.put, List.setIfInBounds_toArray, List.set_cons_zero, List.set_cons_succ]
  refine wpAnyH_take (i := 12) (v := .slice C27 n1 e27) rfl (by kernel_rfl) (by kernel_rfl) (by kernel_rfl) (fun _ _ _ h => h) (Or.inl ⟨by rfl, fun w' _ => by go_simp⟩) hS27 ?_
  change wpAnyH _ _ _ _ _ _ _ (Act.put _ (some 19) _) _
  simp only [Act.put, List.setIfInBounds_toArray, List.set_cons_zero, List.set_cons_succ]
  refine wpAnyH_take (i := 13) (v := .int .i64 cc) rfl (by kernel_rfl) (by kernel_rfl) (by kernel_rfl) (fun _ _ _ h => h) (Or.inl ⟨by rfl, fun w' _ => by go_simp⟩) hS27 ?_
  change wpAnyH _ _ _ _ _ _ _ (Act.put _ (some 20) _) _
  simp only [Act.put, List.setIfInBounds_toArray, List.set_cons_zero, List.set_cons_succ]
  refine wpAnyH_done (by kernel_rfl) ?_ _
  have S27 := S6.below t27
  have G27 := SA.of_own hl0 own27
  go_wp2_with fail
  refine (eqInt64A2S_any A27 A6 c27 c6 n0 zs0 w27.heap.size _ G27 (S27.up t27.size) (Nat.le_refl _) hk0).mono ?_
  rintro e w28 ⟨rfl, hb28⟩
  have t28 := step_below hb28 t27
  have u28 := step_below hb28 u27
  have b28 := step_below hb28 b27
  have ewn28 := own_keep ewn27 hb28
  have R28 := R6.below t28
  have H28 := SA.of_own hl1 ewn28
  go_wp2_with fail
  refine (eqInt64A2S_any C27 C6 e27 e6 n1 zs1 w28.heap.size _ H28 (R28.up t28.size) (Nat.le_refl _) hk1).mono ?_
  rintro e w29 ⟨rfl, hb29⟩
  have u29 := step_below hb29 u28
  have b29 := step_below hb29 b28
  have G29 := G22.below u29
  have H29 := H22.below u29
  go_wp2_with fail
  refine (heldInt64A2S_at A12 c12 n0 1 1 rfl (by omega) _ _ G29 hk0).mono ?_
  rintro e w29' ⟨rfl, rfl⟩
  go_wp2_with fail
  refine (heldInt64A2S_at C12 e12 n1 (2 * n0 + 1) (2 * (n0 : Int) + 1) HOX.out hoo _ _ H29 hk1).mono ?_
  rintro e w29' ⟨rfl, rfl⟩
  go_wp2
  go_ret
  exact ⟨rfl, b29⟩
theorem lawMovesBetween_any (s : Int) (A : Option Addr) (c : Nat) (l : List (Int × Int)) (d0 d1 : Nat → Int) (w : World) (hA : HA w A l) (hm : l.length ≤ maxLen) (hwf : HWF l) (hs : -32768 ≤ s ∧ s ≤ 32767) (hd0 : DWF d0) (hd1 : DWF d1) (hT : TabW w) :
    Calls Tryd.prog 7 #[.agg #[.int .i16 s, .slice A l.length c], .agg (da d0), .agg (da d1)] w (Says true w) := by
  rcases Nat.lt_or_ge 1048576 l.length with h | h
  · exact lawMovesBetween_big s A c l d0 d1 w h hm
  · exact lawMovesBetween_small s A c l d0 d1 w hA h hwf hs hd0 hd1 hT
end Go.Proofs.YtcdjfflmgjpobaaDoor
