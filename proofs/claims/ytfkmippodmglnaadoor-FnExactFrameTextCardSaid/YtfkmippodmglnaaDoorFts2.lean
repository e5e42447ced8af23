import Derived.Test.YtfkmippodmglnaaDoorGaj
namespace Go.Proofs.YtfkmippodmglnaaDoor
open Go.RowKit
set_option maxRecDepth 20000 in
set_option maxHeartbeats 4000000 in
theorem l02Text_any (b : Nat) (s : Int) (A : Option Addr) (c : Nat) (l : List (Int × Int)) (w : World) (hF : FP w b s A l.length c) (hA : HA w A l) (hok : frB s l = true) :
    Calls Tryd.prog 49 #[.pointer (some ⟨b, 0, none⟩)] w fun e w' => e = .returned (.string ⟨(txJ (ftX s l) 32 (l.length + 1)).toArray⟩) ∧ Below w.heap.size w w' := by
  have HJ := hide (tx_step (ftX s l) 32)
  have HL := hide (ftJ_len hok)
  obtain ⟨⟨s1, s2⟩, ⟨h1, h2⟩, hG⟩ := frB_get hok
  have HG := hide hG
  clear hG hok
  have H0 := hide (show (⟨(Lib.decDigits s.toNat).toArray⟩ : ByteArray) = ⟨(txJ (ftX s l) 32 (0 + 1)).toArray⟩ by rw [txJ_succ, txJ_zero, ftX_zero]; simp)
  obtain ⟨sn, rfl⟩ := Int.eq_ofNat_of_zero_le (show 0 ≤ s by omega)
  have KS := Decimal_any sn w (by omega)
  have ws : IntKind.i64.wrap (sn : Int) = sn := IntWalk.i64_in _ (by omega)
  rw [Int.toNat_natCast] at H0
  obtain ⟨q0, q1⟩ := hF
  go_enter Tryd.func49, Tryd.ntmps49
  go_wp2_with fail
  refine KS.mono ?_
  rintro e w1 ⟨rfl, hb1⟩
  go_wp2_with fail
  go_loopw [3, 4] (fun v i wr => ∃ k : Nat, k ≤ l.length ∧ i = .int .i64 k ∧ v = .string ⟨(txJ (ftX sn l) 32 (k + 1)).toArray⟩ ∧ Below w.heap.size w wr)
    (fun _ i _ => l.length - (intOf i).toNat)
  case atStart => exact ⟨0, Nat.zero_le _, rfl, by rw [H0.out], hb1⟩
  case round =>
    obtain ⟨k, hk, rfl, rfl, hb⟩ := hrel
    have r1 := (hb.cell (p := ⟨b, 1, none⟩) (World.block_lt_of_cell? _ _ q1)).trans q1
    by_cases hlt : k < l.length
    · obtain ⟨g, o, rfl, hbb, c1, c2⟩ := hA k hlt
      have d1 := (hb.cell (p := ⟨g, o + k * 2, none⟩) hbb).trans c1
      have d2 := (hb.cell (p := ⟨g, o + k * 2 + 1, none⟩) hbb).trans c2
      have hki : (k : Int) < (l.length : Int) := by omega
      obtain ⟨⟨i1, i2⟩, i3, i4⟩ := HG.out k hlt
      have hOl : (txJ (ftX sn l) 32 (k + 1)).length ≤ 175 := HL.out (k + 1) (by omega)
      have hZ : (⟨(txJ (ftX sn l) 32 (k + 1)).toArray⟩ ++ ⟨#[32]⟩ : ByteArray) ++ ftX sn l (k + 1) = ⟨(txJ (ftX sn l) 32 (k + 1 + 1)).toArray⟩ := by have := HJ.out (k + 1); rwa [if_neg (by omega)] at this
      rw [ftX_succ] at hZ
      obtain ⟨x, hx⟩ : ∃ x, hPi l k = x := ⟨_, rfl⟩
      obtain ⟨y, hy⟩ : ∃ y, hRe l k = y := ⟨_, rfl⟩
      rw [hx] at d1 i1 i2 hZ
      rw [hy] at d2 i3 i4 hZ
      obtain ⟨yn, rfl⟩ := Int.eq_ofNat_of_zero_le (show 0 ≤ y by omega)
      have KX := fun W => l01Name_in x ⟨i1, i2⟩ W
      have KY := fun W => Decimal_any yn W (by omega)
      have l1 := pnV_len x
      have l2 := dec_len2 (show yn < 100 by omega)
      have wa : IntKind.i64.wrap x = x := IntWalk.i64_in _ (by omega)
      have wp : IntKind.i64.wrap (yn : Int) = yn := IntWalk.i64_in _ (by omega)
      rw [Int.toNat_natCast] at hZ
      obtain ⟨N, hN⟩ : ∃ N, pnV x = N := ⟨_, rfl⟩
      rw [hN] at KX l1 hZ
      have hNs : N.size ≤ 3 := by rw [← ba_size]; exact l1
      obtain ⟨O, hO⟩ : ∃ O : ByteArray, O = ⟨(txJ (ftX sn l) 32 (k + 1)).toArray⟩ := ⟨_, rfl⟩
      have hOs : O.size ≤ 175 := by rw [hO, ba_mk]; exact hOl
      obtain ⟨Z, hZ2⟩ : ∃ Z : ByteArray, Z = ⟨(txJ (ftX sn l) 32 (k + 1 + 1)).toArray⟩ := ⟨_, rfl⟩
      rw [← hO, ← hZ2] at hZ
      rw [← hO]
      have HZ := hide (show O ++ (⟨#[32]⟩ ++ N ++ ⟨#[47]⟩ ++ ⟨(Lib.decDigits yn).toArray⟩) = Z by rw [← hZ]; simp only [ByteArray.append_assoc])
      have HZ2 := hide hZ2
      have h47 : (⟨#[47]⟩ : ByteArray).size = 1 := rfl
      have h32 : (⟨#[32]⟩ : ByteArray).size = 1 := rfl
      clear hx hy hN c1 c2 hO hOl l1 hZ hZ2
      go_upto_region 5 with fail
      have b1 : Below w.heap.size w wr.drew := hb.drew
      refine wp_region_held_drew (S := fun Y => Y.cell? ⟨b, 1, none⟩ = some (.slice (some ⟨g, o, none⟩) l.length c) ∧ Y.cell? ⟨g, o + k * 2, none⟩ = some (.int .i8 x) ∧ Y.cell? ⟨g, o + k * 2 + 1, none⟩ = some (.int .i8 yn)) (by kernel_rfl) ⟨r1, d1, d2⟩ fun hS => ?_
      clear d1 d2 r1 q0 q1
      generalize wr.drew = W1 at *
      refine wpAnyH_take (i := 0) (v := .string O) rfl (by kernel_rfl) (by kernel_rfl) (by kernel_rfl) (fun _ _ _ h => h) (Or.inl ⟨by rfl, fun w' _ => by go_simp⟩) hS ?_
      change wpAnyH _ _ _ _ _ _ _ (Act.put _ (some 20) _) _
      simp only [Act.put, List.setIfInBounds_toArray, List.set_cons_zero, List.set_cons_succ]
      refine wpAnyH_take (i := 1) (v := .pointer (some ⟨b, 0, none⟩)) rfl (by kernel_rfl) (by kernel_rfl) (by kernel_rfl) (fun _ _ _ h => h) (Or.inl ⟨by rfl, fun w' _ => by go_simp⟩) hS ?_
      change wpAnyH _ _ _ _ _ _ _ (Act.put _ (some 21) _) _
      simp only [Act.put, List.setIfInBounds_toArray, List.set_cons_zero, List.set_cons_succ]
      refine wpAnyH_take (i := 2) (v := .pointer (some ⟨b, 0, none⟩)) rfl (by kernel_rfl) (by kernel_rfl) (by kernel_rfl) (fun _ _ _ h => h) (Or.inl ⟨by rfl, fun w' _ => by go_simp⟩) hS ?_
      change wpAnyH _ _ _ _ _ _ _ (Act.put _ (some 22) _) _
      simp only [Act.put, List.setIfInBounds_toArray, List.set_cons_zero, List.set_cons_succ]
      refine wpAnyH_take (i := 3) (v := .pointer (some ⟨b, 1, none⟩)) rfl (by kernel_rfl) (by kernel_rfl) (by kernel_rfl) (fun _ _ _ h => h) (Or.inl ⟨by rfl, fun w' _ => by go_simp⟩) hS ?_
      change wpAnyH _ _ _ _ _ _ _ (Act.put _ (some 23) _) _
      simp only [Act.put, List.setIfInBounds_toArray, List.set_cons_zero, List.set_cons_succ]
      refine wpAnyH_take (i := 4) (v := .slice (some ⟨g, o, none⟩) l.length c) rfl (by kernel_rfl) (by kernel_rfl) (by kernel_rfl) (fun _ _ _ h => h) (Or.inl ⟨by rfl, fun w' h => ?_⟩) hS ?_
      · have c0 := h.1
        clear h
        go_simp
      change wpAnyH _ _ _ _ _ _ _ (Act.put _ (some 24) _) _
      simp only [Act.put, List.setIfInBounds_toArray, List.set_cons_zero, List.set_cons_succ]
      refine wpAnyH_take (i := 5) (v := .int .i64 k) rfl (by kernel_rfl) (by kernel_rfl) (by kernel_rfl) (fun _ _ _ h => h) (Or.inl ⟨by rfl, fun w' _ => by go_simp⟩) hS ?_
      change wpAnyH _ _ _ _ _ _ _ (Act.put _ (some 25) _) _
      simp only [Act.put, List.setIfInBounds_toArray, List.set_cons_zero, List.set_cons_succ]
      refine wpAnyH_take (i := 6) (v := .pointer (some ⟨g, o + k * 2, none⟩)) rfl (by kernel_rfl) (by kernel_rfl) (by kernel_rfl) (fun _ _ _ h => h) (Or.inl ⟨by rfl, fun w' _ => by go_simp⟩) hS ?_
      change wpAnyH _ _ _ _ _ _ _ (Act.put _ (some 26) _) _
      simp only [Act.put, List.setIfInBounds_toArray, List.set_cons_zero, List.set_cons_succ]
      refine wpAnyH_take (i := 7) (v := .pointer (some ⟨g, o + k * 2, none⟩)) rfl (by kernel_rfl) (by kernel_rfl) (by kernel_rfl) (fun _ _ _ h => h) (Or.inl ⟨by rfl, fun w' _ => by go_simp⟩) hS ?_
      change wpAnyH _ _ _ _ _ _ _ (Act.put _ (some 27) _) _
      simp only [Act.put, List.setIfInBounds_toArray, List.set_cons_zero, List.set_cons_succ]
      refine wpAnyH_take (i := 8) (v := .int .i8 x) rfl (by kernel_rfl) (by kernel_rfl) (by kernel_rfl) (fun _ _ _ h => h) (Or.inl ⟨by rfl, fun w' h => ?_⟩) hS ?_
      · have c0 := h.2.1
        clear h
        go_simp
      change wpAnyH _ _ _ _ _ _ _ (Act.put _ (some 28) _) _
      simp only [Act.put, List.setIfInBounds_toArray, List.set_cons_zero, List.set_cons_succ]
      refine wpAnyH_take (i := 9) (v := .int .i64 x) rfl (by kernel_rfl) (by kernel_rfl) (by kernel_rfl) (fun _ _ _ h => h) (Or.inl ⟨by rfl, fun w' _ => by go_simp⟩) hS ?_
      change wpAnyH _ _ _ _ _ _ _ (Act.put _ (some 29) _) _
      simp only [Act.put, List.setIfInBounds_toArray, List.set_cons_zero, List.set_cons_succ]
      refine wpAnyH_take (i := 13) (v := .pointer (some ⟨b, 0, none⟩)) rfl (by kernel_rfl) (by kernel_rfl) (by kernel_rfl) (fun _ _ _ h => h) (Or.inl ⟨by rfl, fun w' _ => by go_simp⟩) hS ?_
      change wpAnyH _ _ _ _ _ _ _ (Act.put _ (some 33) _) _
      simp only [Act.put, List.setIfInBounds_toArray, List.set_cons_zero, List.set_cons_succ]
      refine wpAnyH_take (i := 14) (v := .pointer (some ⟨b, 0, none⟩)) rfl (by kernel_rfl) (by kernel_rfl) (by kernel_rfl) (fun _ _ _ h => h) (Or.inl ⟨by rfl, fun w' _ => by go_simp⟩) hS ?_
      change wpAnyH _ _ _ _ _ _ _ (Act.put _ (some 34) _) _
      simp only [Act.put, List.setIfInBounds_toArray, List.set_cons_zero, List.set_cons_succ]
      refine wpAnyH_take (i := 15) (v := .pointer (some ⟨b, 1, none⟩)) rfl (by kernel_rfl) (by kernel_rfl) (by kernel_rfl) (fun _ _ _ h => h) (Or.inl ⟨by rfl, fun w' _ => by go_simp⟩) hS ?_
      change wpAnyH _ _ _ _ _ _ _ (Act.put _ (some 35) _) _
      simp only [Act.put, List.setIfInBounds_toArray, List.set_cons_zero, List.set_cons_succ]
      refine wpAnyH_take (i := 16) (v := .slice (some ⟨g, o, none⟩) l.length c) rfl (by kernel_rfl) (by kernel_rfl) (by kernel_rfl) (fun _ _ _ h => h) (Or.inl ⟨by rfl, fun w' h => ?_⟩) hS ?_
      · have c0 := h.1
        clear h
        go_simp
      change wpAnyH _ _ _ _ _ _ _ (Act.put _ (some 36) _) _
      simp only [Act.put, List.setIfInBounds_toArray, List.set_cons_zero, List.set_cons_succ]
      refine wpAnyH_take (i := 17) (v := .int .i64 k) rfl (by kernel_rfl) (by kernel_rfl) (by kernel_rfl) (fun _ _ _ h => h) (Or.inl ⟨by rfl, fun w' _ => by go_simp⟩) hS ?_
      change wpAnyH _ _ _ _ _ _ _ (Act.put _ (some 37) _) _
      simp only [Act.put, List.setIfInBounds_toArray, List.set_cons_zero, List.set_cons_succ]
      refine wpAnyH_take (i := 18) (v := .pointer (some ⟨g, o + k * 2, none⟩)) rfl (by kernel_rfl) (by kernel_rfl) (by kernel_rfl) (fun _ _ _ h => h) (Or.inl ⟨by rfl, fun w' _ => by go_simp⟩) hS ?_
      change wpAnyH _ _ _ _ _ _ _ (Act.put _ (some 38) _) _
      simp only [Act.put, List.setIfInBounds_toArray, List.set_cons_zero, List.set_cons_succ]
      refine wpAnyH_take (i := 19) (v := .pointer (some ⟨g, o + k * 2 + 1, none⟩)) rfl (by kernel_rfl) (by kernel_rfl) (by kernel_rfl) (fun _ _ _ h => h) (Or.inl ⟨by rfl, fun w' _ => by go_simp⟩) hS ?_
      change wpAnyH _ _ _ _ _ _ _ (Act.put _ (some 39) _) _
      simp only [Act.put, List.setIfInBounds_toArray, List.set_cons_zero, List.set_cons_succ]
      refine wpAnyH_take (i := 20) (v := .int .i8 yn) rfl (by kernel_rfl) (by kernel_rfl) (by kernel_rfl) (fun _ _ _ h => h) (Or.inl ⟨by rfl, fun w' h => ?_⟩) hS ?_
      · have c0 := h.2.2
        clear h
        go_simp
      change wpAnyH _ _ _ _ _ _ _ (Act.put _ (some 40) _) _
      simp only [Act.put, List.setIfInBounds_toArray, List.set_cons_zero, List.set_cons_succ]
      refine wpAnyH_take (i := 21) (v := .int .i64 yn) rfl (by kernel_rfl) (by kernel_rfl) (by kernel_rfl) (fun _ _ _ h => h) (Or.inl ⟨by rfl, fun w' _ => by go_simp⟩) hS ?_
      change wpAnyH _ _ _ _ _ _ _ (Act.put _ (some 41) _) _
      simp only [Act.put, List.setIfInBounds_toArray, List.set_cons_zero, List.set_cons_succ]
      refine wpAnyH_ready (rs := [10]) (by kernel_rfl) (by simp) (AllReadyH.cons rfl ?_ AllReadyH.nil)
      intro K hK
      rw [if_pos (by rfl)]
      go_simp
      refine (KX W1).mono ?_
      rintro e W2 ⟨rfl, hbc1⟩
      have b2 := step_below hbc1 b1
      refine hK.out _ _ ⟨(hbc1.cell (p := ⟨b, _, none⟩) (World.block_lt_of_cell? _ _ hS.1)).trans hS.1, (hbc1.cell (p := ⟨g, _, none⟩) (World.block_lt_of_cell? _ _ hS.2.1)).trans hS.2.1, (hbc1.cell (p := ⟨g, _, none⟩) (World.block_lt_of_cell? _ _ hS.2.2)).trans hS.2.2⟩ (fun hS1 => ?_)
      clear hK K
      try (change wpAnyH _ _ _ _ _ _ _ (Act.put _ (some 30) _) _)
      try simp only [Act.put, List.setIfInBounds_toArray, List.set_cons_zero, List.set_cons_succ]
      refine wpAnyH_take (i := 11) (v := .string (⟨#[32]⟩ ++ N)) rfl (by kernel_rfl) (by kernel_rfl) (by kernel_rfl) (fun _ _ _ h => h) (Or.inl ⟨by rfl, fun w' _ => by go_simp; all_goals (first | omega | (simp; omega))⟩) hS1 ?_
      change wpAnyH _ _ _ _ _ _ _ (Act.put _ (some 31) _) _
      simp only [Act.put, List.setIfInBounds_toArray, List.set_cons_zero, List.set_cons_succ]
      refine wpAnyH_take (i := 12) (v := .string (⟨#[32]⟩ ++ N ++ ⟨#[47]⟩)) rfl (by kernel_rfl) (by kernel_rfl) (by kernel_rfl) (fun _ _ _ h => h) (Or.inl ⟨by rfl, fun w' _ => by go_simp; all_goals (first | omega | (simp; omega))⟩) hS1 ?_
      change wpAnyH _ _ _ _ _ _ _ (Act.put _ (some 32) _) _
      simp only [Act.put, List.setIfInBounds_toArray, List.set_cons_zero, List.set_cons_succ]
      refine wpAnyH_ready (rs := [22]) (by kernel_rfl) (by simp) (AllReadyH.cons rfl ?_ AllReadyH.nil)
      intro K hK
      rw [if_pos (by rfl)]
      go_simp
      refine (KY W2).mono ?_
      rintro e W3 ⟨rfl, hbc2⟩
      have b3 := step_below hbc2 b2
      refine hK.out _ _ ⟨(hbc2.cell (p := ⟨b, _, none⟩) (World.block_lt_of_cell? _ _ hS1.1)).trans hS1.1, (hbc2.cell (p := ⟨g, _, none⟩) (World.block_lt_of_cell? _ _ hS1.2.1)).trans hS1.2.1, (hbc2.cell (p := ⟨g, _, none⟩) (World.block_lt_of_cell? _ _ hS1.2.2)).trans hS1.2.2⟩ (fun hS2 => ?_)
      clear hK K
      try (change wpAnyH _ _ _ _ _ _ _ (Act.put _ (some 42) _) _)
      try simp only [Act.put, List.setIfInBounds_toArray, List.set_cons_zero, List.set_cons_succ]
      refine wpAnyH_take (i := 23) (v := .string (⟨#[32]⟩ ++ N ++ ⟨#[47]⟩ ++ ⟨(Lib.decDigits yn).toArray⟩)) rfl (by kernel_rfl) (by kernel_rfl) (by kernel_rfl) (fun _ _ _ h => h) (Or.inl ⟨by rfl, fun w' _ => by go_simp; all_goals (first | omega | (simp; omega))⟩) hS2 ?_
      change wpAnyH _ _ _ _ _ _ _ (Act.put _ (some 43) _) _
      simp only [Act.put, List.setIfInBounds_toArray, List.set_cons_zero, List.set_cons_succ]
      refine wpAnyH_take (i := 24) (v := .string Z) rfl (by kernel_rfl) (by kernel_rfl) (by kernel_rfl) (fun _ _ _ h => h) (Or.inl ⟨by rfl, fun w' _ => by go_simp; rw [if_neg (by first | omega | (simp; omega)), HZ.out]⟩) hS2 ?_
      change wpAnyH _ _ _ _ _ _ _ (Act.put _ (some 44) _) _
      simp only [Act.put, List.setIfInBounds_toArray, List.set_cons_zero, List.set_cons_succ]
      refine wpAnyH_take (i := 25) (v := .string Z) rfl (by kernel_rfl) (by kernel_rfl) (by kernel_rfl) (fun _ _ _ h => h) (Or.inl ⟨by rfl, fun w' _ => by go_simp⟩) hS2 ?_
      change wpAnyH _ _ _ _ _ _ _ (Act.put _ (some 3) _) _
      simp only [Act.put, List.setIfInBounds_toArray, List.set_cons_zero, List.set_cons_succ]
      refine wpAnyH_done (by kernel_rfl) ?_ _
      go_wp2
      go_roundw
      case rel => exact ⟨k + 1, hlt, by go_num, by rw [HZ2.out], b3⟩
      case measure => simp [intOf]; omega
    · obtain rfl : k = l.length := by omega
      go_wp2
      go_ret
      exact ⟨rfl, hb⟩
set_option maxRecDepth 20000 in
set_option maxHeartbeats 4000000 in
theorem specFrameText_any (s : Int) (A : Option Addr) (c : Nat) (l : List (Int × Int)) (w : World) (hA : HA w A l) (hn : l.length ≤ 1048576) (hwf : HWF l) (hs : -32768 ≤ s ∧ s ≤ 32767) :
    Calls Tryd.prog 23 #[.agg #[.int .i16 s, .slice A l.length c]] w fun e w' => e = .returned (.string (ftV s l)) ∧ Below w.heap.size w w' := by
  have hb0 : Below w.heap.size w (w.alloc (.cells #[.int .i16 s, .slice A l.length c] 52)) := (Below.refl _ _).alloc (Nat.le_refl _) _
  have hF : FP (w.alloc (.cells #[.int .i16 s, .slice A l.length c] 52)) w.heap.size s A l.length c := ⟨by simp [go_sem], by simp [go_sem]⟩
  have KP := l02Frame_any _ s A c l _ hF (hA.below hb0) hn hwf hs
  cases hx : frB s l
  · have HV := hide (show ftV s l = ⟨#[]⟩ by rw [ftV, if_neg (by rw [hx]; simp)])
    rw [hx] at KP
    clear hx
    go_enter Tryd.func23, Tryd.ntmps23
    go_wp2_with (go_at_call 48; refine KP.mono ?_; rintro e w1 ⟨rfl, hb1⟩)
    go_ret
    exact ⟨by rw [HV.out]; rfl, hb0.trans (hb1.mono hb0.size)⟩
  · have HV := hide (show ftV s l = ⟨(txJ (ftX s l) 32 (l.length + 1)).toArray⟩ by rw [ftV, if_pos hx])
    have KT := fun W (hFW : FP W w.heap.size s A l.length c) (hW : HA W A l) => l02Text_any _ s A c l W hFW hW hx
    rw [hx] at KP
    clear hx
    go_enter Tryd.func23, Tryd.ntmps23
    go_wp2_with (first | (go_at_call 48; refine KP.mono ?_; rintro e w1 ⟨rfl, hb1⟩) | (go_at_call 49; refine (KT w1 (hF.keep hb1) ((hA.below hb0).below hb1)).mono ?_; rintro e w2 ⟨rfl, hb2⟩))
    go_ret
    exact ⟨by rw [HV.out]; rfl, step_below hb2 (hb0.trans (hb1.mono hb0.size))⟩
end Go.Proofs.YtfkmippodmglnaaDoor
