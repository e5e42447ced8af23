import Derived.Test.YtfkmippodmglnaaDoorGak
namespace Go.Proofs.YtfkmippodmglnaaDoor
open Go.RowKit
set_option maxRecDepth 20000 in
set_option maxHeartbeats 4000000 in
theorem l01Text_any (A : Option Addr) (c : Nat) (l : List (Int × Int)) (w : World) (hA : NA w A l) (hok : okB l = true) :
    Calls Tryd.prog 41 #[.slice A l.length c] w fun e w' => e = .returned (.string ⟨(txJ (ttC l) 32 l.length).toArray⟩) ∧ Below w.heap.size w w' := by
  have HJ := hide (tx_step (ttC l) 32)
  have HL := hide (ttJ_len hok)
  obtain ⟨hl, hG⟩ := okB_get hok
  have HG := hide hG
  clear hG hok
  go_enter Tryd.func41, Tryd.ntmps41
  go_wp2_with fail
  go_loopw [3, 4] (fun v i wr => ∃ k : Nat, k ≤ l.length ∧ i = .int .i64 k ∧ v = .string ⟨(txJ (ttC l) 32 k).toArray⟩ ∧ Below w.heap.size w wr)
    (fun _ i _ => l.length - (intOf i).toNat)
  case atStart => exact ⟨0, Nat.zero_le _, rfl, rfl, Below.refl _ _⟩
  case round =>
    obtain ⟨k, hk, rfl, rfl, hb⟩ := hrel
    by_cases hlt : k < l.length
    · obtain ⟨b, o, rfl, hbb, c1, c2⟩ := hA k hlt
      have d1 := (hb.cell (p := ⟨b, o + k * 2, none⟩) hbb).trans c1
      have d2 := (hb.cell (p := ⟨b, o + k * 2 + 1, none⟩) hbb).trans c2
      have hki : (k : Int) < (l.length : Int) := by omega
      obtain ⟨⟨i1, i2⟩, i3, i4⟩ := HG.out k hlt
      have hOl : (txJ (ttC l) 32 k).length ≤ 960 := HL.out k hk
      have hZ : ∀ t, t = ttC l k → (if k = 0 then (⟨(txJ (ttC l) 32 k).toArray⟩ : ByteArray) else ⟨(txJ (ttC l) 32 k).toArray⟩ ++ ⟨#[32]⟩) ++ t = ⟨(txJ (ttC l) 32 (k + 1)).toArray⟩ := fun t ht => by rw [ht]; exact HJ.out k
      have hX : ttC l k = ⟨(Lib.decDigits (nAt l k).toNat).toArray⟩ ++ ⟨#[58]⟩ ++ pnV (nPi l k) := rfl
      obtain ⟨x, hx⟩ : ∃ x, nAt l k = x := ⟨_, rfl⟩
      obtain ⟨y, hy⟩ : ∃ y, nPi l k = y := ⟨_, rfl⟩
      rw [hx] at d1 i1 i2 hX
      rw [hy] at d2 i3 i4 hX
      obtain ⟨xn, rfl⟩ := Int.eq_ofNat_of_zero_le i1
      have KX := fun W => Decimal_any xn W (by omega)
      have KY := fun W => l01Name_in y ⟨i3, i4⟩ W
      have l1 := dec_len3 (show xn < 1000 by omega)
      have l2 := pnV_len y
      have wa : IntKind.i64.wrap (xn : Int) = xn := IntWalk.i64_in _ (by omega)
      have wp : IntKind.i64.wrap y = y := IntWalk.i64_in _ (by omega)
      rw [Int.toNat_natCast] at hX
      obtain ⟨N, hN⟩ : ∃ N, pnV y = N := ⟨_, rfl⟩
      rw [hN] at KY l2 hX
      have hNs : N.size ≤ 3 := by rw [← ba_size]; exact l2
      rw [hX] at hZ
      obtain ⟨O', hO⟩ : ∃ O : ByteArray, O = ⟨(txJ (ttC l) 32 k).toArray⟩ := ⟨_, rfl⟩
      have hOs : O'.size ≤ 960 := by rw [hO, ba_mk]; exact hOl
      rw [← hO] at hZ ⊢
      have hZ := hide hZ
      clear hX hx hy hN c1 c2 hO hOl l2
      by_cases h0 : k = 0
      · have hkk : ¬ ((k : Int) > 0) := by omega
        have H0 := hide h0
        clear h0
        go_upto_region 7 with fail
        obtain ⟨O, hO2⟩ : ∃ X : ByteArray, X = O' := ⟨_, rfl⟩
        have HZ := hide (show O ++ (⟨(Lib.decDigits xn).toArray⟩ ++ ⟨#[58]⟩ ++ N) = ⟨(txJ (ttC l) 32 (k + 1)).toArray⟩ by have := hZ.out _ rfl; simpa [H0.out, hO2] using this)
        have hO2s : O.size ≤ 961 := by rw [hO2]; omega
        have h58 : (⟨#[58]⟩ : ByteArray).size = 1 := rfl
        rw [← hO2]
        obtain ⟨Z, hZ2⟩ : ∃ Z : ByteArray, Z = ⟨(txJ (ttC l) 32 (k + 1)).toArray⟩ := ⟨_, rfl⟩
        rw [← hZ2] at HZ
        have HZ2 := hide hZ2
        clear hO2 hZ2 hZ H0 hkk
        have b1 : Below w.heap.size w wr.drew := hb.drew
        refine wp_region_held_drew (S := fun Y => Y.cell? ⟨b, o + k * 2, none⟩ = some (.int .i16 xn) ∧ Y.cell? ⟨b, o + k * 2 + 1, none⟩ = some (.int .i8 y)) (by kernel_rfl) ⟨d1, d2⟩ fun hS => ?_
        clear d1 d2
        generalize wr.drew = W1 at *
        refine wpAnyH_take (i := 0) (v := .string O) rfl (by kernel_rfl) (by kernel_rfl) (by kernel_rfl) (fun _ _ _ h => h) (Or.inl ⟨by rfl, fun w' _ => by go_simp⟩) hS ?_
        change wpAnyH _ _ _ _ _ _ _ (Act.put _ (some 15) _) _
        simp only [Act.put, List.setIfInBounds_toArray, List.set_cons_zero, List.set_cons_succ]
        refine wpAnyH_take (i := 1) (v := .slice (some ⟨b, o, none⟩) l.length c) rfl (by kernel_rfl) (by kernel_rfl) (by kernel_rfl) (fun _ _ _ h => h) (Or.inl ⟨by rfl, fun w' _ => by go_simp⟩) hS ?_
        change wpAnyH _ _ _ _ _ _ _ (Act.put _ (some 16) _) _
        simp only [Act.put, List.setIfInBounds_toArray, List.set_cons_zero, List.set_cons_succ]
        refine wpAnyH_take (i := 2) (v := .int .i64 k) rfl (by kernel_rfl) (by kernel_rfl) (by kernel_rfl) (fun _ _ _ h => h) (Or.inl ⟨by rfl, fun w' _ => by go_simp⟩) hS ?_
        change wpAnyH _ _ _ _ _ _ _ (Act.put _ (some 17) _) _
        simp only [Act.put, List.setIfInBounds_toArray, List.set_cons_zero, List.set_cons_succ]
        refine wpAnyH_take (i := 3) (v := .pointer (some ⟨b, o + k * 2, none⟩)) rfl (by kernel_rfl) (by kernel_rfl) (by kernel_rfl) (fun _ _ _ h => h) (Or.inl ⟨by rfl, fun w' _ => by go_simp⟩) hS ?_
        change wpAnyH _ _ _ _ _ _ _ (Act.put _ (some 18) _) _
        simp only [Act.put, List.setIfInBounds_toArray, List.set_cons_zero, List.set_cons_succ]
        refine wpAnyH_take (i := 4) (v := .pointer (some ⟨b, o + k * 2, none⟩)) rfl (by kernel_rfl) (by kernel_rfl) (by kernel_rfl) (fun _ _ _ h => h) (Or.inl ⟨by rfl, fun w' _ => by go_simp⟩) hS ?_
        change wpAnyH _ _ _ _ _ _ _ (Act.put _ (some 19) _) _
        simp only [Act.put, List.setIfInBounds_toArray, List.set_cons_zero, List.set_cons_succ]
        refine wpAnyH_take (i := 5) (v := .int .i16 xn) rfl (by kernel_rfl) (by kernel_rfl) (by kernel_rfl) (fun _ _ _ h => h) (Or.inl ⟨by rfl, fun w' h => ?_⟩) hS ?_
        · have c0 := h.1
          clear h
          go_simp
        change wpAnyH _ _ _ _ _ _ _ (Act.put _ (some 20) _) _
        simp only [Act.put, List.setIfInBounds_toArray, List.set_cons_zero, List.set_cons_succ]
        refine wpAnyH_take (i := 6) (v := .int .i64 xn) rfl (by kernel_rfl) (by kernel_rfl) (by kernel_rfl) (fun _ _ _ h => h) (Or.inl ⟨by rfl, fun w' _ => by go_simp⟩) hS ?_
        change wpAnyH _ _ _ _ _ _ _ (Act.put _ (some 21) _) _
        simp only [Act.put, List.setIfInBounds_toArray, List.set_cons_zero, List.set_cons_succ]
        refine wpAnyH_take (i := 9) (v := .slice (some ⟨b, o, none⟩) l.length c) rfl (by kernel_rfl) (by kernel_rfl) (by kernel_rfl) (fun _ _ _ h => h) (Or.inl ⟨by rfl, fun w' _ => by go_simp⟩) hS ?_
        change wpAnyH _ _ _ _ _ _ _ (Act.put _ (some 24) _) _
        simp only [Act.put, List.setIfInBounds_toArray, List.set_cons_zero, List.set_cons_succ]
        refine wpAnyH_take (i := 10) (v := .int .i64 k) rfl (by kernel_rfl) (by kernel_rfl) (by kernel_rfl) (fun _ _ _ h => h) (Or.inl ⟨by rfl, fun w' _ => by go_simp⟩) hS ?_
        change wpAnyH _ _ _ _ _ _ _ (Act.put _ (some 25) _) _
        simp only [Act.put, List.setIfInBounds_toArray, List.set_cons_zero, List.set_cons_succ]
        refine wpAnyH_take (i := 11) (v := .pointer (some ⟨b, o + k * 2, none⟩)) rfl (by kernel_rfl) (by kernel_rfl) (by kernel_rfl) (fun _ _ _ h => h) (Or.inl ⟨by rfl, fun w' _ => by go_simp⟩) hS ?_
        change wpAnyH _ _ _ _ _ _ _ (Act.put _ (some 26) _) _
        simp only [Act.put, List.setIfInBounds_toArray, List.set_cons_zero, List.set_cons_succ]
        refine wpAnyH_take (i := 12) (v := .pointer (some ⟨b, o + k * 2 + 1, none⟩)) rfl (by kernel_rfl) (by kernel_rfl) (by kernel_rfl) (fun _ _ _ h => h) (Or.inl ⟨by rfl, fun w' _ => by go_simp⟩) hS ?_
        change wpAnyH _ _ _ _ _ _ _ (Act.put _ (some 27) _) _
        simp only [Act.put, List.setIfInBounds_toArray, List.set_cons_zero, List.set_cons_succ]
        refine wpAnyH_take (i := 13) (v := .int .i8 y) rfl (by kernel_rfl) (by kernel_rfl) (by kernel_rfl) (fun _ _ _ h => h) (Or.inl ⟨by rfl, fun w' h => ?_⟩) hS ?_
        · have c0 := h.2
          clear h
          go_simp
        change wpAnyH _ _ _ _ _ _ _ (Act.put _ (some 28) _) _
        simp only [Act.put, List.setIfInBounds_toArray, List.set_cons_zero, List.set_cons_succ]
        refine wpAnyH_take (i := 14) (v := .int .i64 y) rfl (by kernel_rfl) (by kernel_rfl) (by kernel_rfl) (fun _ _ _ h => h) (Or.inl ⟨by rfl, fun w' _ => by go_simp⟩) hS ?_
        change wpAnyH _ _ _ _ _ _ _ (Act.put _ (some 29) _) _
        simp only [Act.put, List.setIfInBounds_toArray, List.set_cons_zero, List.set_cons_succ]
        refine wpAnyH_ready (rs := [7]) (by kernel_rfl) (by simp) (AllReadyH.cons rfl ?_ AllReadyH.nil)
        intro K hK
        rw [if_pos (by rfl)]
        go_simp
        refine (KX W1).mono ?_
        rintro e W2 ⟨rfl, hbc1⟩
        have b2 := step_below hbc1 b1
        refine hK.out _ _ ⟨(hbc1.cell (p := ⟨b, _, none⟩) (World.block_lt_of_cell? _ _ hS.1)).trans hS.1, (hbc1.cell (p := ⟨b, _, none⟩) (World.block_lt_of_cell? _ _ hS.2)).trans hS.2⟩ (fun hS1 => ?_)
        clear hK K
        try (change wpAnyH _ _ _ _ _ _ _ (Act.put _ (some 22) _) _)
        try simp only [Act.put, List.setIfInBounds_toArray, List.set_cons_zero, List.set_cons_succ]
        refine wpAnyH_take (i := 8) (v := .string (⟨(Lib.decDigits xn).toArray⟩ ++ ⟨#[58]⟩)) rfl (by kernel_rfl) (by kernel_rfl) (by kernel_rfl) (fun _ _ _ h => h) (Or.inl ⟨by rfl, fun w' _ => by go_simp; all_goals (first | omega | (simp; omega))⟩) hS1 ?_
        change wpAnyH _ _ _ _ _ _ _ (Act.put _ (some 23) _) _
        simp only [Act.put, List.setIfInBounds_toArray, List.set_cons_zero, List.set_cons_succ]
        refine wpAnyH_ready (rs := [15]) (by kernel_rfl) (by simp) (AllReadyH.cons rfl ?_ AllReadyH.nil)
        intro K hK
        rw [if_pos (by rfl)]
        go_simp
        refine (KY W2).mono ?_
        rintro e W3 ⟨rfl, hbc2⟩
        have b3 := step_below hbc2 b2
        refine hK.out _ _ ⟨(hbc2.cell (p := ⟨b, _, none⟩) (World.block_lt_of_cell? _ _ hS1.1)).trans hS1.1, (hbc2.cell (p := ⟨b, _, none⟩) (World.block_lt_of_cell? _ _ hS1.2)).trans hS1.2⟩ (fun hS2 => ?_)
        clear hK K
        try (change wpAnyH _ _ _ _ _ _ _ (Act.put _ (some 30) _) _)
        try simp only [Act.put, List.setIfInBounds_toArray, List.set_cons_zero, List.set_cons_succ]
        refine wpAnyH_take (i := 16) (v := .string (⟨(Lib.decDigits xn).toArray⟩ ++ ⟨#[58]⟩ ++ N)) rfl (by kernel_rfl) (by kernel_rfl) (by kernel_rfl) (fun _ _ _ h => h) (Or.inl ⟨by rfl, fun w' _ => by go_simp; all_goals (first | omega | (simp; omega))⟩) hS2 ?_
        change wpAnyH _ _ _ _ _ _ _ (Act.put _ (some 31) _) _
        simp only [Act.put, List.setIfInBounds_toArray, List.set_cons_zero, List.set_cons_succ]
        refine wpAnyH_take (i := 17) (v := .string Z) rfl (by kernel_rfl) (by kernel_rfl) (by kernel_rfl) (fun _ _ _ h => h) (Or.inl ⟨by rfl, fun w' _ => by go_simp; rw [if_neg (by first | omega | (simp; omega)), HZ.out]⟩) hS2 ?_
        change wpAnyH _ _ _ _ _ _ _ (Act.put _ (some 32) _) _
        simp only [Act.put, List.setIfInBounds_toArray, List.set_cons_zero, List.set_cons_succ]
        refine wpAnyH_take (i := 18) (v := .string Z) rfl (by kernel_rfl) (by kernel_rfl) (by kernel_rfl) (fun _ _ _ h => h) (Or.inl ⟨by rfl, fun w' _ => by go_simp⟩) hS2 ?_
        change wpAnyH _ _ _ _ _ _ _ (Act.put _ (some 3) _) _
        simp only [Act.put, List.setIfInBounds_toArray, List.set_cons_zero, List.set_cons_succ]
        refine wpAnyH_done (by kernel_rfl) ?_ _
        go_wp2
        go_roundw
        case rel => exact ⟨k + 1, hlt, by go_num, by rw [HZ2.out], b3⟩
        case measure => simp [intOf]; omega
      · have hkk : ((k : Int) > 0) := by omega
        have H0 := hide h0
        clear h0
        go_upto_region 7 with fail
        obtain ⟨O, hO2⟩ : ∃ X : ByteArray, X = O' ++ ⟨#[32]⟩ := ⟨_, rfl⟩
        have HZ := hide (show O ++ (⟨(Lib.decDigits xn).toArray⟩ ++ ⟨#[58]⟩ ++ N) = ⟨(txJ (ttC l) 32 (k + 1)).toArray⟩ by have := hZ.out _ rfl; simpa [H0.out, hO2] using this)
        have hO2s : O.size ≤ 961 := by rw [hO2]; simp [ByteArray.size_append]; have : (⟨#[32]⟩ : ByteArray).size = 1 := rfl; omega
        have h58 : (⟨#[58]⟩ : ByteArray).size = 1 := rfl
        rw [← hO2]
        obtain ⟨Z, hZ2⟩ : ∃ Z : ByteArray, Z = ⟨(txJ (ttC l) 32 (k + 1)).toArray⟩ := ⟨_, rfl⟩
        rw [← hZ2] at HZ
        have HZ2 := hide hZ2
        clear hO2 hZ2 hZ H0 hkk
        have b1 : Below w.heap.size w wr.drew := hb.drew
        refine wp_region_held_drew (S := fun Y => Y.cell? ⟨b, o + k * 2, none⟩ = some (.int .i16 xn) ∧ Y.cell? ⟨b, o + k * 2 + 1, none⟩ = some (.int .i8 y)) (by kernel_rfl) ⟨d1, d2⟩ fun hS => ?_
        clear d1 d2
        generalize wr.drew = W1 at *
        refine wpAnyH_take (i := 0) (v := .string O) rfl (by kernel_rfl) (by kernel_rfl) (by kernel_rfl) (fun _ _ _ h => h) (Or.inl ⟨by rfl, fun w' _ => by go_simp⟩) hS ?_
        change wpAnyH _ _ _ _ _ _ _ (Act.put _ (some 15) _) _
        simp only [Act.put, List.setIfInBounds_toArray, List.set_cons_zero, List.set_cons_succ]
        refine wpAnyH_take (i := 1) (v := .slice (some ⟨b, o, none⟩) l.length c) rfl (by kernel_rfl) (by kernel_rfl) (by kernel_rfl) (fun _ _ _ h => h) (Or.inl ⟨by rfl, fun w' _ => by go_simp⟩) hS ?_
        change wpAnyH _ _ _ _ _ _ _ (Act.put _ (some 16) _) _
        simp only [Act.put, List.setIfInBounds_toArray, List.set_cons_zero, List.set_cons_succ]
        refine wpAnyH_take (i := 2) (v := .int .i64 k) rfl (by kernel_rfl) (by kernel_rfl) (by kernel_rfl) (fun _ _ _ h => h) (Or.inl ⟨by rfl, fun w' _ => by go_simp⟩) hS ?_
        change wpAnyH _ _ _ _ _ _ _ (Act.put _ (some 17) _) _
        simp only [Act.put, List.setIfInBounds_toArray, List.set_cons_zero, List.set_cons_succ]
        refine wpAnyH_take (i := 3) (v := .pointer (some ⟨b, o + k * 2, none⟩)) rfl (by kernel_rfl) (by kernel_rfl) (by kernel_rfl) (fun _ _ _ h => h) (Or.inl ⟨by rfl, fun w' _ => by go_simp⟩) hS ?_
        change wpAnyH _ _ _ _ _ _ _ (Act.put _ (some 18) _) _
        simp only [Act.put, List.setIfInBounds_toArray, List.set_cons_zero, List.set_cons_succ]
        refine wpAnyH_take (i := 4) (v := .pointer (some ⟨b, o + k * 2, none⟩)) rfl (by kernel_rfl) (by kernel_rfl) (by kernel_rfl) (fun _ _ _ h => h) (Or.inl ⟨by rfl, fun w' _ => by go_simp⟩) hS ?_
        change wpAnyH _ _ _ _ _ _ _ (Act.put _ (some 19) _) _
        simp only [Act.put, List.setIfInBounds_toArray, List.set_cons_zero, List.set_cons_succ]
        refine wpAnyH_take (i := 5) (v := .int .i16 xn) rfl (by kernel_rfl) (by kernel_rfl) (by kernel_rfl) (fun _ _ _ h => h) (Or.inl ⟨by rfl, fun w' h => ?_⟩) hS ?_
        · have c0 := h.1
          clear h
          go_simp
        change wpAnyH _ _ _ _ _ _ _ (Act.put _ (some 20) _) _
        simp only [Act.put, List.setIfInBounds_toArray, List.set_cons_zero, List.set_cons_succ]
        refine wpAnyH_take (i := 6) (v := .int .i64 xn) rfl (by kernel_rfl) (by kernel_rfl) (by kernel_rfl) (fun _ _ _ h => h) (Or.inl ⟨by rfl, fun w' _ => by go_simp⟩) hS ?_
        change wpAnyH _ _ _ _ _ _ _ (Act.put _ (some 21) _) _
        simp only [Act.put, List.setIfInBounds_toArray, List.set_cons_zero, List.set_cons_succ]
        refine wpAnyH_take (i := 9) (v := .slice (some ⟨b, o, none⟩) l.length c) rfl (by kernel_rfl) (by kernel_rfl) (by kernel_rfl) (fun _ _ _ h => h) (Or.inl ⟨by rfl, fun w' _ => by go_simp⟩) hS ?_
        change wpAnyH _ _ _ _ _ _ _ (Act.put _ (some 24) _) _
        simp only [Act.put, List.setIfInBounds_toArray, List.set_cons_zero, List.set_cons_succ]
        refine wpAnyH_take (i := 10) (v := .int .i64 k) rfl (by kernel_rfl) (by kernel_rfl) (by kernel_rfl) (fun _ _ _ h => h) (Or.inl ⟨by rfl, fun w' _ => by go_simp⟩) hS ?_
        change wpAnyH _ _ _ _ _ _ _ (Act.put _ (some 25) _) _
        simp only [Act.put, List.setIfInBounds_toArray, List.set_cons_zero, List.set_cons_succ]
        refine wpAnyH_take (i := 11) (v := .pointer (some ⟨b, o + k * 2, none⟩)) rfl (by kernel_rfl) (by kernel_rfl) (by kernel_rfl) (fun _ _ _ h => h) (Or.inl ⟨by rfl, fun w' _ => by go_simp⟩) hS ?_
        change wpAnyH _ _ _ _ _ _ _ (Act.put _ (some 26) _) _
        simp only [Act.put, List.setIfInBounds_toArray, List.set_cons_zero, List.set_cons_succ]
        refine wpAnyH_take (i := 12) (v := .pointer (some ⟨b, o + k * 2 + 1, none⟩)) rfl (by kernel_rfl) (by kernel_rfl) (by kernel_rfl) (fun _ _ _ h => h) (Or.inl ⟨by rfl, fun w' _ => by go_simp⟩) hS ?_
        change wpAnyH _ _ _ _ _ _ _ (Act.put _ (some 27) _) _
        simp only [Act.put, List.setIfInBounds_toArray, List.set_cons_zero, List.set_cons_succ]
        refine wpAnyH_take (i := 13) (v := .int .i8 y) rfl (by kernel_rfl) (by kernel_rfl) (by kernel_rfl) (fun _ _ _ h => h) (Or.inl ⟨by rfl, fun w' h => ?_⟩) hS ?_
        · have c0 := h.2
          clear h
          go_simp
        change wpAnyH _ _ _ _ _ _ _ (Act.put _ (some 28) _) _
        simp only [Act.put, List.setIfInBounds_toArray, List.set_cons_zero, List.set_cons_succ]
        refine wpAnyH_take (i := 14) (v := .int .i64 y) rfl (by kernel_rfl) (by kernel_rfl) (by kernel_rfl) (fun _ _ _ h => h) (Or.inl ⟨by rfl, fun w' _ => by go_simp⟩) hS ?_
        change wpAnyH _ _ _ _ _ _ _ (Act.put _ (some 29) _) _
        simp only [Act.put, List.setIfInBounds_toArray, List.set_cons_zero, List.set_cons_succ]
        refine wpAnyH_ready (rs := [7]) (by kernel_rfl) (by simp) (AllReadyH.cons rfl ?_ AllReadyH.nil)
        intro K hK
        rw [if_pos (by rfl)]
        go_simp
        refine (KX W1).mono ?_
        rintro e W2 ⟨rfl, hbc1⟩
        have b2 := step_below hbc1 b1
        refine hK.out _ _ ⟨(hbc1.cell (p := ⟨b, _, none⟩) (World.block_lt_of_cell? _ _ hS.1)).trans hS.1, (hbc1.cell (p := ⟨b, _, none⟩) (World.block_lt_of_cell? _ _ hS.2)).trans hS.2⟩ (fun hS1 => ?_)
        clear hK K
        try (change wpAnyH _ _ _ _ _ _ _ (Act.put _ (some 22) _) _)
        try simp only [Act.put, List.setIfInBounds_toArray, List.set_cons_zero, List.set_cons_succ]
        refine wpAnyH_take (i := 8) (v := .string (⟨(Lib.decDigits xn).toArray⟩ ++ ⟨#[58]⟩)) rfl (by kernel_rfl) (by kernel_rfl) (by kernel_rfl) (fun _ _ _ h => h) (Or.inl ⟨by rfl, fun w' _ => by go_simp; all_goals (first | omega | (simp; omega))⟩) hS1 ?_
        change wpAnyH _ _ _ _ _ _ _ (Act.put _ (some 23) _) _
        simp only [Act.put, List.setIfInBounds_toArray, List.set_cons_zero, List.set_cons_succ]
        refine wpAnyH_ready (rs := [15]) (by kernel_rfl) (by simp) (AllReadyH.cons rfl ?_ AllReadyH.nil)
        intro K hK
        rw [if_pos (by rfl)]
        go_simp
        refine (KY W2).mono ?_
        rintro e W3 ⟨rfl, hbc2⟩
        have b3 := step_below hbc2 b2
        refine hK.out _ _ ⟨(hbc2.cell (p := ⟨b, _, none⟩) (World.block_lt_of_cell? _ _ hS1.1)).trans hS1.1, (hbc2.cell (p := ⟨b, _, none⟩) (World.block_lt_of_cell? _ _ hS1.2)).trans hS1.2⟩ (fun hS2 => ?_)
        clear hK K
        try (change wpAnyH _ _ _ _ _ _ _ (Act.put _ (some 30) _) _)
        try simp only [Act.put, List.setIfInBounds_toArray, List.set_cons_zero, List.set_cons_succ]
        refine wpAnyH_take (i := 16) (v := .string (⟨(Lib.decDigits xn).toArray⟩ ++ ⟨#[58]⟩ ++ N)) rfl (by kernel_rfl) (by kernel_rfl) (by kernel_rfl) (fun _ _ _ h => h) (Or.inl ⟨by rfl, fun w' _ => by go_simp; all_goals (first | omega | (simp; omega))⟩) hS2 ?_
        change wpAnyH _ _ _ _ _ _ _ (Act.put _ (some 31) _) _
        simp only [Act.put, List.setIfInBounds_toArray, List.set_cons_zero, List.set_cons_succ]
        refine wpAnyH_take (i := 17) (v := .string Z) rfl (by kernel_rfl) (by kernel_rfl) (by kernel_rfl) (fun _ _ _ h => h) (Or.inl ⟨by rfl, fun w' _ => by go_simp; rw [if_neg (by first | omega | (simp; omega)), HZ.out]⟩) hS2 ?_
        change wpAnyH _ _ _ _ _ _ _ (Act.put _ (some 32) _) _
        simp only [Act.put, List.setIfInBounds_toArray, List.set_cons_zero, List.set_cons_succ]
        refine wpAnyH_take (i := 18) (v := .string Z) rfl (by kernel_rfl) (by kernel_rfl) (by kernel_rfl) (fun _ _ _ h => h) (Or.inl ⟨by rfl, fun w' _ => by go_simp⟩) hS2 ?_
        change wpAnyH _ _ _ _ _ _ _ (Act.put _ (some 3) _) _
        simp only [Act.put, List.setIfInBounds_toArray, List.set_cons_zero, List.set_cons_succ]
        refine wpAnyH_done (by kernel_rfl) ?_ _
        go_wp2
        go_roundw
        case rel => exact ⟨k + 1, hlt, by go_num, by rw [HZ2.out], b3⟩
        case measure => simp [intOf]; omega
    · obtain rfl : k = l.length := by omega
      go_wp2
      go_ret
      exact ⟨rfl, hb⟩
set_option maxRecDepth 20000 in
set_option maxHeartbeats 4000000 in
theorem specTuneText_any (A : Option Addr) (c : Nat) (l : List (Int × Int)) (w : World) (hA : NA w A l) (hn : l.length ≤ 1048576) (hwf : WF l) :
    Calls Tryd.prog 18 #[.slice A l.length c] w fun e w' => e = .returned (.string (ttV l)) ∧ Below w.heap.size w w' := by
  have KP := l01Ok_any A c l w hA hn hwf
  cases hx : okB l
  · have HV := hide (show ttV l = ⟨#[]⟩ by rw [ttV, if_neg (by rw [hx]; simp)])
    rw [hx] at KP
    clear hx
    go_enter Tryd.func18, Tryd.ntmps18
    go_wp2_with fail
    refine KP.mono ?_
    rintro e w1 ⟨rfl, hb1⟩
    go_wp2
    go_ret
    exact ⟨by rw [HV.out]; rfl, hb1⟩
  · have HV := hide (show ttV l = ⟨(txJ (ttC l) 32 l.length).toArray⟩ by rw [ttV, if_pos hx])
    have KT := fun W (hW : NA W A l) => l01Text_any A c l W hW hx
    rw [hx] at KP
    clear hx
    go_enter Tryd.func18, Tryd.ntmps18
    go_wp2_with fail
    refine KP.mono ?_
    rintro e w1 ⟨rfl, hb1⟩
    go_wp2_with fail
    refine (KT w1 (hA.below hb1)).mono ?_
    rintro e w2 ⟨rfl, hb2⟩
    go_wp2
    go_ret
    exact ⟨by rw [HV.out]; rfl, step_below hb2 hb1⟩
end Go.Proofs.YtfkmippodmglnaaDoor
