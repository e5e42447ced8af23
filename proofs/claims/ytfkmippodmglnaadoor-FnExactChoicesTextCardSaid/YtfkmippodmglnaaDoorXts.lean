import Derived.Test.YtfkmippodmglnaaDoorXtm
namespace Go.Proofs.YtfkmippodmglnaaDoor
open Go.RowKit
theorem itoa_neg' {n : Int} (h : n < 0) : Lib.itoa n = 45 :: Lib.decDigits (-n).toNat := by
  unfold Lib.itoa; rw [if_pos h]; congr 2; omega
theorem itoa_pos' {n : Int} (h : ¬ n < 0) : Lib.itoa n = Lib.decDigits n.toNat := by
  unfold Lib.itoa; rw [if_neg h]
set_option maxRecDepth 20000 in
set_option maxHeartbeats 1000000 in
theorem l07Small_any (n : Int) (w : World) (h : -100 < n ∧ n < 100) :
    Calls Tryd.prog 54 #[.int .i8 n] w fun e w' => e = .returned (.string ⟨(Lib.itoa n).toArray⟩) ∧ Below w.heap.size w w' := by
  by_cases hn : n < 0
  · obtain ⟨m, hm⟩ : ∃ m : Nat, (m : Int) = -n := ⟨n.natAbs, by omega⟩
    have KD := fun W => Decimal_any m W (by omega)
    have hl := dec_len2 (show m < 100 by omega)
    have HV := hide (show (⟨(Lib.itoa n).toArray⟩ : ByteArray) = ⟨#[45]⟩ ++ ⟨(Lib.decDigits m).toArray⟩ by
      rw [itoa_neg' hn, show (-n).toNat = m by omega]
      apply ByteArray.ext
      simp [ByteArray.data_append])
    have w1 : IntKind.i8.wrap (m : Int) = m := by simp [IntKind.wrap, IntKind.signed, IntKind.bits]; omega
    have w2 : IntKind.i64.wrap (m : Int) = m := IntWalk.i64_in _ (by omega)
    have hm2 : -n = (m : Int) := hm.symm
    clear hm
    go_enter Tryd.func54, Tryd.ntmps54
    go_wp2_with (go_at_call 62; refine (KD _).mono ?_; rintro e w' ⟨rfl, hb⟩)
    go_ret
    exact ⟨by rw [HV.out]; rfl, hb⟩
  · obtain ⟨m, rfl⟩ := Int.eq_ofNat_of_zero_le (show 0 ≤ n by omega)
    have KD := fun W => Decimal_any m W (by omega)
    have w2 : IntKind.i64.wrap (m : Int) = m := IntWalk.i64_in _ (by omega)
    have HV := hide (show (⟨(Lib.itoa (m : Int)).toArray⟩ : ByteArray) = ⟨(Lib.decDigits m).toArray⟩ by rw [itoa_pos' hn, Int.toNat_natCast])
    go_enter Tryd.func54, Tryd.ntmps54
    go_wp2_with (go_at_call 62; refine (KD _).mono ?_; rintro e w' ⟨rfl, hb⟩)
    go_ret
    exact ⟨by rw [HV.out]; rfl, hb⟩
theorem xcB_in {a : Bool} {l o t : Int} (h : xcB a l o t = true) : (-3 ≤ l ∧ l ≤ 3) ∧ (-1 ≤ o ∧ o ≤ 1) ∧ (0 ≤ t ∧ t ≤ 23) := by
  cases a
  · simp [xcB, inB] at h; omega
  · simp [xcB] at h; omega
set_option maxRecDepth 20000 in
set_option maxHeartbeats 4000000 in
theorem l07Text_any (A : Option Addr) (c : Nat) (l : List Xc) (w : World) (hA : ChA w A l) (hl : l.length ≤ 120) (hG : XG l l.length) :
    Calls Tryd.prog 28 #[.slice A l.length c] w fun e w' => e = .returned (.string ⟨(txJ (xtC l) 32 l.length).toArray⟩) ∧ Below w.heap.size w w' := by
  have HJ := hide (txJ_succ (xtC l) 32)
  have HL := hide (xtC_len l)
  go_enter Tryd.func28, Tryd.ntmps28
  go_wp2_with fail
  go_loopw [3, 4] (fun v i wr => ∃ k : Nat, k ≤ l.length ∧ i = .int .i64 k ∧ v = .string ⟨(txJ (xtC l) 32 k).toArray⟩ ∧ Below w.heap.size w wr)
    (fun _ i _ => l.length - (intOf i).toNat)
  case atStart => exact ⟨0, Nat.zero_le _, rfl, rfl, Below.refl _ _⟩
  case round =>
    obtain ⟨k, hk, rfl, rfl, hb⟩ := hrel
    by_cases hlt : k < l.length
    · obtain ⟨b, o, rfl, hbb, c1, c2, c3, c4⟩ := hA k hlt
      have d1 := (hb.cell (p := ⟨b, o + k * 4, none⟩) hbb).trans c1
      have d2 := (hb.cell (p := ⟨b, o + k * 4 + 1, none⟩) hbb).trans c2
      have d3 := (hb.cell (p := ⟨b, o + k * 4 + 2, none⟩) hbb).trans c3
      have d4 := (hb.cell (p := ⟨b, o + k * 4 + 3, none⟩) hbb).trans c4
      have hki : (k : Int) < (l.length : Int) := by omega
      have hin := xcB_in (hG k hlt)
      have hX : xtC l k = ⟨(xtL (chA l k) (chL l k) (chO l k) (chT l k)).toArray⟩ := rfl
      have hOl : (txJ (xtC l) 32 k).length ≤ 7920 := HL.out k (by omega) (fun j hj => hG j (by omega))
      obtain ⟨q, hq⟩ : ∃ q, chA l k = q := ⟨_, rfl⟩
      obtain ⟨x, hx⟩ : ∃ x, chL l k = x := ⟨_, rfl⟩
      obtain ⟨y, hy⟩ : ∃ y, chO l k = y := ⟨_, rfl⟩
      obtain ⟨z, hz⟩ : ∃ z, chT l k = z := ⟨_, rfl⟩
      rw [hq] at d1 hX
      rw [hx] at d2 hin hX
      rw [hy] at d3 hin hX
      rw [hz] at d4 hin hX
      have KX := fun W => l07Small_any x W (by omega)
      have KY := fun W => l07Small_any y W (by omega)
      have KZ := fun W => l07Small_any z W (by omega)
      have l1 := Lib.itoa_length_le x (by omega) (by omega)
      have l2 := Lib.itoa_length_le y (by omega) (by omega)
      have l3 := Lib.itoa_length_le z (by omega) (by omega)
      have hS1 := HJ.out k
      rw [hX] at hS1
      obtain ⟨L, hL⟩ : ∃ L, L = txJ (xtC l) 32 k := ⟨_, rfl⟩
      rw [← hL] at hS1 hOl ⊢
      obtain ⟨O', hO⟩ : ∃ O : ByteArray, O = ⟨L.toArray⟩ := ⟨_, rfl⟩
      have hOs : O'.size ≤ 7920 := by rw [hO]; simpa [ByteArray.size] using hOl
      rw [← hO]
      have hZ : ∀ (s t : ByteArray), s = (if k = 0 then O' else O' ++ ⟨#[32]⟩) → t = ⟨(xtL q x y z).toArray⟩ → s ++ t = ⟨(txJ (xtC l) 32 (k + 1)).toArray⟩ := by
        intro s t hs ht
        rw [hs, hS1, hO, ht]
        apply ByteArray.ext
        by_cases h0 : k = 0
        · simp [h0, ByteArray.data_append]
        · simp [h0, ByteArray.data_append]
      have hZ := hide hZ
      clear hX hx hy hz hq hS1 c1 c2 c3 c4 hO hL hOl
      by_cases h0 : k = 0
      · cases q
        · have hkk : ¬ ((k : Int) > 0) := by omega
          have H0 := hide h0
          clear h0
          go_upto_region 9 with fail
          obtain ⟨O, hO2⟩ : ∃ X : ByteArray, X = O' := ⟨_, rfl⟩
          have HZ := hide (show O ++ (⟨(Lib.itoa x).toArray⟩ ++ ⟨#[47]⟩ ++ ⟨(Lib.itoa y).toArray⟩ ++ ⟨#[47]⟩ ++ ⟨(Lib.itoa z).toArray⟩) = ⟨(txJ (xtC l) 32 (k + 1)).toArray⟩ from hZ.out O _ (by rw [hO2]; simp [H0.out]) (by apply ByteArray.ext; simp [xtL, ByteArray.data_append]))
          have hO2s : O.size ≤ 7921 := by rw [hO2]; omega
          have h47 : (⟨#[47]⟩ : ByteArray).size = 1 := rfl
          rw [← hO2]
          obtain ⟨Z, hZ2⟩ : ∃ Z : ByteArray, Z = ⟨(txJ (xtC l) 32 (k + 1)).toArray⟩ := ⟨_, rfl⟩
          rw [← hZ2] at HZ
          have HZ2 := hide hZ2
          clear hO2 hZ2 hZ d1 H0 hkk
          have b1 : Below w.heap.size w wr.drew := hb.drew
          refine wp_region_held_drew (S := fun Y => Y.cell? ⟨b, o + k * 4 + 1, none⟩ = some (.int .i8 x) ∧ Y.cell? ⟨b, o + k * 4 + 2, none⟩ = some (.int .i8 y) ∧ Y.cell? ⟨b, o + k * 4 + 3, none⟩ = some (.int .i8 z)) (by kernel_rfl) ⟨d2, d3, d4⟩ fun hS => ?_
          clear d2 d3 d4
          generalize wr.drew = W1 at *
          refine wpAnyH_take (i := 0) (v := .string O) rfl (by kernel_rfl) (by kernel_rfl) (by kernel_rfl) (fun _ _ _ h => h) (Or.inl ⟨by rfl, fun w' _ => by go_simp⟩) hS ?_
          change wpAnyH _ _ _ _ _ _ _ (Act.put _ (some 22) _) _
          simp only [Act.put, List.setIfInBounds_toArray, List.set_cons_zero, List.set_cons_succ]
          refine wpAnyH_take (i := 1) (v := .slice (some ⟨b, o, none⟩) l.length c) rfl (by kernel_rfl) (by kernel_rfl) (by kernel_rfl) (fun _ _ _ h => h) (Or.inl ⟨by rfl, fun w' _ => by go_simp⟩) hS ?_
          change wpAnyH _ _ _ _ _ _ _ (Act.put _ (some 23) _) _
          simp only [Act.put, List.setIfInBounds_toArray, List.set_cons_zero, List.set_cons_succ]
          refine wpAnyH_take (i := 2) (v := .int .i64 k) rfl (by kernel_rfl) (by kernel_rfl) (by kernel_rfl) (fun _ _ _ h => h) (Or.inl ⟨by rfl, fun w' _ => by go_simp⟩) hS ?_
          change wpAnyH _ _ _ _ _ _ _ (Act.put _ (some 24) _) _
          simp only [Act.put, List.setIfInBounds_toArray, List.set_cons_zero, List.set_cons_succ]
          refine wpAnyH_take (i := 3) (v := .pointer (some ⟨b, o + k * 4, none⟩)) rfl (by kernel_rfl) (by kernel_rfl) (by kernel_rfl) (fun _ _ _ h => h) (Or.inl ⟨by rfl, fun w' _ => by go_simp⟩) hS ?_
          change wpAnyH _ _ _ _ _ _ _ (Act.put _ (some 25) _) _
          simp only [Act.put, List.setIfInBounds_toArray, List.set_cons_zero, List.set_cons_succ]
          refine wpAnyH_take (i := 4) (v := .pointer (some ⟨b, o + k * 4 + 1, none⟩)) rfl (by kernel_rfl) (by kernel_rfl) (by kernel_rfl) (fun _ _ _ h => h) (Or.inl ⟨by rfl, fun w' _ => by go_simp⟩) hS ?_
          change wpAnyH _ _ _ _ _ _ _ (Act.put _ (some 26) _) _
          simp only [Act.put, List.setIfInBounds_toArray, List.set_cons_zero, List.set_cons_succ]
          refine wpAnyH_take (i := 5) (v := .int .i8 x) rfl (by kernel_rfl) (by kernel_rfl) (by kernel_rfl) (fun _ _ _ h => h) (Or.inl ⟨by rfl, fun w' h => ?_⟩) hS ?_
          · have c0 := h.1
            clear h
            go_simp
          change wpAnyH _ _ _ _ _ _ _ (Act.put _ (some 27) _) _
          simp only [Act.put, List.setIfInBounds_toArray, List.set_cons_zero, List.set_cons_succ]
          refine wpAnyH_take (i := 8) (v := .slice (some ⟨b, o, none⟩) l.length c) rfl (by kernel_rfl) (by kernel_rfl) (by kernel_rfl) (fun _ _ _ h => h) (Or.inl ⟨by rfl, fun w' _ => by go_simp⟩) hS ?_
          change wpAnyH _ _ _ _ _ _ _ (Act.put _ (some 30) _) _
          simp only [Act.put, List.setIfInBounds_toArray, List.set_cons_zero, List.set_cons_succ]
          refine wpAnyH_take (i := 9) (v := .int .i64 k) rfl (by kernel_rfl) (by kernel_rfl) (by kernel_rfl) (fun _ _ _ h => h) (Or.inl ⟨by rfl, fun w' _ => by go_simp⟩) hS ?_
          change wpAnyH _ _ _ _ _ _ _ (Act.put _ (some 31) _) _
          simp only [Act.put, List.setIfInBounds_toArray, List.set_cons_zero, List.set_cons_succ]
          refine wpAnyH_take (i := 10) (v := .pointer (some ⟨b, o + k * 4, none⟩)) rfl (by kernel_rfl) (by kernel_rfl) (by kernel_rfl) (fun _ _ _ h => h) (Or.inl ⟨by rfl, fun w' _ => by go_simp⟩) hS ?_
          change wpAnyH _ _ _ _ _ _ _ (Act.put _ (some 32) _) _
          simp only [Act.put, List.setIfInBounds_toArray, List.set_cons_zero, List.set_cons_succ]
          refine wpAnyH_take (i := 11) (v := .pointer (some ⟨b, o + k * 4 + 2, none⟩)) rfl (by kernel_rfl) (by kernel_rfl) (by kernel_rfl) (fun _ _ _ h => h) (Or.inl ⟨by rfl, fun w' _ => by go_simp⟩) hS ?_
          change wpAnyH _ _ _ _ _ _ _ (Act.put _ (some 33) _) _
          simp only [Act.put, List.setIfInBounds_toArray, List.set_cons_zero, List.set_cons_succ]
          refine wpAnyH_take (i := 12) (v := .int .i8 y) rfl (by kernel_rfl) (by kernel_rfl) (by kernel_rfl) (fun _ _ _ h => h) (Or.inl ⟨by rfl, fun w' h => ?_⟩) hS ?_
          · have c0 := h.2.1
            clear h
            go_simp
          change wpAnyH _ _ _ _ _ _ _ (Act.put _ (some 34) _) _
          simp only [Act.put, List.setIfInBounds_toArray, List.set_cons_zero, List.set_cons_succ]
          refine wpAnyH_take (i := 16) (v := .slice (some ⟨b, o, none⟩) l.length c) rfl (by kernel_rfl) (by kernel_rfl) (by kernel_rfl) (fun _ _ _ h => h) (Or.inl ⟨by rfl, fun w' _ => by go_simp⟩) hS ?_
          change wpAnyH _ _ _ _ _ _ _ (Act.put _ (some 38) _) _
          simp only [Act.put, List.setIfInBounds_toArray, List.set_cons_zero, List.set_cons_succ]
          refine wpAnyH_take (i := 17) (v := .int .i64 k) rfl (by kernel_rfl) (by kernel_rfl) (by kernel_rfl) (fun _ _ _ h => h) (Or.inl ⟨by rfl, fun w' _ => by go_simp⟩) hS ?_
          change wpAnyH _ _ _ _ _ _ _ (Act.put _ (some 39) _) _
          simp only [Act.put, List.setIfInBounds_toArray, List.set_cons_zero, List.set_cons_succ]
          refine wpAnyH_take (i := 18) (v := .pointer (some ⟨b, o + k * 4, none⟩)) rfl (by kernel_rfl) (by kernel_rfl) (by kernel_rfl) (fun _ _ _ h => h) (Or.inl ⟨by rfl, fun w' _ => by go_simp⟩) hS ?_
          change wpAnyH _ _ _ _ _ _ _ (Act.put _ (some 40) _) _
          simp only [Act.put, List.setIfInBounds_toArray, List.set_cons_zero, List.set_cons_succ]
          refine wpAnyH_take (i := 19) (v := .pointer (some ⟨b, o + k * 4 + 3, none⟩)) rfl (by kernel_rfl) (by kernel_rfl) (by kernel_rfl) (fun _ _ _ h => h) (Or.inl ⟨by rfl, fun w' _ => by go_simp⟩) hS ?_
          change wpAnyH _ _ _ _ _ _ _ (Act.put _ (some 41) _) _
          simp only [Act.put, List.setIfInBounds_toArray, List.set_cons_zero, List.set_cons_succ]
          refine wpAnyH_take (i := 20) (v := .int .i8 z) rfl (by kernel_rfl) (by kernel_rfl) (by kernel_rfl) (fun _ _ _ h => h) (Or.inl ⟨by rfl, fun w' h => ?_⟩) hS ?_
          · have c0 := h.2.2
            clear h
            go_simp
          change wpAnyH _ _ _ _ _ _ _ (Act.put _ (some 42) _) _
          simp only [Act.put, List.setIfInBounds_toArray, List.set_cons_zero, List.set_cons_succ]
          refine wpAnyH_ready (rs := [6]) (by kernel_rfl) (by simp) (AllReadyH.cons rfl ?_ AllReadyH.nil)
          intro K hK
          rw [if_pos (by rfl)]
          go_simp
          refine (KX W1).mono ?_
          rintro e W2 ⟨rfl, hbc1⟩
          have b2 := step_below hbc1 b1
          refine hK.out _ _ ⟨(hbc1.cell (p := ⟨b, _, none⟩) (World.block_lt_of_cell? _ _ hS.1)).trans hS.1, (hbc1.cell (p := ⟨b, _, none⟩) (World.block_lt_of_cell? _ _ hS.2.1)).trans hS.2.1, (hbc1.cell (p := ⟨b, _, none⟩) (World.block_lt_of_cell? _ _ hS.2.2)).trans hS.2.2⟩ (fun hS1 => ?_)
          clear hK K
          try (change wpAnyH _ _ _ _ _ _ _ (Act.put _ (some 28) _) _)
          try simp only [Act.put, List.setIfInBounds_toArray, List.set_cons_zero, List.set_cons_succ]
          refine wpAnyH_take (i := 7) (v := .string (⟨(Lib.itoa x).toArray⟩ ++ ⟨#[47]⟩)) rfl (by kernel_rfl) (by kernel_rfl) (by kernel_rfl) (fun _ _ _ h => h) (Or.inl ⟨by rfl, fun w' _ => by go_simp; all_goals (first | omega | (simp; omega))⟩) hS1 ?_
          change wpAnyH _ _ _ _ _ _ _ (Act.put _ (some 29) _) _
          simp only [Act.put, List.setIfInBounds_toArray, List.set_cons_zero, List.set_cons_succ]
          refine wpAnyH_ready (rs := [13]) (by kernel_rfl) (by simp) (AllReadyH.cons rfl ?_ AllReadyH.nil)
          intro K hK
          rw [if_pos (by rfl)]
          go_simp
          refine (KY W2).mono ?_
          rintro e W3 ⟨rfl, hbc2⟩
          have b3 := step_below hbc2 b2
          refine hK.out _ _ ⟨(hbc2.cell (p := ⟨b, _, none⟩) (World.block_lt_of_cell? _ _ hS1.1)).trans hS1.1, (hbc2.cell (p := ⟨b, _, none⟩) (World.block_lt_of_cell? _ _ hS1.2.1)).trans hS1.2.1, (hbc2.cell (p := ⟨b, _, none⟩) (World.block_lt_of_cell? _ _ hS1.2.2)).trans hS1.2.2⟩ (fun hS2 => ?_)
          clear hK K
          try (change wpAnyH _ _ _ _ _ _ _ (Act.put _ (some 35) _) _)
          try simp only [Act.put, List.setIfInBounds_toArray, List.set_cons_zero, List.set_cons_succ]
          refine wpAnyH_take (i := 14) (v := .string (⟨(Lib.itoa x).toArray⟩ ++ ⟨#[47]⟩ ++ ⟨(Lib.itoa y).toArray⟩)) rfl (by kernel_rfl) (by kernel_rfl) (by kernel_rfl) (fun _ _ _ h => h) (Or.inl ⟨by rfl, fun w' _ => by go_simp; all_goals (first | omega | (simp; omega))⟩) hS2 ?_
          change wpAnyH _ _ _ _ _ _ _ (Act.put _ (some 36) _) _
          simp only [Act.put, List.setIfInBounds_toArray, List.set_cons_zero, List.set_cons_succ]
          refine wpAnyH_take (i := 15) (v := .string (⟨(Lib.itoa x).toArray⟩ ++ ⟨#[47]⟩ ++ ⟨(Lib.itoa y).toArray⟩ ++ ⟨#[47]⟩)) rfl (by kernel_rfl) (by kernel_rfl) (by kernel_rfl) (fun _ _ _ h => h) (Or.inl ⟨by rfl, fun w' _ => by go_simp; all_goals (first | omega | (simp; omega))⟩) hS2 ?_
          change wpAnyH _ _ _ _ _ _ _ (Act.put _ (some 37) _) _
          simp only [Act.put, List.setIfInBounds_toArray, List.set_cons_zero, List.set_cons_succ]
          refine wpAnyH_ready (rs := [21]) (by kernel_rfl) (by simp) (AllReadyH.cons rfl ?_ AllReadyH.nil)
          intro K hK
          rw [if_pos (by rfl)]
          go_simp
          refine (KZ W3).mono ?_
          rintro e W4 ⟨rfl, hbc3⟩
          have b4 := step_below hbc3 b3
          refine hK.out _ _ ⟨(hbc3.cell (p := ⟨b, _, none⟩) (World.block_lt_of_cell? _ _ hS2.1)).trans hS2.1, (hbc3.cell (p := ⟨b, _, none⟩) (World.block_lt_of_cell? _ _ hS2.2.1)).trans hS2.2.1, (hbc3.cell (p := ⟨b, _, none⟩) (World.block_lt_of_cell? _ _ hS2.2.2)).trans hS2.2.2⟩ (fun hS3 => ?_)
          clear hK K
          try (change wpAnyH _ _ _ _ _ _ _ (Act.put _ (some 43) _) _)
          try simp only [Act.put, List.setIfInBounds_toArray, List.set_cons_zero, List.set_cons_succ]
          refine wpAnyH_take (i := 22) (v := .string (⟨(Lib.itoa x).toArray⟩ ++ ⟨#[47]⟩ ++ ⟨(Lib.itoa y).toArray⟩ ++ ⟨#[47]⟩ ++ ⟨(Lib.itoa z).toArray⟩)) rfl (by kernel_rfl) (by kernel_rfl) (by kernel_rfl) (fun _ _ _ h => h) (Or.inl ⟨by rfl, fun w' _ => by go_simp; all_goals (first | omega | (simp; omega))⟩) hS3 ?_
          change wpAnyH _ _ _ _ _ _ _ (Act.put _ (some 44) _) _
          simp only [Act.put, List.setIfInBounds_toArray, List.set_cons_zero, List.set_cons_succ]
          refine wpAnyH_take (i := 23) (v := .string Z) rfl (by kernel_rfl) (by kernel_rfl) (by kernel_rfl) (fun _ _ _ h => h) (Or.inl ⟨by rfl, fun w' _ => by go_simp; rw [if_neg (by first | omega | (simp; omega)), HZ.out]⟩) hS3 ?_
          change wpAnyH _ _ _ _ _ _ _ (Act.put _ (some 45) _) _
          simp only [Act.put, List.setIfInBounds_toArray, List.set_cons_zero, List.set_cons_succ]
          refine wpAnyH_take (i := 24) (v := .string Z) rfl (by kernel_rfl) (by kernel_rfl) (by kernel_rfl) (fun _ _ _ h => h) (Or.inl ⟨by rfl, fun w' _ => by go_simp⟩) hS3 ?_
          change wpAnyH _ _ _ _ _ _ _ (Act.put _ (some 3) _) _
          simp only [Act.put, List.setIfInBounds_toArray, List.set_cons_zero, List.set_cons_succ]
          refine wpAnyH_done (by kernel_rfl) ?_ _
          go_wp2
          go_roundw
          case rel => exact ⟨k + 1, hlt, by go_num, by rw [HZ2.out], b4⟩
          case measure => simp [intOf]; omega
        · have hkk : ¬ ((k : Int) > 0) := by omega
          have H0 := hide h0
          clear h0
          have HZ := hide (hZ.out (O') ⟨#[120]⟩ (by simp [H0.out]) rfl)
          have h120 : (⟨#[120]⟩ : ByteArray).size = 1 := rfl
          have h32 : (⟨#[32]⟩ : ByteArray).size = 1 := rfl
          clear hZ H0 KX KY KZ
          go_wp2_with fail
          all_goals go_roundw
          case rel => exact ⟨k + 1, hlt, by go_num, by rw [← HZ.out], hb⟩
          case measure => simp [intOf]; omega
      · cases q
        · have hkk : ((k : Int) > 0) := by omega
          have H0 := hide h0
          clear h0
          go_upto_region 9 with fail
          obtain ⟨O, hO2⟩ : ∃ X : ByteArray, X = O' ++ ⟨#[32]⟩ := ⟨_, rfl⟩
          have HZ := hide (show O ++ (⟨(Lib.itoa x).toArray⟩ ++ ⟨#[47]⟩ ++ ⟨(Lib.itoa y).toArray⟩ ++ ⟨#[47]⟩ ++ ⟨(Lib.itoa z).toArray⟩) = ⟨(txJ (xtC l) 32 (k + 1)).toArray⟩ from hZ.out O _ (by rw [hO2]; simp [H0.out]) (by apply ByteArray.ext; simp [xtL, ByteArray.data_append]))
          have hO2s : O.size ≤ 7921 := by rw [hO2]; simp [ByteArray.size_append]; have : (⟨#[32]⟩ : ByteArray).size = 1 := rfl; omega
          have h47 : (⟨#[47]⟩ : ByteArray).size = 1 := rfl
          rw [← hO2]
          obtain ⟨Z, hZ2⟩ : ∃ Z : ByteArray, Z = ⟨(txJ (xtC l) 32 (k + 1)).toArray⟩ := ⟨_, rfl⟩
          rw [← hZ2] at HZ
          have HZ2 := hide hZ2
          clear hO2 hZ2 hZ d1 H0 hkk
          have b1 : Below w.heap.size w wr.drew := hb.drew
          refine wp_region_held_drew (S := fun Y => Y.cell? ⟨b, o + k * 4 + 1, none⟩ = some (.int .i8 x) ∧ Y.cell? ⟨b, o + k * 4 + 2, none⟩ = some (.int .i8 y) ∧ Y.cell? ⟨b, o + k * 4 + 3, none⟩ = some (.int .i8 z)) (by kernel_rfl) ⟨d2, d3, d4⟩ fun hS => ?_
          clear d2 d3 d4
          generalize wr.drew = W1 at *
          refine wpAnyH_take (i := 0) (v := .string O) rfl (by kernel_rfl) (by kernel_rfl) (by kernel_rfl) (fun _ _ _ h => h) (Or.inl ⟨by rfl, fun w' _ => by go_simp⟩) hS ?_
          change wpAnyH _ _ _ _ _ _ _ (Act.put _ (some 22) _) _
          simp only [Act.put, List.setIfInBounds_toArray, List.set_cons_zero, List.set_cons_succ]
          refine wpAnyH_take (i := 1) (v := .slice (some ⟨b, o, none⟩) l.length c) rfl (by kernel_rfl) (by kernel_rfl) (by kernel_rfl) (fun _ _ _ h => h) (Or.inl ⟨by rfl, fun w' _ => by go_simp⟩) hS ?_
          change wpAnyH _ _ _ _ _ _ _ (Act.put _ (some 23) _) _
          simp only [Act.put, List.setIfInBounds_toArray, List.set_cons_zero, List.set_cons_succ]
          refine wpAnyH_take (i := 2) (v := .int .i64 k) rfl (by kernel_rfl) (by kernel_rfl) (by kernel_rfl) (fun _ _ _ h => h) (Or.inl ⟨by rfl, fun w' _ => by go_simp⟩) hS ?_
          change wpAnyH _ _ _ _ _ _ _ (Act.put _ (some 24) _) _
          simp only [Act.put, List.setIfInBounds_toArray, List.set_cons_zero, List.set_cons_succ]
          refine wpAnyH_take (i := 3) (v := .pointer (some ⟨b, o + k * 4, none⟩)) rfl (by kernel_rfl) (by kernel_rfl) (by kernel_rfl) (fun _ _ _ h => h) (Or.inl ⟨by rfl, fun w' _ => by go_simp⟩) hS ?_
          change wpAnyH _ _ _ _ _ _ _ (Act.put _ (some 25) _) _
          simp only [Act.put, List.setIfInBounds_toArray, List.set_cons_zero, List.set_cons_succ]
          refine wpAnyH_take (i := 4) (v := .pointer (some ⟨b, o + k * 4 + 1, none⟩)) rfl (by kernel_rfl) (by kernel_rfl) (by kernel_rfl) (fun _ _ _ h => h) (Or.inl ⟨by rfl, fun w' _ => by go_simp⟩) hS ?_
          change wpAnyH _ _ _ _ _ _ _ (Act.put _ (some 26) _) _
          simp only [Act.put, List.setIfInBounds_toArray, List.set_cons_zero, List.set_cons_succ]
          refine wpAnyH_take (i := 5) (v := .int .i8 x) rfl (by kernel_rfl) (by kernel_rfl) (by kernel_rfl) (fun _ _ _ h => h) (Or.inl ⟨by rfl, fun w' h => ?_⟩) hS ?_
          · have c0 := h.1
            clear h
            go_simp
          change wpAnyH _ _ _ _ _ _ _ (Act.put _ (some 27) _) _
          simp only [Act.put, List.setIfInBounds_toArray, List.set_cons_zero, List.set_cons_succ]
          refine wpAnyH_take (i := 8) (v := .slice (some ⟨b, o, none⟩) l.length c) rfl (by kernel_rfl) (by kernel_rfl) (by kernel_rfl) (fun _ _ _ h => h) (Or.inl ⟨by rfl, fun w' _ => by go_simp⟩) hS ?_
          change wpAnyH _ _ _ _ _ _ _ (Act.put _ (some 30) _) _
          simp only [Act.put, List.setIfInBounds_toArray, List.set_cons_zero, List.set_cons_succ]
          refine wpAnyH_take (i := 9) (v := .int .i64 k) rfl (by kernel_rfl) (by kernel_rfl) (by kernel_rfl) (fun _ _ _ h => h) (Or.inl ⟨by rfl, fun w' _ => by go_simp⟩) hS ?_
          change wpAnyH _ _ _ _ _ _ _ (Act.put _ (some 31) _) _
          simp only [Act.put, List.setIfInBounds_toArray, List.set_cons_zero, List.set_cons_succ]
          refine wpAnyH_take (i := 10) (v := .pointer (some ⟨b, o + k * 4, none⟩)) rfl (by kernel_rfl) (by kernel_rfl) (by kernel_rfl) (fun _ _ _ h => h) (Or.inl ⟨by rfl, fun w' _ => by go_simp⟩) hS ?_
          change wpAnyH _ _ _ _ _ _ _ (Act.put _ (some 32) _) _
          simp only [Act.put, List.setIfInBounds_toArray, List.set_cons_zero, List.set_cons_succ]
          refine wpAnyH_take (i := 11) (v := .pointer (some ⟨b, o + k * 4 + 2, none⟩)) rfl (by kernel_rfl) (by kernel_rfl) (by kernel_rfl) (fun _ _ _ h => h) (Or.inl ⟨by rfl, fun w' _ => by go_simp⟩) hS ?_
          change wpAnyH _ _ _ _ _ _ _ (Act.put _ (some 33) _) _
          simp only [Act.put, List.setIfInBounds_toArray, List.set_cons_zero, List.set_cons_succ]
          refine wpAnyH_take (i := 12) (v := .int .i8 y) rfl (by kernel_rfl) (by kernel_rfl) (by kernel_rfl) (fun _ _ _ h => h) (Or.inl ⟨by rfl, fun w' h => ?_⟩) hS ?_
          · have c0 := h.2.1
            clear h
            go_simp
          change wpAnyH _ _ _ _ _ _ _ (Act.put _ (some 34) _) _
          simp only [Act.put, List.setIfInBounds_toArray, List.set_cons_zero, List.set_cons_succ]
          refine wpAnyH_take (i := 16) (v := .slice (some ⟨b, o, none⟩) l.length c) rfl (by kernel_rfl) (by kernel_rfl) (by kernel_rfl) (fun _ _ _ h => h) (Or.inl ⟨by rfl, fun w' _ => by go_simp⟩) hS ?_
          change wpAnyH _ _ _ _ _ _ _ (Act.put _ (some 38) _) _
          simp only [Act.put, List.setIfInBounds_toArray, List.set_cons_zero, List.set_cons_succ]
          refine wpAnyH_take (i := 17) (v := .int .i64 k) rfl (by kernel_rfl) (by kernel_rfl) (by kernel_rfl) (fun _ _ _ h => h) (Or.inl ⟨by rfl, fun w' _ => by go_simp⟩) hS ?_
          change wpAnyH _ _ _ _ _ _ _ (Act.put _ (some 39) _) _
          simp only [Act.put, List.setIfInBounds_toArray, List.set_cons_zero, List.set_cons_succ]
          refine wpAnyH_take (i := 18) (v := .pointer (some ⟨b, o + k * 4, none⟩)) rfl (by kernel_rfl) (by kernel_rfl) (by kernel_rfl) (fun _ _ _ h => h) (Or.inl ⟨by rfl, fun w' _ => by go_simp⟩) hS ?_
          change wpAnyH _ _ _ _ _ _ _ (Act.put _ (some 40) _) _
          simp only [Act.put, List.setIfInBounds_toArray, List.set_cons_zero, List.set_cons_succ]
          refine wpAnyH_take (i := 19) (v := .pointer (some ⟨b, o + k * 4 + 3, none⟩)) rfl (by kernel_rfl) (by kernel_rfl) (by kernel_rfl) (fun _ _ _ h => h) (Or.inl ⟨by rfl, fun w' _ => by go_simp⟩) hS ?_
          change wpAnyH _ _ _ _ _ _ _ (Act.put _ (some 41) _) _
          simp only [Act.put, List.setIfInBounds_toArray, List.set_cons_zero, List.set_cons_succ]
          refine wpAnyH_take (i := 20) (v := .int .i8 z) rfl (by kernel_rfl) (by kernel_rfl) (by kernel_rfl) (fun _ _ _ h => h) (Or.inl ⟨by rfl, fun w' h => ?_⟩) hS ?_
          · have c0 := h.2.2
            clear h
            go_simp
          change wpAnyH _ _ _ _ _ _ _ (Act.put _ (some 42) _) _
          simp only [Act.put, List.setIfInBounds_toArray, List.set_cons_zero, List.set_cons_succ]
          refine wpAnyH_ready (rs := [6]) (by kernel_rfl) (by simp) (AllReadyH.cons rfl ?_ AllReadyH.nil)
          intro K hK
          rw [if_pos (by rfl)]
          go_simp
          refine (KX W1).mono ?_
          rintro e W2 ⟨rfl, hbc1⟩
          have b2 := step_below hbc1 b1
          refine hK.out _ _ ⟨(hbc1.cell (p := ⟨b, _, none⟩) (World.block_lt_of_cell? _ _ hS.1)).trans hS.1, (hbc1.cell (p := ⟨b, _, none⟩) (World.block_lt_of_cell? _ _ hS.2.1)).trans hS.2.1, (hbc1.cell (p := ⟨b, _, none⟩) (World.block_lt_of_cell? _ _ hS.2.2)).trans hS.2.2⟩ (fun hS1 => ?_)
          clear hK K
          try (change wpAnyH _ _ _ _ _ _ _ (Act.put _ (some 28) _) _)
          try simp only [Act.put, List.setIfInBounds_toArray, List.set_cons_zero, List.set_cons_succ]
          refine wpAnyH_take (i := 7) (v := .string (⟨(Lib.itoa x).toArray⟩ ++ ⟨#[47]⟩)) rfl (by kernel_rfl) (by kernel_rfl) (by kernel_rfl) (fun _ _ _ h => h) (Or.inl ⟨by rfl, fun w' _ => by go_simp; all_goals (first | omega | (simp; omega))⟩) hS1 ?_
          change wpAnyH _ _ _ _ _ _ _ (Act.put _ (some 29) _) _
          simp only [Act.put, List.setIfInBounds_toArray, List.set_cons_zero, List.set_cons_succ]
          refine wpAnyH_ready (rs := [13]) (by kernel_rfl) (by simp) (AllReadyH.cons rfl ?_ AllReadyH.nil)
          intro K hK
          rw [if_pos (by rfl)]
          go_simp
          refine (KY W2).mono ?_
          rintro e W3 ⟨rfl, hbc2⟩
          have b3 := step_below hbc2 b2
          refine hK.out _ _ ⟨(hbc2.cell (p := ⟨b, _, none⟩) (World.block_lt_of_cell? _ _ hS1.1)).trans hS1.1, (hbc2.cell (p := ⟨b, _, none⟩) (World.block_lt_of_cell? _ _ hS1.2.1)).trans hS1.2.1, (hbc2.cell (p := ⟨b, _, none⟩) (World.block_lt_of_cell? _ _ hS1.2.2)).trans hS1.2.2⟩ (fun hS2 => ?_)
          clear hK K
          try (change wpAnyH _ _ _ _ _ _ _ (Act.put _ (some 35) _) _)
          try simp only [Act.put, List.setIfInBounds_toArray, List.set_cons_zero, List.set_cons_succ]
          refine wpAnyH_take (i := 14) (v := .string (⟨(Lib.itoa x).toArray⟩ ++ ⟨#[47]⟩ ++ ⟨(Lib.itoa y).toArray⟩)) rfl (by kernel_rfl) (by kernel_rfl) (by kernel_rfl) (fun _ _ _ h => h) (Or.inl ⟨by rfl, fun w' _ => by go_simp; all_goals (first | omega | (simp; omega))⟩) hS2 ?_
          change wpAnyH _ _ _ _ _ _ _ (Act.put _ (some 36) _) _
          simp only [Act.put, List.setIfInBounds_toArray, List.set_cons_zero, List.set_cons_succ]
          refine wpAnyH_take (i := 15) (v := .string (⟨(Lib.itoa x).toArray⟩ ++ ⟨#[47]⟩ ++ ⟨(Lib.itoa y).toArray⟩ ++ ⟨#[47]⟩)) rfl (by kernel_rfl) (by kernel_rfl) (by kernel_rfl) (fun _ _ _ h => h) (Or.inl ⟨by rfl, fun w' _ => by go_simp; all_goals (first | omega | (simp; omega))⟩) hS2 ?_
          change wpAnyH _ _ _ _ _ _ _ (Act.put _ (some 37) _) _
          simp only [Act.put, List.setIfInBounds_toArray, List.set_cons_zero, List.set_cons_succ]
          refine wpAnyH_ready (rs := [21]) (by kernel_rfl) (by simp) (AllReadyH.cons rfl ?_ AllReadyH.nil)
          intro K hK
          rw [if_pos (by rfl)]
          go_simp
          refine (KZ W3).mono ?_
          rintro e W4 ⟨rfl, hbc3⟩
          have b4 := step_below hbc3 b3
          refine hK.out _ _ ⟨(hbc3.cell (p := ⟨b, _, none⟩) (World.block_lt_of_cell? _ _ hS2.1)).trans hS2.1, (hbc3.cell (p := ⟨b, _, none⟩) (World.block_lt_of_cell? _ _ hS2.2.1)).trans hS2.2.1, (hbc3.cell (p := ⟨b, _, none⟩) (World.block_lt_of_cell? _ _ hS2.2.2)).trans hS2.2.2⟩ (fun hS3 => ?_)
          clear hK K
          try (change wpAnyH _ _ _ _ _ _ _ (Act.put _ (some 43) _) _)
          try simp only [Act.put, List.setIfInBounds_toArray, List.set_cons_zero, List.set_cons_succ]
          refine wpAnyH_take (i := 22) (v := .string (⟨(Lib.itoa x).toArray⟩ ++ ⟨#[47]⟩ ++ ⟨(Lib.itoa y).toArray⟩ ++ ⟨#[47]⟩ ++ ⟨(Lib.itoa z).toArray⟩)) rfl (by kernel_rfl) (by kernel_rfl) (by kernel_rfl) (fun _ _ _ h => h) (Or.inl ⟨by rfl, fun w' _ => by go_simp; all_goals (first | omega | (simp; omega))⟩) hS3 ?_
          change wpAnyH _ _ _ _ _ _ _ (Act.put _ (some 44) _) _
          simp only [Act.put, List.setIfInBounds_toArray, List.set_cons_zero, List.set_cons_succ]
          refine wpAnyH_take (i := 23) (v := .string Z) rfl (by kernel_rfl) (by kernel_rfl) (by kernel_rfl) (fun _ _ _ h => h) (Or.inl ⟨by rfl, fun w' _ => by go_simp; rw [if_neg (by first | omega | (simp; omega)), HZ.out]⟩) hS3 ?_
          change wpAnyH _ _ _ _ _ _ _ (Act.put _ (some 45) _) _
          simp only [Act.put, List.setIfInBounds_toArray, List.set_cons_zero, List.set_cons_succ]
          refine wpAnyH_take (i := 24) (v := .string Z) rfl (by kernel_rfl) (by kernel_rfl) (by kernel_rfl) (fun _ _ _ h => h) (Or.inl ⟨by rfl, fun w' _ => by go_simp⟩) hS3 ?_
          change wpAnyH _ _ _ _ _ _ _ (Act.put _ (some 3) _) _
          simp only [Act.put, List.setIfInBounds_toArray, List.set_cons_zero, List.set_cons_succ]
          refine wpAnyH_done (by kernel_rfl) ?_ _
          go_wp2
          go_roundw
          case rel => exact ⟨k + 1, hlt, by go_num, by rw [HZ2.out], b4⟩
          case measure => simp [intOf]; omega
        · have hkk : ((k : Int) > 0) := by omega
          have H0 := hide h0
          clear h0
          have HZ := hide (hZ.out (O' ++ ⟨#[32]⟩) ⟨#[120]⟩ (by simp [H0.out]) rfl)
          have h120 : (⟨#[120]⟩ : ByteArray).size = 1 := rfl
          have h32 : (⟨#[32]⟩ : ByteArray).size = 1 := rfl
          clear hZ H0 KX KY KZ
          go_wp2_with fail
          all_goals go_roundw
          case rel => exact ⟨k + 1, hlt, by go_num, by rw [← HZ.out], hb⟩
          case measure => simp [intOf]; omega
    · obtain rfl : k = l.length := by omega
      go_wp2
      go_ret
      exact ⟨rfl, hb⟩
set_option maxRecDepth 20000 in
set_option maxHeartbeats 4000000 in
theorem specChoicesText_any (A : Option Addr) (c : Nat) (l : List Xc) (w : World) (hA : ChA w A l) (hn : l.length ≤ 1048576) (hwf : ChWF l) :
    Calls Tryd.prog 8 #[.slice A l.length c] w fun e w' => e = .returned (.string (xtV l)) ∧ Below w.heap.size w w' := by
  have KP := l07Choices_any A c l w hA hn hwf
  have kli : (l.length : Int) ≤ 1048576 := by omega
  cases hx : xsB l
  · have HV := hide (show xtV l = ⟨#[]⟩ by rw [xtV, if_neg (by rw [hx]; simp)])
    rw [hx] at KP
    clear hx
    go_enter Tryd.func8, Tryd.ntmps8
    go_wp2_with fail
    refine KP.mono ?_
    rintro e w1 ⟨rfl, hb1⟩
    go_wp2
    go_ret
    exact ⟨by rw [HV.out]; rfl, hb1⟩
  · rw [hx] at KP
    by_cases hl : l.length ≤ 120
    · have HV := hide (show xtV l = ⟨(txJ (xtC l) 32 l.length).toArray⟩ by rw [xtV, if_pos ⟨hl, hx⟩])
      have KT := fun W (hW : ChA W A l) => l07Text_any A c l W hW hl (xsB_get hx)
      have hli : ¬ (l.length : Int) > 120 := by omega
      clear hx
      go_enter Tryd.func8, Tryd.ntmps8
      go_wp2_with fail
      refine KP.mono ?_
      rintro e w1 ⟨rfl, hb1⟩
      go_wp2_with fail
      refine (KT w1 (hA.below hb1)).mono ?_
      rintro e w2 ⟨rfl, hb2⟩
      go_wp2
      go_ret
      exact ⟨by rw [HV.out]; rfl, step_below hb2 hb1⟩
    · have HV := hide (show xtV l = ⟨#[]⟩ by rw [xtV, if_neg (by omega)])
      have hli : (l.length : Int) > 120 := by omega
      clear hx
      go_enter Tryd.func8, Tryd.ntmps8
      go_wp2_with fail
      refine KP.mono ?_
      rintro e w1 ⟨rfl, hb1⟩
      go_wp2
      go_ret
      exact ⟨by rw [HV.out]; rfl, hb1⟩
end Go.Proofs.YtfkmippodmglnaaDoor
