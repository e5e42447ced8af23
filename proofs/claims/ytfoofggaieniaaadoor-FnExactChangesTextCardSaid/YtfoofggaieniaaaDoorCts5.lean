import Derived.Test.YtfoofggaieniaaaDoorCti
namespace Go.Proofs.YtfoofggaieniaaaDoor
open Go.RowKit
theorem join_snoc (xs : List (List UInt8)) (x : List UInt8) (h : xs ≠ []) : Lib.join (xs ++ [x]) [32] = Lib.join xs [32] ++ 32 :: x := by
  cases xs with
  | nil => exact absurd rfl h
  | cons y r => simp [Lib.join_cons, Lib.joinTail]
theorem csJ_succ (l : List (Int × Int × Bool)) (k : Nat) : csJ l (k + 1) = csJ l k ++ ((if k = 0 then [] else [32]) ++ (csX l k).data.toList) := by
  by_cases hk : k = 0
  · subst hk
    simp [csJ, csP, Lib.join_one, Lib.join_nil]
  · rw [if_neg hk]
    have h : (csP l k).map (·.data.toList) ≠ [] := fun h => hk (by simpa [csP] using h)
    simp only [csJ, csP_succ, List.map_append, List.map_cons, List.map_nil, join_snoc _ _ h]
    rfl
set_option maxRecDepth 20000 in
set_option maxHeartbeats 4000000 in
theorem l05Plain_any (A : Option Addr) (c : Nat) (l : List (Int × Int × Bool)) (w : World) (hA : CgA w A l) (hn : l.length ≤ 1048576) (hwf : CgWF l) :
    Calls Tryd.prog 9 #[.slice A l.length c] w fun e w' => e = .returned (.bool (decide (l.length ≤ 2400 ∧ csA l = true))) ∧ Below w.heap.size w w' := by
  go_enter Tryd.func9, Tryd.ntmps9
  go_wp2_with fail
  go_loopw [3] (fun i wr => ∃ k : Nat, k ≤ l.length ∧ i = .int .i64 k ∧ (∀ j, j < k → cxB (cgS l j) (cgT l j) = true) ∧ wr = w)
    (fun i _ => l.length - (intOf i).toNat)
  case atStart => exact ⟨0, Nat.zero_le _, rfl, fun j hj => absurd hj (Nat.not_lt_zero _), rfl⟩
  case round =>
    obtain ⟨k, hk, rfl, hG, rfl⟩ := hrel
    by_cases hlt : k < l.length
    · obtain ⟨b, o, rfl, hbb, c1, c2, c3⟩ := hA k hlt
      obtain ⟨wS, wT⟩ := hwf k hlt
      have hki : (k : Int) < (l.length : Int) := by omega
      have HG := hide hG
      have HN := hide (csA_no hlt)
      have HY := hide (show cxB (cgS l k) (cgT l k) = true → ∀ j, j < k + 1 → cxB (cgS l j) (cgT l j) = true from fun h j hj => by
        rcases Nat.lt_succ_iff_lt_or_eq.1 hj with h' | rfl
        · exact HG.out j h'
        · exact h)
      clear hG c3
      obtain ⟨x, hx⟩ : ∃ x, cgS l k = x := ⟨_, rfl⟩
      obtain ⟨y, hy⟩ : ∃ y, cgT l k = y := ⟨_, rfl⟩
      rw [hx] at c1 wS HN HY
      rw [hy] at c2 wT HN HY
      clear hx hy
      have wa : IntKind.i64.wrap x = x := IntWalk.i64_in _ (by omega)
      have wp : IntKind.i64.wrap y = y := IntWalk.i64_in _ (by omega)
      cases h1 : inB x 0 95
      · have K1 : ∀ W, Calls Tryd.prog 16 #[.int .i64 x, .int .i64 0, .int .i64 95] W fun e w' => e = .returned (.bool false) ∧ W = w' := fun W => by rw [← h1]; exact l00In_any x 0 95 W
        have HV := hide (show decide (l.length ≤ 2400 ∧ csA l = true) = false by simp [HN.out (by simp [cxB, h1])])
        clear h1
        go_wp2_with (go_at_call 16; with_reducible refine (K1 _).mono ?_; rintro e w' ⟨rfl, rfl⟩)
        go_ret
        exact ⟨by rw [HV.out]; rfl, Below.refl _ _⟩
      · have K1 : ∀ W, Calls Tryd.prog 16 #[.int .i64 x, .int .i64 0, .int .i64 95] W fun e w' => e = .returned (.bool true) ∧ W = w' := fun W => by rw [← h1]; exact l00In_any x 0 95 W
        cases h2 : inB y 0 23
        · have K2 : ∀ W, Calls Tryd.prog 16 #[.int .i64 y, .int .i64 0, .int .i64 23] W fun e w' => e = .returned (.bool false) ∧ W = w' := fun W => by rw [← h2]; exact l00In_any y 0 23 W
          have HV := hide (show decide (l.length ≤ 2400 ∧ csA l = true) = false by simp [HN.out (by simp [cxB, h2])])
          clear h1 h2
          go_wp2_with (first | (go_at_call 16; with_reducible refine (K1 _).mono ?_; rintro e w' ⟨rfl, rfl⟩) | (go_at_call 16; with_reducible refine (K2 _).mono ?_; rintro e w' ⟨rfl, rfl⟩))
          go_ret
          exact ⟨by rw [HV.out]; rfl, Below.refl _ _⟩
        · have K2 : ∀ W, Calls Tryd.prog 16 #[.int .i64 y, .int .i64 0, .int .i64 23] W fun e w' => e = .returned (.bool true) ∧ W = w' := fun W => by rw [← h2]; exact l00In_any y 0 23 W
          have HV := hide (HY.out (by simp [cxB, h1, h2]))
          clear h1 h2
          go_wp2_with (first | (go_at_call 16; with_reducible refine (K1 _).mono ?_; rintro e w' ⟨rfl, rfl⟩) | (go_at_call 16; with_reducible refine (K2 _).mono ?_; rintro e w' ⟨rfl, rfl⟩))
          go_roundw
          case rel => exact ⟨k + 1, hlt, by go_num, HV.out, trivial⟩
          case measure => simp [intOf]; omega
    · obtain rfl : k = l.length := by omega
      have hcs := csA_all hG
      have HV := hide (show decide (l.length ≤ 2400 ∧ csA l = true) = decide ((l.length : Int) ≤ 2400) by rw [hcs]; simp; omega)
      clear hG hcs
      go_wp2
      all_goals go_ret
      all_goals exact ⟨by rw [HV.out]; rfl, Below.refl _ _⟩
set_option maxRecDepth 20000 in
set_option maxHeartbeats 4000000 in
theorem l05Text_any (A : Option Addr) (c : Nat) (l : List (Int × Int × Bool)) (w : World) (hA : CgA w A l) (hl : l.length ≤ 2400) (hG : ∀ j, j < l.length → cxB (cgS l j) (cgT l j) = true) :
    Calls Tryd.prog 10 #[.slice A l.length c] w fun e w' => e = .returned (.string ⟨(csJ l l.length).toArray⟩) ∧ Below w.heap.size w w' := by
  have HJ := hide (csJ_succ l)
  have HL := hide (csJ_lt l)
  go_enter Tryd.func10, Tryd.ntmps10
  go_wp2_with fail
  go_loopw [3, 4] (fun v i wr => ∃ k : Nat, k ≤ l.length ∧ i = .int .i64 k ∧ v = .string ⟨(csJ l k).toArray⟩ ∧ Below w.heap.size w wr)
    (fun _ i _ => l.length - (intOf i).toNat)
  case atStart => exact ⟨0, Nat.zero_le _, rfl, rfl, Below.refl _ _⟩
  case round =>
    obtain ⟨k, hk, rfl, rfl, hb⟩ := hrel
    by_cases hlt : k < l.length
    · obtain ⟨b, o, rfl, hbb, c1, c2, c3⟩ := hA k hlt
      have d1 := (hb.cell (p := ⟨b, o + k * 3, none⟩) hbb).trans c1
      have d2 := (hb.cell (p := ⟨b, o + k * 3 + 1, none⟩) hbb).trans c2
      have d3 := (hb.cell (p := ⟨b, o + k * 3 + 2, none⟩) hbb).trans c3
      have hki : (k : Int) < (l.length : Int) := by omega
      have hin := cxB_in (hG k hlt)
      have hX : csX l k = ⟨(cxL (cgS l k).toNat (cgT l k).toNat (cgP l k)).toArray⟩ := rfl
      have hOl : (csJ l k).length ≤ 16800 := HL.out k (by omega) (fun j hj => hG j (by omega))
      obtain ⟨x, hx⟩ : ∃ x, cgS l k = x := ⟨_, rfl⟩
      obtain ⟨y, hy⟩ : ∃ y, cgT l k = y := ⟨_, rfl⟩
      obtain ⟨q, hq⟩ : ∃ q, cgP l k = q := ⟨_, rfl⟩
      rw [hx] at d1 hin hX
      rw [hy] at d2 hin hX
      rw [hq] at d3 hX
      obtain ⟨⟨i1, i2⟩, i3, i4⟩ := hin
      obtain ⟨xn, rfl⟩ := Int.eq_ofNat_of_zero_le i1
      obtain ⟨yn, rfl⟩ := Int.eq_ofNat_of_zero_le i3
      have KA := fun W => Decimal_any xn W (by omega)
      have KP := fun W => Decimal_any yn W (by omega)
      have l1 := dec_len2 (show xn < 100 by omega)
      have l2 := dec_len2 (show yn < 100 by omega)
      have wa : IntKind.i64.wrap (xn : Int) = xn := IntWalk.i64_in _ (by omega)
      have wp : IntKind.i64.wrap (yn : Int) = yn := IntWalk.i64_in _ (by omega)
      have hS1 := HJ.out k
      rw [hX] at hS1
      obtain ⟨L, hL⟩ : ∃ L, L = csJ l k := ⟨_, rfl⟩
      rw [← hL] at hS1 hOl ⊢
      obtain ⟨O, hO⟩ : ∃ O : ByteArray, O = ⟨L.toArray⟩ := ⟨_, rfl⟩
      have hOs : O.size ≤ 16800 := by rw [hO]; simpa [ByteArray.size] using hOl
      rw [← hO]
      have hZ : ∀ (s : ByteArray), s = (if k = 0 then O else O ++ ⟨#[32]⟩) → s ++ ⟨#[if q then 43 else 45]⟩ ++ (⟨(Lib.decDigits xn).toArray⟩ ++ ⟨#[47]⟩ ++ ⟨(Lib.decDigits yn).toArray⟩) = ⟨(csJ l (k + 1)).toArray⟩ := by
        intro s hs
        rw [hs, hS1, hO]
        apply ByteArray.ext
        by_cases h0 : k = 0
        · simp [h0, cxL, ByteArray.data_append]
        · simp [h0, cxL, ByteArray.data_append]
      have hZ := hide hZ
      clear hX hx hy hq hS1 c1 c2 c3 hO hL hOl
      by_cases h0 : k = 0
      · cases q
        · have hkk : ¬ ((k : Int) > 0) := by omega
          have H0 := hide h0
          clear h0
          go_upto_region 10 with fail
          obtain ⟨O2, hO2⟩ : ∃ X : ByteArray, X = O ++ ⟨#[45]⟩ := ⟨_, rfl⟩
          have HZ := hide (show O2 ++ (⟨(Lib.decDigits xn).toArray⟩ ++ ⟨#[47]⟩ ++ ⟨(Lib.decDigits yn).toArray⟩) = ⟨(csJ l (k + 1)).toArray⟩ by rw [hO2]; exact hZ.out (O) (by simp [H0.out]))
          have hO2s : O2.size ≤ 16802 := by rw [hO2]; simp [ByteArray.size_append]; have : (⟨#[45]⟩ : ByteArray).size = 1 := rfl; have : (⟨#[32]⟩ : ByteArray).size = 1 := rfl; omega
          rw [← hO2]
          obtain ⟨Z, hZ2⟩ : ∃ Z : ByteArray, Z = ⟨(csJ l (k + 1)).toArray⟩ := ⟨_, rfl⟩
          rw [← hZ2] at HZ
          have HZ2 := hide hZ2
          clear hO2 hZ2 hZ d3 H0 hkk
          have b1 : Below w.heap.size w wr.drew := hb.drew
          refine wp_region_held_drew (S := fun Y => Y.cell? ⟨b, o + k * 3, none⟩ = some (.int .i16 xn) ∧ Y.cell? ⟨b, o + k * 3 + 1, none⟩ = some (.int .i8 yn)) (by kernel_rfl) ⟨d1, d2⟩ fun hS => ?_
          clear d1 d2
          generalize wr.drew = W1 at *
          refine wpAnyH_take (i := 0) (v := .string O2) rfl (by kernel_rfl) (by kernel_rfl) (by kernel_rfl) (fun _ _ _ h => h) (Or.inl ⟨by rfl, fun w' _ => by go_simp⟩) hS ?_
          change wpAnyH _ _ _ _ _ _ _ (Act.put _ (some 24) _) _
          simp only [Act.put, List.setIfInBounds_toArray, List.set_cons_zero, List.set_cons_succ]
          refine wpAnyH_take (i := 1) (v := .slice (some ⟨b, o, none⟩) l.length c) rfl (by kernel_rfl) (by kernel_rfl) (by kernel_rfl) (fun _ _ _ h => h) (Or.inl ⟨by rfl, fun w' _ => by go_simp⟩) hS ?_
          change wpAnyH _ _ _ _ _ _ _ (Act.put _ (some 25) _) _
          simp only [Act.put, List.setIfInBounds_toArray, List.set_cons_zero, List.set_cons_succ]
          refine wpAnyH_take (i := 2) (v := .int .i64 k) rfl (by kernel_rfl) (by kernel_rfl) (by kernel_rfl) (fun _ _ _ h => h) (Or.inl ⟨by rfl, fun w' _ => by go_simp⟩) hS ?_
          change wpAnyH _ _ _ _ _ _ _ (Act.put _ (some 26) _) _
          simp only [Act.put, List.setIfInBounds_toArray, List.set_cons_zero, List.set_cons_succ]
          refine wpAnyH_take (i := 3) (v := .pointer (some ⟨b, o + k * 3, none⟩)) rfl (by kernel_rfl) (by kernel_rfl) (by kernel_rfl) (fun _ _ _ h => h) (Or.inl ⟨by rfl, fun w' _ => by go_simp⟩) hS ?_
          change wpAnyH _ _ _ _ _ _ _ (Act.put _ (some 27) _) _
          simp only [Act.put, List.setIfInBounds_toArray, List.set_cons_zero, List.set_cons_succ]
          refine wpAnyH_take (i := 4) (v := .pointer (some ⟨b, o + k * 3, none⟩)) rfl (by kernel_rfl) (by kernel_rfl) (by kernel_rfl) (fun _ _ _ h => h) (Or.inl ⟨by rfl, fun w' _ => by go_simp⟩) hS ?_
          change wpAnyH _ _ _ _ _ _ _ (Act.put _ (some 28) _) _
          simp only [Act.put, List.setIfInBounds_toArray, List.set_cons_zero, List.set_cons_succ]
          refine wpAnyH_take (i := 5) (v := .int .i16 xn) rfl (by kernel_rfl) (by kernel_rfl) (by kernel_rfl) (fun _ _ _ h => h) (Or.inl ⟨by rfl, fun w' h => ?_⟩) hS ?_
          · have c0 := h.1
            clear h
            go_simp
          change wpAnyH _ _ _ _ _ _ _ (Act.put _ (some 29) _) _
          simp only [Act.put, List.setIfInBounds_toArray, List.set_cons_zero, List.set_cons_succ]
          refine wpAnyH_take (i := 6) (v := .int .i64 xn) rfl (by kernel_rfl) (by kernel_rfl) (by kernel_rfl) (fun _ _ _ h => h) (Or.inl ⟨by rfl, fun w' _ => by go_simp⟩) hS ?_
          change wpAnyH _ _ _ _ _ _ _ (Act.put _ (some 30) _) _
          simp only [Act.put, List.setIfInBounds_toArray, List.set_cons_zero, List.set_cons_succ]
          refine wpAnyH_take (i := 9) (v := .slice (some ⟨b, o, none⟩) l.length c) rfl (by kernel_rfl) (by kernel_rfl) (by kernel_rfl) (fun _ _ _ h => h) (Or.inl ⟨by rfl, fun w' _ => by go_simp⟩) hS ?_
          change wpAnyH _ _ _ _ _ _ _ (Act.put _ (some 33) _) _
          simp only [Act.put, List.setIfInBounds_toArray, List.set_cons_zero, List.set_cons_succ]
          refine wpAnyH_take (i := 10) (v := .int .i64 k) rfl (by kernel_rfl) (by kernel_rfl) (by kernel_rfl) (fun _ _ _ h => h) (Or.inl ⟨by rfl, fun w' _ => by go_simp⟩) hS ?_
          change wpAnyH _ _ _ _ _ _ _ (Act.put _ (some 34) _) _
          simp only [Act.put, List.setIfInBounds_toArray, List.set_cons_zero, List.set_cons_succ]
          refine wpAnyH_take (i := 11) (v := .pointer (some ⟨b, o + k * 3, none⟩)) rfl (by kernel_rfl) (by kernel_rfl) (by kernel_rfl) (fun _ _ _ h => h) (Or.inl ⟨by rfl, fun w' _ => by go_simp⟩) hS ?_
          change wpAnyH _ _ _ _ _ _ _ (Act.put _ (some 35) _) _
          simp only [Act.put, List.setIfInBounds_toArray, List.set_cons_zero, List.set_cons_succ]
          refine wpAnyH_take (i := 12) (v := .pointer (some ⟨b, o + k * 3 + 1, none⟩)) rfl (by kernel_rfl) (by kernel_rfl) (by kernel_rfl) (fun _ _ _ h => h) (Or.inl ⟨by rfl, fun w' _ => by go_simp⟩) hS ?_
          change wpAnyH _ _ _ _ _ _ _ (Act.put _ (some 36) _) _
          simp only [Act.put, List.setIfInBounds_toArray, List.set_cons_zero, List.set_cons_succ]
          refine wpAnyH_take (i := 13) (v := .int .i8 yn) rfl (by kernel_rfl) (by kernel_rfl) (by kernel_rfl) (fun _ _ _ h => h) (Or.inl ⟨by rfl, fun w' h => ?_⟩) hS ?_
          · have c0 := h.2
            clear h
            go_simp
          change wpAnyH _ _ _ _ _ _ _ (Act.put _ (some 37) _) _
          simp only [Act.put, List.setIfInBounds_toArray, List.set_cons_zero, List.set_cons_succ]
          refine wpAnyH_take (i := 14) (v := .int .i64 yn) rfl (by kernel_rfl) (by kernel_rfl) (by kernel_rfl) (fun _ _ _ h => h) (Or.inl ⟨by rfl, fun w' _ => by go_simp⟩) hS ?_
          change wpAnyH _ _ _ _ _ _ _ (Act.put _ (some 38) _) _
          simp only [Act.put, List.setIfInBounds_toArray, List.set_cons_zero, List.set_cons_succ]
          refine wpAnyH_ready (rs := [7]) (by kernel_rfl) (by simp) (AllReadyH.cons rfl ?_ AllReadyH.nil)
          intro K hK
          rw [if_pos (by rfl)]
          go_simp
          refine (KA W1).mono ?_
          rintro e W2 ⟨rfl, hbc1⟩
          have b2 := step_below hbc1 b1
          refine hK.out _ _ ⟨(hbc1.cell (p := ⟨b, _, none⟩) (World.block_lt_of_cell? _ _ hS.1)).trans hS.1, (hbc1.cell (p := ⟨b, _, none⟩) (World.block_lt_of_cell? _ _ hS.2)).trans hS.2⟩ (fun hS1 => ?_)
          clear hK K
          try (change wpAnyH _ _ _ _ _ _ _ (Act.put _ (some 31) _) _)
          try simp only [Act.put, List.setIfInBounds_toArray, List.set_cons_zero, List.set_cons_succ]
          refine wpAnyH_take (i := 8) (v := .string (⟨(Lib.decDigits xn).toArray⟩ ++ ⟨#[47]⟩)) rfl (by kernel_rfl) (by kernel_rfl) (by kernel_rfl) (fun _ _ _ h => h) (Or.inl ⟨by rfl, fun w' _ => by go_simp; omega⟩) hS1 ?_
          change wpAnyH _ _ _ _ _ _ _ (Act.put _ (some 32) _) _
          simp only [Act.put, List.setIfInBounds_toArray, List.set_cons_zero, List.set_cons_succ]
          refine wpAnyH_ready (rs := [15]) (by kernel_rfl) (by simp) (AllReadyH.cons rfl ?_ AllReadyH.nil)
          intro K hK
          rw [if_pos (by rfl)]
          go_simp
          refine (KP W2).mono ?_
          rintro e W3 ⟨rfl, hbc2⟩
          have b3 := step_below hbc2 b2
          refine hK.out _ _ ⟨(hbc2.cell (p := ⟨b, _, none⟩) (World.block_lt_of_cell? _ _ hS1.1)).trans hS1.1, (hbc2.cell (p := ⟨b, _, none⟩) (World.block_lt_of_cell? _ _ hS1.2)).trans hS1.2⟩ (fun hS2 => ?_)
          clear hK K
          try (change wpAnyH _ _ _ _ _ _ _ (Act.put _ (some 39) _) _)
          try simp only [Act.put, List.setIfInBounds_toArray, List.set_cons_zero, List.set_cons_succ]
          refine wpAnyH_take (i := 16) (v := .string (⟨(Lib.decDigits xn).toArray⟩ ++ ⟨#[47]⟩ ++ ⟨(Lib.decDigits yn).toArray⟩)) rfl (by kernel_rfl) (by kernel_rfl) (by kernel_rfl) (fun _ _ _ h => h) (Or.inl ⟨by rfl, fun w' _ => by go_simp; all_goals (first | omega | (simp; omega))⟩) hS2 ?_
          change wpAnyH _ _ _ _ _ _ _ (Act.put _ (some 40) _) _
          simp only [Act.put, List.setIfInBounds_toArray, List.set_cons_zero, List.set_cons_succ]
          refine wpAnyH_take (i := 17) (v := .string Z) rfl (by kernel_rfl) (by kernel_rfl) (by kernel_rfl) (fun _ _ _ h => h) (Or.inl ⟨by rfl, fun w' _ => by go_simp; rw [if_neg (by omega), HZ.out]⟩) hS2 ?_
          change wpAnyH _ _ _ _ _ _ _ (Act.put _ (some 41) _) _
          simp only [Act.put, List.setIfInBounds_toArray, List.set_cons_zero, List.set_cons_succ]
          refine wpAnyH_take (i := 18) (v := .string Z) rfl (by kernel_rfl) (by kernel_rfl) (by kernel_rfl) (fun _ _ _ h => h) (Or.inl ⟨by rfl, fun w' _ => by go_simp⟩) hS2 ?_
          change wpAnyH _ _ _ _ _ _ _ (Act.put _ (some 3) _) _
          simp only [Act.put, List.setIfInBounds_toArray, List.set_cons_zero, List.set_cons_succ]
          refine wpAnyH_done (by kernel_rfl) ?_ _
          go_wp2
          go_roundw
          case rel => exact ⟨k + 1, hlt, by go_num, by rw [HZ2.out], b3⟩
          case measure => simp [intOf]; omega
        · have hkk : ¬ ((k : Int) > 0) := by omega
          have H0 := hide h0
          clear h0
          go_upto_region 10 with fail
          obtain ⟨O2, hO2⟩ : ∃ X : ByteArray, X = O ++ ⟨#[43]⟩ := ⟨_, rfl⟩
          have HZ := hide (show O2 ++ (⟨(Lib.decDigits xn).toArray⟩ ++ ⟨#[47]⟩ ++ ⟨(Lib.decDigits yn).toArray⟩) = ⟨(csJ l (k + 1)).toArray⟩ by rw [hO2]; exact hZ.out (O) (by simp [H0.out]))
          have hO2s : O2.size ≤ 16802 := by rw [hO2]; simp [ByteArray.size_append]; have : (⟨#[43]⟩ : ByteArray).size = 1 := rfl; have : (⟨#[32]⟩ : ByteArray).size = 1 := rfl; omega
          rw [← hO2]
          obtain ⟨Z, hZ2⟩ : ∃ Z : ByteArray, Z = ⟨(csJ l (k + 1)).toArray⟩ := ⟨_, rfl⟩
          rw [← hZ2] at HZ
          have HZ2 := hide hZ2
          clear hO2 hZ2 hZ d3 H0 hkk
          have b1 : Below w.heap.size w wr.drew := hb.drew
          refine wp_region_held_drew (S := fun Y => Y.cell? ⟨b, o + k * 3, none⟩ = some (.int .i16 xn) ∧ Y.cell? ⟨b, o + k * 3 + 1, none⟩ = some (.int .i8 yn)) (by kernel_rfl) ⟨d1, d2⟩ fun hS => ?_
          clear d1 d2
          generalize wr.drew = W1 at *
          refine wpAnyH_take (i := 0) (v := .string O2) rfl (by kernel_rfl) (by kernel_rfl) (by kernel_rfl) (fun _ _ _ h => h) (Or.inl ⟨by rfl, fun w' _ => by go_simp⟩) hS ?_
          change wpAnyH _ _ _ _ _ _ _ (Act.put _ (some 24) _) _
          simp only [Act.put, List.setIfInBounds_toArray, List.set_cons_zero, List.set_cons_succ]
          refine wpAnyH_take (i := 1) (v := .slice (some ⟨b, o, none⟩) l.length c) rfl (by kernel_rfl) (by kernel_rfl) (by kernel_rfl) (fun _ _ _ h => h) (Or.inl ⟨by rfl, fun w' _ => by go_simp⟩) hS ?_
          change wpAnyH _ _ _ _ _ _ _ (Act.put _ (some 25) _) _
          simp only [Act.put, List.setIfInBounds_toArray, List.set_cons_zero, List.set_cons_succ]
          refine wpAnyH_take (i := 2) (v := .int .i64 k) rfl (by kernel_rfl) (by kernel_rfl) (by kernel_rfl) (fun _ _ _ h => h) (Or.inl ⟨by rfl, fun w' _ => by go_simp⟩) hS ?_
          change wpAnyH _ _ _ _ _ _ _ (Act.put _ (some 26) _) _
          simp only [Act.put, List.setIfInBounds_toArray, List.set_cons_zero, List.set_cons_succ]
          refine wpAnyH_take (i := 3) (v := .pointer (some ⟨b, o + k * 3, none⟩)) rfl (by kernel_rfl) (by kernel_rfl) (by kernel_rfl) (fun _ _ _ h => h) (Or.inl ⟨by rfl, fun w' _ => by go_simp⟩) hS ?_
          change wpAnyH _ _ _ _ _ _ _ (Act.put _ (some 27) _) _
          simp only [Act.put, List.setIfInBounds_toArray, List.set_cons_zero, List.set_cons_succ]
          refine wpAnyH_take (i := 4) (v := .pointer (some ⟨b, o + k * 3, none⟩)) rfl (by kernel_rfl) (by kernel_rfl) (by kernel_rfl) (fun _ _ _ h => h) (Or.inl ⟨by rfl, fun w' _ => by go_simp⟩) hS ?_
          change wpAnyH _ _ _ _ _ _ _ (Act.put _ (some 28) _) _
          simp only [Act.put, List.setIfInBounds_toArray, List.set_cons_zero, List.set_cons_succ]
          refine wpAnyH_take (i := 5) (v := .int .i16 xn) rfl (by kernel_rfl) (by kernel_rfl) (by kernel_rfl) (fun _ _ _ h => h) (Or.inl ⟨by rfl, fun w' h => ?_⟩) hS ?_
          · have c0 := h.1
            clear h
            go_simp
          change wpAnyH _ _ _ _ _ _ _ (Act.put _ (some 29) _) _
          simp only [Act.put, List.setIfInBounds_toArray, List.set_cons_zero, List.set_cons_succ]
          refine wpAnyH_take (i := 6) (v := .int .i64 xn) rfl (by kernel_rfl) (by kernel_rfl) (by kernel_rfl) (fun _ _ _ h => h) (Or.inl ⟨by rfl, fun w' _ => by go_simp⟩) hS ?_
          change wpAnyH _ _ _ _ _ _ _ (Act.put _ (some 30) _) _
          simp only [Act.put, List.setIfInBounds_toArray, List.set_cons_zero, List.set_cons_succ]
          refine wpAnyH_take (i := 9) (v := .slice (some ⟨b, o, none⟩) l.length c) rfl (by kernel_rfl) (by kernel_rfl) (by kernel_rfl) (fun _ _ _ h => h) (Or.inl ⟨by rfl, fun w' _ => by go_simp⟩) hS ?_
          change wpAnyH _ _ _ _ _ _ _ (Act.put _ (some 33) _) _
          simp only [Act.put, List.setIfInBounds_toArray, List.set_cons_zero, List.set_cons_succ]
          refine wpAnyH_take (i := 10) (v := .int .i64 k) rfl (by kernel_rfl) (by kernel_rfl) (by kernel_rfl) (fun _ _ _ h => h) (Or.inl ⟨by rfl, fun w' _ => by go_simp⟩) hS ?_
          change wpAnyH _ _ _ _ _ _ _ (Act.put _ (some 34) _) _
          simp only [Act.put, List.setIfInBounds_toArray, List.set_cons_zero, List.set_cons_succ]
          refine wpAnyH_take (i := 11) (v := .pointer (some ⟨b, o + k * 3, none⟩)) rfl (by kernel_rfl) (by kernel_rfl) (by kernel_rfl) (fun _ _ _ h => h) (Or.inl ⟨by rfl, fun w' _ => by go_simp⟩) hS ?_
          change wpAnyH _ _ _ _ _ _ _ (Act.put _ (some 35) _) _
          simp only [Act.put, List.setIfInBounds_toArray, List.set_cons_zero, List.set_cons_succ]
          refine wpAnyH_take (i := 12) (v := .pointer (some ⟨b, o + k * 3 + 1, none⟩)) rfl (by kernel_rfl) (by kernel_rfl) (by kernel_rfl) (fun _ _ _ h => h) (Or.inl ⟨by rfl, fun w' _ => by go_simp⟩) hS ?_
          change wpAnyH _ _ _ _ _ _ _ (Act.put _ (some 36) _) _
          simp only [Act.put, List.setIfInBounds_toArray, List.set_cons_zero, List.set_cons_succ]
          refine wpAnyH_take (i := 13) (v := .int .i8 yn) rfl (by kernel_rfl) (by kernel_rfl) (by kernel_rfl) (fun _ _ _ h => h) (Or.inl ⟨by rfl, fun w' h => ?_⟩) hS ?_
          · have c0 := h.2
            clear h
            go_simp
          change wpAnyH _ _ _ _ _ _ _ (Act.put _ (some 37) _) _
          simp only [Act.put, List.setIfInBounds_toArray, List.set_cons_zero, List.set_cons_succ]
          refine wpAnyH_take (i := 14) (v := .int .i64 yn) rfl (by kernel_rfl) (by kernel_rfl) (by kernel_rfl) (fun _ _ _ h => h) (Or.inl ⟨by rfl, fun w' _ => by go_simp⟩) hS ?_
          change wpAnyH _ _ _ _ _ _ _ (Act.put _ (some 38) _) _
          simp only [Act.put, List.setIfInBounds_toArray, List.set_cons_zero, List.set_cons_succ]
          refine wpAnyH_ready (rs := [7]) (by kernel_rfl) (by simp) (AllReadyH.cons rfl ?_ AllReadyH.nil)
          intro K hK
          rw [if_pos (by rfl)]
          go_simp
          refine (KA W1).mono ?_
          rintro e W2 ⟨rfl, hbc1⟩
          have b2 := step_below hbc1 b1
          refine hK.out _ _ ⟨(hbc1.cell (p := ⟨b, _, none⟩) (World.block_lt_of_cell? _ _ hS.1)).trans hS.1, (hbc1.cell (p := ⟨b, _, none⟩) (World.block_lt_of_cell? _ _ hS.2)).trans hS.2⟩ (fun hS1 => ?_)
          clear hK K
          try (change wpAnyH _ _ _ _ _ _ _ (Act.put _ (some 31) _) _)
          try simp only [Act.put, List.setIfInBounds_toArray, List.set_cons_zero, List.set_cons_succ]
          refine wpAnyH_take (i := 8) (v := .string (⟨(Lib.decDigits xn).toArray⟩ ++ ⟨#[47]⟩)) rfl (by kernel_rfl) (by kernel_rfl) (by kernel_rfl) (fun _ _ _ h => h) (Or.inl ⟨by rfl, fun w' _ => by go_simp; omega⟩) hS1 ?_
          change wpAnyH _ _ _ _ _ _ _ (Act.put _ (some 32) _) _
          simp only [Act.put, List.setIfInBounds_toArray, List.set_cons_zero, List.set_cons_succ]
          refine wpAnyH_ready (rs := [15]) (by kernel_rfl) (by simp) (AllReadyH.cons rfl ?_ AllReadyH.nil)
          intro K hK
          rw [if_pos (by rfl)]
          go_simp
          refine (KP W2).mono ?_
          rintro e W3 ⟨rfl, hbc2⟩
          have b3 := step_below hbc2 b2
          refine hK.out _ _ ⟨(hbc2.cell (p := ⟨b, _, none⟩) (World.block_lt_of_cell? _ _ hS1.1)).trans hS1.1, (hbc2.cell (p := ⟨b, _, none⟩) (World.block_lt_of_cell? _ _ hS1.2)).trans hS1.2⟩ (fun hS2 => ?_)
          clear hK K
          try (change wpAnyH _ _ _ _ _ _ _ (Act.put _ (some 39) _) _)
          try simp only [Act.put, List.setIfInBounds_toArray, List.set_cons_zero, List.set_cons_succ]
          refine wpAnyH_take (i := 16) (v := .string (⟨(Lib.decDigits xn).toArray⟩ ++ ⟨#[47]⟩ ++ ⟨(Lib.decDigits yn).toArray⟩)) rfl (by kernel_rfl) (by kernel_rfl) (by kernel_rfl) (fun _ _ _ h => h) (Or.inl ⟨by rfl, fun w' _ => by go_simp; all_goals (first | omega | (simp; omega))⟩) hS2 ?_
          change wpAnyH _ _ _ _ _ _ _ (Act.put _ (some 40) _) _
          simp only [Act.put, List.setIfInBounds_toArray, List.set_cons_zero, List.set_cons_succ]
          refine wpAnyH_take (i := 17) (v := .string Z) rfl (by kernel_rfl) (by kernel_rfl) (by kernel_rfl) (fun _ _ _ h => h) (Or.inl ⟨by rfl, fun w' _ => by go_simp; rw [if_neg (by omega), HZ.out]⟩) hS2 ?_
          change wpAnyH _ _ _ _ _ _ _ (Act.put _ (some 41) _) _
          simp only [Act.put, List.setIfInBounds_toArray, List.set_cons_zero, List.set_cons_succ]
          refine wpAnyH_take (i := 18) (v := .string Z) rfl (by kernel_rfl) (by kernel_rfl) (by kernel_rfl) (fun _ _ _ h => h) (Or.inl ⟨by rfl, fun w' _ => by go_simp⟩) hS2 ?_
          change wpAnyH _ _ _ _ _ _ _ (Act.put _ (some 3) _) _
          simp only [Act.put, List.setIfInBounds_toArray, List.set_cons_zero, List.set_cons_succ]
          refine wpAnyH_done (by kernel_rfl) ?_ _
          go_wp2
          go_roundw
          case rel => exact ⟨k + 1, hlt, by go_num, by rw [HZ2.out], b3⟩
          case measure => simp [intOf]; omega
      · cases q
        · have hkk : ((k : Int) > 0) := by omega
          have H0 := hide h0
          clear h0
          go_upto_region 10 with fail
          obtain ⟨O2, hO2⟩ : ∃ X : ByteArray, X = O ++ ⟨#[32]⟩ ++ ⟨#[45]⟩ := ⟨_, rfl⟩
          have HZ := hide (show O2 ++ (⟨(Lib.decDigits xn).toArray⟩ ++ ⟨#[47]⟩ ++ ⟨(Lib.decDigits yn).toArray⟩) = ⟨(csJ l (k + 1)).toArray⟩ by rw [hO2]; exact hZ.out (O ++ ⟨#[32]⟩) (by simp [H0.out]))
          have hO2s : O2.size ≤ 16802 := by rw [hO2]; simp [ByteArray.size_append]; have : (⟨#[45]⟩ : ByteArray).size = 1 := rfl; have : (⟨#[32]⟩ : ByteArray).size = 1 := rfl; omega
          rw [← hO2]
          obtain ⟨Z, hZ2⟩ : ∃ Z : ByteArray, Z = ⟨(csJ l (k + 1)).toArray⟩ := ⟨_, rfl⟩
          rw [← hZ2] at HZ
          have HZ2 := hide hZ2
          clear hO2 hZ2 hZ d3 H0 hkk
          have b1 : Below w.heap.size w wr.drew := hb.drew
          refine wp_region_held_drew (S := fun Y => Y.cell? ⟨b, o + k * 3, none⟩ = some (.int .i16 xn) ∧ Y.cell? ⟨b, o + k * 3 + 1, none⟩ = some (.int .i8 yn)) (by kernel_rfl) ⟨d1, d2⟩ fun hS => ?_
          clear d1 d2
          generalize wr.drew = W1 at *
          refine wpAnyH_take (i := 0) (v := .string O2) rfl (by kernel_rfl) (by kernel_rfl) (by kernel_rfl) (fun _ _ _ h => h) (Or.inl ⟨by rfl, fun w' _ => by go_simp⟩) hS ?_
          change wpAnyH _ _ _ _ _ _ _ (Act.put _ (some 24) _) _
          simp only [Act.put, List.setIfInBounds_toArray, List.set_cons_zero, List.set_cons_succ]
          refine wpAnyH_take (i := 1) (v := .slice (some ⟨b, o, none⟩) l.length c) rfl (by kernel_rfl) (by kernel_rfl) (by kernel_rfl) (fun _ _ _ h => h) (Or.inl ⟨by rfl, fun w' _ => by go_simp⟩) hS ?_
          change wpAnyH _ _ _ _ _ _ _ (Act.put _ (some 25) _) _
          simp only [Act.put, List.setIfInBounds_toArray, List.set_cons_zero, List.set_cons_succ]
          refine wpAnyH_take (i := 2) (v := .int .i64 k) rfl (by kernel_rfl) (by kernel_rfl) (by kernel_rfl) (fun _ _ _ h => h) (Or.inl ⟨by rfl, fun w' _ => by go_simp⟩) hS ?_
          change wpAnyH _ _ _ _ _ _ _ (Act.put _ (some 26) _) _
          simp only [Act.put, List.setIfInBounds_toArray, List.set_cons_zero, List.set_cons_succ]
          refine wpAnyH_take (i := 3) (v := .pointer (some ⟨b, o + k * 3, none⟩)) rfl (by kernel_rfl) (by kernel_rfl) (by kernel_rfl) (fun _ _ _ h => h) (Or.inl ⟨by rfl, fun w' _ => by go_simp⟩) hS ?_
          change wpAnyH _ _ _ _ _ _ _ (Act.put _ (some 27) _) _
          simp only [Act.put, List.setIfInBounds_toArray, List.set_cons_zero, List.set_cons_succ]
          refine wpAnyH_take (i := 4) (v := .pointer (some ⟨b, o + k * 3, none⟩)) rfl (by kernel_rfl) (by kernel_rfl) (by kernel_rfl) (fun _ _ _ h => h) (Or.inl ⟨by rfl, fun w' _ => by go_simp⟩) hS ?_
          change wpAnyH _ _ _ _ _ _ _ (Act.put _ (some 28) _) _
          simp only [Act.put, List.setIfInBounds_toArray, List.set_cons_zero, List.set_cons_succ]
          refine wpAnyH_take (i := 5) (v := .int .i16 xn) rfl (by kernel_rfl) (by kernel_rfl) (by kernel_rfl) (fun _ _ _ h => h) (Or.inl ⟨by rfl, fun w' h => ?_⟩) hS ?_
          · have c0 := h.1
            clear h
            go_simp
          change wpAnyH _ _ _ _ _ _ _ (Act.put _ (some 29) _) _
          simp only [Act.put, List.setIfInBounds_toArray, List.set_cons_zero, List.set_cons_succ]
          refine wpAnyH_take (i := 6) (v := .int .i64 xn) rfl (by kernel_rfl) (by kernel_rfl) (by kernel_rfl) (fun _ _ _ h => h) (Or.inl ⟨by rfl, fun w' _ => by go_simp⟩) hS ?_
          change wpAnyH _ _ _ _ _ _ _ (Act.put _ (some 30) _) _
          simp only [Act.put, List.setIfInBounds_toArray, List.set_cons_zero, List.set_cons_succ]
          refine wpAnyH_take (i := 9) (v := .slice (some ⟨b, o, none⟩) l.length c) rfl (by kernel_rfl) (by kernel_rfl) (by kernel_rfl) (fun _ _ _ h => h) (Or.inl ⟨by rfl, fun w' _ => by go_simp⟩) hS ?_
          change wpAnyH _ _ _ _ _ _ _ (Act.put _ (some 33) _) _
          simp only [Act.put, List.setIfInBounds_toArray, List.set_cons_zero, List.set_cons_succ]
          refine wpAnyH_take (i := 10) (v := .int .i64 k) rfl (by kernel_rfl) (by kernel_rfl) (by kernel_rfl) (fun _ _ _ h => h) (Or.inl ⟨by rfl, fun w' _ => by go_simp⟩) hS ?_
          change wpAnyH _ _ _ _ _ _ _ (Act.put _ (some 34) _) _
          simp only [Act.put, List.setIfInBounds_toArray, List.set_cons_zero, List.set_cons_succ]
          refine wpAnyH_take (i := 11) (v := .pointer (some ⟨b, o + k * 3, none⟩)) rfl (by kernel_rfl) (by kernel_rfl) (by kernel_rfl) (fun _ _ _ h => h) (Or.inl ⟨by rfl, fun w' _ => by go_simp⟩) hS ?_
          change wpAnyH _ _ _ _ _ _ _ (Act.put _ (some 35) _) _
          simp only [Act.put, List.setIfInBounds_toArray, List.set_cons_zero, List.set_cons_succ]
          refine wpAnyH_take (i := 12) (v := .pointer (some ⟨b, o + k * 3 + 1, none⟩)) rfl (by kernel_rfl) (by kernel_rfl) (by kernel_rfl) (fun _ _ _ h => h) (Or.inl ⟨by rfl, fun w' _ => by go_simp⟩) hS ?_
          change wpAnyH _ _ _ _ _ _ _ (Act.put _ (some 36) _) _
          simp only [Act.put, List.setIfInBounds_toArray, List.set_cons_zero, List.set_cons_succ]
          refine wpAnyH_take (i := 13) (v := .int .i8 yn) rfl (by kernel_rfl) (by kernel_rfl) (by kernel_rfl) (fun _ _ _ h => h) (Or.inl ⟨by rfl, fun w' h => ?_⟩) hS ?_
          · have c0 := h.2
            clear h
            go_simp
          change wpAnyH _ _ _ _ _ _ _ (Act.put _ (some 37) _) _
          simp only [Act.put, List.setIfInBounds_toArray, List.set_cons_zero, List.set_cons_succ]
          refine wpAnyH_take (i := 14) (v := .int .i64 yn) rfl (by kernel_rfl) (by kernel_rfl) (by kernel_rfl) (fun _ _ _ h => h) (Or.inl ⟨by rfl, fun w' _ => by go_simp⟩) hS ?_
          change wpAnyH _ _ _ _ _ _ _ (Act.put _ (some 38) _) _
          simp only [Act.put, List.setIfInBounds_toArray, List.set_cons_zero, List.set_cons_succ]
          refine wpAnyH_ready (rs := [7]) (by kernel_rfl) (by simp) (AllReadyH.cons rfl ?_ AllReadyH.nil)
          intro K hK
          rw [if_pos (by rfl)]
          go_simp
          refine (KA W1).mono ?_
          rintro e W2 ⟨rfl, hbc1⟩
          have b2 := step_below hbc1 b1
          refine hK.out _ _ ⟨(hbc1.cell (p := ⟨b, _, none⟩) (World.block_lt_of_cell? _ _ hS.1)).trans hS.1, (hbc1.cell (p := ⟨b, _, none⟩) (World.block_lt_of_cell? _ _ hS.2)).trans hS.2⟩ (fun hS1 => ?_)
          clear hK K
          try (change wpAnyH _ _ _ _ _ _ _ (Act.put _ (some 31) _) _)
          try simp only [Act.put, List.setIfInBounds_toArray, List.set_cons_zero, List.set_cons_succ]
          refine wpAnyH_take (i := 8) (v := .string (⟨(Lib.decDigits xn).toArray⟩ ++ ⟨#[47]⟩)) rfl (by kernel_rfl) (by kernel_rfl) (by kernel_rfl) (fun _ _ _ h => h) (Or.inl ⟨by rfl, fun w' _ => by go_simp; omega⟩) hS1 ?_
          change wpAnyH _ _ _ _ _ _ _ (Act.put _ (some 32) _) _
          simp only [Act.put, List.setIfInBounds_toArray, List.set_cons_zero, List.set_cons_succ]
          refine wpAnyH_ready (rs := [15]) (by kernel_rfl) (by simp) (AllReadyH.cons rfl ?_ AllReadyH.nil)
          intro K hK
          rw [if_pos (by rfl)]
          go_simp
          refine (KP W2).mono ?_
          rintro e W3 ⟨rfl, hbc2⟩
          have b3 := step_below hbc2 b2
          refine hK.out _ _ ⟨(hbc2.cell (p := ⟨b, _, none⟩) (World.block_lt_of_cell? _ _ hS1.1)).trans hS1.1, (hbc2.cell (p := ⟨b, _, none⟩) (World.block_lt_of_cell? _ _ hS1.2)).trans hS1.2⟩ (fun hS2 => ?_)
          clear hK K
          try (change wpAnyH _ _ _ _ _ _ _ (Act.put _ (some 39) _) _)
          try simp only [Act.put, List.setIfInBounds_toArray, List.set_cons_zero, List.set_cons_succ]
          refine wpAnyH_take (i := 16) (v := .string (⟨(Lib.decDigits xn).toArray⟩ ++ ⟨#[47]⟩ ++ ⟨(Lib.decDigits yn).toArray⟩)) rfl (by kernel_rfl) (by kernel_rfl) (by kernel_rfl) (fun _ _ _ h => h) (Or.inl ⟨by rfl, fun w' _ => by go_simp; all_goals (first | omega | (simp; omega))⟩) hS2 ?_
          change wpAnyH _ _ _ _ _ _ _ (Act.put _ (some 40) _) _
          simp only [Act.put, List.setIfInBounds_toArray, List.set_cons_zero, List.set_cons_succ]
          refine wpAnyH_take (i := 17) (v := .string Z) rfl (by kernel_rfl) (by kernel_rfl) (by kernel_rfl) (fun _ _ _ h => h) (Or.inl ⟨by rfl, fun w' _ => by go_simp; rw [if_neg (by omega), HZ.out]⟩) hS2 ?_
          change wpAnyH _ _ _ _ _ _ _ (Act.put _ (some 41) _) _
          simp only [Act.put, List.setIfInBounds_toArray, List.set_cons_zero, List.set_cons_succ]
          refine wpAnyH_take (i := 18) (v := .string Z) rfl (by kernel_rfl) (by kernel_rfl) (by kernel_rfl) (fun _ _ _ h => h) (Or.inl ⟨by rfl, fun w' _ => by go_simp⟩) hS2 ?_
          change wpAnyH _ _ _ _ _ _ _ (Act.put _ (some 3) _) _
          simp only [Act.put, List.setIfInBounds_toArray, List.set_cons_zero, List.set_cons_succ]
          refine wpAnyH_done (by kernel_rfl) ?_ _
          go_wp2
          go_roundw
          case rel => exact ⟨k + 1, hlt, by go_num, by rw [HZ2.out], b3⟩
          case measure => simp [intOf]; omega
        · have hkk : ((k : Int) > 0) := by omega
          have H0 := hide h0
          clear h0
          go_upto_region 10 with fail
          obtain ⟨O2, hO2⟩ : ∃ X : ByteArray, X = O ++ ⟨#[32]⟩ ++ ⟨#[43]⟩ := ⟨_, rfl⟩
          have HZ := hide (show O2 ++ (⟨(Lib.decDigits xn).toArray⟩ ++ ⟨#[47]⟩ ++ ⟨(Lib.decDigits yn).toArray⟩) = ⟨(csJ l (k + 1)).toArray⟩ by rw [hO2]; exact hZ.out (O ++ ⟨#[32]⟩) (by simp [H0.out]))
          have hO2s : O2.size ≤ 16802 := by rw [hO2]; simp [ByteArray.size_append]; have : (⟨#[43]⟩ : ByteArray).size = 1 := rfl; have : (⟨#[32]⟩ : ByteArray).size = 1 := rfl; omega
          rw [← hO2]
          obtain ⟨Z, hZ2⟩ : ∃ Z : ByteArray, Z = ⟨(csJ l (k + 1)).toArray⟩ := ⟨_, rfl⟩
          rw [← hZ2] at HZ
          have HZ2 := hide hZ2
          clear hO2 hZ2 hZ d3 H0 hkk
          have b1 : Below w.heap.size w wr.drew := hb.drew
          refine wp_region_held_drew (S := fun Y => Y.cell? ⟨b, o + k * 3, none⟩ = some (.int .i16 xn) ∧ Y.cell? ⟨b, o + k * 3 + 1, none⟩ = some (.int .i8 yn)) (by kernel_rfl) ⟨d1, d2⟩ fun hS => ?_
          clear d1 d2
          generalize wr.drew = W1 at *
          refine wpAnyH_take (i := 0) (v := .string O2) rfl (by kernel_rfl) (by kernel_rfl) (by kernel_rfl) (fun _ _ _ h => h) (Or.inl ⟨by rfl, fun w' _ => by go_simp⟩) hS ?_
          change wpAnyH _ _ _ _ _ _ _ (Act.put _ (some 24) _) _
          simp only [Act.put, List.setIfInBounds_toArray, List.set_cons_zero, List.set_cons_succ]
          refine wpAnyH_take (i := 1) (v := .slice (some ⟨b, o, none⟩) l.length c) rfl (by kernel_rfl) (by kernel_rfl) (by kernel_rfl) (fun _ _ _ h => h) (Or.inl ⟨by rfl, fun w' _ => by go_simp⟩) hS ?_
          change wpAnyH _ _ _ _ _ _ _ (Act.put _ (some 25) _) _
          simp only [Act.put, List.setIfInBounds_toArray, List.set_cons_zero, List.set_cons_succ]
          refine wpAnyH_take (i := 2) (v := .int .i64 k) rfl (by kernel_rfl) (by kernel_rfl) (by kernel_rfl) (fun _ _ _ h => h) (Or.inl ⟨by rfl, fun w' _ => by go_simp⟩) hS ?_
          change wpAnyH _ _ _ _ _ _ _ (Act.put _ (some 26) _) _
          simp only [Act.put, List.setIfInBounds_toArray, List.set_cons_zero, List.set_cons_succ]
          refine wpAnyH_take (i := 3) (v := .pointer (some ⟨b, o + k * 3, none⟩)) rfl (by kernel_rfl) (by kernel_rfl) (by kernel_rfl) (fun _ _ _ h => h) (Or.inl ⟨by rfl, fun w' _ => by go_simp⟩) hS ?_
          change wpAnyH _ _ _ _ _ _ _ (Act.put _ (some 27) _) _
          simp only [Act.put, List.setIfInBounds_toArray, List.set_cons_zero, List.set_cons_succ]
          refine wpAnyH_take (i := 4) (v := .pointer (some ⟨b, o + k * 3, none⟩)) rfl (by kernel_rfl) (by kernel_rfl) (by kernel_rfl) (fun _ _ _ h => h) (Or.inl ⟨by rfl, fun w' _ => by go_simp⟩) hS ?_
          change wpAnyH _ _ _ _ _ _ _ (Act.put _ (some 28) _) _
          simp only [Act.put, List.setIfInBounds_toArray, List.set_cons_zero, List.set_cons_succ]
          refine wpAnyH_take (i := 5) (v := .int .i16 xn) rfl (by kernel_rfl) (by kernel_rfl) (by kernel_rfl) (fun _ _ _ h => h) (Or.inl ⟨by rfl, fun w' h => ?_⟩) hS ?_
          · have c0 := h.1
            clear h
            go_simp
          change wpAnyH _ _ _ _ _ _ _ (Act.put _ (some 29) _) _
          simp only [Act.put, List.setIfInBounds_toArray, List.set_cons_zero, List.set_cons_succ]
          refine wpAnyH_take (i := 6) (v := .int .i64 xn) rfl (by kernel_rfl) (by kernel_rfl) (by kernel_rfl) (fun _ _ _ h => h) (Or.inl ⟨by rfl, fun w' _ => by go_simp⟩) hS ?_
          change wpAnyH _ _ _ _ _ _ _ (Act.put _ (some 30) _) _
          simp only [Act.put, List.setIfInBounds_toArray, List.set_cons_zero, List.set_cons_succ]
          refine wpAnyH_take (i := 9) (v := .slice (some ⟨b, o, none⟩) l.length c) rfl (by kernel_rfl) (by kernel_rfl) (by kernel_rfl) (fun _ _ _ h => h) (Or.inl ⟨by rfl, fun w' _ => by go_simp⟩) hS ?_
          change wpAnyH _ _ _ _ _ _ _ (Act.put _ (some 33) _) _
          simp only [Act.put, List.setIfInBounds_toArray, List.set_cons_zero, List.set_cons_succ]
          refine wpAnyH_take (i := 10) (v := .int .i64 k) rfl (by kernel_rfl) (by kernel_rfl) (by kernel_rfl) (fun _ _ _ h => h) (Or.inl ⟨by rfl, fun w' _ => by go_simp⟩) hS ?_
          change wpAnyH _ _ _ _ _ _ _ (Act.put _ (some 34) _) _
          simp only [Act.put, List.setIfInBounds_toArray, List.set_cons_zero, List.set_cons_succ]
          refine wpAnyH_take (i := 11) (v := .pointer (some ⟨b, o + k * 3, none⟩)) rfl (by kernel_rfl) (by kernel_rfl) (by kernel_rfl) (fun _ _ _ h => h) (Or.inl ⟨by rfl, fun w' _ => by go_simp⟩) hS ?_
          change wpAnyH _ _ _ _ _ _ _ (Act.put _ (some 35) _) _
          simp only [Act.put, List.setIfInBounds_toArray, List.set_cons_zero, List.set_cons_succ]
          refine wpAnyH_take (i := 12) (v := .pointer (some ⟨b, o + k * 3 + 1, none⟩)) rfl (by kernel_rfl) (by kernel_rfl) (by kernel_rfl) (fun _ _ _ h => h) (Or.inl ⟨by rfl, fun w' _ => by go_simp⟩) hS ?_
          change wpAnyH _ _ _ _ _ _ _ (Act.put _ (some 36) _) _
          simp only [Act.put, List.setIfInBounds_toArray, List.set_cons_zero, List.set_cons_succ]
          refine wpAnyH_take (i := 13) (v := .int .i8 yn) rfl (by kernel_rfl) (by kernel_rfl) (by kernel_rfl) (fun _ _ _ h => h) (Or.inl ⟨by rfl, fun w' h => ?_⟩) hS ?_
          · have c0 := h.2
            clear h
            go_simp
          change wpAnyH _ _ _ _ _ _ _ (Act.put _ (some 37) _) _
          simp only [Act.put, List.setIfInBounds_toArray, List.set_cons_zero, List.set_cons_succ]
          refine wpAnyH_take (i := 14) (v := .int .i64 yn) rfl (by kernel_rfl) (by kernel_rfl) (by kernel_rfl) (fun _ _ _ h => h) (Or.inl ⟨by rfl, fun w' _ => by go_simp⟩) hS ?_
          change wpAnyH _ _ _ _ _ _ _ (Act.put _ (some 38) _) _
          simp only [Act.put, List.setIfInBounds_toArray, List.set_cons_zero, List.set_cons_succ]
          refine wpAnyH_ready (rs := [7]) (by kernel_rfl) (by simp) (AllReadyH.cons rfl ?_ AllReadyH.nil)
          intro K hK
          rw [if_pos (by rfl)]
          go_simp
          refine (KA W1).mono ?_
          rintro e W2 ⟨rfl, hbc1⟩
          have b2 := step_below hbc1 b1
          refine hK.out _ _ ⟨(hbc1.cell (p := ⟨b, _, none⟩) (World.block_lt_of_cell? _ _ hS.1)).trans hS.1, (hbc1.cell (p := ⟨b, _, none⟩) (World.block_lt_of_cell? _ _ hS.2)).trans hS.2⟩ (fun hS1 => ?_)
          clear hK K
          try (change wpAnyH _ _ _ _ _ _ _ (Act.put _ (some 31) _) _)
          try simp only [Act.put, List.setIfInBounds_toArray, List.set_cons_zero, List.set_cons_succ]
          refine wpAnyH_take (i := 8) (v := .string (⟨(Lib.decDigits xn).toArray⟩ ++ ⟨#[47]⟩)) rfl (by kernel_rfl) (by kernel_rfl) (by kernel_rfl) (fun _ _ _ h => h) (Or.inl ⟨by rfl, fun w' _ => by go_simp; omega⟩) hS1 ?_
          change wpAnyH _ _ _ _ _ _ _ (Act.put _ (some 32) _) _
          simp only [Act.put, List.setIfInBounds_toArray, List.set_cons_zero, List.set_cons_succ]
          refine wpAnyH_ready (rs := [15]) (by kernel_rfl) (by simp) (AllReadyH.cons rfl ?_ AllReadyH.nil)
          intro K hK
          rw [if_pos (by rfl)]
          go_simp
          refine (KP W2).mono ?_
          rintro e W3 ⟨rfl, hbc2⟩
          have b3 := step_below hbc2 b2
          refine hK.out _ _ ⟨(hbc2.cell (p := ⟨b, _, none⟩) (World.block_lt_of_cell? _ _ hS1.1)).trans hS1.1, (hbc2.cell (p := ⟨b, _, none⟩) (World.block_lt_of_cell? _ _ hS1.2)).trans hS1.2⟩ (fun hS2 => ?_)
          clear hK K
          try (change wpAnyH _ _ _ _ _ _ _ (Act.put _ (some 39) _) _)
          try simp only [Act.put, List.setIfInBounds_toArray, List.set_cons_zero, List.set_cons_succ]
          refine wpAnyH_take (i := 16) (v := .string (⟨(Lib.decDigits xn).toArray⟩ ++ ⟨#[47]⟩ ++ ⟨(Lib.decDigits yn).toArray⟩)) rfl (by kernel_rfl) (by kernel_rfl) (by kernel_rfl) (fun _ _ _ h => h) (Or.inl ⟨by rfl, fun w' _ => by go_simp; all_goals (first | omega | (simp; omega))⟩) hS2 ?_
          change wpAnyH _ _ _ _ _ _ _ (Act.put _ (some 40) _) _
          simp only [Act.put, List.setIfInBounds_toArray, List.set_cons_zero, List.set_cons_succ]
          refine wpAnyH_take (i := 17) (v := .string Z) rfl (by kernel_rfl) (by kernel_rfl) (by kernel_rfl) (fun _ _ _ h => h) (Or.inl ⟨by rfl, fun w' _ => by go_simp; rw [if_neg (by omega), HZ.out]⟩) hS2 ?_
          change wpAnyH _ _ _ _ _ _ _ (Act.put _ (some 41) _) _
          simp only [Act.put, List.setIfInBounds_toArray, List.set_cons_zero, List.set_cons_succ]
          refine wpAnyH_take (i := 18) (v := .string Z) rfl (by kernel_rfl) (by kernel_rfl) (by kernel_rfl) (fun _ _ _ h => h) (Or.inl ⟨by rfl, fun w' _ => by go_simp⟩) hS2 ?_
          change wpAnyH _ _ _ _ _ _ _ (Act.put _ (some 3) _) _
          simp only [Act.put, List.setIfInBounds_toArray, List.set_cons_zero, List.set_cons_succ]
          refine wpAnyH_done (by kernel_rfl) ?_ _
          go_wp2
          go_roundw
          case rel => exact ⟨k + 1, hlt, by go_num, by rw [HZ2.out], b3⟩
          case measure => simp [intOf]; omega
    · obtain rfl : k = l.length := by omega
      go_wp2
      go_ret
      exact ⟨rfl, hb⟩
end Go.Proofs.YtfoofggaieniaaaDoor
