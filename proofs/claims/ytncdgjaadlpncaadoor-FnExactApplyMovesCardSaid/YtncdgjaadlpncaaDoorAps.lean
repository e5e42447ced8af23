import Derived.Test.YtncdgjaadlpncaaDoorApn
import Derived.Test.YtncdgjaadlpncaaDoorSpt
namespace Go.Proofs.YtncdgjaadlpncaaDoor
open Go.RowKit

/-- the drum and the code of ApplyMoves -/
def amX (s : Int) (l : List (Int × Int)) (d : Nat → Int) (zs1 : List Int) (n1 : Nat) (zs2 : List Int) (n2 : Nat) : (Nat → Int) × Int :=
  if askB s l d then (if thB s l.length zs1 n1 && thB s l.length zs2 n2 then (match amF zs1 true d n1 with | none => (fun _ => 0, 4) | some q => match amF zs2 false q n2 with | none => (fun _ => 0, 4) | some r => (r, 0)) else (fun _ => 0, 2)) else (fun _ => 0, 1)
theorem amX_none {s : Int} {l : List (Int × Int)} {d : Nat → Int} {zs1 zs2 : List Int} {n1 n2 : Nat} (ha : askB s l d = true) (h1 : thB s l.length zs1 n1 = true) (h2 : thB s l.length zs2 n2 = true) (hq : amF zs1 true d n1 = none) : amX s l d zs1 n1 zs2 n2 = (fun _ => 0, 4) := by
  simp [amX, ha, h1, h2, hq]
theorem amX_none2 {s : Int} {l : List (Int × Int)} {d q : Nat → Int} {zs1 zs2 : List Int} {n1 n2 : Nat} (ha : askB s l d = true) (h1 : thB s l.length zs1 n1 = true) (h2 : thB s l.length zs2 n2 = true) (hq : amF zs1 true d n1 = some q) (hr : amF zs2 false q n2 = none) : amX s l d zs1 n1 zs2 n2 = (fun _ => 0, 4) := by
  simp [amX, ha, h1, h2, hq, hr]
theorem amX_some {s : Int} {l : List (Int × Int)} {d q r : Nat → Int} {zs1 zs2 : List Int} {n1 n2 : Nat} (ha : askB s l d = true) (h1 : thB s l.length zs1 n1 = true) (h2 : thB s l.length zs2 n2 = true) (hq : amF zs1 true d n1 = some q) (hr : amF zs2 false q n2 = some r) : amX s l d zs1 n1 zs2 n2 = (r, 0) := by
  simp [amX, ha, h1, h2, hq, hr]
theorem thB_all {s : Int} {m n : Nat} {zs : List Int} (h : thB s m zs n = true) : ∀ k, k < n → plB s m (zAt zs (k * 2)) (zAt zs (k * 2 + 1)) = true := by
  simp only [thB, List.all_eq_true, List.mem_range] at h
  exact h
theorem pow_mod (t : Nat) (ht : t < 32) : (2 : Int) ^ t % 4294967296 = (2 : Int) ^ t := (pow_nat t ht).trans (by push_cast; rfl)
theorem and_pow_eq {d : Nat → Int} {k t : Nat} (h0 : 0 ≤ d k) (h1 : d k ≤ 4294967295) (ht : t < 32) : (bits .and .u32 (d k) ((2 : Int) ^ t) == 0) = !pinB d k t := by
  rw [← and_pow_ne h0 h1 ht]
  simp [bne]

set_option maxRecDepth 20000 in
set_option maxHeartbeats 4000000 in
theorem specApplyMoves_any (s : Int) (A : Option Addr) (c : Nat) (l : List (Int × Int)) (d : Nat → Int) (A1 : Option Addr) (n1 c1 : Nat) (zs1 : List Int) (A2 : Option Addr) (n2 c2 : Nat) (zs2 : List Int) (w : World) (hA : HA w A l) (hn : l.length ≤ 1048576) (hwf : HWF l) (hs : -32768 ≤ s ∧ s ≤ 32767) (hd : DWF d) (h1 : SA w w.heap.size A1 n1 zs1) (hn1 : n1 ≤ 1048576) (h2 : SA w w.heap.size A2 n2 zs2) (hn2 : n2 ≤ 1048576) :
    Calls Tryd.prog 8 #[.agg #[.int .i16 s, .slice A l.length c], .agg (da d), .slice A1 n1 c1, .slice A2 n2 c2] w (DrC (amX s l d zs1 n1 zs2 n2).1 (amX s l d zs1 n1 zs2 n2).2 w) := by
  have hz := zeroDrum
  have hb0 : Below w.heap.size w (((w.alloc (.cells #[.int .i16 s, .slice A l.length c] 36)).alloc (.cells (da d) 31)).alloc (.cells za 31)) := (((Below.refl _ _).alloc (Nat.le_refl _) _).alloc (by simp) _).alloc (by simp; omega) _
  have hF : FP (((w.alloc (.cells #[.int .i16 s, .slice A l.length c] 36)).alloc (.cells (da d) 31)).alloc (.cells za 31)) w.heap.size s A l.length c := ⟨by simp [go_sem], by simp [go_sem]⟩
  have hD : Dr (((w.alloc (.cells #[.int .i16 s, .slice A l.length c] 36)).alloc (.cells (da d) 31)).alloc (.cells za 31)) (w.heap.size + 1) 31 d := heap_old' (heap_new' _ _ _ (by simp))
  have hZ : Dr (((w.alloc (.cells #[.int .i16 s, .slice A l.length c] 36)).alloc (.cells (da d) 31)).alloc (.cells za 31)) (w.heap.size + 1 + 1) 31 (fun _ => 0) := by rw [za_eq]; exact heap_new' _ _ _ (by simp)
  go_enter Tryd.func8, Tryd.ntmps8
  go_wp2_with fail
  clear hz
  refine (l02Asked_any _ _ s A c l d _ hF hD (hA.below hb0) hn hwf hs hd).mono ?_
  rintro e w1 ⟨rfl, hb1⟩
  have b1 := step_below hb1 hb0
  have D1 := hD.keep hb1
  have F1 := hF.keep hb1
  have Z1 := hZ.keep hb1
  have R1 : w1.heap[w.heap.size + 1 + 1]? = some (.cells (da fun _ => 0) 31 (0, 0)) := Z1
  have HZ := hide R1
  clear R1 hZ
  cases ha : askB s l d
  · simp only [codeI]
    have HX := hide (show amX s l d zs1 n1 zs2 n2 = (fun _ => 0, 1) by simp [amX, ha])
    clear ha
    go_wp2_with (first | (with_reducible refine wpList_build0 rfl rfl ?_) | (with_reducible refine wpList_store_row rfl 31 (.tmp 8) (.tmp 18) rfl (w.heap.size + 1 + 1) (da fun _ => 0) rfl rfl 31 _ HZ.out (by rw [da_size]; exact info31) (by simp only [da_size]) (da_one _) ?_))
    exact bodyPost_ret (v := .tuple #[.agg (da fun _ => 0), .int .i64 1]) (results_dr Tryd.results8 _ _ (w.heap.size + 1 + 1) 31 _ _ (by simp [Act.put]) (by simp [Act.put]) (setRow_heap _ _ _ _ _ _ HZ.out)) rfl ⟨by rw [HX.out], below_setRow b1 (by omega)⟩
  have hfa := ask_all ha
  have hl24 := hfa.2.1.2
  have hS96 := hfa.1.2
  have hm : l.length ≤ 1048576 := hn
  simp only [codeI]
  have K1 : ∀ v, thB s l.length zs1 n1 = v → Calls Tryd.prog 26 #[.pointer (some ⟨w.heap.size, 0, none⟩), .slice A1 n1 c1] w1 (Says v w1) := fun v hv => by
    rw [← hv]; exact l03There_any _ s A l.length c A1 n1 c1 zs1 w.heap.size w1 F1 (h1.below b1) b1.size hn1 hm hs
  cases ht1 : thB s l.length zs1 n1
  · have K1' := K1 false ht1
    have HX := hide (show amX s l d zs1 n1 zs2 n2 = (fun _ => 0, 2) by simp [amX, ha, ht1])
    clear ha ht1 K1 hfa
    go_wp2_with (first | (go_at_call 26; refine K1'.mono ?_; rintro e w2 ⟨rfl, hb2⟩; have b2 := step_below hb2 b1; have HZ2 := hide (show w2.heap[w.heap.size + 1 + 1]? = some (.cells (da fun _ => 0) 31 (0, 0)) from Z1.keep hb2)) | (with_reducible refine wpList_build0 rfl rfl ?_) | (with_reducible refine wpList_store_row rfl 31 (.tmp 8) (.tmp 28) rfl (w.heap.size + 1 + 1) (da fun _ => 0) rfl rfl 31 _ HZ2.out (by rw [da_size]; exact info31) (by simp only [da_size]) (da_one _) ?_))
    exact bodyPost_ret (v := .tuple #[.agg (da fun _ => 0), .int .i64 2]) (results_dr Tryd.results8 _ _ (w.heap.size + 1 + 1) 31 _ _ (by simp [Act.put]) (by simp [Act.put]) (setRow_heap _ _ _ _ _ _ HZ2.out)) rfl ⟨by rw [HX.out], below_setRow b2 (by omega)⟩
  have K1' := K1 true ht1
  have K2 : ∀ (v : Bool) (W : World), thB s l.length zs2 n2 = v → FP W w.heap.size s A l.length c → Below w.heap.size w W → Calls Tryd.prog 26 #[.pointer (some ⟨w.heap.size, 0, none⟩), .slice A2 n2 c2] W (Says v W) := fun v W hv hf hb => by
    rw [← hv]; exact l03There_any _ s A l.length c A2 n2 c2 zs2 w.heap.size W hf (h2.below hb) hb.size hn2 hm hs
  cases ht2 : thB s l.length zs2 n2
  · have HX := hide (show amX s l d zs1 n1 zs2 n2 = (fun _ => 0, 2) by simp [amX, ha, ht2])
    have K2' := fun W => K2 false W ht2
    clear ha ht1 ht2 K1 K2 hfa
    go_wp2_with fail
    refine K1'.mono ?_
    rintro e w2 ⟨rfl, hb2⟩
    have b2 := step_below hb2 b1
    have F2 := F1.keep hb2
    go_wp2_with (first | (go_at_call 26; refine (K2' _ F2 b2).mono ?_; rintro e w3 ⟨rfl, hb3⟩; have b3 := step_below hb3 b2; have HZ3 := hide (show w3.heap[w.heap.size + 1 + 1]? = some (.cells (da fun _ => 0) 31 (0, 0)) from (Z1.keep hb2).keep hb3)) | (with_reducible refine wpList_build0 rfl rfl ?_) | (with_reducible refine wpList_store_row rfl 31 (.tmp 8) (.tmp 28) rfl (w.heap.size + 1 + 1) (da fun _ => 0) rfl rfl 31 _ HZ3.out (by rw [da_size]; exact info31) (by simp only [da_size]) (da_one _) ?_))
    exact bodyPost_ret (v := .tuple #[.agg (da fun _ => 0), .int .i64 2]) (results_dr Tryd.results8 _ _ (w.heap.size + 1 + 1) 31 _ _ (by simp [Act.put]) (by simp [Act.put]) (setRow_heap _ _ _ _ _ _ HZ3.out)) rfl ⟨by rw [HX.out], below_setRow b3 (by omega)⟩
  have HTH1 := hide (thB_all ht1)
  have HTH2 := hide (thB_all ht2)
  have HA := hide (show amX s l d zs1 n1 zs2 n2 = (match amF zs1 true d n1 with | none => (fun _ => 0, 4) | some q => match amF zs2 false q n2 with | none => (fun _ => 0, 4) | some r => (r, 0)) by simp [amX, ha, ht1, ht2])
  have K2' := fun W => K2 true W ht2
  clear ha ht1 ht2 K1 K2
  obtain ⟨S, hSs⟩ : ∃ S : Nat, s = (S : Int) := ⟨s.toNat, by omega⟩
  subst hSs
  clear hfa
  go_wp2_with fail
  refine K1'.mono ?_
  rintro e w2 ⟨rfl, hb2⟩
  have b2 := step_below hb2 b1
  have F2 := F1.keep hb2
  go_wp2_with fail
  refine (K2' _ F2 b2).mono ?_
  rintro e w3 ⟨rfl, hb3⟩
  have b3 := step_below hb3 b2
  have D3 := (D1.keep hb2).keep hb3
  have Z3 := (Z1.keep hb2).keep hb3
  go_wp2_with fail
  clear K1' K2' hD hF hb0 HZ
  go_loopw [11] (fun i wr => ∃ (k : Nat) (q : Nat → Int), k ≤ n1 ∧ i = .int .i64 k ∧ amF zs1 true d k = some q ∧ Dr wr (w.heap.size + 1) 31 q ∧ Dr wr (w.heap.size + 1 + 1) 31 (fun _ => 0) ∧ Below w.heap.size w wr)
    (fun i _ => n1 - (intOf i).toNat)
  case atStart => exact ⟨0, d, Nat.zero_le _, rfl, rfl, D3, Z3, b3⟩
  case round =>
    obtain ⟨k, q, hk, rfl, hq, Dq, Zq, hb⟩ := hrel
    have hqw := amF_wf hd hq
    by_cases hlt : k < n1
    · obtain ⟨g, rfl, hg, x1, x2⟩ := h1 k hlt
      obtain ⟨a, t, ha, ht, ha2, ht2⟩ := plB_nat (HTH1.out k hlt)
      have hA96 : a < 96 := by omega
      have ht24 : t < 24 := by omega
      rw [ha] at x1
      rw [ht] at x2
      have hsuc := amF_succ hq
      rw [ha, ht, Int.toNat_natCast, Int.toNat_natCast] at hsuc
      have d1 := (hb.cell (p := ⟨g, _, none⟩) hg).trans x1
      have d2 := (hb.cell (p := ⟨g, _, none⟩) hg).trans x2
      have hki : (k : Int) < (n1 : Int) := by omega
      have hai : (a : Int) < 96 := by omega
      obtain ⟨y1, y2⟩ := hqw a hA96
      have hp := and_pow_eq (d := q) (k := a) (t := t) y1 y2 (by omega)
      have e1 := Dq.cell hA96
      have e2 := Dq.frozen a
      have HSU := hide hsuc
      clear x1 x2 ha ht hsuc hq
      cases hpb : pinB q a t
      · rw [hpb] at hp HSU
        have HX := hide (show amX S l d zs1 n1 zs2 n2 = (fun _ => 0, 4) by rw [HA.out, amF_none (k := k + 1) (by rw [HSU.out]; rfl) n1 hlt])
        have HZ4 := hide (show wr.heap[w.heap.size + 1 + 1]? = some (.cells (da fun _ => 0) 31 (0, 0)) from Zq)
        clear hpb
        go_wp2_with (first | (go_at_call 27; refine (l03Bit_any t _ ht24).mono ?_; rintro e w' ⟨rfl, rfl⟩) | (with_reducible refine wpList_build0 rfl rfl ?_) | (with_reducible refine wpList_store_row rfl 31 (.tmp 8) (.tmp 51) rfl (w.heap.size + 1 + 1) (da fun _ => 0) rfl rfl 31 _ HZ4.out (by rw [da_size]; exact info31) (by simp only [da_size]) (da_one _) ?_))
        exact bodyPost_ret (v := .tuple #[.agg (da fun _ => 0), .int .i64 4]) (results_dr Tryd.results8 _ _ (w.heap.size + 1 + 1) 31 _ _ (by simp [Act.put]) (by simp [Act.put]) (setRow_heap _ _ _ _ _ _ HZ4.out)) rfl ⟨by rw [HX.out], below_setRow hb (by omega)⟩
      · rw [hpb] at hp HSU
        have hbit : bits .andNot .u32 (q a) ((2 : Int) ^ t) = bits .xor .u32 (q a) (2 ^ t % 4294967296) := (congrArg (bits .andNot .u32 (q a)) (pow_mod t (by omega)).symm).trans (not_xor y1 (by omega) hpb)
        have HQ := hide (show amF zs1 true d (k + 1) = some (togD q a t) by rw [HSU.out]; rfl)
        clear hpb
        go_wp2_with (go_at_call 27; refine (l03Bit_any t _ ht24).mono ?_; rintro e w' ⟨rfl, rfl⟩)
        go_roundw
        case rel => exact ⟨k + 1, togD q a t, hlt, by go_num, HQ.out, Dq.set a _, Zq.other (by omega) _, hb.setCell (p := ⟨_, _, none⟩) (by dsimp only; omega) _⟩
        case measure => simp [intOf]; omega
    · obtain rfl : k = n1 := by omega
      have HB := hide (show amX S l d zs1 k zs2 n2 = (match amF zs2 false q n2 with | none => (fun _ => 0, 4) | some r => (r, 0)) by rw [HA.out, hq])
      clear hq HA HTH1 h1
      go_wp2_with fail
      go_loopw [13] (fun i wq => ∃ (j : Nat) (r : Nat → Int), j ≤ n2 ∧ i = .int .i64 j ∧ amF zs2 false q j = some r ∧ Dr wq (w.heap.size + 1) 31 r ∧ Dr wq (w.heap.size + 1 + 1) 31 (fun _ => 0) ∧ Below w.heap.size w wq)
        (fun i _ => n2 - (intOf i).toNat)
      case atStart => exact ⟨0, q, Nat.zero_le _, rfl, rfl, Dq, Zq, hb⟩
      case round =>
        obtain ⟨j, r, hj, rfl, hr, Dr2, Zr, hbr⟩ := hrel
        have hrw := amF_wf hqw hr
        by_cases hlt2 : j < n2
        · obtain ⟨g, rfl, hg, x1, x2⟩ := h2 j hlt2
          obtain ⟨a, t, ha, ht, ha2, ht2⟩ := plB_nat (HTH2.out j hlt2)
          have hA96 : a < 96 := by omega
          have ht24 : t < 24 := by omega
          rw [ha] at x1
          rw [ht] at x2
          have hsuc := amF_succ hr
          rw [ha, ht, Int.toNat_natCast, Int.toNat_natCast] at hsuc
          have d1 := (hbr.cell (p := ⟨g, _, none⟩) hg).trans x1
          have d2 := (hbr.cell (p := ⟨g, _, none⟩) hg).trans x2
          have hji : (j : Int) < (n2 : Int) := by omega
          have hai : (a : Int) < 96 := by omega
          obtain ⟨y1, y2⟩ := hrw a hA96
          have hp := and_pow_ne (d := r) (k := a) (t := t) y1 y2 (by omega)
          have e1 := Dr2.cell hA96
          have e2 := Dr2.frozen a
          have HSU := hide hsuc
          clear x1 x2 ha ht hsuc hr
          cases hpb : pinB r a t
          · rw [hpb] at hp HSU
            have hbit : bits .or .u32 (r a) ((2 : Int) ^ t) = bits .xor .u32 (r a) (2 ^ t % 4294967296) := (congrArg (bits .or .u32 (r a)) (pow_mod t (by omega)).symm).trans (or_xor y1 (by omega) hpb)
            have HQ := hide (show amF zs2 false q (j + 1) = some (togD r a t) by rw [HSU.out]; rfl)
            clear hpb
            go_wp2_with (go_at_call 27; refine (l03Bit_any t _ ht24).mono ?_; rintro e w' ⟨rfl, rfl⟩)
            go_roundw
            case rel => exact ⟨j + 1, togD r a t, hlt2, by go_num, HQ.out, Dr2.set a _, Zr.other (by omega) _, hbr.setCell (p := ⟨_, _, none⟩) (by dsimp only; omega) _⟩
            case measure => simp [intOf]; omega
          · rw [hpb] at hp HSU
            have HX := hide (show amX S l d zs1 k zs2 n2 = (fun _ => 0, 4) by rw [HB.out, amF_none (k := j + 1) (by rw [HSU.out]; rfl) n2 hlt2])
            have HZ4 := hide (show wr.heap[w.heap.size + 1 + 1]? = some (.cells (da fun _ => 0) 31 (0, 0)) from Zr)
            clear hpb
            go_wp2_with (first | (go_at_call 27; refine (l03Bit_any t _ ht24).mono ?_; rintro e w' ⟨rfl, rfl⟩) | (with_reducible refine wpList_build0 rfl rfl ?_) | (with_reducible refine wpList_store_row rfl 31 (.tmp 8) (.tmp 84) rfl (w.heap.size + 1 + 1) (da fun _ => 0) rfl rfl 31 _ HZ4.out (by rw [da_size]; exact info31) (by simp only [da_size]) (da_one _) ?_))
            exact bodyPost_ret (v := .tuple #[.agg (da fun _ => 0), .int .i64 4]) (results_dr Tryd.results8 _ _ (w.heap.size + 1 + 1) 31 _ _ (by simp [Act.put]) (by simp [Act.put]) (setRow_heap _ _ _ _ _ _ HZ4.out)) rfl ⟨by rw [HX.out], below_setRow hbr (by omega)⟩
        · obtain rfl : j = n2 := by omega
          have HX := hide (show amX S l d zs1 k zs2 j = (r, 0) by rw [HB.out, hr])
          have HZ4 := hide (show wr.heap[w.heap.size + 1 + 1]? = some (.cells (da fun _ => 0) 31 (0, 0)) from Zr)
          have HR4 := hide Dr2.range
          clear hr
          go_wp2_with (first | (with_reducible refine wpList_load_da rfl 31 (.tmp 5) rfl (w.heap.size + 1) 0 rfl r _ HR4.out Tryd.underlying31 rfl (dInfo r) ?_) | (with_reducible refine wpList_store_row rfl 31 (.tmp 8) (.tmp 95) rfl (w.heap.size + 1 + 1) (da r) rfl rfl 31 _ HZ4.out (by rw [da_size]; exact info31) (by simp only [da_size]) (da_one _) ?_))
          exact bodyPost_ret (v := .tuple #[.agg (da r), .int .i64 0]) (results_dr Tryd.results8 _ _ (w.heap.size + 1 + 1) 31 _ _ (by simp [Act.put]) (by simp [Act.put]) (setRow_heap _ _ _ _ _ _ HZ4.out)) rfl ⟨by rw [HX.out], below_setRow hbr (by omega)⟩
end Go.Proofs.YtncdgjaadlpncaaDoor
