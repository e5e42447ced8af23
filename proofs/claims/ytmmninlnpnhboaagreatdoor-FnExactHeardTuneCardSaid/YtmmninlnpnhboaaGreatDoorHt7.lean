import Derived.Test.YtmmninlnpnhboaaGreatDoorGbj
import Derived.Test.YtmmninlnpnhboaaGreatDoorGbq
import Derived.Test.YtmmninlnpnhboaaGreatDoorGbe
import Derived.Test.YtmmninlnpnhboaaGreatDoorGbg
import Derived.Test.YtmmninlnpnhboaaGreatDoorGbt
namespace Go.Proofs.YtmmninlnpnhboaaGreatDoor
open Go.RowKit
theorem filt_le (p q : Nat → Bool) (t : Nat) (h : ∀ j, j ≠ t → q j = p j) : ∀ n, ((List.range n).filter q).length ≤ ((List.range n).filter p).length + 1
  | 0 => by simp
  | n + 1 => by
    have ih := filt_le p q t h n
    rw [List.range_succ, List.filter_append, List.filter_append, List.length_append, List.length_append]
    by_cases e : n = t
    · have h1 : (List.range n).filter q = (List.range n).filter p := List.filter_congr fun j hj => h j (by have := List.mem_range.1 hj; omega)
      have h2 : ([n].filter q).length ≤ 1 := List.length_filter_le _ _
      rw [h1]
      omega
    · have h1 : [n].filter q = [n].filter p := List.filter_congr fun j hj => h j (by rw [List.mem_singleton.1 hj]; exact e)
      rw [h1]
      omega
theorem bits_tog {d : Nat → Int} (hd : DWF d) {k t : Nat} (hk : k < 96) (ht : t < 32) : (bitsL (togD d k t k).toNat).length ≤ (bitsL (d k).toNat).length + 1 := by
  unfold bitsL
  refine filt_le _ _ t (fun j hj => ?_) 32
  rw [← pin_bit (tog_wf hd k t k hk).1, ← pin_bit (hd k hk).1, tog_pin hd hk hk ht]
  simp [hj]
theorem pinsT_tog {d : Nat → Int} (hd : DWF d) {k t : Nat} (hk : k < 96) (ht : t < 32) : ∀ m, ((pinsT (togD d k t) m).length ≤ (pinsT d m).length + 1) ∧ (m ≤ k → (pinsT (togD d k t) m).length = (pinsT d m).length)
  | 0 => by simp [pinsT_zero]
  | m + 1 => by
    obtain ⟨h1, h2⟩ := pinsT_tog hd hk ht m
    rw [pinsT_succ, pinsT_succ, List.length_append, List.length_append, List.length_map, List.length_map]
    by_cases e : m = k
    · subst e
      have h3 := bits_tog hd hk ht
      have h4 := h2 (Nat.le_refl _)
      exact ⟨by omega, fun h => by omega⟩
    · have h3 : togD d k t m = d m := if_neg e
      rw [h3]
      exact ⟨by omega, fun h => by rw [h2 (by omega)]⟩
theorem drB_togP {s : Int} {n : Nat} {d : Nat → Int} (hd : DWF d) (h : drB s n d = true) {k t : Nat} (hk : (k : Int) < s) (hs : s ≤ 96) (ht : t < n) (hn : n ≤ 24) : drB s n (togD d k t) = true := by
  have h' := drB_all h
  refine drB_yes fun i hi => ?_
  by_cases e : i = k
  · subst e
    have h1 := h' i hi
    have h2 := hd i hi
    simp only [stepB, Bool.and_eq_true, decide_eq_true_eq, Bool.or_eq_true] at h1 ⊢
    refine ⟨?_, Or.inl hk⟩
    obtain ⟨m, hm⟩ : ∃ m : Nat, d i = (m : Int) := ⟨(d i).toNat, by omega⟩
    have hm1 : m < 2 ^ n := by
      have := h1.1
      rw [hm] at this
      have h3 : ((m / 2 ^ n : Nat) : Int) = 0 := by rw [← this]; push_cast; rfl
      have h4 : m / 2 ^ n = 0 := by omega
      have hp : 0 < 2 ^ n := Nat.pow_pos (by omega)
      have h5 := Nat.lt_mul_div_succ m hp
      rw [h4] at h5
      omega
    have hp1 : 2 ^ t < 2 ^ n := Nat.pow_lt_pow_right (by omega) ht
    have hp3 : 2 ^ n ≤ 2 ^ 24 := Nat.pow_le_pow_right (by omega) hn
    have hp2 : 2 ^ t < 4294967296 := by omega
    have hx := Nat.xor_lt_two_pow hm1 hp1
    rw [togD, if_pos rfl, hm, pow_nat t (by omega), xor_nat m (2 ^ t) (by omega) hp2]
    have h0 : (m ^^^ 2 ^ t) / 2 ^ n = 0 := Nat.div_eq_of_lt hx
    have : (((m ^^^ 2 ^ t) / 2 ^ n : Nat) : Int) = 0 := by rw [h0]; rfl
    rw [← this]; push_cast; rfl
  · have h1 := h' i hi
    unfold stepB at h1 ⊢
    rw [togD, if_neg e]
    exact h1
theorem pinsT_zd : ∀ m, pinsT (fun _ => 0) m = []
  | 0 => rfl
  | m + 1 => by rw [pinsT_succ, pinsT_zd m]; simp [bitsL_zero]
theorem drB_zero (s : Int) (n : Nat) : drB s n (fun _ => 0) = true := by simp [drB, stepB]
/-- the drum behind some choices that fit lies in the frame, and has no more pins than there are choices -/
theorem dfS_in {S : Nat} {hl t : List (Int × Int)} {L : List Xc} (hS : S ≤ 96) (hn : hl.length ≤ 24) : ∀ (k : Nat) (d : Nat → Int), dfS S hl t L k = some d → drB (S : Int) hl.length d = true ∧ (pinsL d).length ≤ k
  | 0, d, h => by
    obtain rfl : (fun _ => 0) = d := Option.some.inj h
    exact ⟨drB_zero _ _, by rw [pinsL, pinsT_zd]; simp⟩
  | k + 1, d, h => by
    cases hk : dfS S hl t L k with
    | none => simp only [dfS, hk] at h; cases h
    | some d0 =>
      obtain ⟨h1, h2⟩ := dfS_in hS hn k d0 hk
      have hw := dfS_wf hk
      by_cases hc : xk L k ∈ chS S hl (nAt t k) (nPi t k) ∧ plO S hl d0 (nAt t k) (xk L k) = true
      · rw [dfS_yes hk hc.1 hc.2] at h
        obtain rfl := Option.some.inj h
        unfold plN
        by_cases ha : (xk L k).1 = true
        · rw [if_pos ha]; exact ⟨h1, by omega⟩
        · rw [if_neg ha]
          obtain ⟨_, ⟨g1, g2⟩, g3, g4⟩ := chS_in hc.1 (by simpa using ha)
          have hk96 : (nAt t k + (xk L k).2.1).toNat < 96 := by omega
          have ht32 : (xk L k).2.2.2.toNat < 32 := by omega
          refine ⟨drB_togP hw h1 (by omega) (by omega) (by omega) hn, ?_⟩
          have h5 := (pinsT_tog hw hk96 ht32 96).1
          unfold pinsL at h2 ⊢
          omega
      · rw [dfS_no hk hc] at h; cases h
theorem ht_ask {s : Int} {hl t : List (Int × Int)} {L : List Xc} (h : dfC s hl t L = 0) : askB s hl (dfD s hl t L) = true ∧ toC s hl (dfD s hl t L) = 0 ∧ toV s hl (dfD s hl t L) = sortU (toL hl (dfD s hl t L)) := by
  by_cases hq : dfQ s hl t L = 0
  · cases hf : dfF s.toNat hl t L with
    | some k => have := (dfC_four hq hf).1; omega
    | none =>
      obtain ⟨d, hd⟩ := dfS_ex hf
      have hD : dfD s hl t L = d := by rw [← (dfC_zero hq hf).2.2, (fi_none hd).1]
      rw [hD]
      obtain ⟨h1, h2, _, h4⟩ := dfQ_inv hq
      obtain ⟨⟨s1, s2⟩, ⟨n1, n2⟩, hG⟩ := frB_all h1
      obtain ⟨t1, _⟩ := okB_getP h2
      obtain ⟨S, rfl⟩ : ∃ S : Nat, s = (S : Int) := ⟨s.toNat, by omega⟩
      obtain ⟨h5, h6⟩ := dfS_in (by omega) n2 _ _ hd
      rw [Int.toNat_natCast] at h5
      have ha : askB (S : Int) hl d = true := by simp only [askB, h1, h5, Bool.and_self]
      have h7 := toL_range hG h5 (dfS_wf hd)
      have h8 : (sortU (toL hl d)).length ≤ 120 := by
        have h9 := sortU_le (toL hl d)
        have h10 : (toL hl d).length = (pinsL d).length := by rw [toL, noL_len]
        omega
      have hc : mkC (toL hl d) = 0 := by rw [mkC, if_pos h7, if_pos h8]
      exact ⟨ha, by rw [toC, if_pos ha, hc], by rw [toV, if_pos ha, mkV, if_pos hc]⟩
  · have := (dfC_q hq).1
    omega
/-- the tune that is heard -/
def htV (s : Int) (hl t : List (Int × Int)) (L : List Xc) : List (Int × Int) := if dfC s hl t L = 0 then sortU (toL hl (dfD s hl t L)) else []
theorem htV_len (s : Int) (hl t : List (Int × Int)) (L : List Xc) : (htV s hl t L).length ≤ 1048576 := by
  unfold htV
  split
  · have h1 := sortU_le (toL hl (dfD s hl t L))
    have h2 := toL_len hl (dfD s hl t L)
    omega
  · simp
set_option maxRecDepth 20000 in
set_option maxHeartbeats 4000000 in
theorem specHeardTune_any (s : Int) (A : Option Addr) (c : Nat) (hl : List (Int × Int)) (B : Option Addr) (ct : Nat) (t : List (Int × Int)) (C : Option Addr) (cl : Nat) (L : List Xc) (w : World) (hA : HA w A hl) (hn : hl.length ≤ 1048576) (hwf : HWF hl) (hs : -32768 ≤ s ∧ s ≤ 32767)
    (hB : NA w B t) (hnt : t.length ≤ 1048576) (hwt : WF t) (hC : ChA w C L) (hnL : L.length ≤ 1048576) (hwL : ChWF L) :
    Calls Tryz.prog 26 #[.agg #[.int .i16 s, .slice A hl.length c], .slice B t.length ct, .slice C L.length cl] w (OwnN w (htV s hl t L) (dfC s hl t L)) := by
  have KD := fun b W (h0 : FP W b s A hl.length c) (h1 : HA W A hl) (h2 : NA W B t) (h3 : ChA W C L) => l07Drum_any b s A c hl B ct t C cl L W h0 h1 hn hwf hs h2 hnt hwt h3 hnL hwL
  have hz := zeroDrum
  have HASK := hide (ht_ask (s := s) (hl := hl) (t := t) (L := L))
  have hdw := dfD_wf s hl t L
  obtain ⟨v, hv⟩ : ∃ v, v = htV s hl t L := ⟨_, rfl⟩
  have HV0 := hide (show v = if dfC s hl t L = 0 then sortU (toL hl (dfD s hl t L)) else [] from hv)
  obtain ⟨d, hd⟩ : ∃ d, d = dfD s hl t L := ⟨_, rfl⟩
  obtain ⟨q, hq⟩ : ∃ q, q = dfC s hl t L := ⟨_, rfl⟩
  rw [← hd, ← hq] at KD HASK HV0
  rw [← hd] at hdw
  rw [← hq, ← hv]
  have hzd : za.size = (da d).size := by rw [za_eq, da_size, da_size]
  have HDW := hide hdw
  clear hd hq hv hdw
  obtain ⟨X, hX⟩ : ∃ X, X = w.alloc (.cells #[.int .i16 s, .slice A hl.length c] 38) := ⟨_, rfl⟩
  have b0 : Below w.heap.size w X := by rw [hX]; exact (Below.refl _ _).alloc (Nat.le_refl _) _
  have P0 : Bk X w.heap.size 38 #[.int .i16 s, .slice A hl.length c] := by rw [hX]; exact Bk.new _ _ _ rfl
  have f0 := P0.cell (i := 0) rfl
  have f1 := P0.cell (i := 1) rfl
  go_enter Tryz.func26, Tryz.ntmps26
  go_upto_region 1 with fail
  rw [← hX]
  clear hX
  go_wp2_with fail
  refine (KD w.heap.size X ⟨f0, f1⟩ (hA.below b0) (hB.below b0) (hC.below b0)).mono ?_
  rintro e w1 ⟨rfl, hb1⟩
  have b1 := step_below hb1 b0
  have P1 := P0.keep hb1
  clear KD f0 f1 P0
  go_upto_region 2 with (with_reducible refine wpList_store_new rfl 33 (.tmp 8) (.tmp 14) rfl d rfl rfl 33 _ (dInfo d) hzd ?_)
  obtain ⟨Y, hY⟩ : ∃ Y, Y = w1.alloc (.cells (da d) 33) := ⟨_, rfl⟩
  have hb2 : Below w1.heap.size w1 Y := by rw [hY]; exact (Below.refl _ _).alloc (Nat.le_refl _) _
  have b2 := step_below hb2 b1
  have P2 := P1.keep hb2
  have G2 : Dr Y w1.heap.size 33 d := by rw [hY]; exact heap_alloc_new _ _
  rw [← hY]
  clear hY b0 hb1 b1 hb2 hz hzd P1
  by_cases hq0 : q = 0
  case neg =>
    have hqn : (q != 0) = true := by simp [hq0]
    have HV2 := hide (HV0.out.trans (if_neg hq0))
    clear hq0
    go_wp2
    go_ret2
    rw [HV2.out]
    exact ownN_nil (some ⟨Y.heap.size, 0, none⟩) 0 q (own_emptyT _ _ b2.size) (b2.alloc b2.size _)
  have HA3 := HASK.out hq0
  obtain ⟨h3s, ⟨h3n, h3l⟩, h3G, h3d⟩ := ask_all HA3.1
  obtain ⟨S, rfl⟩ : ∃ S : Nat, s = (S : Int) := ⟨s.toNat, by omega⟩
  have f0 := P2.cell (i := 0) rfl
  have f1 := P2.cell (i := 1) rfl
  have KT := l02Tune_any w.heap.size w1.heap.size S A c hl d Y ⟨f0, f1⟩ G2 (hA.below b2) (by omega) h3l hwf h3G h3d HDW.out
  have HV2 := hide (HV0.out.trans (if_pos hq0))
  subst hq0
  rw [← HV2.out] at KT
  clear HA3 h3s h3n h3l h3G h3d HASK HV0 G2 P2 f0 f1
  go_wp2_with fail
  refine KT.mono ?_
  rintro e w5 ⟨A5, c5, rfl, own5, hb5⟩
  go_wp2
  go_ret2
  exact ⟨A5, c5, rfl, own_base own5 b2.size, step_below hb5 b2⟩
set_option maxRecDepth 20000 in
set_option maxHeartbeats 4000000 in
theorem implHeardTune_any (p : Nat → Addr) (s : Int) (A : Option Addr) (c : Nat) (hl : List (Int × Int)) (B : Option Addr) (ct : Nat) (t : List (Int × Int)) (C : Option Addr) (cl : Nat) (L : List Xc) (w : World) (hA : HA w A hl) (hn : hl.length ≤ 1048576) (hwf : HWF hl) (hs : -32768 ≤ s ∧ s ≤ 32767)
    (hB : NA w B t) (hnt : t.length ≤ 1048576) (hwt : WF t) (hC : ChA w C L) (hnL : L.length ≤ 1048576) (hwL : ChWF L) (hE : ErrP p w) (hT : TabW w) :
    Calls Tryz.prog 27 #[.agg #[.int .i16 s, .slice A hl.length c], .slice B t.length ct, .slice C L.length cl] w (OwnN w (htV s hl t L) (dfC s hl t L)) := by
  have KD := fun W (h1 : HA W A hl) (h2 : NA W B t) (h3 : ChA W C L) (h4 : ErrP p W) => drumFor_any p s A c hl B ct t C cl L W h4 h1 hn hwf hs h2 hnt hwt h3 hnL hwL
  have KC := fun W (h4 : ErrP p W) => codeOf_df p s hl t L W h4
  have hne := df_neq p s hl t L
  have hgn := guard_nil
  have hz := zeroDrum
  have HASK := hide (ht_ask (s := s) (hl := hl) (t := t) (L := L))
  have hdw := dfD_wf s hl t L
  obtain ⟨v, hv⟩ : ∃ v, v = htV s hl t L := ⟨_, rfl⟩
  have HV0 := hide (show v = if dfC s hl t L = 0 then sortU (toL hl (dfD s hl t L)) else [] from hv)
  obtain ⟨d, hd⟩ : ∃ d, d = dfD s hl t L := ⟨_, rfl⟩
  obtain ⟨q, hq⟩ : ∃ q, q = dfC s hl t L := ⟨_, rfl⟩
  obtain ⟨ev, hev⟩ : ∃ ev, ev = dfV p s hl t L := ⟨_, rfl⟩
  rw [← hev, ← hq] at KC hne
  rw [← hd, ← hev] at KD
  rw [← hd, ← hq] at HASK HV0
  rw [← hd] at hdw
  rw [← hq, ← hv]
  have hzd : za.size = (da d).size := by rw [za_eq, da_size, da_size]
  have HDW := hide hdw
  clear hd hq hv hdw hev
  obtain ⟨X, hX⟩ : ∃ X, X = w.alloc (.cells #[.int .i16 s, .slice A hl.length c] 38) := ⟨_, rfl⟩
  have b0 : Below w.heap.size w X := by rw [hX]; exact (Below.refl _ _).alloc (Nat.le_refl _) _
  have P0 : Bk X w.heap.size 38 #[.int .i16 s, .slice A hl.length c] := by rw [hX]; exact Bk.new _ _ _ rfl
  have f0 := P0.cell (i := 0) rfl
  have f1 := P0.cell (i := 1) rfl
  go_enter Tryz.func27, Tryz.ntmps27
  go_upto_region 1 with fail
  rw [← hX]
  clear hX
  go_wp2_with fail
  refine (KD X (hA.below b0) (hB.below b0) (hC.below b0) (hE.keep b0)).mono ?_
  rintro e w1 ⟨rfl, hb1⟩
  have b1 := step_below hb1 b0
  have P1 := P0.keep hb1
  clear KD f0 f1 P0
  go_upto_region 2 with (with_reducible refine wpList_store_new rfl 33 (.tmp 8) (.tmp 15) rfl d rfl rfl 33 _ (dInfo d) hzd ?_)
  obtain ⟨Y, hY⟩ : ∃ Y, Y = w1.alloc (.cells (da d) 33) := ⟨_, rfl⟩
  have hb2 : Below w1.heap.size w1 Y := by rw [hY]; exact (Below.refl _ _).alloc (Nat.le_refl _) _
  have b2 := step_below hb2 b1
  have P2 := P1.keep hb2
  have G2 : Dr Y w1.heap.size 33 d := by rw [hY]; exact heap_alloc_new _ _
  rw [← hY]
  clear hY b0 hb1 b1 hb2 hz hzd P1
  by_cases hq0 : q = 0
  case neg =>
    have hqn : decide (q ≠ 0) = true := decide_eq_true hq0
    have HV2 := hide (HV0.out.trans (if_neg hq0))
    rw [hqn] at hne
    clear hq0 hqn
    go_wp2_with fail
    refine (KC Y (hE.keep b2)).mono ?_
    rintro e w3 ⟨rfl, hb3⟩
    have b3 := step_below hb3 b2
    go_wp2
    go_ret2
    rw [HV2.out]
    exact ownN_nil none 0 q ⟨rfl, Or.inl ⟨rfl, rfl⟩⟩ b3
  have HA3 := HASK.out hq0
  have KT := implTuneOf_any s A c hl d Y (hA.below b2) hn hwf hs HDW.out (hT.keep b2)
  have HV2 := hide (HV0.out.trans (if_pos hq0))
  subst hq0
  rw [HA3.2.1, HA3.2.2, ← HV2.out] at KT
  rw [show decide ((0 : Int) ≠ 0) = false from rfl] at hne
  have f0 := P2.cell (i := 0) rfl
  have f1 := P2.cell (i := 1) rfl
  have HG1 := hide G2.range
  clear HA3 HASK HV0 G2 P2 KC
  go_wp2_with (with_reducible refine wpList_load_da rfl 33 (.tmp 8) rfl w1.heap.size 0 rfl d _ HG1.out Tryz.underlying33 rfl (dInfo d) ?_)
  refine KT.mono ?_
  rintro e w5 ⟨A5, c5, rfl, own5, hb5⟩
  go_wp2
  go_ret2
  exact ⟨A5, c5, rfl, own_base own5 b2.size, step_below hb5 b2⟩
theorem implHeardTune_e (s : Int) (A : Option Addr) (c : Nat) (hl : List (Int × Int)) (B : Option Addr) (ct : Nat) (t : List (Int × Int)) (C : Option Addr) (cl : Nat) (L : List Xc) (w : World) (hA : HA w A hl) (hn : hl.length ≤ 1048576) (hwf : HWF hl) (hs : -32768 ≤ s ∧ s ≤ 32767)
    (hB : NA w B t) (hnt : t.length ≤ 1048576) (hwt : WF t) (hC : ChA w C L) (hnL : L.length ≤ 1048576) (hwL : ChWF L) (hTE : TabE w) :
    Calls Tryz.prog 27 #[.agg #[.int .i16 s, .slice A hl.length c], .slice B t.length ct, .slice C L.length cl] w (OwnN w (htV s hl t L) (dfC s hl t L)) :=
  let ⟨p, hp⟩ := hTE.2
  implHeardTune_any p s A c hl B ct t C cl L w hA hn hwf hs hB hnt hwt hC hnL hwL hp hTE.1
end Go.Proofs.YtmmninlnpnhboaaGreatDoor
