import Derived.Test.YtcocfnjbgceidaaGreatPrt
import Derived.Test.YtcocfnjbgceidaaGreatWhl
import Derived.Test.YtcocfnjbgceidaaGreatGbe
namespace Go.Proofs.YtcocfnjbgceidaaGreat
open Go.RowKit Go.Maps
/-- the spec's number, and whether it does -/
def tmN (u e L t : Int) : Int := if e ≤ L then rnN u e L t else 0
set_option maxRecDepth 20000 in
set_option maxHeartbeats 1000000 in
theorem l06Times_any (u e L t : Int) (w : World) (hu : 0 ≤ u ∧ u ≤ L) (hL : L ≤ 1000000) (he : 0 ≤ e ∧ e ≤ 1048576) (ht : 0 ≤ t ∧ t ≤ 1000000) :
    Calls Tryz.prog 93 #[.int .i64 u, .int .i64 e, .int .i64 L, .int .i64 t] w fun r w' => r = .returned (.tuple #[.int .i64 (tmN u e L t), .bool (decide (e ≤ L))]) ∧ w = w' := by
  by_cases h0 : e = 0
  · have HR := hide (show tmN u e L t = 0 by rw [tmN, if_pos (by omega), rnN, if_pos h0])
    have HD := hide (show decide (e ≤ L) = true by simp; omega)
    have hq : (e == 0) = true := by simpa using h0
    clear h0
    go_enter Tryz.func93, Tryz.ntmps93
    go_wp2
    go_ret2
    exact ⟨by first | (rw [HR.out, HD.out]; rfl) | (rw [HR.out]; rfl), rfl⟩
  · have hq : (e == 0) = false := by simpa using h0
    by_cases hl : e ≤ L
    · have HD := hide (show decide (e ≤ L) = true by simpa using hl)
      have hd1 : decide (L < e) = false := by simpa using hl
      obtain ⟨x1, x2⟩ := tl_bounds hu hL (show 1 ≤ e by omega)
      have hw0 : IntKind.i64.wrap (L - u) = L - u := IntWalk.i64_in _ (by omega)
      have hti : (L - u).tdiv e = (L - u) / e := Int.tdiv_eq_ediv_of_nonneg (by omega)
      have HW := hide (show t < (L - u) / e + 1 → tmN u e L t = 0 from fun h => by rw [tmN, if_pos hl, rnN, if_neg h0, if_pos h])
      have HS := hide (show ¬ t < (L - u) / e + 1 → tmN u e L t = 1 + (t - ((L - u) / e + 1)) / (L / e) from fun h => by rw [tmN, if_pos hl, rnN, if_neg h0, if_neg h])
      have l1 : 1 ≤ L / e := (Int.le_ediv_iff_mul_le (by omega)).2 (by omega)
      have l2 := (IntWalk.tdiv_le L e (by omega) (by omega)).2
      have hti3 : L.tdiv e = L / e := Int.tdiv_eq_ediv_of_nonneg (by omega)
      obtain ⟨m, hm⟩ : ∃ m, m = L / e := ⟨_, rfl⟩
      rw [← hm] at hti3 l1 l2 HS
      obtain ⟨y, hy⟩ : ∃ y, y = (L - u) / e := ⟨_, rfl⟩
      rw [← hy] at hti x1 x2 HW HS
      have hw1 : IntKind.i64.wrap y = y := IntWalk.i64_in _ (by omega)
      have hw2 : IntKind.i64.wrap (y + 1) = y + 1 := IntWalk.i64_in _ (by omega)
      have hgt : ¬ L < e := by omega
      clear hm hy hu
      by_cases hlt : t < y + 1
      · have HR := hide (HW.out hlt)
        have hd : decide (t < y + 1) = true := by simpa using hlt
        go_enter Tryz.func93, Tryz.ntmps93
        go_wp2
        go_ret2
        exact ⟨by first | (rw [HR.out, HD.out]; rfl) | (rw [HR.out]; rfl), rfl⟩
      · have HR := hide (HS.out hlt)
        have hd : decide (t < y + 1) = false := by simpa using hlt
        have hm0 : ¬ m = 0 := by omega
        have hq2 : (m == 0) = false := beq_eq_false_iff_ne.2 (by omega)
        have hw3 : IntKind.i64.wrap m = m := IntWalk.i64_in _ (by omega)
        have hw4 : IntKind.i64.wrap (t - (y + 1)) = t - (y + 1) := IntWalk.i64_in _ (by omega)
        have hti2 : (t - (y + 1)).tdiv m = (t - (y + 1)) / m := Int.tdiv_eq_ediv_of_nonneg (by omega)
        obtain ⟨z1, z2⟩ := IntWalk.tdiv_le (t - (y + 1)) m (by omega) l1
        obtain ⟨d, hd2⟩ : ∃ d, d = (t - (y + 1)) / m := ⟨_, rfl⟩
        rw [← hd2] at hti2 HR z1 z2
        have hw5 : IntKind.i64.wrap d = d := IntWalk.i64_in _ (by omega)
        have hw6 : IntKind.i64.wrap (1 + d) = 1 + d := IntWalk.i64_in _ (by omega)
        clear hd2
        go_enter Tryz.func93, Tryz.ntmps93
        go_wp2
        go_ret2
        exact ⟨by first | (rw [HR.out, HD.out]; rfl) | (rw [HR.out]; rfl), rfl⟩
    · have HD := hide (show decide (e ≤ L) = false by simpa using hl)
      have HR := hide (show tmN u e L t = 0 by rw [tmN, if_neg hl])
      have hgt : L < e := by omega
      have hd1 : decide (L < e) = true := by simpa using hgt
      clear hl
      go_enter Tryz.func93, Tryz.ntmps93
      go_wp2
      go_ret2
      exact ⟨by first | (rw [HR.out, HD.out]; rfl) | (rw [HR.out]; rfl), rfl⟩
theorem rnS_bnd {l : List (Int × Int × Int × Int × Int)} {t : Int} (ht : 0 ≤ t ∧ t ≤ 1000000) : ∀ k, k ≤ l.length → (∀ j, j < k → (0 ≤ pcU l j ∧ pcU l j ≤ pcL l j) ∧ pcL l j ≤ 1000000 ∧ 0 ≤ pcM l j ∧ pcM l j ≤ pcL l j) → 0 ≤ rnS (l.take k) t ∧ rnS (l.take k) t ≤ 1000001 * (k : Int)
  | 0, _, _ => by simp [rnS]
  | k + 1, hk, h => by
    have ih := rnS_bnd ht k (by omega) (fun j hj => h j (by omega))
    rw [rnS_succ t (by omega)]
    obtain ⟨h1, h2, h3⟩ := h k (by omega)
    have := rn_bounds h1 h2 h3 ht
    omega
theorem hamL_f (T : List Wp) (z : List Int) (b : Int) (k : Nat) (hk : k < z.length) : pcU (hamL T z b T.length z.length) k = zAt z k ∧ pcM (hamL T z b T.length z.length) k = zAt (eachL T z.length T.length) k ∧ pcL (hamL T z b T.length z.length) k = b := by
  unfold pcU pcM pcL
  rw [hamL_get T z b T.length z.length k hk, eachL_at T z.length T.length k hk]
  exact ⟨rfl, rfl, rfl⟩
theorem each_b (T : List Wp) (n k : Nat) (hk : k < n) : 0 ≤ zAt (eachL T n T.length) k ∧ zAt (eachL T n T.length) k ≤ (T.length : Int) := by
  rw [eachL_at T n T.length k hk]
  have := cntP_le (T.take T.length) (k : Int)
  rw [List.length_take] at this
  omega
set_option maxRecDepth 20000 in
set_option maxHeartbeats 8000000 in
theorem l06Parts_any (g : Nat) (P : Option Addr) (d : Nat) (T : List Wp) (U : Option Addr) (v : Nat) (z : List Int) (a b t : Int) (w : World) (h1 : w.cell? ⟨g, 0, none⟩ = some (.slice P T.length d)) (h2 : w.cell? ⟨g, 1, none⟩ = some (.slice U z.length v)) (hL : WnA w P T) (hU : SZ w U z) (hlw : WnWF T) (hv : PtV T z) (ha : 1 ≤ a ∧ a ≤ 1000000) (hb : 1 ≤ b ∧ b ≤ 1000000) (ht : 0 ≤ t ∧ t ≤ 1000000) :
    Calls Tryz.prog 72 #[.pointer (some ⟨g, 0, none⟩), .agg #[.int .i64 a, .int .i64 b], .int .i64 t] w fun e w' => e = .returned (.tuple #[.int .i64 (ptP T z a b t), .int .i64 (ptH T z a b t), .int .i64 (ptC T z a b)]) ∧ Below w.heap.size w w' := by
  have hgw : g < w.heap.size := World.block_lt_of_cell? w _ h1
  have hlT : T.length ≤ 1048576 := by have := hv.1; omega
  have hlz : z.length ≤ 1048576 := by have := hv.2.1; omega
  obtain ⟨X, hX⟩ : ∃ X, X = w.alloc (.cells #[.int .i64 a, .int .i64 b] 63) := ⟨_, rfl⟩
  have hb0 : Below w.heap.size w X := by rw [hX]; exact (Below.refl _ _).alloc (Nat.le_refl _) _
  have RL : Bk X w.heap.size 63 #[.int .i64 a, .int .i64 b] := by rw [hX]; exact Bk.new _ _ _ rfl
  have g1 := (hb0.cell (p := ⟨g, 0, none⟩) hgw).trans h1
  have g2 := (hb0.cell (p := ⟨g, 1, none⟩) hgw).trans h2
  have KW := l06Whole_any g P d T U v z a b X g1 g2 (hL.below hb0) (hU.below hb0) hlT hlz
  go_enter Tryz.func72, Tryz.ntmps72
  go_upto_region 1 with fail
  rw [← hX]
  clear hX h1 h2
  have l0 := RL.cell (i := 0) rfl
  have l1 := RL.cell (i := 1) rfl
  have hXs := hb0.size
  cases hw : wholeB T z a b
  · rw [hw] at KW
    have HB := hide (show ptB T z a b = false by rw [ptB, hw]; rfl)
    clear hw
    go_wp2_with fail
    refine KW.mono ?_
    rintro e w2 ⟨rfl, hb2⟩
    go_wp2
    go_ret3
    rw [ptP, ptH, ptC, HB.out]
    exact ⟨rfl, step_below hb2 hb0⟩
  rw [hw] at KW
  have HW := hide hw
  clear hw
  go_wp2_with fail
  refine KW.mono ?_
  rintro e w2 ⟨rfl, hb2⟩
  have b2 := step_below hb2 hb0
  clear l0 l1 KW
  have HG1 := hide (pin_good hv HW.out ha)
  go_wp2_with fail
  go_loopw [9, 11, 12, 13] (fun s i _ _ wr => ∃ k : Nat, k ≤ T.length ∧ i = .int .i64 k ∧ s = .int .i64 (rnS ((pinL T a T.length).take k) t) ∧ Below X.heap.size X wr)
    (fun _ i _ _ _ => T.length - (intOf i).toNat)
  case atStart => exact ⟨0, Nat.zero_le _, rfl, rfl, hb2⟩
  case round =>
    obtain ⟨k, hk, rfl, rfl, hbr⟩ := hrel
    have hbs := hbr.size
    have bw := hb0.trans (hbr.mono hXs)
    have q1 := (hbr.cell (p := ⟨g, 0, none⟩) (by dsimp only; omega)).trans g1
    by_cases hlt : k < T.length
    · obtain ⟨pb, o, rfl, hbb, c1, c2, c3⟩ := hL k hlt
      have d3 := Later.cell ((bw.cell (p := ⟨pb, o + k * 3 + 2, none⟩) hbb).trans c3)
      have q0 := Later.cell q1
      have e0 := Later.cell ((RL.keep hbr).cell (i := 0) rfl)
      have hp := whole_pin HW.out hlt
      have hp0 := (hv.2.2.1 k hlt).2
      have hlP : k < (pinL T a T.length).length := by rw [pinL_len T a T.length (Nat.le_refl _)]; exact hlt
      have HS := hide (rnS_succ t hlP)
      have hfP : pcU (pinL T a T.length) k = wnP T k ∧ pcM (pinL T a T.length) k = 1 ∧ pcL (pinL T a T.length) k = a := by
        unfold pcU pcM pcL
        rw [pinL_get T a k hlt]
        exact ⟨rfl, rfl, rfl⟩
      have HTM := hide (show tmN (wnP T k) 1 a t = rnN (pcU (pinL T a T.length) k) (pcM (pinL T a T.length) k) (pcL (pinL T a T.length) k) t by rw [hfP.1, hfP.2.1, hfP.2.2, tmN, if_pos ha.1])
      have KT : ∀ p : Later wr, Calls Tryz.prog 93 #[.int .i64 (wnP T k), .int .i64 1, .int .i64 a, .int .i64 t] p.w fun r w' => r = .returned (.tuple #[.int .i64 (tmN (wnP T k) 1 a t), .bool true]) ∧ Below p.w.heap.size p.w w' := fun p => by
        refine (l06Times_any (wnP T k) 1 a t p.w ⟨hp0.1, hp⟩ ha.2 ⟨by omega, by omega⟩ ht).mono ?_
        rintro e w' ⟨rfl, rfl⟩
        exact ⟨by rw [show decide ((1 : Int) ≤ a) = true by simpa using ha.1], Below.refl _ _⟩
      have s1 := rnS_bounds HG1.out ht k (by omega)
      have s2 := rn_bounds (HG1.out k hlP).1 (HG1.out k hlP).2.1 (HG1.out k hlP).2.2 ht
      rw [← HTM.out] at HS s2
      have hki : (k : Int) < (T.length : Int) := by omega
      generalize rnS ((pinL T a T.length).take k) t = S at *
      generalize tmN (wnP T k) 1 a t = R at *
      have hw1 : IntKind.i64.wrap (S + R) = S + R := IntWalk.i64_in _ (by omega)
      clear c1 c2 c3 hfP hL hU
      go_wp2_with fail
      refine wp_region_later (by kernel_rfl) (by kernel_rfl) ?_
      repeat (go_big_quiet_step ((go_at_call 93; with_reducible exact Later.call (KT _))))
      refine wpQuiet_nil ?_
      rintro _ ⟨⟨wq, hq⟩, rfl⟩
      go_wp2
      go_roundw
      case rel => exact ⟨k + 1, hlt, by go_num, by rw [HS.out], hbr.trans (hq.mono hbs)⟩
      case measure => simp [intOf]; omega
    · have hkT : k = T.length := by omega
      subst hkT
      have hni : ¬ (T.length : Int) < (T.length : Int) := by omega
      have q2 := (hbr.cell (p := ⟨g, 1, none⟩) (by dsimp only; omega)).trans g2
      have KEa := l06Each_any g P d T U v z wr q1 q2 (hL.below bw) hlT hlz (fun k hk => (hv.2.2.1 k hk).1) hlw
      have hS1 : rnS ((pinL T a T.length).take T.length) t = rnS (pinL T a T.length) t := by rw [List.take_of_length_le (by rw [pinL_len T a T.length (Nat.le_refl _)]; exact Nat.le_refl _)]
      rw [hS1]
      obtain ⟨S1, hS⟩ : ∃ S1, S1 = rnS (pinL T a T.length) t := ⟨_, rfl⟩
      rw [← hS]
      have HS1 := hide hS
      clear hS hS1 hk hlt
      go_wp2_with fail
      refine KEa.mono ?_
      rintro e w5 ⟨C5, q5, rfl, own5, hb5⟩
      rw [eachL_len] at own5 ⊢
      have hE : SZ w5 C5 (eachL T z.length T.length) := SZ.of_own (c := q5) (by rw [eachL_len]; exact own5)
      have hEl := eachL_len T z.length T.length
      have bX5 := hbr.trans (hb5.mono hbs)
      have hX5 := bX5.size
      have b5 := hb0.trans (bX5.mono hXs)
      have h5s := b5.size
      have r1 := (hb5.cell (p := ⟨g, 1, none⟩) (by dsimp only; omega)).trans q2
      have RL5 := RL.keep bX5
      clear KEa own5 hbr
      have HEL := hide hEl
      clear hEl
      go_wp2_with fail
      go_loopw [10, 15, 16, 17] (fun s i _ _ wq => ∃ k : Nat, k ≤ z.length ∧ i = .int .i64 k ∧ s = .int .i64 (rnS ((hamL T z b T.length z.length).take k) t) ∧ (∀ j, j < k → zAt (eachL T z.length T.length) j ≤ b) ∧ Below w5.heap.size w5 wq)
        (fun _ i _ _ _ => z.length - (intOf i).toNat)
      case atStart => exact ⟨0, Nat.zero_le _, rfl, rfl, fun j hj => absurd hj (Nat.not_lt_zero _), Below.refl _ _⟩
      case round =>
        obtain ⟨k, hk, rfl, rfl, hG, hbq⟩ := hrel
        have HGG := hide hG
        have hbqs := hbq.size
        have bw2 := b5.trans (hbq.mono h5s)
        by_cases hlt : k < z.length
        · obtain ⟨pb, o, rfl, hbb, c1⟩ := hU k hlt
          obtain ⟨pe, oe, rfl, hbe, c2⟩ := hE k (by rw [HEL.out]; exact hlt)
          have d1 := Later.cell ((bw2.cell (p := ⟨pb, o + k, none⟩) hbb).trans c1)
          have d2 := Later.cell ((hbq.cell (p := ⟨pe, oe + k, none⟩) hbe).trans c2)
          have q0 := Later.cell ((hbq.cell (p := ⟨g, 1, none⟩) (by dsimp only; omega)).trans r1)
          have e1 := Later.cell ((RL5.keep hbq).cell (i := 1) rfl)
          have hz0 := hv.2.2.2 k hlt
          have hz1 := whole_ham HW.out hlt
          have heb := each_b T z.length k hlt
          have hT2304 := hv.1
          obtain ⟨f1, f2, f3⟩ := hamL_f T z b k hlt
          have hlH : k < (hamL T z b T.length z.length).length := by rw [hamL_len]; exact hlt
          have HS := hide (rnS_succ t hlH)
          have s1 := rnS_bnd (l := hamL T z b T.length z.length) ht k (by omega) (fun j hj => by
            obtain ⟨x1, x2, x3⟩ := hamL_f T z b j (by omega)
            have y1 := hv.2.2.2 j (by omega)
            have y2 := whole_ham HW.out (show j < z.length by omega)
            have y3 := each_b T z.length j (by omega)
            have y4 := hG j hj
            rw [x1, x2, x3]
            omega)
          rw [f1, f2, f3] at HS
          have hki : (k : Int) < (z.length : Int) := by omega
          obtain ⟨ev, hev⟩ : ∃ ev, ev = zAt (eachL T z.length T.length) k := ⟨_, rfl⟩
          rw [← hev] at d2 heb HS
          have HEV := hide hev
          have KT0 := fun W => l06Times_any (zAt z k) ev b t W ⟨hz0.1, hz1⟩ hb.2 ⟨heb.1, by omega⟩ ht
          by_cases hle : ev ≤ b
          · have HTM := hide (show tmN (zAt z k) ev b t = rnN (zAt z k) ev b t by rw [tmN, if_pos hle])
            have KT : ∀ p : Later wr, Calls Tryz.prog 93 #[.int .i64 (zAt z k), .int .i64 ev, .int .i64 b, .int .i64 t] p.w fun r w' => r = .returned (.tuple #[.int .i64 (tmN (zAt z k) ev b t), .bool true]) ∧ Below p.w.heap.size p.w w' := fun p => by
              refine (KT0 p.w).mono ?_
              rintro e w' ⟨rfl, rfl⟩
              exact ⟨by rw [show decide (ev ≤ b) = true by simpa using hle], Below.refl _ _⟩
            have s2 := rn_bounds (u := zAt z k) (e := ev) (L := b) (t := t) ⟨hz0.1, hz1⟩ hb.2 ⟨heb.1, hle⟩ ht
            rw [← HTM.out] at HS s2
            have HLE := hide hle
            generalize rnS ((hamL T z b T.length z.length).take k) t = S at *
            generalize tmN (zAt z k) ev b t = R at *
            have hw1 : IntKind.i64.wrap (S + R) = S + R := IntWalk.i64_in _ (by omega)
            clear c1 c2 hL hU hE f1 f2 f3 hev KT0 hG hlH hle heb hz0 hz1
            go_wp2_with fail
            refine wp_region_later (by kernel_rfl) (by kernel_rfl) ?_
            repeat (go_big_quiet_step ((go_at_call 93; with_reducible exact Later.call (KT _))))
            refine wpQuiet_nil ?_
            rintro _ ⟨⟨wq, hq⟩, rfl⟩
            go_wp2
            go_roundw
            case rel => exact ⟨k + 1, hlt, by go_num, by rw [HS.out], fun j hj => by
              rcases Nat.lt_or_ge j k with h | h
              · exact HGG.out j h
              · obtain rfl : j = k := by omega
                rw [← HEV.out]
                exact HLE.out, hbq.trans (hq.mono hbqs)⟩
            case measure => simp [intOf]; omega
          · have HB := hide (show ptB T z a b = false by rw [ptB, HW.out, pc_any_hit hlH (by rw [f2, f3, ← HEV.out]; omega)]; rfl)
            have KT : ∀ p : Later wr, Calls Tryz.prog 93 #[.int .i64 (zAt z k), .int .i64 ev, .int .i64 b, .int .i64 t] p.w fun r w' => r = .returned (.tuple #[.int .i64 (tmN (zAt z k) ev b t), .bool false]) ∧ Below p.w.heap.size p.w w' := fun p => by
              refine (KT0 p.w).mono ?_
              rintro e w' ⟨rfl, rfl⟩
              exact ⟨by rw [show decide (ev ≤ b) = false by simpa using hle], Below.refl _ _⟩
            generalize rnS ((hamL T z b T.length z.length).take k) t = S at *
            generalize tmN (zAt z k) ev b t = R at *
            clear c1 c2 hL hU hE f1 f2 f3 hev KT0 hG hlH hle heb hz0 hz1 HS s1
            go_wp2_with fail
            refine wp_region_later (by kernel_rfl) (by kernel_rfl) ?_
            repeat (go_big_quiet_step ((go_at_call 93; with_reducible exact Later.call (KT _))))
            refine wpQuiet_nil ?_
            rintro _ ⟨⟨wq, hq⟩, rfl⟩
            go_wp2
            go_ret3
            rw [ptP, ptH, ptC, HB.out]
            exact ⟨rfl, bw2.trans (hq.mono bw2.size)⟩
        · obtain rfl : k = z.length := by omega
          have hni : ¬ (z.length : Int) < (z.length : Int) := by omega
          have HB := hide (show ptB T z a b = true by
            rw [ptB, HW.out, pc_any_miss (l := hamL T z b T.length z.length) (fun j hj => by
              rw [hamL_len] at hj
              obtain ⟨x1, x2, x3⟩ := hamL_f T z b j hj
              rw [x2, x3]
              have := hG j (by omega)
              omega)]
            rfl)
          have HS2 := hide (show rnS ((hamL T z b T.length z.length).take z.length) t = rnS (hamL T z b T.length z.length) t by rw [List.take_of_length_le (by rw [hamL_len]; omega)])
          clear hG hE hL hU
          go_wp2
          go_ret3
          rw [ptP, ptH, ptC, HB.out, if_pos rfl, if_pos rfl, if_pos rfl, ← HS2.out, ← HS1.out]
          exact ⟨rfl, bw2⟩
end Go.Proofs.YtcocfnjbgceidaaGreat
