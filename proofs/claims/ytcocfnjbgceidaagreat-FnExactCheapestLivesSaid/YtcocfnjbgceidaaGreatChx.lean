import Derived.Test.YtcocfnjbgceidaaGreatChi
namespace Go.Proofs.YtcocfnjbgceidaaGreat
open Go.RowKit Go.Maps
theorem ls_take {m : List (Int × Int)} {k : Nat} (hk : k < m.length) : lsB (m.take (k + 1)) = (lsB (m.take k) && lvB (lvP m k) (lvH m k)) := by
  unfold lsB
  rw [List.take_add_one, List.getElem?_eq_getElem hk, Option.toList_some, List.all_append, ← lv_get m k hk]
  simp
theorem ls_false {m : List (Int × Int)} {k : Nat} (h : lsB (m.take k) = false) : lsB m = false := by
  unfold lsB at *
  rw [List.all_eq_false] at *
  obtain ⟨x, hx, h⟩ := h
  exact ⟨x, List.mem_of_mem_take hx, h⟩
set_option maxRecDepth 20000 in
set_option maxHeartbeats 8000000 in
theorem specCheapestLives_any (s : Int) (A : Option Addr) (c : Nat) (h : List (Int × Int)) (P : Option Addr) (d : Nat) (l : List Wp) (U : Option Addr) (v : Nat) (z : List Int) (pp hp t : Int) (L : Option Addr) (lc : Nat) (m : List (Int × Int)) (w : World)
    (hA : HA w A h) (hn : h.length ≤ 1048576) (hwf : HWF h) (hs : -32768 ≤ s ∧ s ≤ 32767) (hL : WnA w P l) (hU : SZ w U z) (hl : l.length ≤ 1048576) (hz : z.length ≤ 1048576) (hlw : WnWF l) (hzw : ZWF z) (hM : LwA w L m) (hm : m.length ≤ 1048576) (hmw : LwWF m) :
    Calls Tryz.prog 38 #[.agg #[.int .i16 s, .slice A h.length c], .agg #[.slice P l.length d, .slice U z.length v], .int .i64 pp, .int .i64 hp, .int .i64 t, .slice L m.length lc] w (ChO s h l z pp hp t m w) := by
  obtain ⟨X, hX⟩ : ∃ X, X = (w.alloc (.cells #[.int .i16 s, .slice A h.length c] 39)).alloc (.cells #[.slice P l.length d, .slice U z.length v] 34) := ⟨_, rfl⟩
  have hb0 : Below w.heap.size w X := by rw [hX]; exact ((Below.refl _ _).alloc (Nat.le_refl _) _).alloc (by simp) _
  have P0 : Bk X w.heap.size 39 #[.int .i16 s, .slice A h.length c] := by rw [hX]; exact (Bk.new _ _ _ rfl).old _
  have P1 : Bk X (w.heap.size + 1) 34 #[.slice P l.length d, .slice U z.length v] := by rw [hX]; exact Bk.new _ _ _ (by simp)
  have KW := l06Ok_any w.heap.size (w.heap.size + 1) s A c h P d l U v z X ⟨P0.cell (i := 0) rfl, P0.cell (i := 1) rfl⟩ (P1.cell (i := 0) rfl) (P1.cell (i := 1) rfl) (hA.below hb0) (hL.below hb0) (hU.below hb0) hn hl hz hwf hs hlw
  go_enter Tryz.func38, Tryz.ntmps38
  go_upto_region 1 with fail
  rw [← hX]
  clear hX
  go_wp2_with fail
  refine KW.mono ?_
  rintro e w2 ⟨rfl, hb2⟩
  have b2 := step_below hb2 hb0
  have Q1 := P1.keep hb2
  have hM2 := hM.below b2
  have hL2 := hL.below b2
  have hU2 := hU.below b2
  have hs2 := b2.size
  clear KW
  have ht0 : lsB (m.take 0) = true := rfl
  go_wp2_with fail
  go_loopw [15, 16] (fun ok i wr => ∃ k : Nat, k ≤ m.length ∧ i = .int .i64 k ∧ ok = .bool (weB s h l z && lsB (m.take k)) ∧ Below w2.heap.size w2 wr)
    (fun _ i _ => m.length - (intOf i).toNat)
  case atStart => exact ⟨0, Nat.zero_le _, rfl, by rw [ht0, Bool.and_true], Below.refl _ _⟩
  case round =>
    clear ht0
    obtain ⟨k, hk, rfl, rfl, hbr⟩ := hrel
    have hbs := hbr.size
    have bw := b2.trans (hbr.mono hs2)
    cases hok : (weB s h l z && lsB (m.take k))
    · have hv : chV s h l z m = false := by
        rw [chV]
        rcases Bool.and_eq_false_iff.1 hok with h1 | h1
        · rw [h1]; rfl
        · rw [ls_false h1, Bool.and_false]
      have HC := hide (ch_bad (p := pp) (q := hp) (t := t) hv)
      clear hok hv
      by_cases hlt : k < m.length
      · have hki : (k : Int) < (m.length : Int) := by omega
        go_wp2
        go_ret3
        exact ⟨by rw [HC.out.1, HC.out.2.1, HC.out.2.2]; rfl, bw⟩
      · have hki : ¬ (k : Int) < (m.length : Int) := by omega
        go_wp2
        go_ret3
        exact ⟨by rw [HC.out.1, HC.out.2.1, HC.out.2.2]; rfl, bw⟩
    · by_cases hlt : k < m.length
      · obtain ⟨pb, o, rfl, hbb, c1, c2⟩ := hM2 k hlt
        have d1 := (hbr.cell (p := ⟨pb, o + k * 2, none⟩) hbb).trans c1
        have d2 := (hbr.cell (p := ⟨pb, o + k * 2 + 1, none⟩) hbb).trans c2
        have hki : (k : Int) < (m.length : Int) := by omega
        have KL := fun W => l06Lives_any (lvP m k) (lvH m k) W
        have HT := hide (show (weB s h l z && lsB (m.take (k + 1))) = lvB (lvP m k) (lvH m k) by rw [ls_take hlt, ← Bool.and_assoc, hok, Bool.true_and])
        clear c1 c2 hok
        generalize lvB (lvP m k) (lvH m k) = lv at *
        go_wp2_with fail
        refine (KL _).mono ?_
        rintro e w5 ⟨rfl, hb5⟩
        go_wp2
        go_roundw
        case rel => exact ⟨k + 1, hlt, by go_num, by rw [HT.out], hbr.trans (hb5.mono hbs)⟩
        case measure => simp [intOf]; omega
      · obtain rfl : k = m.length := by omega
        have hki : ¬ (m.length : Int) < (m.length : Int) := by omega
        rw [List.take_length] at hok
        have HV := hide (show chV s h l z m = true from hok)
        obtain ⟨hwe, hlv⟩ : weB s h l z = true ∧ lsB m = true := by simpa using hok
        have hpv := weB_turn hwe
        have HLS := hide hlv
        have QR := Q1.keep hbr
        clear hok hwe hlv
        cases e1 : inB pp 0 1000
        · have HC := hide (ch_range HV.out (by rw [chQ, e1]; rfl : chQ pp hp t m.length = false))
          go_wp2_with (go_at_call 46; with_reducible refine (l00In_any _ _ _ _).mono ?_; rintro e w' ⟨rfl, rfl⟩)
          go_ret3
          exact ⟨by rw [HC.out.1, HC.out.2.1, HC.out.2.2]; rfl, bw⟩
        cases e2 : inB hp 0 1000
        · have HC := hide (ch_range HV.out (by rw [chQ, e1, e2]; rfl : chQ pp hp t m.length = false))
          go_wp2_with (go_at_call 46; with_reducible refine (l00In_any _ _ _ _).mono ?_; rintro e w' ⟨rfl, rfl⟩)
          go_ret3
          exact ⟨by rw [HC.out.1, HC.out.2.1, HC.out.2.2]; rfl, bw⟩
        cases e3 : inB t 0 1000000
        · have HC := hide (ch_range HV.out (by rw [chQ, e1, e2, e3]; rfl : chQ pp hp t m.length = false))
          go_wp2_with (first | (go_at_call 46; with_reducible refine (l00In_any _ _ _ _).mono ?_; rintro e w' ⟨rfl, rfl⟩) | (go_at_call 69; with_reducible refine (l06Turns_any _ _).mono ?_; rintro e w' ⟨rfl, rfl⟩))
          go_ret3
          exact ⟨by rw [HC.out.1, HC.out.2.1, HC.out.2.2]; rfl, bw⟩
        cases e4 : inB (m.length : Int) 1 20
        · have HC := hide (ch_range HV.out (by rw [chQ, e1, e2, e3, e4]; rfl : chQ pp hp t m.length = false))
          go_wp2_with (first | (go_at_call 46; with_reducible refine (l00In_any _ _ _ _).mono ?_; rintro e w' ⟨rfl, rfl⟩) | (go_at_call 69; with_reducible refine (l06Turns_any _ _).mono ?_; rintro e w' ⟨rfl, rfl⟩))
          go_ret3
          exact ⟨by rw [HC.out.1, HC.out.2.1, HC.out.2.2]; rfl, bw⟩
        have HQ := hide (show chQ pp hp t m.length = true by rw [chQ, e1, e2, e3, e4]; rfl)
        have hpp : 0 ≤ pp ∧ pp ≤ 1000 := by simpa [inB] using e1
        have hhp : 0 ≤ hp ∧ hp ≤ 1000 := by simpa [inB] using e2
        have htt : 0 ≤ t ∧ t ≤ 1000000 := by simpa [inB] using e3
        have hm20 : m.length ≤ 20 := by
          have : 1 ≤ (m.length : Int) ∧ (m.length : Int) ≤ 20 := by simpa [inB] using e4
          omega
        have HPT := hide (fun k (hk : k < m.length) => pt_bounds hpv (lvB_all2 (ls_at HLS.out hk)).1 (lvB_all2 (ls_at HLS.out hk)).2 htt)
        have HCM := hide (fun k (hk : k < m.length) => ch_mul (HPT.out k hk).1 (HPT.out k hk).2 hpp hhp (show k < 20 by omega))
        go_wp2_with (first | (go_at_call 46; with_reducible refine (l00In_any _ _ _ _).mono ?_; rintro e w' ⟨rfl, rfl⟩) | (go_at_call 69; with_reducible refine (l06Turns_any _ _).mono ?_; rintro e w' ⟨rfl, rfl⟩))
        clear e1 e2 e3 e4
        obtain ⟨V, hVV⟩ : ∃ V, V = wr := ⟨_, rfl⟩
        rw [← hVV] at bw hbr QR ⊢
        clear hVV
        have hMV := hM2.below hbr
        have hLV := hL2.below hbr
        have hUV := hU2.below hbr
        go_loopw [17, 18, 19] (fun a y i wq => ∃ k : Nat, k ≤ m.length ∧ i = .int .i64 k ∧ a = .int .i64 (chU (chS l z pp hp t m k)) ∧ y = .int .i64 (chW (chS l z pp hp t m k)) ∧ Below V.heap.size V wq)
          (fun _ _ i _ => m.length - (intOf i).toNat)
        case atStart => exact ⟨0, Nat.zero_le _, rfl, rfl, rfl, Below.refl _ _⟩
        case round =>
          obtain ⟨k, hk, rfl, rfl, rfl, hbq⟩ := hrel
          have hbqs := hbq.size
          by_cases hlt : k < m.length
          · obtain ⟨pb, o, rfl, hbb, c1, c2⟩ := hMV k hlt
            have d1 := (hbq.cell (p := ⟨pb, o + k * 2, none⟩) hbb).trans c1
            have d2 := (hbq.cell (p := ⟨pb, o + k * 2 + 1, none⟩) hbb).trans c2
            have hlvk := lvB_all2 (ls_at HLS.out hlt)
            have QZ := QR.keep hbq
            have KP := l06Parts_any (w.heap.size + 1) P d l U v z (lvP m k) (lvH m k) t wr (QZ.cell (i := 0) rfl) (QZ.cell (i := 1) rfl) (hLV.below hbq) (hUV.below hbq) hlw hpv hlvk.1 hlvk.2 htt
            have hki : (k : Int) < (m.length : Int) := by omega
            have HS := hide (chS_spec (T := l) (z := z) (p := pp) (q := hp) (t := t) (l := m) (k := k))
            obtain ⟨x1, x2, x3⟩ := HPT.out k hlt
            obtain ⟨y1, y2, y3⟩ := HCM.out k hlt
            have HP := hide (show chP l z pp hp t m k = (ptP l z (lvP m k) (lvH m k) t * pp + ptH l z (lvP m k) (lvH m k) t * hp) * ((k : Int) + 1) from rfl)
            generalize ptP l z (lvP m k) (lvH m k) t = PP at *
            generalize ptH l z (lvP m k) (lvH m k) t = HH at *
            generalize ptC l z (lvP m k) (lvH m k) = CC at *
            generalize chU (chS l z pp hp t m k) = aa at *
            generalize chW (chS l z pp hp t m k) = yy at *
            have hw1 : IntKind.i64.wrap (PP * pp) = PP * pp := IntWalk.i64_in _ (by omega)
            have hw2 : IntKind.i64.wrap (HH * hp) = HH * hp := IntWalk.i64_in _ (by omega)
            have hw3 : IntKind.i64.wrap (PP * pp + HH * hp) = PP * pp + HH * hp := IntWalk.i64_in _ (by omega)
            have hw4 : IntKind.i64.wrap ((k : Int) + 1) = (k : Int) + 1 := IntWalk.i64_in _ (by omega)
            have hw5 : IntKind.i64.wrap ((PP * pp + HH * hp) * ((k : Int) + 1)) = (PP * pp + HH * hp) * ((k : Int) + 1) := IntWalk.i64_in _ (by omega)
            obtain ⟨pr, hpr⟩ : ∃ pr, pr = (PP * pp + HH * hp) * ((k : Int) + 1) := ⟨_, rfl⟩
            rw [← hpr] at hw5 HP
            have hpr2 : (PP * pp + HH * hp) * ((k : Int) + 1) = pr := hpr.symm
            rw [HP.out] at HS
            clear hMV hpr c1 c2 hM2 hL2 hU2 hLV hUV hL hU hM
            go_wp2_with fail
            refine KP.mono ?_
            rintro e w5 ⟨rfl, hb5⟩
            have b5 := hbq.trans (hb5.mono hbqs)
            clear KP d1 d2
            by_cases hc : CC = 0
            · have hcq : (CC == 0) = true := by simpa using hc
              by_cases hlt1 : aa < 0
              · have hd1 : decide (aa < 0) = true := by simpa using hlt1
                have HS2 := hide (HS.out.1.trans (if_pos ⟨hc, Or.inl hlt1⟩))
                have HS3 := hide (HS.out.2.trans (if_pos ⟨hc, Or.inl hlt1⟩))
                clear hc
                go_wp2
                go_roundw
                case rel => exact ⟨k + 1, hlt, by go_num, by rw [HS2.out], by rw [HS3.out], b5⟩
                case measure => simp [intOf]; omega
              · have hd1 : decide (aa < 0) = false := by simpa using hlt1
                by_cases hlt2 : pr < yy
                · have hd : decide (pr < yy) = true := by simpa using hlt2
                  have HS2 := hide (HS.out.1.trans (if_pos ⟨hc, Or.inr hlt2⟩))
                  have HS3 := hide (HS.out.2.trans (if_pos ⟨hc, Or.inr hlt2⟩))
                  clear hc
                  go_wp2
                  go_roundw
                  case rel => exact ⟨k + 1, hlt, by go_num, by rw [HS2.out], by rw [HS3.out], b5⟩
                  case measure => simp [intOf]; omega
                · have hd : decide (pr < yy) = false := by simpa using hlt2
                  have HS2 := hide (HS.out.1.trans (if_neg (fun h => h.2.elim hlt1 hlt2)))
                  have HS3 := hide (HS.out.2.trans (if_neg (fun h => h.2.elim hlt1 hlt2)))
                  clear hc
                  go_wp2
                  go_roundw
                  case rel => exact ⟨k + 1, hlt, by go_num, by rw [HS2.out], by rw [HS3.out], b5⟩
                  case measure => simp [intOf]; omega
            · have hcq : (CC == 0) = false := by simpa using hc
              have HS2 := hide (HS.out.1.trans (if_neg (fun h => hc h.1)))
              have HS3 := hide (HS.out.2.trans (if_neg (fun h => hc h.1)))
              clear hc
              go_wp2
              go_roundw
              case rel => exact ⟨k + 1, hlt, by go_num, by rw [HS2.out], by rw [HS3.out], b5⟩
              case measure => simp [intOf]; omega
          · obtain rfl : k = m.length := by omega
            have hni : ¬ (m.length : Int) < (m.length : Int) := by omega
            have b9 := bw.trans (hbq.mono bw.size)
            cases hS : chS l z pp hp t m m.length with
            | none =>
              have HC := hide (ch_none HV.out HQ.out hS)
              have hy : chW none = 0 := rfl
              have ha : chU none = -1 := rfl
              rw [hy, ha]
              clear hS hy ha
              go_wp2
              go_ret3
              exact ⟨by rw [HC.out.1, HC.out.2.1, HC.out.2.2]; rfl, b9⟩
            | some x =>
              have HC := hide (ch_some HV.out HQ.out hS)
              obtain ⟨x1, x2⟩ := x
              have hy : chW (some (x1, x2)) = x2 := rfl
              have ha : chU (some (x1, x2)) = (x1 : Int) := rfl
              rw [hy, ha]
              have hx1 : ¬ ((x1 : Int) < 0) := by omega
              clear hS hy ha
              go_wp2
              go_ret3
              exact ⟨by rw [HC.out.1, HC.out.2.1, HC.out.2.2]; rfl, b9⟩
end Go.Proofs.YtcocfnjbgceidaaGreat
