import Derived.Test.YtcocfnjbgceidaaGreatChe
namespace Go.Proofs.YtcocfnjbgceidaaGreat
open Go.RowKit Go.Maps
def ChO (s : Int) (h : List (Int × Int)) (T : List Wp) (z : List Int) (p q t : Int) (l : List (Int × Int)) (w : World) (e : Ending) (w' : World) : Prop := e = .returned (.tuple #[.int .i64 (chI s h T z p q t l), .int .i64 (chL s h T z p q t l), .int .i64 (chC s h T z p q t l)]) ∧ Below w.heap.size w w'
theorem ch_bad {s : Int} {h : List (Int × Int)} {T : List Wp} {z : List Int} {p q t : Int} {l : List (Int × Int)} (hv : chV s h T z l = false) : chI s h T z p q t l = 0 ∧ chL s h T z p q t l = 0 ∧ chC s h T z p q t l = 1 := by
  rw [chI, chL, chC, chR, hv]
  exact ⟨rfl, rfl, rfl⟩
theorem ch_range {s : Int} {h : List (Int × Int)} {T : List Wp} {z : List Int} {p q t : Int} {l : List (Int × Int)} (hv : chV s h T z l = true) (hq : chQ p q t l.length = false) : chI s h T z p q t l = 0 ∧ chL s h T z p q t l = 0 ∧ chC s h T z p q t l = 2 := by
  rw [chI, chL, chC, chR, hv, hq]
  exact ⟨rfl, rfl, rfl⟩
theorem ch_none {s : Int} {h : List (Int × Int)} {T : List Wp} {z : List Int} {p q t : Int} {l : List (Int × Int)} (hv : chV s h T z l = true) (hq : chQ p q t l.length = true) (hn : chS T z p q t l l.length = none) : chI s h T z p q t l = 0 ∧ chL s h T z p q t l = 0 ∧ chC s h T z p q t l = 6 := by
  rw [chI, chL, chC, chR, hv, hq]
  simp [hn]
theorem ch_some {s : Int} {h : List (Int × Int)} {T : List Wp} {z : List Int} {p q t : Int} {l : List (Int × Int)} (hv : chV s h T z l = true) (hq : chQ p q t l.length = true) {x : Nat × Int} (hn : chS T z p q t l l.length = some x) : chI s h T z p q t l = (x.1 : Int) ∧ chL s h T z p q t l = x.2 ∧ chC s h T z p q t l = 0 := by
  rw [chI, chL, chC, chR, hv, hq]
  simp [hn]
theorem ls_at {l : List (Int × Int)} (h : lsB l = true) {k : Nat} (hk : k < l.length) : lvB (lvP l k) (lvH l k) = true := by
  unfold lsB at h
  rw [List.all_eq_true] at h
  have := h l[k] (List.getElem_mem hk)
  rw [← lv_get l k hk] at this
  exact this
theorem chQ_of {p q t : Int} {n : Nat} {b1 b2 b3 b4 : Bool} (h1 : inB p 0 1000 = b1) (h2 : inB q 0 1000 = b2) (h3 : inB t 0 1000000 = b3) (h4 : inB (n : Int) 1 20 = b4) : chQ p q t n = (b1 && b2 && b3 && b4) := by
  rw [chQ, h1, h2, h3, h4]
set_option maxRecDepth 20000 in
set_option maxHeartbeats 8000000 in
theorem implCheapestLives_any (s : Int) (A : Option Addr) (c : Nat) (h : List (Int × Int)) (P : Option Addr) (d : Nat) (l : List Wp) (U : Option Addr) (v : Nat) (z : List Int) (pp hp t : Int) (L : Option Addr) (lc : Nat) (m : List (Int × Int)) (w : World)
    (hA : HA w A h) (hn : h.length ≤ 1048576) (hwf : HWF h) (hs : -32768 ≤ s ∧ s ≤ 32767) (hL : WnA w P l) (hU : SZ w U z) (hl : l.length ≤ 1048576) (hz : z.length ≤ 1048576) (hlw : WnWF l) (hzw : ZWF z) (hM : LwA w L m) (hm : m.length ≤ 1048576) (hmw : LwWF m) :
    Calls Tryz.prog 40 #[.agg #[.int .i16 s, .slice A h.length c], .agg #[.slice P l.length d, .slice U z.length v], .int .i64 pp, .int .i64 hp, .int .i64 t, .slice L m.length lc] w (ChO s h l z pp hp t m w) := by
  obtain ⟨X, hX⟩ : ∃ X, X = (w.alloc (.cells #[.int .i16 s, .slice A h.length c] 39)).alloc (.cells #[.slice P l.length d, .slice U z.length v] 34) := ⟨_, rfl⟩
  have hb0 : Below w.heap.size w X := by rw [hX]; exact ((Below.refl _ _).alloc (Nat.le_refl _) _).alloc (by simp) _
  have P0 : Bk X w.heap.size 39 #[.int .i16 s, .slice A h.length c] := by rw [hX]; exact (Bk.new _ _ _ rfl).old _
  have P1 : Bk X (w.heap.size + 1) 34 #[.slice P l.length d, .slice U z.length v] := by rw [hX]; exact Bk.new _ _ _ (by simp)
  have KW := wearingFor_any s A c h P d l U v z (.slice L m.length lc) (lsB m) X (hA.below hb0) hn hwf hs (hL.below hb0) (hU.below hb0) hl hz hlw hzw (fun W hW => areLives_any L lc m W ((hM.below hb0).below hW) hm hmw)
  go_enter Tryz.func40, Tryz.ntmps40
  go_upto_region 1 with fail
  rw [← hX]
  clear hX
  have c0 := P0.cell (i := 0) rfl
  have c1 := P0.cell (i := 1) rfl
  have c2_ := P1.cell (i := 0) rfl
  have c3 := P1.cell (i := 1) rfl
  go_wp2_with fail
  refine KW.mono ?_
  rintro e w2 ⟨he, hb2⟩
  have b2 := step_below hb2 hb0
  have hM2 := hM.below b2
  clear KW c0 c1 c2_ c3
  rcases he with ⟨h1, rfl⟩ | ⟨h1, M, C, q, rfl, hMw, own, ownz⟩
  · have HC := hide (ch_bad (p := pp) (q := hp) (t := t) (show chV s h l z m = false from h1))
    obtain ⟨Y, hY⟩ : ∃ Y, Y = w2.alloc (.cells #[.int .i64 0, .slice none 0 0, .map none, .slice none 0 0] 106) := ⟨_, rfl⟩
    have hbY : Below w2.heap.size w2 Y := by rw [hY]; exact (Below.refl _ _).alloc (Nat.le_refl _) _
    have bY := step_below hbY b2
    clear h1
    go_upto_region 2 with fail
    rw [← hY]
    clear hY
    go_wp2
    go_ret3
    exact ⟨by rw [HC.out.1, HC.out.2.1, HC.out.2.2]; rfl, bY⟩
  · have HV := hide (show chV s h l z m = true from h1)
    obtain ⟨hwe, hlv⟩ : weB s h l z = true ∧ lsB m = true := by simpa using h1
    have hpv := weB_turn hwe
    have HLS := hide hlv
    have st2 := wst_start hwe hlw own ownz hMw
    obtain ⟨hs96, hn24⟩ := weB_fr hwe
    obtain ⟨Y, hY⟩ : ∃ Y, Y = w2.alloc (.cells #[.int .i64 s, .slice A h.length c, .map (some M), .slice C z.length q] 106) := ⟨_, rfl⟩
    have hbY : Below w2.heap.size w2 Y := by rw [hY]; exact (Below.refl _ _).alloc (Nat.le_refl _) _
    have bY := step_below hbY b2
    have G0 : Bk Y w2.heap.size 106 #[.int .i64 s, .slice A h.length c, .map (some M), .slice C z.length q] := by rw [hY]; exact Bk.new _ _ _ rfl
    obtain ⟨D, hM5, hD5, hI5, hO5, hz5, hv5, hvz5, hbM5⟩ := st2.keep hbY
    have hZY : SZ Y C z := SZ.of_own (c := q) (by rw [hz5]; exact hO5)
    have hsz5 : Maps.size D ≤ 1048576 := Nat.le_trans hM5.size_le hl
    have h85 := hv5.in8 hs96 hn24
    have hT5 := hv5.1
    have hMY := hM2.below hbY
    clear h1 own ownz st2 hwe hlv hI5 hO5 hz5 hv5 hvz5 hbM5 hMw hs96 hn24
    go_upto_region 2 with fail
    rw [← hY]
    clear hY
    have hgG := G0.lt
    cases e1 : inB pp 0 1000
    · have HC := hide (ch_range HV.out (by rw [chQ, e1]; rfl : chQ pp hp t m.length = false))
      go_wp2_with (go_at_call 73; with_reducible refine (within_any _ _ _ _).mono ?_; rintro e w' ⟨rfl, rfl⟩)
      go_ret3
      exact ⟨by rw [HC.out.1, HC.out.2.1, HC.out.2.2]; rfl, bY⟩
    cases e2 : inB hp 0 1000
    · have HC := hide (ch_range HV.out (by rw [chQ, e1, e2]; rfl : chQ pp hp t m.length = false))
      go_wp2_with (go_at_call 73; with_reducible refine (within_any _ _ _ _).mono ?_; rintro e w' ⟨rfl, rfl⟩)
      go_ret3
      exact ⟨by rw [HC.out.1, HC.out.2.1, HC.out.2.2]; rfl, bY⟩
    cases e3 : inB t 0 1000000
    · have HC := hide (ch_range HV.out (by rw [chQ, e1, e2, e3]; rfl : chQ pp hp t m.length = false))
      go_wp2_with (go_at_call 73; with_reducible refine (within_any _ _ _ _).mono ?_; rintro e w' ⟨rfl, rfl⟩)
      go_ret3
      exact ⟨by rw [HC.out.1, HC.out.2.1, HC.out.2.2]; rfl, bY⟩
    cases e4 : inB (m.length : Int) 1 20
    · have HC := hide (ch_range HV.out (by rw [chQ, e1, e2, e3, e4]; rfl : chQ pp hp t m.length = false))
      go_wp2_with (go_at_call 73; with_reducible refine (within_any _ _ _ _).mono ?_; rintro e w' ⟨rfl, rfl⟩)
      go_ret3
      exact ⟨by rw [HC.out.1, HC.out.2.1, HC.out.2.2]; rfl, bY⟩
    have HQ := hide (show chQ pp hp t m.length = true by rw [chQ, e1, e2, e3, e4]; rfl)
    have hpp : 0 ≤ pp ∧ pp ≤ 1000 := by simpa [inB] using e1
    have hhp : 0 ≤ hp ∧ hp ≤ 1000 := by simpa [inB] using e2
    have htt : 0 ≤ t ∧ t ≤ 1000000 := by simpa [inB] using e3
    have hm20 : m.length ≤ 20 := by
      have : 1 ≤ (m.length : Int) ∧ (m.length : Int) ≤ 20 := by simpa [inB] using e4
      omega
    have HPT := hide (fun k (hk : k < m.length) => pt_bounds hpv (lvB_all2 (ls_at HLS.out hk)).1 (lvB_all2 (ls_at HLS.out hk)).2 htt)
    have HCM := hide (fun k (hk : k < m.length) => ch_mul (HPT.out k hk).1 (HPT.out k hk).2 hpp hhp (show k < 20 by omega))
    have HBD := hide (fun k (hk : k < m.length) => show 0 ≤ chP l z pp hp t m k ∧ chP l z pp hp t m k ≤ 96000000000000 from (HCM.out k hk).2.2)
    go_wp2_with (go_at_call 73; with_reducible refine (within_any _ _ _ _).mono ?_; rintro e w' ⟨rfl, rfl⟩)
    clear e1 e2 e3 e4
    go_loopw [17, 18, 53] (fun a y i wr => ∃ k : Nat, k ≤ m.length ∧ i = .int .i64 k ∧ a = .int .i64 (chA (chS l z pp hp t m k)) ∧ y = .int .i64 (chY (chS l z pp hp t m k)) ∧ Below Y.heap.size Y wr)
      (fun _ _ i _ => m.length - (intOf i).toNat)
    case atStart => exact ⟨0, Nat.zero_le _, rfl, rfl, rfl, Below.refl _ _⟩
    case round =>
      obtain ⟨k, hk, rfl, rfl, rfl, hbr⟩ := hrel
      have hbs := hbr.size
      by_cases hlt : k < m.length
      · obtain ⟨pb, o, rfl, hbb, c1, c2⟩ := hMY k hlt
        have d1 := (hbr.cell (p := ⟨pb, o + k * 2, none⟩) hbb).trans c1
        have d2 := (hbr.cell (p := ⟨pb, o + k * 2 + 1, none⟩) hbb).trans c2
        have hlvk := lvB_all2 (ls_at HLS.out hlt)
        obtain ⟨Z, hZ⟩ : ∃ Z, Z = wr.alloc (.cells #[.int .i64 (lvP m k), .int .i64 (lvH m k)] 63) := ⟨_, rfl⟩
        have hbZ : Below wr.heap.size wr Z := by rw [hZ]; exact (Below.refl _ _).alloc (Nat.le_refl _) _
        have B0 : Bk Z wr.heap.size 63 #[.int .i64 (lvP m k), .int .i64 (lvH m k)] := by rw [hZ]; exact Bk.new _ _ _ rfl
        have bZ := step_below hbZ hbr
        have KP := partsFor_any s A h.length c M l.length q C D l z (lvP m k) (lvH m k) t Z (map_keep hM5 bZ) hD5 hsz5 hT5 h85 (hZY.below bZ) hlw hpv hlvk.1 hlvk.2 htt
        have G1 := G0.keep bZ
        have hki : (k : Int) < (m.length : Int) := by omega
        have HS := hide (chS_impl (T := l) (z := z) (p := pp) (q := hp) (t := t) (l := m) (k := k) (HBD.out k hlt).2)
        obtain ⟨x1, x2, x3⟩ := HPT.out k hlt
        obtain ⟨y1, y2, y3⟩ := HCM.out k hlt
        go_upto_region 12 with fail
        rw [← hZ]
        clear hZ c1 c2 d1 d2
        have e0 := G1.cell (i := 0) rfl
        have e1 := G1.cell (i := 1) rfl
        have e2 := G1.cell (i := 2) rfl
        have e3 := G1.cell (i := 3) rfl
        have f0 := B0.cell (i := 0) rfl
        have f1 := B0.cell (i := 1) rfl
        have HP := hide (show chP l z pp hp t m k = (ptP l z (lvP m k) (lvH m k) t * pp + ptH l z (lvP m k) (lvH m k) t * hp) * ((k : Int) + 1) from rfl)
        generalize ptP l z (lvP m k) (lvH m k) t = PP at *
        generalize ptH l z (lvP m k) (lvH m k) t = HH at *
        generalize ptC l z (lvP m k) (lvH m k) = CC at *
        generalize chA (chS l z pp hp t m k) = aa at *
        generalize chY (chS l z pp hp t m k) = yy at *
        have hw1 : IntKind.i64.wrap (PP * pp) = PP * pp := IntWalk.i64_in _ (by omega)
        have hw2 : IntKind.i64.wrap (HH * hp) = HH * hp := IntWalk.i64_in _ (by omega)
        have hw3 : IntKind.i64.wrap (PP * pp + HH * hp) = PP * pp + HH * hp := IntWalk.i64_in _ (by omega)
        have hw4 : IntKind.i64.wrap ((k : Int) + 1) = (k : Int) + 1 := IntWalk.i64_in _ (by omega)
        have hw5 : IntKind.i64.wrap ((PP * pp + HH * hp) * ((k : Int) + 1)) = (PP * pp + HH * hp) * ((k : Int) + 1) := IntWalk.i64_in _ (by omega)
        obtain ⟨pr, hpr⟩ : ∃ pr, pr = (PP * pp + HH * hp) * ((k : Int) + 1) := ⟨_, rfl⟩
        rw [← hpr] at hw5 HP
        have HPR := hide hpr
        have hpr2 : (PP * pp + HH * hp) * ((k : Int) + 1) = pr := hpr.symm
        rw [HP.out] at HS
        clear hM5 hMY hpr
        go_wp2_with fail
        refine KP.mono ?_
        rintro e w5 ⟨rfl, hb5⟩
        have b5 := hbr.trans ((hbZ.trans (hb5.mono hbZ.size)).mono hbs)
        clear KP e0 e1 e2 e3 f0 f1
        by_cases hc : CC = 0
        · have hcq : (CC == 0) = true := by simpa using hc
          by_cases hlt2 : pr < yy
          · have hd : decide (pr < yy) = true := by simpa using hlt2
            have HS2 := hide (HS.out.1.trans (if_pos ⟨hc, hlt2⟩))
            have HS3 := hide (HS.out.2.trans (if_pos ⟨hc, hlt2⟩))
            clear hc
            go_wp2
            go_roundw
            case rel => exact ⟨k + 1, hlt, by go_num, by rw [HS2.out], by rw [HS3.out], b5⟩
            case measure => simp [intOf]; omega
          · have hd : decide (pr < yy) = false := by simpa using hlt2
            have HS2 := hide (HS.out.1.trans (if_neg (fun h => hlt2 h.2)))
            have HS3 := hide (HS.out.2.trans (if_neg (fun h => hlt2 h.2)))
            clear hc
            go_wp2
            go_roundw
            case rel => exact ⟨k + 1, hlt, by go_num, by rw [HS2.out], by rw [HS3.out], b5⟩
            case measure => simp [intOf]; omega
        · have hcq : (CC == 0) = false := by simpa using hc
          have HS2 := hide (HS.out.1.trans (if_neg (fun h => hc h.1)))
          have HS3 := hide (HS.out.2.trans (if_neg (fun h => hc h.1)))
          clear hc
          go_wp2
          go_roundw
          case rel => exact ⟨k + 1, hlt, by go_num, by rw [HS2.out], by rw [HS3.out], b5⟩
          case measure => simp [intOf]; omega
      · obtain rfl : k = m.length := by omega
        have hni : ¬ (m.length : Int) < (m.length : Int) := by omega
        have b9 := bY.trans (hbr.mono bY.size)
        cases hS : chS l z pp hp t m m.length with
        | none =>
          have HC := hide (ch_none HV.out HQ.out hS)
          have hy : chY none = 9223372036854775807 := rfl
          have ha : chA none = 0 := rfl
          rw [hy, ha]
          clear hS hy ha
          go_wp2
          go_ret3
          exact ⟨by rw [HC.out.1, HC.out.2.1, HC.out.2.2]; rfl, b9⟩
        | some x =>
          have HC := hide (ch_some HV.out HQ.out hS)
          have hxb := chS_bound (fun j hj => HBD.out j hj) m.length (Nat.le_refl _) x hS
          obtain ⟨x1, x2⟩ := x
          have hy : chY (some (x1, x2)) = x2 := rfl
          have ha : chA (some (x1, x2)) = (x1 : Int) := rfl
          rw [hy, ha]
          simp only at hxb
          have hq : (x2 == 9223372036854775807) = false := beq_eq_false_iff_ne.2 (by omega)
          have hq2 : ¬ x2 = 9223372036854775807 := by omega
          clear hS hy ha
          go_wp2
          go_ret3
          exact ⟨by rw [HC.out.1, HC.out.2.1, HC.out.2.2]; rfl, b9⟩
end Go.Proofs.YtcocfnjbgceidaaGreat
