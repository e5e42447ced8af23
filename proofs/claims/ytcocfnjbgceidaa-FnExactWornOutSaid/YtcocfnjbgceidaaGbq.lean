import Derived.Test.YtcocfnjbgceidaaGbm
import Derived.Test.YtcocfnjbgceidaaGbp
import Derived.Test.YtcocfnjbgceidaaGbo
namespace Go.Proofs.Ytcocfnjbgceidaa
open Go.RowKit Go.Maps
def fbV (s : Int) (h : List (Int × Int)) (l : List Wp) (z : List Int) (a b : Int) : Bool := weB s h l z && lvB a b
def fbC (s : Int) (h : List (Int × Int)) (l : List Wp) (z : List Int) (a b : Int) (m : List (Int × Int × Int × Int × Int)) : Int :=
  if fbV s h l z a b then (if 60 < m.length then 3 else if dnK s h.length l z m a b < m.length then 0 else 6) else 1
def fbI (s : Int) (h : List (Int × Int)) (l : List Wp) (z : List Int) (a b : Int) (m : List (Int × Int × Int × Int × Int)) : Int :=
  if fbC s h l z a b m = 0 then (dnK s h.length l z m a b : Int) else 0
theorem dnW_ne {s : Int} {n : Nat} {T : List Wp} {z : List Int} {l : List (Int × Int × Int × Int × Int)} {a b : Int} (h : dnK s n T z l a b < l.length) : dnW s n T z l a b ≠ 0 := by
  have h' : (List.range l.length).findIdx (fun k => decide (dnC s n T z l a b k ≠ 0)) < (List.range l.length).length := by simpa [dnK] using h
  have := List.findIdx_getElem (w := h')
  rw [dnW, if_pos h]
  simpa [dnK] using this
theorem dnW_zero {s : Int} {n : Nat} {T : List Wp} {z : List Int} {l : List (Int × Int × Int × Int × Int)} {a b : Int} (h : ¬ dnK s n T z l a b < l.length) : dnW s n T z l a b = 0 := by
  rw [dnW, if_neg h]
set_option maxRecDepth 20000 in
set_option maxHeartbeats 8000000 in
theorem implFirstBreak_any (s : Int) (A : Option Addr) (c : Nat) (h : List (Int × Int)) (P : Option Addr) (d : Nat) (l : List Wp) (U : Option Addr) (v : Nat) (z : List Int) (a b : Int) (L : Option Addr) (lc : Nat) (m : List (Int × Int × Int × Int × Int)) (w : World)
    (hA : HA w A h) (hn : h.length ≤ 1048576) (hwf : HWF h) (hs : -32768 ≤ s ∧ s ≤ 32767) (hL : WnA w P l) (hU : SZ w U z) (hl : l.length ≤ 1048576) (hz : z.length ≤ 1048576) (hlw : WnWF l) (hzw : ZWF z) (hv : LvWF a b) (hM : AcA w L m) (hm : m.length ≤ 1048576) (hmw : AcWF m) :
    Calls Try.prog 30 #[.agg #[.int .i16 s, .slice A h.length c], .agg #[.slice P l.length d, .slice U z.length v], .agg #[.int .i64 a, .int .i64 b], .slice L m.length lc] w (fun e w' => e = .returned (.tuple #[.int .i64 (fbI s h l z a b m), .int .i64 (fbC s h l z a b m)]) ∧ Below w.heap.size w w') := by
  obtain ⟨X, hX⟩ : ∃ X, X = ((w.alloc (.cells #[.int .i16 s, .slice A h.length c] 60)).alloc (.cells #[.slice P l.length d, .slice U z.length v] 64)).alloc (.cells #[.int .i64 a, .int .i64 b] 66) := ⟨_, rfl⟩
  have hb0 : Below w.heap.size w X := by rw [hX]; exact (((Below.refl _ _).alloc (Nat.le_refl _) _).alloc (by simp) _).alloc (by simp; omega) _
  have P0 : Bk X w.heap.size 60 #[.int .i16 s, .slice A h.length c] := by rw [hX]; exact ((Bk.new _ _ _ rfl).old _).old _
  have P1 : Bk X (w.heap.size + 1) 64 #[.slice P l.length d, .slice U z.length v] := by rw [hX]; exact (Bk.new _ _ _ (by simp)).old _
  have P2 : Bk X (w.heap.size + 1 + 1) 66 #[.int .i64 a, .int .i64 b] := by rw [hX]; exact Bk.new _ _ _ (by simp)
  have hX3 := P2.lt
  obtain ⟨X1, hX1⟩ : ∃ X1, X1 = X.alloc (.cells #[.int .i64 a, .int .i64 b] 66) := ⟨_, rfl⟩
  have hbX1 : Below X.heap.size X X1 := by rw [hX1]; exact (Below.refl _ _).alloc (Nat.le_refl _) _
  have N1 : Bk X1 X.heap.size 66 #[.int .i64 a, .int .i64 b] := by rw [hX1]; exact Bk.new _ _ _ rfl
  have b1 := step_below hbX1 hb0
  have KW := wearingFor_any s A c h P d l U v z (.slice (some ⟨X.heap.size, 0, none⟩) 1 1) (lvB a b) X1 (hA.below b1) hn hwf hs (hL.below b1) (hU.below b1) hl hz hlw hzw (fun W hW => areLives_one X.heap.size a b W (N1.keep hW) hv)
  go_enter Try.func30, Try.ntmps30
  go_upto_region 1 with fail
  rw [← hX]
  clear hX
  have c0 := P0.cell (i := 0) rfl
  have c1 := P0.cell (i := 1) rfl
  have c2_ := P1.cell (i := 0) rfl
  have c3 := P1.cell (i := 1) rfl
  have c4 := P2.cell (i := 0) rfl
  have c5 := P2.cell (i := 1) rfl
  go_wp2_with fail
  rw [← hX1]
  refine KW.mono ?_
  rintro e w2 ⟨he, hb2⟩
  have b2 := step_below hb2 b1
  have Q2 := (P2.keep hbX1).keep hb2
  have hs1 := hbX1.size
  have hs2 := hb2.size
  have hm2 := hM.below b2
  clear KW c0 c1 c2_ c3 c4 c5 hX1
  rcases he with ⟨h1, rfl⟩ | ⟨h1, M, C, q, rfl, hMw, own, ownz⟩
  · have HC := hide (show fbC s h l z a b m = 1 by rw [fbC, fbV, h1]; rfl)
    have HI := hide (show fbI s h l z a b m = 0 by rw [fbI, HC.out]; rfl)
    obtain ⟨Y, hY⟩ : ∃ Y, Y = w2.alloc (.cells #[.int .i64 0, .slice none 0 0, .map none, .slice none 0 0] 125) := ⟨_, rfl⟩
    have hbY : Below w2.heap.size w2 Y := by rw [hY]; exact (Below.refl _ _).alloc (Nat.le_refl _) _
    have bY := step_below hbY b2
    clear h1
    go_upto_region 2 with fail
    rw [← hY]
    clear hY
    go_wp2
    go_ret2
    exact ⟨by rw [HC.out, HI.out]; rfl, bY⟩
  · obtain ⟨hwe, hlv⟩ : weB s h l z = true ∧ lvB a b = true := by simpa using h1
    have hzn : z.length = h.length := (weB_VT hwe).2.2
    obtain ⟨hs96, hn24⟩ := weB_fr hwe
    have hll := (weB_VT hwe).1.length hs96 hn24
    have st2 := wst_start hwe hlw own ownz hMw
    rw [hzn]
    rw [hzn] at ownz
    obtain ⟨Y, hY⟩ : ∃ Y, Y = w2.alloc (.cells #[.int .i64 s, .slice A h.length c, .map (some M), .slice C h.length q] 125) := ⟨_, rfl⟩
    have hbY : Below w2.heap.size w2 Y := by rw [hY]; exact (Below.refl _ _).alloc (Nat.le_refl _) _
    have bY := step_below hbY b2
    have G0 : Bk Y w2.heap.size 125 #[.int .i64 s, .slice A h.length c, .map (some M), .slice C h.length q] := by rw [hY]; exact Bk.new _ _ _ rfl
    go_upto_region 2 with fail
    rw [← hY]
    clear hY
    by_cases hlen : 60 < m.length
    · have HC := hide (show fbC s h l z a b m = 3 by rw [fbC, fbV, hwe, hlv, if_pos hlen]; rfl)
      have HI := hide (show fbI s h l z a b m = 0 by rw [fbI, HC.out]; rfl)
      have hgt : (60 : Int) < (m.length : Int) := by omega
      clear h1 hwe hlv hlen
      go_wp2
      go_ret2
      exact ⟨by rw [HC.out, HI.out]; rfl, bY⟩
    · have hgt : ¬ (60 : Int) < (m.length : Int) := by omega
      have e0 := G0.cell (i := 0) rfl
      have e1 := G0.cell (i := 1) rfl
      have e2 := G0.cell (i := 2) rfl
      have e3 := G0.cell (i := 3) rfl
      have Q4 := Q2.keep hbY
      have f0 := Q4.cell (i := 0) rfl
      have f1 := Q4.cell (i := 1) rfl
      have KDo := doAll_any s A h.length c M q l.length C l z a b L lc m X1 Y hs96 hn24 hs.1 (st2.keep hbY) (hb2.trans (hbY.mono hs2)) (hM.below b1) hmw (by omega) (by omega) _ _ _ G0.fam (fun _ => by decide)
      have HLN := hide hlen
      have HWE := hide hwe
      have HLV := hide hlv
      clear h1 hzn own ownz st2 hwe hlv hlen
      go_wp2_with fail
      refine KDo.mono ?_
      rintro e w5 ⟨rfl, _, _, hb5⟩
      have b5 : Below w.heap.size w w5 := bY.trans (hb5.mono b1.size)
      clear e0 e1 e2 e3 f0 f1 KDo
      by_cases hd : dnK s h.length l z m a b < m.length
      · have hne := dnW_ne hd
        have HC := hide (show fbC s h l z a b m = 0 by rw [fbC, fbV, HWE.out, HLV.out, if_neg HLN.out, if_pos hd]; rfl)
        have HI := hide (show fbI s h l z a b m = (dnK s h.length l z m a b : Int) by rw [fbI, if_pos HC.out])
        have HD := hide (show dnI 0 s h.length l z m a b = (dnK s h.length l z m a b : Int) by rw [dnI, if_pos hd])
        have hq : (dnW s h.length l z m a b == 0) = false := by simpa using hne
        clear hd hne
        generalize dnW s h.length l z m a b = cw at *
        go_wp2
        go_ret2
        exact ⟨by rw [HC.out, HI.out, HD.out]; rfl, b5⟩
      · have hze := dnW_zero hd
        have HC := hide (show fbC s h l z a b m = 6 by rw [fbC, fbV, HWE.out, HLV.out, if_neg HLN.out, if_neg hd]; rfl)
        have HI := hide (show fbI s h l z a b m = 0 by rw [fbI, HC.out]; rfl)
        rw [hze]
        clear hd hze
        go_wp2
        go_ret2
        exact ⟨by rw [HC.out, HI.out]; rfl, b5⟩
end Go.Proofs.Ytcocfnjbgceidaa
namespace Go.Proofs.Ytcocfnjbgceidaa
open Go.RowKit Go.Maps
def wuC (s : Int) (h : List (Int × Int)) (l : List Wp) (z : List Int) (a b : Int) : Int := if fbV s h l z a b then 0 else 1
def wuT (s : Int) (h : List (Int × Int)) (l : List Wp) (z : List Int) (a b : Int) : List Wp := if fbV s h l z a b then woT l a else []
def wuK (s : Int) (h : List (Int × Int)) (l : List Wp) (z : List Int) (a b : Int) : List Int := if fbV s h l z a b then woK z b z.length else []
/-- worn pins and tracks of the call's own, and a code -/
def WuR (T : List Wp) (K : List Int) (c : Int) (w : World) (e : Ending) (w' : World) : Prop := ∃ (C : Option Addr) (q : Nat) (Cb : Option Addr) (qb : Nat), e = .returned (.tuple #[.slice C T.length q, .slice Cb K.length qb, .int .i64 c]) ∧ w'.ownsRow w.heap.size 136 3 (.slice C T.length q) T.length (wnC T) ∧ w'.ownsRow w.heap.size 2 1 (.slice Cb K.length qb) K.length (icells K) ∧ Below w.heap.size w w'
set_option maxRecDepth 20000 in
set_option maxHeartbeats 8000000 in
theorem implWornOut_any (s : Int) (A : Option Addr) (c : Nat) (h : List (Int × Int)) (P : Option Addr) (d : Nat) (l : List Wp) (U : Option Addr) (v : Nat) (z : List Int) (a b : Int) (w : World)
    (hA : HA w A h) (hn : h.length ≤ 1048576) (hwf : HWF h) (hs : -32768 ≤ s ∧ s ≤ 32767) (hL : WnA w P l) (hU : SZ w U z) (hl : l.length ≤ 1048576) (hz : z.length ≤ 1048576) (hlw : WnWF l) (hzw : ZWF z) (hv : LvWF a b) :
    Calls Try.prog 35 #[.agg #[.int .i16 s, .slice A h.length c], .agg #[.slice P l.length d, .slice U z.length v], .agg #[.int .i64 a, .int .i64 b]] w (WuR (wuT s h l z a b) (wuK s h l z a b) (wuC s h l z a b) w) := by
  obtain ⟨j0, hj, hj0, hj1, hj2⟩ := info_parts info2
  obtain ⟨X, hX⟩ : ∃ X, X = ((w.alloc (.cells #[.int .i16 s, .slice A h.length c] 60)).alloc (.cells #[.slice P l.length d, .slice U z.length v] 64)).alloc (.cells #[.int .i64 a, .int .i64 b] 66) := ⟨_, rfl⟩
  have hb0 : Below w.heap.size w X := by rw [hX]; exact (((Below.refl _ _).alloc (Nat.le_refl _) _).alloc (by simp) _).alloc (by simp; omega) _
  have P0 : Bk X w.heap.size 60 #[.int .i16 s, .slice A h.length c] := by rw [hX]; exact ((Bk.new _ _ _ rfl).old _).old _
  have P1 : Bk X (w.heap.size + 1) 64 #[.slice P l.length d, .slice U z.length v] := by rw [hX]; exact (Bk.new _ _ _ (by simp)).old _
  have P2 : Bk X (w.heap.size + 1 + 1) 66 #[.int .i64 a, .int .i64 b] := by rw [hX]; exact Bk.new _ _ _ (by simp)
  have hX3 := P2.lt
  obtain ⟨X1, hX1⟩ : ∃ X1, X1 = X.alloc (.cells #[.int .i64 a, .int .i64 b] 66) := ⟨_, rfl⟩
  have hbX1 : Below X.heap.size X X1 := by rw [hX1]; exact (Below.refl _ _).alloc (Nat.le_refl _) _
  have N1 : Bk X1 X.heap.size 66 #[.int .i64 a, .int .i64 b] := by rw [hX1]; exact Bk.new _ _ _ rfl
  have b1 := step_below hbX1 hb0
  have KW := wearingFor_any s A c h P d l U v z (.slice (some ⟨X.heap.size, 0, none⟩) 1 1) (lvB a b) X1 (hA.below b1) hn hwf hs (hL.below b1) (hU.below b1) hl hz hlw hzw (fun W hW => areLives_one X.heap.size a b W (N1.keep hW) hv)
  go_enter Try.func35, Try.ntmps35
  go_upto_region 1 with fail
  rw [← hX]
  clear hX
  have c0 := P0.cell (i := 0) rfl
  have c1 := P0.cell (i := 1) rfl
  have c2_ := P1.cell (i := 0) rfl
  have c3 := P1.cell (i := 1) rfl
  have c4 := P2.cell (i := 0) rfl
  have c5 := P2.cell (i := 1) rfl
  go_wp2_with fail
  rw [← hX1]
  refine KW.mono ?_
  rintro e w2 ⟨he, hb2⟩
  have b2 := step_below hb2 b1
  have Q2 := (P2.keep hbX1).keep hb2
  have hs1 := hbX1.size
  have hs2 := hb2.size
  clear KW c0 c1 c2_ c3 c4 c5 hX1
  rcases he with ⟨h1, rfl⟩ | ⟨h1, M, C, q, rfl, hMw, own, ownz⟩
  · have HC := hide (show wuC s h l z a b = 1 by rw [wuC, fbV, h1]; rfl)
    have HT := hide (show wuT s h l z a b = [] by rw [wuT, fbV, h1]; rfl)
    have HK := hide (show wuK s h l z a b = [] by rw [wuK, fbV, h1]; rfl)
    obtain ⟨Y, hY⟩ : ∃ Y, Y = w2.alloc (.cells #[.int .i64 0, .slice none 0 0, .map none, .slice none 0 0] 125) := ⟨_, rfl⟩
    have hbY : Below w2.heap.size w2 Y := by rw [hY]; exact (Below.refl _ _).alloc (Nat.le_refl _) _
    have bY := step_below hbY b2
    clear h1
    go_upto_region 2 with fail
    rw [← hY]
    clear hY
    go_wp2
    go_ret3
    rw [HC.out, HT.out, HK.out]
    exact ⟨none, 0, none, 0, rfl, World.ownsRow_nil _ _ _ _, World.ownsRow_nil _ _ _ _, bY⟩
  · obtain ⟨hwe, hlv⟩ : weB s h l z = true ∧ lvB a b = true := by simpa using h1
    obtain ⟨hs96, hn24⟩ := weB_fr hwe
    have hll := (weB_VT hwe).1.length hs96 hn24
    have st2 := wst_start hwe hlw own ownz hMw
    have HC := hide (show wuC s h l z a b = 0 by rw [wuC, fbV, hwe, hlv]; rfl)
    have HT := hide (show wuT s h l z a b = woT l a by rw [wuT, fbV, hwe, hlv]; rfl)
    have HK := hide (show wuK s h l z a b = woK z b z.length by rw [wuK, fbV, hwe, hlv]; rfl)
    obtain ⟨Y, hY⟩ : ∃ Y, Y = w2.alloc (.cells #[.int .i64 s, .slice A h.length c, .map (some M), .slice C z.length q] 125) := ⟨_, rfl⟩
    have hbY : Below w2.heap.size w2 Y := by rw [hY]; exact (Below.refl _ _).alloc (Nat.le_refl _) _
    have bY := step_below hbY b2
    have G0 : Bk Y w2.heap.size 125 #[.int .i64 s, .slice A h.length c, .map (some M), .slice C z.length q] := by rw [hY]; exact Bk.new _ _ _ rfl
    go_upto_region 2 with fail
    rw [← hY]
    clear hY
    have G2 := Q2.keep hbY
    have hG0 := G0.lt
    have hsY := hbY.size
    obtain ⟨D, hM5, hD5, hI5, hO5, hz5, hv5, hvz5, hbM5⟩ := st2.keep hbY
    have hZY : SZ Y C z := SZ.of_own (c := q) (by rw [hz5]; exact hO5)
    have KP := pinsW_any M C z.length q l.length D l Y hM5 hD5 (Nat.le_trans hM5.size_le (by omega)) hv5.1 (hv5.in8 hs96 hn24)
    have e2 := G0.cell (i := 2) rfl
    have e3 := G0.cell (i := 3) rfl
    clear h1 own ownz st2 hwe hlv hM5 hD5 hI5 hO5 hz5 hv5 hvz5 hbM5 hMw
    go_wp2_with fail
    refine KP.mono ?_
    rintro e w3 ⟨C3, q3, rfl, own3, hb3⟩
    have G03 := G0.keep hb3
    have G23 := G2.keep hb3
    clear e2 e3 KP
    have KDl := deleteWorn_any (w.heap.size + 1 + 1) C3 q3 l a Y.heap.size w3 own3 hl hb3.size (by omega) (G23.cell (i := 0) rfl)
    go_wp2_with fail
    refine KDl.mono ?_
    rintro e w4 ⟨C4, q4, rfl, own4, hb4⟩
    have hbY4 := hb3.trans hb4
    have G04 := G0.keep hbY4
    obtain ⟨T', hT'⟩ : ∃ T', T' = woT l a := ⟨_, rfl⟩
    rw [← hT'] at own4 ⊢
    rw [← hT'] at HT
    have e2 := G04.cell (i := 2) rfl
    have e3 := G04.cell (i := 3) rfl
    clear KDl own3 hb3 hb4 G03 G23 hT'
    go_wp2_with fail
    clear e2 e3
    go_loopw [12, 13, 14, 34] (fun u _ _ i wr => ∃ (k : Nat) (A2 : Option Addr) (q2 : Nat), k ≤ z.length ∧ i = .int .i64 k ∧ u = .slice A2 (woK z b k).length q2 ∧ wr.ownsRow Y.heap.size 2 1 (.slice A2 (woK z b k).length q2) (woK z b k).length (icells (woK z b k)) ∧ wr.ownsRow Y.heap.size 136 3 (.slice C4 T'.length q4) T'.length (wnC T') ∧ Below Y.heap.size Y wr)
      (fun _ _ _ i _ => z.length - (intOf i).toNat)
    case atStart => exact ⟨0, none, 0, Nat.zero_le _, rfl, rfl, World.ownsRow_nil _ _ _ _, own4, hbY4⟩
    case round =>
      obtain ⟨k2, A2, q2, hk2, rfl, rfl, r2, r1, hb⟩ := hrel
      have hbs := hb.size
      by_cases hlt : k2 < z.length
      · have B := G2.keep hb
        obtain ⟨bb, o, rfl, hbb, c1⟩ := (hZY.below hb) k2 hlt
        have e1 := B.cell (i := 1) rfl
        have hki : (k2 : Int) < (z.length : Int) := by omega
        have hlw := woK_len z b k2
        by_cases hgt : b < zAt z k2
        · have HT2 := hide (woK_yes hgt)
          have hdec : decide (b < zAt z k2) = true := by simpa using hgt
          have own3 := r2.alloc (.cells #[.int .i64 (k2 : Int)] 2)
          have own5 := r1.alloc (.cells #[.int .i64 (k2 : Int)] 2)
          have hnew : ∀ j u, ([.int .i64 (k2 : Int)] : List Value)[j]? = some u → (wr.alloc (.cells #[.int .i64 (k2 : Int)] 2)).cell? ((⟨wr.heap.size, 0, none⟩ : Addr).add j) = some u := cell_one_new wr (.int .i64 (k2 : Int)) 2
          have hap := own_apart own5 own3 (by decide)
          clear hZY own4
          go_wp2_with (at_builtin; refine wpList_append_own _ rfl _ _ 48 rfl Y.heap.size 2 j0 (.int .i64 0) 1 8 Try.underlying48 hj hj0 hj1 hj2 rfl (by decide) _ _ _ rfl own3 ⟨wr.heap.size, 0, none⟩ 1 1 [.int .i64 (k2 : Int)] rfl rfl hnew (fun x hx => by simp at hx; subst hx; rfl) (by unfold maxLen; omega) (by omega) (by simp; omega) ?_; intro v6 w6 hown6 hgr6 hnil6)
          obtain ⟨A6, c6, rfl⟩ := own_shapeZ hown6
          have t1 := own5.kept hgr6 hap
          have hb6 := (hb.alloc hbs (.cells #[.int .i64 (k2 : Int)] 2)).grown hgr6 (by simp; omega) (fun j hj => (r2.lt j hj).1)
          go_roundw
          case rel => exact ⟨k2 + 1, A6, c6, hlt, by go_num, by rw [HT2.out, List.length_append]; rfl, by rw [HT2.out, List.length_append, icells, List.map_append]; exact hown6, t1, hb6⟩
          case measure => simp [intOf]; omega
        · have HT2 := hide (woK_no hgt)
          have hdec : decide (b < zAt z k2) = false := by simpa using hgt
          clear hZY own4
          go_wp2
          go_roundw
          case rel => exact ⟨k2 + 1, A2, q2, hlt, by go_num, by rw [HT2.out], by rw [HT2.out]; exact r2, r1, hb⟩
          case measure => simp [intOf]; omega
      · have hK2 : k2 = z.length := by omega
        subst hK2
        have hni2 : ¬ (z.length : Int) < (z.length : Int) := by omega
        have b9 := bY.trans (hb.mono bY.size)
        go_wp2
        go_ret3
        rw [HC.out, HT.out, HK.out]
        exact ⟨_, _, _, _, rfl, own_base r1 bY.size, own_base r2 bY.size, b9⟩
end Go.Proofs.Ytcocfnjbgceidaa
