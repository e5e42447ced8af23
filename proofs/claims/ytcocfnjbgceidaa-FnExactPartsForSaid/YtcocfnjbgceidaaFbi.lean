import Derived.Test.YtcocfnjbgceidaaGbl
import Derived.Test.YtcocfnjbgceidaaGbm
namespace Go.Proofs.Ytcocfnjbgceidaa
open Go.RowKit Go.Maps
def fbV (s : Int) (h : List (Int × Int)) (l : List Wp) (z : List Int) (a b : Int) : Bool := weB s h l z && lvB a b
def fbC (s : Int) (h : List (Int × Int)) (l : List Wp) (z : List Int) (a b : Int) (m : List (Int × Int × Int × Int × Int)) : Int :=
  if fbV s h l z a b then (if 60 < m.length then 3 else if dnK s h.length l z m a b < m.length then 0 else 6) else 1
def fbI (s : Int) (h : List (Int × Int)) (l : List Wp) (z : List Int) (a b : Int) (m : List (Int × Int × Int × Int × Int)) : Int :=
  if fbC s h l z a b m = 0 then (dnK s h.length l z m a b : Int) else 0
theorem dnW_ne {s : Int} {n : Nat} {T : List Wp} {z : List Int} {l : List (Int × Int × Int × Int × Int)} {a b : Int} (h : dnK s n T z l a b < l.length) : dnW s n T z l a b ≠ 0 := by
  have h' : (List.range l.length).findIdx (fun k => decide (dnC s n T z l a b k ≠ 0)) < (List.range l.length).length := by simpa [dnK] using h
  have := List.findIdx_getElem (w := h')
  rw [dnW, if_pos h]
  simpa [dnK] using this
theorem dnW_zero {s : Int} {n : Nat} {T : List Wp} {z : List Int} {l : List (Int × Int × Int × Int × Int)} {a b : Int} (h : ¬ dnK s n T z l a b < l.length) : dnW s n T z l a b = 0 := by
  rw [dnW, if_neg h]
set_option maxRecDepth 20000 in
set_option maxHeartbeats 8000000 in
theorem implFirstBreak_any (s : Int) (A : Option Addr) (c : Nat) (h : List (Int × Int)) (P : Option Addr) (d : Nat) (l : List Wp) (U : Option Addr) (v : Nat) (z : List Int) (a b : Int) (L : Option Addr) (lc : Nat) (m : List (Int × Int × Int × Int × Int)) (w : World)
    (hA : HA w A h) (hn : h.length ≤ 1048576) (hwf : HWF h) (hs : -32768 ≤ s ∧ s ≤ 32767) (hL : WnA w P l) (hU : SZ w U z) (hl : l.length ≤ 1048576) (hz : z.length ≤ 1048576) (hlw : WnWF l) (hzw : ZWF z) (hv : LvWF a b) (hM : AcA w L m) (hm : m.length ≤ 1048576) (hmw : AcWF m) :
    Calls Try.prog 30 #[.agg #[.int .i16 s, .slice A h.length c], .agg #[.slice P l.length d, .slice U z.length v], .agg #[.int .i64 a, .int .i64 b], .slice L m.length lc] w (fun e w' => e = .returned (.tuple #[.int .i64 (fbI s h l z a b m), .int .i64 (fbC s h l z a b m)]) ∧ Below w.heap.size w w') := by
  obtain ⟨X, hX⟩ : ∃ X, X = ((w.alloc (.cells #[.int .i16 s, .slice A h.length c] 60)).alloc (.cells #[.slice P l.length d, .slice U z.length v] 64)).alloc (.cells #[.int .i64 a, .int .i64 b] 66) := ⟨_, rfl⟩
  have hb0 : Below w.heap.size w X := by rw [hX]; exact (((Below.refl _ _).alloc (Nat.le_refl _) _).alloc (by simp) _).alloc (by simp; omega) _
  have P0 : Bk X w.heap.size 60 #[.int .i16 s, .slice A h.length c] := by rw [hX]; exact ((Bk.new _ _ _ rfl).old _).old _
  have P1 : Bk X (w.heap.size + 1) 64 #[.slice P l.length d, .slice U z.length v] := by rw [hX]; exact (Bk.new _ _ _ (by simp)).old _
  have P2 : Bk X (w.heap.size + 1 + 1) 66 #[.int .i64 a, .int .i64 b] := by rw [hX]; exact Bk.new _ _ _ (by simp)
  have hX3 := P2.lt
  obtain ⟨X1, hX1⟩ : ∃ X1, X1 = X.alloc (.cells #[.int .i64 a, .int .i64 b] 66) := ⟨_, rfl⟩
  have hbX1 : Below X.heap.size X X1 := by rw [hX1]; exact (Below.refl _ _).alloc (Nat.le_refl _) _
  have N1 : Bk X1 X.heap.size 66 #[.int .i64 a, .int .i64 b] := by rw [hX1]; exact Bk.new _ _ _ rfl
  have b1 := step_below hbX1 hb0
  have KW := wearingFor_any s A c h P d l U v z (.slice (some ⟨X.heap.size, 0, none⟩) 1 1) (lvB a b) X1 (hA.below b1) hn hwf hs (hL.below b1) (hU.below b1) hl hz hlw hzw (fun W hW => areLives_one X.heap.size a b W (N1.keep hW) hv)
  go_enter Try.func30, Try.ntmps30
  go_upto_region 1 with fail
  rw [← hX]
  clear hX
  have c0 := P0.cell (i := 0) rfl
  have c1 := P0.cell (i := 1) rfl
  have c2_ := P1.cell (i := 0) rfl
  have c3 := P1.cell (i := 1) rfl
  have c4 := P2.cell (i := 0) rfl
  have c5 := P2.cell (i := 1) rfl
  go_wp2_with fail
  rw [← hX1]
  refine KW.mono ?_
  rintro e w2 ⟨he, hb2⟩
  have b2 := step_below hb2 b1
  have Q2 := (P2.keep hbX1).keep hb2
  have hs1 := hbX1.size
  have hs2 := hb2.size
  have hm2 := hM.below b2
  clear KW c0 c1 c2_ c3 c4 c5 hX1
  rcases he with ⟨h1, rfl⟩ | ⟨h1, M, C, q, rfl, hMw, own, ownz⟩
  · have HC := hide (show fbC s h l z a b m = 1 by rw [fbC, fbV, h1]; rfl)
    have HI := hide (show fbI s h l z a b m = 0 by rw [fbI, HC.out]; rfl)
    obtain ⟨Y, hY⟩ : ∃ Y, Y = w2.alloc (.cells #[.int .i64 0, .slice none 0 0, .map none, .slice none 0 0] 125) := ⟨_, rfl⟩
    have hbY : Below w2.heap.size w2 Y := by rw [hY]; exact (Below.refl _ _).alloc (Nat.le_refl _) _
    have bY := step_below hbY b2
    clear h1
    go_upto_region 2 with fail
    rw [← hY]
    clear hY
    go_wp2
    go_ret2
    exact ⟨by rw [HC.out, HI.out]; rfl, bY⟩
  · obtain ⟨hwe, hlv⟩ : weB s h l z = true ∧ lvB a b = true := by simpa using h1
    have hzn : z.length = h.length := (weB_VT hwe).2.2
    obtain ⟨hs96, hn24⟩ := weB_fr hwe
    have hll := (weB_VT hwe).1.length hs96 hn24
    have st2 := wst_start hwe hlw own ownz hMw
    rw [hzn]
    rw [hzn] at ownz
    obtain ⟨Y, hY⟩ : ∃ Y, Y = w2.alloc (.cells #[.int .i64 s, .slice A h.length c, .map (some M), .slice C h.length q] 125) := ⟨_, rfl⟩
    have hbY : Below w2.heap.size w2 Y := by rw [hY]; exact (Below.refl _ _).alloc (Nat.le_refl _) _
    have bY := step_below hbY b2
    have G0 : Bk Y w2.heap.size 125 #[.int .i64 s, .slice A h.length c, .map (some M), .slice C h.length q] := by rw [hY]; exact Bk.new _ _ _ rfl
    go_upto_region 2 with fail
    rw [← hY]
    clear hY
    by_cases hlen : 60 < m.length
    · have HC := hide (show fbC s h l z a b m = 3 by rw [fbC, fbV, hwe, hlv, if_pos hlen]; rfl)
      have HI := hide (show fbI s h l z a b m = 0 by rw [fbI, HC.out]; rfl)
      have hgt : (60 : Int) < (m.length : Int) := by omega
      clear h1 hwe hlv hlen
      go_wp2
      go_ret2
      exact ⟨by rw [HC.out, HI.out]; rfl, bY⟩
    · have hgt : ¬ (60 : Int) < (m.length : Int) := by omega
      have e0 := G0.cell (i := 0) rfl
      have e1 := G0.cell (i := 1) rfl
      have e2 := G0.cell (i := 2) rfl
      have e3 := G0.cell (i := 3) rfl
      have Q4 := Q2.keep hbY
      have f0 := Q4.cell (i := 0) rfl
      have f1 := Q4.cell (i := 1) rfl
      have KDo := doAll_any s A h.length c M q l.length C l z a b L lc m X1 Y hs96 hn24 hs.1 (st2.keep hbY) (hb2.trans (hbY.mono hs2)) (hM.below b1) hmw (by omega) (by omega) _ _ _ G0.fam (fun _ => by decide)
      have HLN := hide hlen
      have HWE := hide hwe
      have HLV := hide hlv
      clear h1 hzn own ownz st2 hwe hlv hlen
      go_wp2_with fail
      refine KDo.mono ?_
      rintro e w5 ⟨rfl, _, _, hb5⟩
      have b5 : Below w.heap.size w w5 := bY.trans (hb5.mono b1.size)
      clear e0 e1 e2 e3 f0 f1 KDo
      by_cases hd : dnK s h.length l z m a b < m.length
      · have hne := dnW_ne hd
        have HC := hide (show fbC s h l z a b m = 0 by rw [fbC, fbV, HWE.out, HLV.out, if_neg HLN.out, if_pos hd]; rfl)
        have HI := hide (show fbI s h l z a b m = (dnK s h.length l z m a b : Int) by rw [fbI, if_pos HC.out])
        have HD := hide (show dnI 0 s h.length l z m a b = (dnK s h.length l z m a b : Int) by rw [dnI, if_pos hd])
        have hq : (dnW s h.length l z m a b == 0) = false := by simpa using hne
        clear hd hne
        generalize dnW s h.length l z m a b = cw at *
        go_wp2
        go_ret2
        exact ⟨by rw [HC.out, HI.out, HD.out]; rfl, b5⟩
      · have hze := dnW_zero hd
        have HC := hide (show fbC s h l z a b m = 6 by rw [fbC, fbV, HWE.out, HLV.out, if_neg HLN.out, if_neg hd]; rfl)
        have HI := hide (show fbI s h l z a b m = 0 by rw [fbI, HC.out]; rfl)
        rw [hze]
        clear hd hze
        go_wp2
        go_ret2
        exact ⟨by rw [HC.out, HI.out]; rfl, b5⟩
end Go.Proofs.Ytcocfnjbgceidaa
