import Derived.Test.YtcocfnjbgceidaaDon
namespace Go.Proofs.Ytcocfnjbgceidaa
open Go.RowKit Go.Maps
set_option maxRecDepth 20000 in
set_option maxHeartbeats 8000000 in
theorem specFirstBreak_any (s : Int) (A : Option Addr) (c : Nat) (h : List (Int × Int)) (P : Option Addr) (d : Nat) (l : List Wp) (U : Option Addr) (v : Nat) (z : List Int) (a b : Int) (L : Option Addr) (lc : Nat) (m : List (Int × Int × Int × Int × Int)) (w : World)
    (hA : HA w A h) (hn : h.length ≤ 1048576) (hwf : HWF h) (hs : -32768 ≤ s ∧ s ≤ 32767) (hL : WnA w P l) (hU : SZ w U z) (hl : l.length ≤ 1048576) (hz : z.length ≤ 1048576) (hlw : WnWF l) (hzw : ZWF z) (hv : LvWF a b) (hM : AcA w L m) (hm : m.length ≤ 1048576) (hmw : AcWF m) :
    Calls Try.prog 25 #[.agg #[.int .i16 s, .slice A h.length c], .agg #[.slice P l.length d, .slice U z.length v], .agg #[.int .i64 a, .int .i64 b], .slice L m.length lc] w (fun e w' => e = .returned (.tuple #[.int .i64 (fbI s h l z a b m), .int .i64 (fbC s h l z a b m)]) ∧ Below w.heap.size w w') := by
  obtain ⟨X, hX⟩ : ∃ X, X = ((w.alloc (.cells #[.int .i16 s, .slice A h.length c] 60)).alloc (.cells #[.slice P l.length d, .slice U z.length v] 64)).alloc (.cells #[.int .i64 a, .int .i64 b] 66) := ⟨_, rfl⟩
  have hb0 : Below w.heap.size w X := by rw [hX]; exact (((Below.refl _ _).alloc (Nat.le_refl _) _).alloc (by simp) _).alloc (by simp; omega) _
  have P0 : Bk X w.heap.size 60 #[.int .i16 s, .slice A h.length c] := by rw [hX]; exact ((Bk.new _ _ _ rfl).old _).old _
  have P1 : Bk X (w.heap.size + 1) 64 #[.slice P l.length d, .slice U z.length v] := by rw [hX]; exact (Bk.new _ _ _ (by simp)).old _
  have P2 : Bk X (w.heap.size + 1 + 1) 66 #[.int .i64 a, .int .i64 b] := by rw [hX]; exact Bk.new _ _ _ (by simp)
  have KA := l06Acts_any w.heap.size (w.heap.size + 1) s A c h P d l U v z a b L m.length lc X ⟨P0.cell (i := 0) rfl, P0.cell (i := 1) rfl⟩ (P1.cell (i := 0) rfl) (P1.cell (i := 1) rfl) (hA.below hb0) (hL.below hb0) (hU.below hb0) hn hl hz hwf hs hlw hm
  go_enter Try.func25, Try.ntmps25
  go_upto_region 1 with fail
  rw [← hX]
  clear hX
  have c4 := P2.cell (i := 0) rfl
  have c5 := P2.cell (i := 1) rfl
  go_wp2_with fail
  refine KA.mono ?_
  rintro e w2 ⟨rfl, hb2⟩
  have b2 := step_below hb2 hb0
  have Q0 := P0.keep hb2
  have Q1 := P1.keep hb2
  have Q2 := P2.keep hb2
  clear KA c4 c5
  by_cases he : acE s h l z a b m.length = 0
  · have hfv : fbV s h l z a b = true ∧ ¬ 60 < m.length := by
      unfold acE at he
      split at he
      · rename_i h1
        split at he
        · omega
        · rename_i h2
          exact ⟨h1, h2⟩
      · omega
    have hwe : weB s h l z = true := by
      have := hfv.1
      rw [fbV, Bool.and_eq_true] at this
      exact this.1
    have HFV := hide hfv
    have KD := l06Done_any w.heap.size (w.heap.size + 1) s A c h P d l U v z a b L lc m w2 ⟨Q0.cell (i := 0) rfl, Q0.cell (i := 1) rfl⟩ (Q1.cell (i := 0) rfl) (Q1.cell (i := 1) rfl) (hA.below b2) (hL.below b2) (hU.below b2) hwf hs hwe (hM.below b2) (by omega) hmw
    rw [he]
    have f0 := Q2.cell (i := 0) rfl
    have f1 := Q2.cell (i := 1) rfl
    clear he hfv hwe
    go_wp2_with fail
    refine KD.mono ?_
    rintro e w5 ⟨P1', q1, P2', q2, rfl, -, -, hb5⟩
    have b5 := step_below hb5 b2
    obtain ⟨Y, hY⟩ : ∃ Y, Y = w5.alloc (.cells #[.slice P1' (dnT s h.length l z m a b).length q1, .slice P2' (dnZ s h.length l z m a b).length q2] 64) := ⟨_, rfl⟩
    have hbY : Below w5.heap.size w5 Y := by rw [hY]; exact (Below.refl _ _).alloc (Nat.le_refl _) _
    have bY := step_below hbY b5
    clear KD f0 f1
    by_cases hd : dnK s h.length l z m a b < m.length
    · have HC := hide (show fbC s h l z a b m = 0 by rw [fbC, HFV.out.1, if_neg HFV.out.2, if_pos hd]; rfl)
      have HI := hide (show fbI s h l z a b m = (dnK s h.length l z m a b : Int) by rw [fbI, if_pos HC.out])
      have hD : dnI (-1) s h.length l z m a b = (dnK s h.length l z m a b : Int) := by rw [dnI, if_pos hd]
      have hni : ¬ ((dnK s h.length l z m a b : Int) < 0) := by omega
      rw [hD]
      clear hd hD
      generalize (dnK s h.length l z m a b : Int) = kk at *
      go_upto_region 5 with (first | (with_reducible refine wpList_store_newA rfl 64 (.tmp 11) (.tmp 24) rfl #[.slice P1' (dnT s h.length l z m a b).length q1, .slice P2' (dnZ s h.length l z m a b).length q2] rfl rfl 64 _ (infoWear _ _) (szWear _ _ _ _) (oneWear _ _ _ _ _ _) ?_))
      rw [← hY]
      clear hY
      go_wp2
      go_ret2
      exact ⟨by rw [HC.out, HI.out]; rfl, bY⟩
    · have HC := hide (show fbC s h l z a b m = 6 by rw [fbC, HFV.out.1, if_neg HFV.out.2, if_neg hd]; rfl)
      have HI := hide (show fbI s h l z a b m = 0 by rw [fbI, HC.out]; rfl)
      have hD : dnI (-1) s h.length l z m a b = -1 := by rw [dnI, if_neg hd]
      rw [hD]
      clear hd hD
      go_upto_region 5 with (first | (with_reducible refine wpList_store_newA rfl 64 (.tmp 11) (.tmp 24) rfl #[.slice P1' (dnT s h.length l z m a b).length q1, .slice P2' (dnZ s h.length l z m a b).length q2] rfl rfl 64 _ (infoWear _ _) (szWear _ _ _ _) (oneWear _ _ _ _ _ _) ?_))
      rw [← hY]
      clear hY
      go_wp2
      go_ret2
      exact ⟨by rw [HC.out, HI.out]; rfl, bY⟩
  · have HC := hide (show fbC s h l z a b m = acE s h l z a b m.length by
      unfold fbC
      unfold acE at he ⊢
      split
      · rename_i h1
        rw [if_pos h1] at he
        split
        · rfl
        · rename_i h2
          rw [if_neg h2] at he
          exact absurd rfl he
      · rfl)
    have HI := hide (show fbI s h l z a b m = 0 by rw [fbI, if_neg (by rw [HC.out]; exact he)])
    have hq2 : (acE s h l z a b m.length != 0) = true := by simpa using he
    clear he
    obtain ⟨ce, hce⟩ : ∃ x, x = acE s h l z a b m.length := ⟨_, rfl⟩
    rw [← hce] at hq2 ⊢
    have HCE := hide hce
    clear hce
    go_wp2
    go_ret2
    exact ⟨by rw [HC.out, HI.out, ← HCE.out]; rfl, b2⟩
end Go.Proofs.Ytcocfnjbgceidaa
