import Derived.Test.YtdglhgfhlcdflaaDoorTki
namespace Go.Proofs.YtdglhgfhlcdflaaDoor
open Go.RowKit
theorem tcC_cases (s : Int) (l : List (Int × Int)) (d : Nat → Int) (L : List (Int × Int)) : tcC s l d L = 0 ∨ tcC s l d L = 1 ∨ tcC s l d L = 2 ∨ tcC s l d L = 8 := by
  unfold tcC
  rcases tkK_cases s l d L with h | h | h <;> rw [h]
  · split
    · split
      · exact Or.inl rfl
      · exact Or.inr (Or.inr (Or.inr rfl))
    · rename_i h1
      exact absurd rfl h1
  · exact Or.inr (Or.inl rfl)
  · exact Or.inr (Or.inr (Or.inl rfl))
theorem tcL_len (s : Int) (l : List (Int × Int)) (d : Nat → Int) (L : List (Int × Int)) : (tcL s l d L).length ≤ 1048576 := by
  unfold tcL
  split
  · rename_i h
    rw [tkN_len]
    unfold tcC at h
    split at h
    · rename_i h1
      have := ok_len (tkK_zero h1).2.2.1
      omega
    · rename_i h1
      exact absurd h h1
  · simp
def ckB (s : Int) (l : List (Int × Int)) (d : Nat → Int) (L : List (Int × Int)) : Bool := decide (tcC s l d L = 0)
theorem codeX_any {p : Nat → Addr} {w : World} (h : ErrP p w) {k : Int} (hk : k = 0 ∨ k = 1 ∨ k = 2 ∨ k = 8) : Calls Tryd.prog 34 #[erX p k] w fun e w' => e = .returned (.int .i64 k) ∧ w = w' := by
  rcases hk with rfl | rfl | rfl | rfl
  · exact codeOf_nil h
  · exact codeOf_0 h
  · exact codeOf_1 h
  · exact codeOf_6 h
set_option maxRecDepth 20000 in
set_option maxHeartbeats 4000000 in
theorem implTracksOf_any (p : Nat → Addr) (s : Int) (A : Option Addr) (c : Nat) (l : List (Int × Int)) (C : Option Addr) (ct : Nat) (L : List (Int × Int)) (d : Nat → Int) (w : World) (hA : HA w A l) (hn : l.length ≤ 1048576) (hwf : HWF l) (hs : -32768 ≤ s ∧ s ≤ 32767) (hC : NA w C L) (hL : L.length ≤ 1048576) (hLw : WF L) (hd : DWF d)
    (hE : ErrP p w) (hT : TabW w) :
    Calls Tryd.prog 22 #[.agg #[.int .i16 s, .slice A l.length c], .slice C L.length ct, .agg (da d)] w (OwnP w (tcL s l d L) (tcC s l d L)) := by
  obtain ⟨X, hX⟩ : ∃ X, X = (w.alloc (.cells #[.int .i16 s, .slice A l.length c] 33)).alloc (.cells (da d) 43) := ⟨_, rfl⟩
  have b0 : Below w.heap.size w X := by rw [hX]; exact ((Below.refl _ _).alloc (Nat.le_refl _) _).alloc (by simp) _
  have B0 : Bk X w.heap.size 33 #[.int .i16 s, .slice A l.length c] := by rw [hX]; exact (Bk.new _ _ _ rfl).old _
  have D0 : Dr X (w.heap.size + 1) 43 d := by rw [hX]; exact heap_new' _ _ _ (by simp)
  have f0 := B0.cell (i := 0) rfl
  have f1 := B0.cell (i := 1) rfl
  have HD0 := hide D0.range
  have KP := hide (tracksOf_any p s A c l C ct L d X (hA.below b0) hn hwf hs hd (hC.below b0) hL hLw (hE.keep b0) (hT.keep b0))
  have hc4 := tcC_cases s l d L
  obtain ⟨RL, hRL⟩ : ∃ RL, RL = tcL s l d L := ⟨_, rfl⟩
  obtain ⟨RK, hRK⟩ : ∃ RK, RK = tcC s l d L := ⟨_, rfl⟩
  rw [← hRL, ← hRK] at KP
  rw [← hRL, ← hRK]
  rw [← hRK] at hc4
  obtain ⟨ev, hev⟩ : ∃ ev, ev = erX p RK := ⟨_, rfl⟩
  rw [← hev] at KP
  have KC : ∀ W, Below w.heap.size w W → Calls Tryd.prog 34 #[ev] W fun e w' => e = .returned (.int .i64 RK) ∧ W = w' := fun W hW => by rw [hev]; exact codeX_any (hE.keep hW) hc4
  clear hRL hRK hev hc4
  go_enter Tryd.func22, Tryd.ntmps22
  go_upto_region 1 with fail
  rw [← hX]
  clear hX
  go_wp2_with (with_reducible refine wpList_load_da rfl 43 (.tmp 5) rfl (w.heap.size + 1) 0 rfl d _ HD0.out Tryd.underlying43 rfl (dInfo d) ?_)
  refine KP.out.mono ?_
  rintro e w1 ⟨Av, cv, rfl, own1, hb1⟩
  have b1 := step_below hb1 b0
  go_wp2_with fail
  refine (KC _ b1).mono ?_
  rintro e w2 ⟨rfl, rfl⟩
  go_wp2
  go_ret2
  exact ⟨Av, cv, rfl, own_base own1 b0.size, b1⟩
set_option maxRecDepth 20000 in
set_option maxHeartbeats 4000000 in
theorem implCheckPinning_any (p : Nat → Addr) (s : Int) (A : Option Addr) (c : Nat) (l : List (Int × Int)) (C : Option Addr) (ct : Nat) (L : List (Int × Int)) (d : Nat → Int) (w : World) (hA : HA w A l) (hn : l.length ≤ 1048576) (hwf : HWF l) (hs : -32768 ≤ s ∧ s ≤ 32767) (hC : NA w C L) (hL : L.length ≤ 1048576) (hLw : WF L) (hd : DWF d)
    (hE : ErrP p w) (hT : TabW w) :
    Calls Tryd.prog 20 #[.agg #[.int .i16 s, .slice A l.length c], .slice C L.length ct, .agg (da d)] w (Pair (.bool (ckB s l d L)) (.int .i64 (tkK s l d L)) w) := by
  obtain ⟨X, hX⟩ : ∃ X, X = (w.alloc (.cells #[.int .i16 s, .slice A l.length c] 33)).alloc (.cells (da d) 43) := ⟨_, rfl⟩
  have b0 : Below w.heap.size w X := by rw [hX]; exact ((Below.refl _ _).alloc (Nat.le_refl _) _).alloc (by simp) _
  have B0 : Bk X w.heap.size 33 #[.int .i16 s, .slice A l.length c] := by rw [hX]; exact (Bk.new _ _ _ rfl).old _
  have D0 : Dr X (w.heap.size + 1) 43 d := by rw [hX]; exact heap_new' _ _ _ (by simp)
  have f0 := B0.cell (i := 0) rfl
  have f1 := B0.cell (i := 1) rfl
  have HD0 := hide D0.range
  have KP := hide (tracksOf_any p s A c l C ct L d X (hA.below b0) hn hwf hs hd (hC.below b0) hL hLw (hE.keep b0) (hT.keep b0))
  have hc4 := tcC_cases s l d L
  have hE0 := hide hE
  obtain ⟨RB, hRB⟩ : ∃ RB, RB = ckB s l d L := ⟨_, rfl⟩
  obtain ⟨RK, hRK⟩ : ∃ RK, RK = tkK s l d L := ⟨_, rfl⟩
  rw [← hRB, ← hRK]
  have HRB := hide hRB
  have HRK := hide hRK
  clear hRB hRK
  obtain ⟨RL, hRL⟩ : ∃ RL, RL = tcL s l d L := ⟨_, rfl⟩
  rw [← hRL] at KP
  clear hRL hE
  go_enter Tryd.func20, Tryd.ntmps20
  go_upto_region 1 with fail
  rw [← hX]
  clear hX
  go_wp2_with (with_reducible refine wpList_load_da rfl 43 (.tmp 5) rfl (w.heap.size + 1) 0 rfl d _ HD0.out Tryd.underlying43 rfl (dInfo d) ?_)
  refine KP.out.mono ?_
  rintro e w1 ⟨Av, cv, rfl, own1, hb1⟩
  have b1 := step_below hb1 b0
  have E1 := hE0.out.keep b1
  have HE1 := hide E1
  have e6 : w1.cell? ⟨0, 0, none⟩ = some (erV (p 6)) := E1.1 6 (by omega)
  clear E1
  have hK0 : tcC s l d L = 0 ∨ tcC s l d L = 8 → tkK s l d L = 0 := fun h => by
    unfold tcC at h
    split at h
    · assumption
    · rename_i h1
      rcases h with h | h
      · exact absurd h h1
      · rcases tkK_cases s l d L with h2 | h2 | h2 <;> rw [h2] at h <;> cases h
  rcases hc4 with hk | hk | hk | hk
  · have HX := hide (show RB = true by rw [HRB.out, ckB, hk]; rfl)
    have HY := hide (show RK = 0 by rw [HRK.out, hK0 (Or.inl hk)])
    rw [hk, show erX p 0 = .nilIface from rfl]
    have KC : ∀ q : Later w1, Calls Tryd.prog 34 #[.nilIface] q.w fun e w' => e = .returned (.int .i64 0) ∧ q.w = w' := fun q => codeOf_nil (HE1.out.keep q.h)
    clear hk hK0
    go_wp2_with (go_at_call 41; refine (is_nil _ _).mono ?_; rintro e w' ⟨rfl, rfl⟩)
    refine wp_region_later (by kernel_rfl) (by kernel_rfl) ?_
    repeat (go_big_quiet_step ((go_at_call 34; with_reducible exact Later.same (KC _))))
    refine wpQuiet_nil ?_
    rintro wz ⟨⟨_, hqz⟩, rfl⟩
    go_wp2
    go_ret2
    exact ⟨by rw [HX.out, HY.out]; rfl, step_below hqz b1⟩
  · have HX := hide (show RB = false by rw [HRB.out, ckB, hk]; rfl)
    have HY := hide (show RK = 1 by
      rw [HRK.out]
      rcases tkK_cases s l d L with h2 | h2 | h2
      · rw [tcC, if_pos h2] at hk
        split at hk <;> cases hk
      · exact h2
      · rw [tcC, h2] at hk; cases hk)
    rw [hk, erX_1]
    have KC : ∀ q : Later w1, Calls Tryd.prog 34 #[erV (p 0)] q.w fun e w' => e = .returned (.int .i64 1) ∧ q.w = w' := fun q => codeOf_0 (HE1.out.keep q.h)
    have KI := fun b hb => is_err HE1.out 0 6 (by omega) (by omega) b hb
    clear hk hK0
    go_wp2_with (go_at_call 41; refine (KI false rfl).mono ?_; rintro e w' ⟨rfl, rfl⟩)
    refine wp_region_later (by kernel_rfl) (by kernel_rfl) ?_
    repeat (go_big_quiet_step ((go_at_call 34; with_reducible exact Later.same (KC _))))
    refine wpQuiet_nil ?_
    rintro wz ⟨⟨_, hqz⟩, rfl⟩
    go_wp2
    go_ret2
    exact ⟨by rw [HX.out, HY.out]; rfl, step_below hqz b1⟩
  · have HX := hide (show RB = false by rw [HRB.out, ckB, hk]; rfl)
    have HY := hide (show RK = 2 by
      rw [HRK.out]
      rcases tkK_cases s l d L with h2 | h2 | h2
      · rw [tcC, if_pos h2] at hk
        split at hk <;> cases hk
      · rw [tcC, h2] at hk; cases hk
      · exact h2)
    rw [hk, erX_2]
    have KC : ∀ q : Later w1, Calls Tryd.prog 34 #[erV (p 1)] q.w fun e w' => e = .returned (.int .i64 2) ∧ q.w = w' := fun q => codeOf_1 (HE1.out.keep q.h)
    have KI := fun b hb => is_err HE1.out 1 6 (by omega) (by omega) b hb
    clear hk hK0
    go_wp2_with (go_at_call 41; refine (KI false rfl).mono ?_; rintro e w' ⟨rfl, rfl⟩)
    refine wp_region_later (by kernel_rfl) (by kernel_rfl) ?_
    repeat (go_big_quiet_step ((go_at_call 34; with_reducible exact Later.same (KC _))))
    refine wpQuiet_nil ?_
    rintro wz ⟨⟨_, hqz⟩, rfl⟩
    go_wp2
    go_ret2
    exact ⟨by rw [HX.out, HY.out]; rfl, step_below hqz b1⟩
  · have HX := hide (show RB = false by rw [HRB.out, ckB, hk]; rfl)
    have HY := hide (show RK = 0 by rw [HRK.out, hK0 (Or.inr hk)])
    rw [hk, erX_8]
    have KI := fun b hb => is_err HE1.out 6 6 (by omega) (by omega) b hb
    clear hk hK0
    go_wp2_with (go_at_call 41; refine (KI true rfl).mono ?_; rintro e w' ⟨rfl, rfl⟩)
    go_ret2
    exact ⟨by rw [HX.out, HY.out]; rfl, b1⟩
end Go.Proofs.YtdglhgfhlcdflaaDoor
