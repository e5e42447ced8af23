import Derived.Test.YtdglhgfhlcdflaaDoorTkf
namespace Go.Proofs.YtdglhgfhlcdflaaDoor
open Go.RowKit
/-- the table and the errors -/
def TabE (w : World) : Prop := TabW w ∧ ∃ p, ErrP p w
theorem TabE.keep {w w' : World} (h : TabE w) (hb : Below w.heap.size w w') : TabE w' := ⟨h.1.keep hb, let ⟨p, hp⟩ := h.2; ⟨p, hp.keep hb⟩⟩
def tcZ (s : Int) (l : List (Int × Int)) (d : Nat → Int) (L : List (Int × Int)) : List Int := (tcL s l d L).map fun (x : Nat) => (x : Int)
theorem tcZ_len (s : Int) (l : List (Int × Int)) (d : Nat → Int) (L : List (Int × Int)) : (tcZ s l d L).length ≤ 1048576 := by
  unfold tcZ
  rw [List.length_map]
  exact tcL_len s l d L
theorem implTracksOf_e (s : Int) (A : Option Addr) (c : Nat) (l : List (Int × Int)) (C : Option Addr) (ct : Nat) (L : List (Int × Int)) (d : Nat → Int) (w : World) (hA : HA w A l) (hn : l.length ≤ 1048576) (hwf : HWF l) (hs : -32768 ≤ s ∧ s ≤ 32767) (hC : NA w C L) (hL : L.length ≤ 1048576) (hLw : WF L) (hd : DWF d) (hTE : TabE w) :
    Calls Tryd.prog 22 #[.agg #[.int .i16 s, .slice A l.length c], .slice C L.length ct, .agg (da d)] w (OwnZ w (tcZ s l d L) (tcC s l d L)) :=
  let ⟨p, hp⟩ := hTE.2
  (implTracksOf_any p s A c l C ct L d w hA hn hwf hs hC hL hLw hd hp hTE.1).mono fun _ _ h => h.z
theorem implCheckPinning_e (s : Int) (A : Option Addr) (c : Nat) (l : List (Int × Int)) (C : Option Addr) (ct : Nat) (L : List (Int × Int)) (d : Nat → Int) (w : World) (hA : HA w A l) (hn : l.length ≤ 1048576) (hwf : HWF l) (hs : -32768 ≤ s ∧ s ≤ 32767) (hC : NA w C L) (hL : L.length ≤ 1048576) (hLw : WF L) (hd : DWF d) (hTE : TabE w) :
    Calls Tryd.prog 20 #[.agg #[.int .i16 s, .slice A l.length c], .slice C L.length ct, .agg (da d)] w (Pair (.bool (ckB s l d L)) (.int .i64 (tkK s l d L)) w) :=
  let ⟨p, hp⟩ := hTE.2
  implCheckPinning_any p s A c l C ct L d w hA hn hwf hs hC hL hLw hd hp hTE.1
set_option maxRecDepth 20000 in
set_option maxHeartbeats 4000000 in
theorem specTracksOf_any (s : Int) (A : Option Addr) (c : Nat) (l : List (Int × Int)) (C : Option Addr) (ct : Nat) (L : List (Int × Int)) (d : Nat → Int) (w : World) (hA : HA w A l) (hn : l.length ≤ 1048576) (hwf : HWF l) (hs : -32768 ≤ s ∧ s ≤ 32767) (hC : NA w C L) (hL : L.length ≤ 1048576) (hLw : WF L) (hd : DWF d) :
    Calls Tryd.prog 21 #[.agg #[.int .i16 s, .slice A l.length c], .slice C L.length ct, .agg (da d)] w (OwnZ w (tcZ s l d L) (tcC s l d L)) := by
  have key : Calls Tryd.prog 21 #[.agg #[.int .i16 s, .slice A l.length c], .slice C L.length ct, .agg (da d)] w (OwnP w (tcL s l d L) (tcC s l d L)) := by
    obtain ⟨X, hX⟩ : ∃ X, X = (w.alloc (.cells #[.int .i16 s, .slice A l.length c] 33)).alloc (.cells (da d) 43) := ⟨_, rfl⟩
    have b0 : Below w.heap.size w X := by rw [hX]; exact ((Below.refl _ _).alloc (Nat.le_refl _) _).alloc (by simp) _
    have F0 : FP X w.heap.size s A l.length c := by
      have h : Bk X w.heap.size 33 #[.int .i16 s, .slice A l.length c] := by rw [hX]; exact (Bk.new _ _ _ rfl).old _
      exact ⟨h.cell rfl, h.cell rfl⟩
    have D0 : Dr X (w.heap.size + 1) 43 d := by rw [hX]; exact heap_new' _ _ _ (by simp)
    obtain ⟨RL, hRL⟩ : ∃ RL, RL = tcL s l d L := ⟨_, rfl⟩
    obtain ⟨RC, hRC⟩ : ∃ RC, RC = tcC s l d L := ⟨_, rfl⟩
    rw [← hRL, ← hRC]
    have HRL := hide hRL
    have HRC := hide hRC
    clear hRL hRC
    go_enter Tryd.func21, Tryd.ntmps21
    go_upto_region 1 with fail
    rw [← hX]
    clear hX
    go_wp2_with fail
    refine (l03Whole_any w.heap.size (w.heap.size + 1) s A c l C ct L d X F0 D0 (hA.below b0) hn hwf hs hd (hC.below b0) hL hLw).mono ?_
    rintro e w1 ⟨rfl, hb1⟩
    have b1 := step_below hb1 b0
    by_cases hk : tkK s l d L = 0
    rotate_left
    · have hcc : tcC s l d L = tkK s l d L := by rw [tcC, if_neg hk]
      have HX := hide (show RC = tkK s l d L by rw [HRC.out, hcc])
      have HY := hide (show RL = [] by rw [HRL.out, tcL, hcc, if_neg hk])
      obtain ⟨kk, hkk⟩ : ∃ kk, kk = tkK s l d L := ⟨_, rfl⟩
      rw [← hkk] at HX hk ⊢
      have hk1 : (kk != 0) = true := by simpa using hk
      clear hkk hcc
      go_wp2
      go_ret2
      rw [HX.out, HY.out]
      exact ⟨some ⟨w1.heap.size, 0, none⟩, 0, rfl, own_empty b1.size, b1.alloc b1.size _⟩
    obtain ⟨hfr, hdr, hok, hlen⟩ := tkK_zero hk
    have hfa := frB_all hfr
    have HC1 := hide (show tcC s l d L = if tkB s.toNat l L d then 0 else 8 by rw [tcC, hk, if_pos rfl])
    rw [hk]
    obtain ⟨S, rfl⟩ : ∃ S : Nat, s = (S : Int) := ⟨s.toNat, by omega⟩
    rw [Int.toNat_natCast] at HC1
    have KP := hide (l03Played_any w.heap.size (w.heap.size + 1) S A c l C ct L d w1 (F0.keep hb1) (D0.keep hb1) (hA.below b1) (by omega) hfa.2.1.2 hwf hfa.2.2 hdr hd (hC.below b1) hok hlen)
    clear hfr hdr hok hlen hfa hk
    go_wp2_with fail
    refine KP.out.mono ?_
    rintro e w2 ⟨Av, cv, ys, rfl, own2, hb2, hys⟩
    have b2 := step_below hb2 b1
    cases ho : tkB S l L d
    · have h1 : tcC S l d L = 8 := by rw [HC1.out, ho]; rfl
      have HX := hide (show RC = 8 by rw [HRC.out, h1])
      have HY := hide (show RL = [] by rw [HRL.out, tcL, h1]; rfl)
      clear ho h1 hys
      go_wp2
      go_ret2
      rw [HX.out, HY.out]
      exact ⟨some ⟨w2.heap.size, 0, none⟩, 0, rfl, own_empty b2.size, b2.alloc b2.size _⟩
    · have h1 : tcC S l d L = 0 := by rw [HC1.out, ho]; rfl
      have HX := hide (show RC = 0 by rw [HRC.out, h1])
      have HY := hide (show RL = ys by rw [HRL.out, tcL, h1, if_pos rfl, hys ho])
      clear ho h1 hys
      go_wp2
      go_ret2
      rw [HX.out, HY.out]
      exact ⟨Av, cv, rfl, own_base own2 b1.size, b2⟩
  exact key.mono fun _ _ h => h.z
set_option maxRecDepth 20000 in
set_option maxHeartbeats 4000000 in
theorem specCheckPinning_any (s : Int) (A : Option Addr) (c : Nat) (l : List (Int × Int)) (C : Option Addr) (ct : Nat) (L : List (Int × Int)) (d : Nat → Int) (w : World) (hA : HA w A l) (hn : l.length ≤ 1048576) (hwf : HWF l) (hs : -32768 ≤ s ∧ s ≤ 32767) (hC : NA w C L) (hL : L.length ≤ 1048576) (hLw : WF L) (hd : DWF d) :
    Calls Tryd.prog 18 #[.agg #[.int .i16 s, .slice A l.length c], .slice C L.length ct, .agg (da d)] w (Pair (.bool (ckB s l d L)) (.int .i64 (tkK s l d L)) w) := by
  obtain ⟨X, hX⟩ : ∃ X, X = (w.alloc (.cells #[.int .i16 s, .slice A l.length c] 33)).alloc (.cells (da d) 43) := ⟨_, rfl⟩
  have b0 : Below w.heap.size w X := by rw [hX]; exact ((Below.refl _ _).alloc (Nat.le_refl _) _).alloc (by simp) _
  have F0 : FP X w.heap.size s A l.length c := by
    have h : Bk X w.heap.size 33 #[.int .i16 s, .slice A l.length c] := by rw [hX]; exact (Bk.new _ _ _ rfl).old _
    exact ⟨h.cell rfl, h.cell rfl⟩
  have D0 : Dr X (w.heap.size + 1) 43 d := by rw [hX]; exact heap_new' _ _ _ (by simp)
  obtain ⟨RB, hRB⟩ : ∃ RB, RB = ckB s l d L := ⟨_, rfl⟩
  obtain ⟨RC, hRC⟩ : ∃ RC, RC = tkK s l d L := ⟨_, rfl⟩
  rw [← hRB, ← hRC]
  have HRB := hide hRB
  have HRC := hide hRC
  clear hRB hRC
  go_enter Tryd.func18, Tryd.ntmps18
  go_upto_region 1 with fail
  rw [← hX]
  clear hX
  go_wp2_with fail
  refine (l03Whole_any w.heap.size (w.heap.size + 1) s A c l C ct L d X F0 D0 (hA.below b0) hn hwf hs hd (hC.below b0) hL hLw).mono ?_
  rintro e w1 ⟨rfl, hb1⟩
  have b1 := step_below hb1 b0
  by_cases hk : tkK s l d L = 0
  rotate_left
  · have hcc : tcC s l d L = tkK s l d L := by rw [tcC, if_neg hk]
    have HX := hide (show RC = tkK s l d L from HRC.out)
    have HY := hide (show RB = false by rw [HRB.out, ckB, hcc]; simpa using hk)
    obtain ⟨kk, hkk⟩ : ∃ kk, kk = tkK s l d L := ⟨_, rfl⟩
    rw [← hkk] at HX hk ⊢
    have hk1 : (kk != 0) = true := by simpa using hk
    clear hkk hcc
    go_wp2
    go_ret2
    exact ⟨by rw [HX.out, HY.out]; rfl, b1⟩
  obtain ⟨hfr, hdr, hok, hlen⟩ := tkK_zero hk
  have hfa := frB_all hfr
  have HC1 := hide (show tcC s l d L = if tkB s.toNat l L d then 0 else 8 by rw [tcC, hk, if_pos rfl])
  have HX := hide (show RC = 0 by rw [HRC.out, hk])
  rw [hk]
  obtain ⟨S, rfl⟩ : ∃ S : Nat, s = (S : Int) := ⟨s.toNat, by omega⟩
  rw [Int.toNat_natCast] at HC1
  have HY := hide (show RB = tkB S l L d by rw [HRB.out, ckB, HC1.out]; cases tkB S l L d <;> simp)
  have KP := hide (l03Played_any w.heap.size (w.heap.size + 1) S A c l C ct L d w1 (F0.keep hb1) (D0.keep hb1) (hA.below b1) (by omega) hfa.2.1.2 hwf hfa.2.2 hdr hd (hC.below b1) hok hlen)
  clear hfr hdr hok hlen hfa hk
  go_wp2_with fail
  refine KP.out.mono ?_
  rintro e w2 ⟨Av, cv, ys, rfl, own2, hb2, hys⟩
  have b2 := step_below hb2 b1
  obtain ⟨tb, htb⟩ : ∃ tb, tb = tkB S l L d := ⟨_, rfl⟩
  rw [← htb] at HY ⊢
  clear htb hys
  go_wp2
  go_ret2
  exact ⟨by rw [HX.out, HY.out]; rfl, b2⟩
end Go.Proofs.YtdglhgfhlcdflaaDoor
