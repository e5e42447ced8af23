import Derived.Test.YtcocfnjbgceidaaPts
import Derived.Test.YtcocfnjbgceidaaFbi
namespace Go.Proofs.Ytcocfnjbgceidaa
open Go.RowKit Go.Maps
def pfB (s : Int) (h : List (Int × Int)) (l : List Wp) (z : List Int) (a b t : Int) : Bool := fbV s h l z a b && inB t 0 1000000
def pfC (s : Int) (h : List (Int × Int)) (l : List Wp) (z : List Int) (a b t : Int) : Int := if fbV s h l z a b then (if inB t 0 1000000 then ptC l z a b else 2) else 1
def pfP (s : Int) (h : List (Int × Int)) (l : List Wp) (z : List Int) (a b t : Int) : Int := if pfB s h l z a b t then ptP l z a b t else 0
def pfH (s : Int) (h : List (Int × Int)) (l : List Wp) (z : List Int) (a b t : Int) : Int := if pfB s h l z a b t then ptH l z a b t else 0
theorem lvB_all {a b : Int} (h : lvB a b = true) : (1 ≤ a ∧ a ≤ 1000000) ∧ 1 ≤ b ∧ b ≤ 1000000 := by
  simpa [lvB, inB] using h
set_option maxRecDepth 20000 in
set_option maxHeartbeats 8000000 in
theorem implPartsFor_any (s : Int) (A : Option Addr) (c : Nat) (h : List (Int × Int)) (P : Option Addr) (d : Nat) (l : List Wp) (U : Option Addr) (v : Nat) (z : List Int) (a b t : Int) (w : World)
    (hA : HA w A h) (hn : h.length ≤ 1048576) (hwf : HWF h) (hs : -32768 ≤ s ∧ s ≤ 32767) (hL : WnA w P l) (hU : SZ w U z) (hl : l.length ≤ 1048576) (hz : z.length ≤ 1048576) (hlw : WnWF l) (hzw : ZWF z) (hv : LvWF a b) :
    Calls Try.prog 45 #[.agg #[.int .i16 s, .slice A h.length c], .agg #[.slice P l.length d, .slice U z.length v], .agg #[.int .i64 a, .int .i64 b], .int .i64 t] w (fun e w' => e = .returned (.tuple #[.int .i64 (pfP s h l z a b t), .int .i64 (pfH s h l z a b t), .int .i64 (pfC s h l z a b t)]) ∧ Below w.heap.size w w') := by
  obtain ⟨X, hX⟩ : ∃ X, X = ((w.alloc (.cells #[.int .i16 s, .slice A h.length c] 60)).alloc (.cells #[.slice P l.length d, .slice U z.length v] 64)).alloc (.cells #[.int .i64 a, .int .i64 b] 66) := ⟨_, rfl⟩
  have hb0 : Below w.heap.size w X := by rw [hX]; exact (((Below.refl _ _).alloc (Nat.le_refl _) _).alloc (by simp) _).alloc (by simp; omega) _
  have P0 : Bk X w.heap.size 60 #[.int .i16 s, .slice A h.length c] := by rw [hX]; exact ((Bk.new _ _ _ rfl).old _).old _
  have P1 : Bk X (w.heap.size + 1) 64 #[.slice P l.length d, .slice U z.length v] := by rw [hX]; exact (Bk.new _ _ _ (by simp)).old _
  have P2 : Bk X (w.heap.size + 1 + 1) 66 #[.int .i64 a, .int .i64 b] := by rw [hX]; exact Bk.new _ _ _ (by simp)
  obtain ⟨X1, hX1⟩ : ∃ X1, X1 = X.alloc (.cells #[.int .i64 a, .int .i64 b] 66) := ⟨_, rfl⟩
  have hbX1 : Below X.heap.size X X1 := by rw [hX1]; exact (Below.refl _ _).alloc (Nat.le_refl _) _
  have N1 : Bk X1 X.heap.size 66 #[.int .i64 a, .int .i64 b] := by rw [hX1]; exact Bk.new _ _ _ rfl
  have b1 := step_below hbX1 hb0
  have KW := wearingFor_any s A c h P d l U v z (.slice (some ⟨X.heap.size, 0, none⟩) 1 1) (lvB a b) X1 (hA.below b1) hn hwf hs (hL.below b1) (hU.below b1) hl hz hlw hzw (fun W hW => areLives_one X.heap.size a b W (N1.keep hW) hv)
  go_enter Try.func45, Try.ntmps45
  go_upto_region 1 with fail
  rw [← hX]
  clear hX
  have c0 := P0.cell (i := 0) rfl
  have c1 := P0.cell (i := 1) rfl
  have c2_ := P1.cell (i := 0) rfl
  have c3 := P1.cell (i := 1) rfl
  have c4 := P2.cell (i := 0) rfl
  have c5 := P2.cell (i := 1) rfl
  go_wp2_with fail
  rw [← hX1]
  refine KW.mono ?_
  rintro e w2 ⟨he, hb2⟩
  have b2 := step_below hb2 b1
  have Q2 := (P2.keep hbX1).keep hb2
  clear KW c0 c1 c2_ c3 c4 c5 hX1
  rcases he with ⟨h1, rfl⟩ | ⟨h1, M, C, q, rfl, hMw, own, ownz⟩
  · have HC := hide (show pfC s h l z a b t = 1 ∧ pfP s h l z a b t = 0 ∧ pfH s h l z a b t = 0 by rw [pfC, pfP, pfH, pfB, fbV, h1]; exact ⟨rfl, rfl, rfl⟩)
    obtain ⟨Y, hY⟩ : ∃ Y, Y = w2.alloc (.cells #[.int .i64 0, .slice none 0 0, .map none, .slice none 0 0] 125) := ⟨_, rfl⟩
    have hbY : Below w2.heap.size w2 Y := by rw [hY]; exact (Below.refl _ _).alloc (Nat.le_refl _) _
    have bY := step_below hbY b2
    clear h1
    go_upto_region 2 with fail
    rw [← hY]
    clear hY
    go_wp2
    go_ret3
    rw [HC.out.1, HC.out.2.1, HC.out.2.2]
    exact ⟨rfl, bY⟩
  · obtain ⟨hwe, hlv⟩ : weB s h l z = true ∧ lvB a b = true := by simpa using h1
    obtain ⟨hs96, hn24⟩ := weB_fr hwe
    have hpv := weB_turn hwe
    have hab := lvB_all hlv
    have st2 := wst_start hwe hlw own ownz hMw
    have HF := hide (show fbV s h l z a b = true by rw [fbV, hwe, hlv]; rfl)
    obtain ⟨Y, hY⟩ : ∃ Y, Y = w2.alloc (.cells #[.int .i64 s, .slice A h.length c, .map (some M), .slice C z.length q] 125) := ⟨_, rfl⟩
    have hbY : Below w2.heap.size w2 Y := by rw [hY]; exact (Below.refl _ _).alloc (Nat.le_refl _) _
    have bY := step_below hbY b2
    have G0 : Bk Y w2.heap.size 125 #[.int .i64 s, .slice A h.length c, .map (some M), .slice C z.length q] := by rw [hY]; exact Bk.new _ _ _ rfl
    have G2 := Q2.keep hbY
    obtain ⟨D, hM5, hD5, hI5, hO5, hz5, hv5, hvz5, hbM5⟩ := st2.keep hbY
    have hZY : SZ Y C z := SZ.of_own (c := q) (by rw [hz5]; exact hO5)
    have hsz5 := hM5.size_le
    have h85 := hv5.in8 hs96 hn24
    have hT5 := hv5.1
    clear h1 own ownz st2 hwe hlv hI5 hO5 hz5 hv5 hvz5 hbM5 hMw Q2
    go_upto_region 2 with fail
    rw [← hY]
    clear hY
    have KI := fun W => within_any t 0 1000000 W
    cases hin : inB t 0 1000000
    · rw [hin] at KI
      have HC := hide (show pfC s h l z a b t = 2 ∧ pfP s h l z a b t = 0 ∧ pfH s h l z a b t = 0 by rw [pfC, pfP, pfH, pfB, HF.out, hin]; exact ⟨rfl, rfl, rfl⟩)
      clear hin
      go_wp2_with (go_at_call 55; with_reducible refine (KI _).mono ?_; rintro e w' ⟨rfl, rfl⟩)
      go_ret3
      rw [HC.out.1, HC.out.2.1, HC.out.2.2]
      exact ⟨rfl, bY⟩
    · rw [hin] at KI
      have hit : 0 ≤ t ∧ t ≤ 1000000 := by simpa [inB] using hin
      have HC := hide (show pfC s h l z a b t = ptC l z a b ∧ pfP s h l z a b t = ptP l z a b t ∧ pfH s h l z a b t = ptH l z a b t by rw [pfC, pfP, pfH, pfB, HF.out, hin]; exact ⟨rfl, rfl, rfl⟩)
      have KP := partsFor_any s A h.length c M l.length q C D l z a b t Y hM5 hD5 (by omega) hT5 h85 hZY hlw hpv hab.1 hab.2 hit
      have e0 := G0.cell (i := 0) rfl
      have e1 := G0.cell (i := 1) rfl
      have e2 := G0.cell (i := 2) rfl
      have e3 := G0.cell (i := 3) rfl
      have f0 := G2.cell (i := 0) rfl
      have f1 := G2.cell (i := 1) rfl
      clear hin hM5 hD5 hT5 h85 hZY hpv hab hit hsz5
      go_wp2_with (first | (go_at_call 55; with_reducible refine (KI _).mono ?_; rintro e w' ⟨rfl, rfl⟩) | (go_at_call 84; refine KP.mono ?_; rintro e w5 ⟨rfl, hb5⟩))
      go_ret3
      rw [HC.out.1, HC.out.2.1, HC.out.2.2]
      exact ⟨rfl, step_below hb5 bY⟩
set_option maxRecDepth 20000 in
set_option maxHeartbeats 8000000 in
theorem specPartsFor_any (s : Int) (A : Option Addr) (c : Nat) (h : List (Int × Int)) (P : Option Addr) (d : Nat) (l : List Wp) (U : Option Addr) (v : Nat) (z : List Int) (a b t : Int) (w : World)
    (hA : HA w A h) (hn : h.length ≤ 1048576) (hwf : HWF h) (hs : -32768 ≤ s ∧ s ≤ 32767) (hL : WnA w P l) (hU : SZ w U z) (hl : l.length ≤ 1048576) (hz : z.length ≤ 1048576) (hlw : WnWF l) (hzw : ZWF z) (hv : LvWF a b) :
    Calls Try.prog 44 #[.agg #[.int .i16 s, .slice A h.length c], .agg #[.slice P l.length d, .slice U z.length v], .agg #[.int .i64 a, .int .i64 b], .int .i64 t] w (fun e w' => e = .returned (.tuple #[.int .i64 (pfP s h l z a b t), .int .i64 (pfH s h l z a b t), .int .i64 (pfC s h l z a b t)]) ∧ Below w.heap.size w w') := by
  obtain ⟨X, hX⟩ : ∃ X, X = ((w.alloc (.cells #[.int .i16 s, .slice A h.length c] 60)).alloc (.cells #[.slice P l.length d, .slice U z.length v] 64)).alloc (.cells #[.int .i64 a, .int .i64 b] 66) := ⟨_, rfl⟩
  have hb0 : Below w.heap.size w X := by rw [hX]; exact (((Below.refl _ _).alloc (Nat.le_refl _) _).alloc (by simp) _).alloc (by simp; omega) _
  have P0 : Bk X w.heap.size 60 #[.int .i16 s, .slice A h.length c] := by rw [hX]; exact ((Bk.new _ _ _ rfl).old _).old _
  have P1 : Bk X (w.heap.size + 1) 64 #[.slice P l.length d, .slice U z.length v] := by rw [hX]; exact (Bk.new _ _ _ (by simp)).old _
  have P2 : Bk X (w.heap.size + 1 + 1) 66 #[.int .i64 a, .int .i64 b] := by rw [hX]; exact Bk.new _ _ _ (by simp)
  have KA := l06Lived_any w.heap.size (w.heap.size + 1) s A c h P d l U v z a b X ⟨P0.cell (i := 0) rfl, P0.cell (i := 1) rfl⟩ (P1.cell (i := 0) rfl) (P1.cell (i := 1) rfl) (hA.below hb0) (hL.below hb0) (hU.below hb0) hn hl hz hwf hs hlw
  go_enter Try.func44, Try.ntmps44
  go_upto_region 1 with fail
  rw [← hX]
  clear hX
  have c4 := P2.cell (i := 0) rfl
  have c5 := P2.cell (i := 1) rfl
  go_wp2_with fail
  refine KA.mono ?_
  rintro e w2 ⟨rfl, hb2⟩
  have b2 := step_below hb2 hb0
  have Q1 := P1.keep hb2
  have Q2 := P2.keep hb2
  clear KA c4 c5
  cases hf : fbV s h l z a b
  · have HC := hide (show pfC s h l z a b t = 1 ∧ pfP s h l z a b t = 0 ∧ pfH s h l z a b t = 0 by rw [pfC, pfP, pfH, pfB, hf]; exact ⟨rfl, rfl, rfl⟩)
    clear hf
    go_wp2
    go_ret3
    rw [HC.out.1, HC.out.2.1, HC.out.2.2]
    exact ⟨rfl, b2⟩
  · have hwl : weB s h l z = true ∧ lvB a b = true := by rw [fbV, Bool.and_eq_true] at hf; exact hf
    have hpv := weB_turn hwl.1
    have hab := lvB_all hwl.2
    have HF := hide hf
    clear hf hwl
    have KI := fun W => l06Turns_any t W
    cases hin : inB t 0 1000000
    · rw [hin] at KI
      have HC := hide (show pfC s h l z a b t = 2 ∧ pfP s h l z a b t = 0 ∧ pfH s h l z a b t = 0 by rw [pfC, pfP, pfH, pfB, HF.out, hin]; exact ⟨rfl, rfl, rfl⟩)
      clear hin
      go_wp2_with (go_at_call 82; with_reducible refine (KI _).mono ?_; rintro e w' ⟨rfl, rfl⟩)
      go_ret3
      rw [HC.out.1, HC.out.2.1, HC.out.2.2]
      exact ⟨rfl, b2⟩
    · rw [hin] at KI
      have hit : 0 ≤ t ∧ t ≤ 1000000 := by simpa [inB] using hin
      have HC := hide (show pfC s h l z a b t = ptC l z a b ∧ pfP s h l z a b t = ptP l z a b t ∧ pfH s h l z a b t = ptH l z a b t by rw [pfC, pfP, pfH, pfB, HF.out, hin]; exact ⟨rfl, rfl, rfl⟩)
      have KP := l06Parts_any (w.heap.size + 1) P d l U v z a b t w2 (Q1.cell (i := 0) rfl) (Q1.cell (i := 1) rfl) (hL.below b2) (hU.below b2) hlw hpv hab.1 hab.2 hit
      have f0 := Q2.cell (i := 0) rfl
      have f1 := Q2.cell (i := 1) rfl
      clear hin hpv hab hit
      go_wp2_with (first | (go_at_call 82; with_reducible refine (KI _).mono ?_; rintro e w' ⟨rfl, rfl⟩) | (go_at_call 83; refine KP.mono ?_; rintro e w5 ⟨rfl, hb5⟩))
      go_ret3
      rw [HC.out.1, HC.out.2.1, HC.out.2.2]
      exact ⟨rfl, step_below hb5 b2⟩
end Go.Proofs.Ytcocfnjbgceidaa
