import Derived.Test.YtcdjfflmgjpobaaMir
import Derived.Deep.RegionHeld3
namespace Go.Proofs.Ytcdjfflmgjpobaa
open Go.RowKit

theorem lawMirrorDrum_big (s : Int) (A : Option Addr) (c : Nat) (l : List (Int × Int)) (d0 : Nat → Int)  (w : World) (hn : 1048576 < l.length) (hm : l.length ≤ maxLen) :
    Calls Try.prog 3 #[.agg #[.int .i16 s, .slice A l.length c], .agg (da d0)] w (Says true w) := by
  have hb0 : Below w.heap.size w ((w.alloc (.cells #[.int .i16 s, .slice A l.length c] 25)).alloc (.cells (da d0) 27)) := ((Below.refl _ _).alloc (Nat.le_refl _) _).alloc (by simp) _
  go_enter Try.func3, Try.ntmps3
  go_wp2_with (go_at_call 7; refine (szFrame_big s A l.length c hm hn _).mono ?_; rintro e w' ⟨rfl, hb⟩)
  go_ret
  exact ⟨rfl, hb0.trans (hb.mono hb0.size)⟩

theorem specMirrorDrum_dv (s : Int) (A : Option Addr) (c : Nat) (l : List (Int × Int)) (d0 : Nat → Int)  (w : World) (hA : HA w A l) (hn : l.length ≤ 1048576) (hwf : HWF l) (hs : -32768 ≤ s ∧ s ≤ 32767) (hd0 : DWF d0) :
    Calls Try.prog 8 #[.agg #[.int .i16 s, .slice A l.length c], .agg (da d0)] w fun e w' => e = .returned (.tuple #[.agg (dv (mirD s l d0)).toArray, .int .i64 (mirC s l d0)]) ∧ Below w.heap.size w w' := specMirrorDrum_any s A c l d0 w hA hn hwf hs hd0
theorem implMirrorDrum_dv (s : Int) (A : Option Addr) (c : Nat) (l : List (Int × Int)) (d0 : Nat → Int)  (w : World) (hA : HA w A l) (hn : l.length ≤ 1048576) (hwf : HWF l) (hs : -32768 ≤ s ∧ s ≤ 32767) (hd0 : DWF d0) :
    Calls Try.prog 11 #[.agg #[.int .i16 s, .slice A l.length c], .agg (da d0)] w fun e w' => e = .returned (.tuple #[.agg (dv (mirD s l d0)).toArray, .int .i64 (mirC s l d0)]) ∧ Below w.heap.size w w' := implMirrorDrum_any s A c l d0 w hA hn hwf hs hd0

set_option maxRecDepth 20000 in
set_option maxHeartbeats 4000000 in
theorem lawMirrorDrum_small (s : Int) (A : Option Addr) (c : Nat) (l : List (Int × Int)) (d0 : Nat → Int)  (w : World) (hA : HA w A l) (hn : l.length ≤ 1048576) (hwf : HWF l) (hs : -32768 ≤ s ∧ s ≤ 32767) (hd0 : DWF d0) :
    Calls Try.prog 3 #[.agg #[.int .i16 s, .slice A l.length c], .agg (da d0)] w (Says true w) := by
  have hz := zeroDrum
  obtain ⟨r, hr⟩ : ∃ r, r = mirD s l d0 := ⟨_, rfl⟩
  obtain ⟨cc, hcc⟩ : ∃ cc : Int, cc = mirC s l d0 := ⟨_, rfl⟩
  have hb0 : Below w.heap.size w ((w.alloc (.cells #[.int .i16 s, .slice A l.length c] 25)).alloc (.cells (da d0) 27)) := ((Below.refl _ _).alloc (Nat.le_refl _) _).alloc (by simp) _
  have F0 : FP ((w.alloc (.cells #[.int .i16 s, .slice A l.length c] 25)).alloc (.cells (da d0) 27)) w.heap.size s A l.length c := ⟨by simp [go_sem], by simp [go_sem]⟩
  have D0 : Dr ((w.alloc (.cells #[.int .i16 s, .slice A l.length c] 25)).alloc (.cells (da d0) 27)) (w.heap.size + 1) 27 d0 := heap_new' _ _ _ (by simp)
  have hsz0 : w.heap.size + 2 ≤ ((w.alloc (.cells #[.int .i16 s, .slice A l.length c] 25)).alloc (.cells (da d0) 27)).heap.size := by simp
  have hU := Try.underlying27
  have hI := infoLt d0
  have hI2 : (Try.prog.info? 29).map (·.size) = some (dv r).length := dInfo r
  have hL := dv_length r
  have hO := dv_one r
  go_enter Try.func3, Try.ntmps3
  go_upto_region 5 with (go_at_call 7; refine (szFrame_small s A l.length c hn _).mono ?_; rintro e w1 ⟨rfl, hb1⟩; have S1 := sl_keep (w0 := w) (s := s) (A := A) (n := l.length) (c := c) (d := d0) ⟨F0.1, F0.2, D0.range, hb0, hsz0⟩ hb1)
  clear F0 D0 hb0 hsz0
  have hd1 : Below w1.heap.size w1 w1.drew := (Below.refl _ _).drew
  have S1d := sl_keep S1 hd1
  have hz1 := S1.2.2.2.2
  have KS : ∀ (B : Option Addr) (W : World), HA W B l → Calls Try.prog 8 #[.agg #[.int .i16 s, .slice B l.length l.length], .agg (da d0)] W (fun e w' => e = .returned (.tuple #[.agg (dv r).toArray, .int .i64 cc]) ∧ Below W.heap.size W w') := fun B W h => by rw [hr, hcc]; exact specMirrorDrum_dv s B l.length l d0 W h hn hwf hs hd0
  have KI : ∀ (B : Option Addr) (W : World), HA W B l → Calls Try.prog 11 #[.agg #[.int .i16 s, .slice B l.length l.length], .agg (da d0)] W (fun e w' => e = .returned (.tuple #[.agg (dv r).toArray, .int .i64 cc]) ∧ Below W.heap.size W w') := fun B W h => by rw [hr, hcc]; exact implMirrorDrum_dv s B l.length l d0 W h hn hwf hs hd0
  clear hr hcc
  go_cut [6, 7] from 16 to 23 (fun a b wx => ∃ g : Nat, a = .pointer (some ⟨g, 0, none⟩) ∧ b = .int .i64 cc ∧ wx.rangeAt g 0 (dv r) ∧ (wx.cell? ⟨w.heap.size, 0, none⟩ = some (.int .i16 s) ∧ wx.cell? ⟨w.heap.size, 1, none⟩ = some (.slice A l.length c) ∧ wx.rangeAt (w.heap.size + 1) 0 (dv d0) ∧ Below w.heap.size w wx ∧ w.heap.size + 2 ≤ wx.heap.size))
  case first =>
    go_region_held3 (fun w' => w'.cell? ⟨w.heap.size, 0, none⟩ = some (.int .i16 s) ∧ w'.cell? ⟨w.heap.size, 1, none⟩ = some (.slice A l.length c) ∧ w'.rangeAt (w.heap.size + 1) 0 (dv d0) ∧ Below w.heap.size w w' ∧ w.heap.size + 2 ≤ w'.heap.size) (first | with_reducible exact S1d | with_reducible exact sl_drewal S1 | (with_reducible refine sl_alloc (w0 := w) (s := s) (A := A) (n := l.length) (c := c) (d := d0) ?_; with_reducible assumption) | (with_reducible refine sl_set (w0 := w) (s := s) (A := A) (n := l.length) (c := c) (d := d0) ?_ ?_; with_reducible assumption; first | with_reducible exact hz1 | with_reducible assumption) | with_reducible exact sl_keep' (w0 := w) (s := s) (A := A) (n := l.length) (c := c) (d := d0) (by assumption) (by assumption)) ((first | (go_at_call 9; refine (toFrame_any s A c l _ ?_ hn).mono ?_; (with_reducible refine hA.below ?_; with_reducible refine sl_below (s := s) (A := A) (n := l.length) (c := c) (d := d0) ?_; with_reducible assumption); rintro e w3 ⟨g3, rfl, hg3, own3, hb3⟩; have hz3 : w.heap.size + 2 ≤ w3.heap.size := Nat.le_trans (sl_size (s := s) (A := A) (n := l.length) (c := c) (d := d0) (by with_reducible assumption)) hb3.size; have H := HA.of_own own3; try (first | (with_reducible have th := th_keep (th_new _ _) hb3) | (with_reducible have th := th_keep (th_newd _ _) hb3))) | (go_at_call 10; refine (toDrum_any d0 _).mono ?_; rintro e w4 ⟨rfl, hb4⟩; have hz4 : w.heap.size + 2 ≤ w4.heap.size := Nat.le_trans (sl_size (s := s) (A := A) (n := l.length) (c := c) (d := d0) (by with_reducible assumption)) hb4.size; (first | (with_reducible have H := H.below hb4) | (with_reducible have H := (H.below (al_below w3 _)).below hb4)); (first | (with_reducible have th := th_keep th hb4) | (with_reducible have th := th_keep (th_new _ _) hb4) | skip)) | (go_at_call 8; refine (KS _ _ ?_).mono ?_; (first | with_reducible exact H | with_reducible exact H.below (al_below _ _)); rintro e w5 ⟨rfl, hb5⟩; have hz5 : w.heap.size + 2 ≤ w5.heap.size := Nat.le_trans (sl_size (s := s) (A := A) (n := l.length) (c := c) (d := d0) (by with_reducible assumption)) hb5.size; (first | (with_reducible have th := th_keep th hb5) | (with_reducible have th := th_keep (th_new _ _) hb5) | have th := th_new w5 29))))
    all_goals (go_wp2_with fail; go_meet; exact ⟨_, rfl, rfl, World.rangeAt_setCells_same _ _ _ _ (hL ▸ th), by assumption⟩)
  case rest =>
    obtain ⟨g, rfl, rfl, hrg, S6⟩ := hcut
    clear S1 S1d hz1 hb1 hd1
    have p6 := S6.1
    have q6 := S6.2.1
    go_wp2_with fail
    refine (toFrame_any s A c l _ (hA.below (sl_below S6)) hn).mono ?_
    rintro e w6 ⟨g6, rfl, hg6, own6, hb6⟩
    have S7 := sl_keep S6 hb6
    have hrg7 := range_keep hrg hb6
    obtain ⟨X, hX⟩ : ∃ X, X = w6.alloc (.cells #[.int .i16 s, .slice (some ⟨g6, 0, none⟩) l.length l.length] 34) := ⟨_, rfl⟩
    have hbX : Below w6.heap.size w6 X := by rw [hX]; exact al_below _ _
    have S8 := sl_keep S7 hbX
    have hrg8 := range_keep hrg7 hbX
    have H8 : HA X (some ⟨g6, 0, none⟩) l := (HA.of_own own6).below hbX
    have F8 : FP X w6.heap.size s (some ⟨g6, 0, none⟩) l.length l.length := by rw [hX]; exact ⟨by simp [go_sem], by simp [go_sem]⟩
    have hdX : Below X.heap.size X X.drew := (Below.refl _ _).drew
    have T8 := (⟨F8.1, F8.2, S8.2.2.1, Below.refl _ _, Nat.le_refl _⟩ : X.cell? ⟨w6.heap.size, 0, none⟩ = some (.int .i16 s) ∧ X.cell? ⟨w6.heap.size, 1, none⟩ = some (.slice (some ⟨g6, 0, none⟩) l.length l.length) ∧ X.rangeAt (w.heap.size + 1) 0 (dv d0) ∧ Below X.heap.size X X ∧ X.heap.size ≤ X.heap.size)
    have T8d := sx_keep T8 hdX
    have H8d := H8.below hdX
    have hq1 : w6.heap.size < X.heap.size := F8.lt
    have hq2 : w.heap.size + 1 < X.heap.size := dv_lt S8.2.2.1
    have hq3 : X.heap.size ≤ X.heap.size := Nat.le_refl _
    go_wp2_with fail
    rw [← hX]
    clear hX
    go_cut [9, 10] from 26 to 32 (fun a b wx => ∃ g' : Nat, a = .pointer (some ⟨g', 0, none⟩) ∧ b = .int .i64 cc ∧ wx.rangeAt g' 0 (dv r) ∧ Below X.heap.size X wx)
    case first =>
      go_region_held3 (fun w' => w'.cell? ⟨w6.heap.size, 0, none⟩ = some (.int .i16 s) ∧ w'.cell? ⟨w6.heap.size, 1, none⟩ = some (.slice (some ⟨g6, 0, none⟩) l.length l.length) ∧ w'.rangeAt (w.heap.size + 1) 0 (dv d0) ∧ Below X.heap.size X w' ∧ X.heap.size ≤ w'.heap.size) (first | with_reducible exact T8d | with_reducible exact sx_drewal T8 | (with_reducible refine sx_alloc (X := X) (b1 := w6.heap.size) (b2 := w.heap.size + 1) (s := s) (A := some ⟨g6, 0, none⟩) (n := l.length) (c := l.length) (d := d0) ?_; with_reducible assumption) | (with_reducible refine sx_set (X := X) (b1 := w6.heap.size) (b2 := w.heap.size + 1) (s := s) (A := some ⟨g6, 0, none⟩) (n := l.length) (c := l.length) (d := d0) ?_ hq1 hq2 ?_; with_reducible assumption; first | with_reducible exact hq3 | with_reducible assumption) | with_reducible exact sx_keep' (X := X) (b1 := w6.heap.size) (b2 := w.heap.size + 1) (s := s) (A := some ⟨g6, 0, none⟩) (n := l.length) (c := l.length) (d := d0) (by assumption) (by assumption)) ((first | (go_at_call 10; refine (toDrum_any d0 _).mono ?_; rintro e w4 ⟨rfl, hb4⟩; have hz4 : X.heap.size ≤ w4.heap.size := Nat.le_trans (sx_size (X := X) (b1 := w6.heap.size) (b2 := w.heap.size + 1) (s := s) (A := some ⟨g6, 0, none⟩) (n := l.length) (c := l.length) (d := d0) (by with_reducible assumption)) hb4.size; (first | (with_reducible have H := H8d.below hb4) | (with_reducible have H := (H8.below ((al_below X _).drew)).below hb4)); (first | (with_reducible have th := th_keep (th_new _ _) hb4) | (with_reducible have th := th_keep (th_newd _ _) hb4) | skip)) | (go_at_call 11; refine (KI _ _ ?_).mono ?_; (first | with_reducible exact H | with_reducible exact H.below (al_below _ _)); rintro e w5 ⟨rfl, hb5⟩; have hz5 : X.heap.size ≤ w5.heap.size := Nat.le_trans (sx_size (X := X) (b1 := w6.heap.size) (b2 := w.heap.size + 1) (s := s) (A := some ⟨g6, 0, none⟩) (n := l.length) (c := l.length) (d := d0) (by with_reducible assumption)) hb5.size; (first | (with_reducible have th := th_keep th hb5) | (with_reducible have th := th_keep (th_new _ _) hb5) | have th := th_new w5 29))))
      all_goals (go_wp2_with fail; go_meet; exact ⟨_, rfl, rfl, World.rangeAt_setCells_same _ _ _ _ (hL ▸ th), sx_below (X := X) (b1 := w6.heap.size) (b2 := w.heap.size + 1) (s := s) (A := some ⟨g6, 0, none⟩) (n := l.length) (c := l.length) (d := d0) (by assumption)⟩)
    case rest =>
      obtain ⟨g', rfl, rfl, hrg', hbY⟩ := hcut
      have S9 := sl_keep S8 hbY
      have H9 := H8.below hbY
      have F9 := F8.keep hbY
      have HRa := hide (range_keep hrg8 hbY)
      have HRb := hide hrg'
      clear T8 T8d H8d hz hI2
      go_wp2_with (first | (with_reducible refine wpList_load_da rfl 29 (.tmp 9) rfl g' 0 rfl r _ HRb.out Try.underlying29 rfl (dInfo r) ?_) | (with_reducible refine wpList_load_da rfl 29 (.tmp 6) rfl g 0 rfl r _ HRa.out Try.underlying29 rfl (dInfo r) ?_))
      refine (eqDrum_any r _).mono ?_
      rintro e w9 ⟨rfl, hb9⟩
      have S10 := sl_keep S9 hb9
      have H10 := H9.below hb9
      have F10 := F9.keep hb9
      go_wp2_with fail
      have hd9 : Below w9.heap.size w9 w9.drew := (Below.refl _ _).drew
      have S11 := sl_keep S10 hd9
      have H11 := H10.below hd9
      have F11 := F10.keep hd9
      have p11 := S11.1
      have q11 := S11.2.1
      have y11 := F11.1
      have z11 := F11.2
      have b11 := S11.2.2.2.1
      go_region_held3 (fun w' => w'.cell? ⟨w.heap.size, 0, none⟩ = some (.int .i16 s) ∧ w'.cell? ⟨w.heap.size, 1, none⟩ = some (.slice A l.length c) ∧ w'.cell? ⟨w6.heap.size, 0, none⟩ = some (.int .i16 s) ∧ w'.cell? ⟨w6.heap.size, 1, none⟩ = some (.slice (some ⟨g6, 0, none⟩) l.length l.length)) (first | exact ⟨p11, q11, y11, z11⟩ | exact ⟨p12, q12, y12, z12⟩ | exact ⟨p13, q13, y13, z13⟩) ((first | (go_at_call 9; refine (toFrame_any s A c l _ (hA.below b11) hn).mono ?_; rintro e w12 ⟨g12, rfl, hg12, own12, hb12⟩; have S12 := sl_keep S11 hb12; have F12 := F11.keep hb12; have H12 := H11.below hb12; have p12 := S12.1; have q12 := S12.2.1; have y12 := F12.1; have z12 := F12.2) | (go_at_call 13; refine (eqFrame_any s _ _ _ _ l _ H12 (HA.of_own own12) hn).mono ?_; rintro e w13 ⟨rfl, hb13⟩; have S13 := sl_keep S12 hb13; have F13 := F12.keep hb13; have p13 := S13.1; have q13 := S13.2.1; have y13 := F13.1; have z13 := F13.2; have b13 := S13.2.2.2.1)))
      go_wp2
      go_ret
      exact ⟨rfl, b13⟩
theorem lawMirrorDrum_any (s : Int) (A : Option Addr) (c : Nat) (l : List (Int × Int)) (d0 : Nat → Int)  (w : World) (hA : HA w A l) (hm : l.length ≤ maxLen) (hwf : HWF l) (hs : -32768 ≤ s ∧ s ≤ 32767) (hd0 : DWF d0)  :
    Calls Try.prog 3 #[.agg #[.int .i16 s, .slice A l.length c], .agg (da d0)] w (Says true w) := by
  rcases Nat.lt_or_ge 1048576 l.length with h | h
  · exact lawMirrorDrum_big s A c l d0 w h hm
  · exact lawMirrorDrum_small s A c l d0 w hA h hwf hs hd0
end Go.Proofs.Ytcdjfflmgjpobaa
