import Derived.Test.YtakdnmakgblamaaWfr
namespace Go.Proofs.Ytakdnmakgblamaa
open Go.RowKit
set_option maxRecDepth 20000 in
set_option maxHeartbeats 1000000 in
theorem implValidWear_any (s : Int) (A : Option Addr) (c : Nat) (h : List (Int × Int)) (P : Option Addr) (d : Nat) (l : List (Int × Int × Int)) (U : Option Addr) (v : Nat) (z : List Int) (w : World)
    (hA : HA w A h) (hn : h.length ≤ 1048576) (hwf : HWF h) (hs : -32768 ≤ s ∧ s ≤ 32767) (hL : WnA w P l) (hU : SZ w U z) (hl : l.length ≤ 1048576) (hz : z.length ≤ 1048576) (hlw : WnWF l) (hzw : ZWF z) :
    Calls Try.prog 19 #[.agg #[.int .i16 s, .slice A h.length c], .agg #[.slice P l.length d, .slice U z.length v]] w (Says (weB s h l z) w) := by
  obtain ⟨X, hX⟩ : ∃ X, X = (w.alloc (.cells #[.int .i16 s, .slice A h.length c] 41)).alloc (.cells #[.slice P l.length d, .slice U z.length v] 45) := ⟨_, rfl⟩
  have hb0 : Below w.heap.size w X := by rw [hX]; exact ((Below.refl _ _).alloc (Nat.le_refl _) _).alloc (by simp) _
  have P0 : Bk X w.heap.size 41 #[.int .i16 s, .slice A h.length c] := by rw [hX]; exact (Bk.new _ _ _ rfl).old _
  have P1 : Bk X (w.heap.size + 1) 45 #[.slice P l.length d, .slice U z.length v] := by rw [hX]; exact Bk.new _ _ _ (by simp)
  have KW := wearingFor_any s A c h P d l U v z (.slice none 0 0) true X (hA.below hb0) hn hwf hs (hL.below hb0) (hU.below hb0) hl hz hlw hzw (fun W _ => areLives_nil W)
  rw [Bool.and_true] at KW
  go_enter Try.func19, Try.ntmps19
  go_upto_region 1 with fail
  rw [← hX]
  clear hX
  have c0 := P0.cell (i := 0) rfl
  have c1 := P0.cell (i := 1) rfl
  have c2 := P1.cell (i := 0) rfl
  have c3 := P1.cell (i := 1) rfl
  go_wp2_with fail
  refine KW.mono ?_
  rintro e w2 ⟨he, hb2⟩
  have b2 := step_below hb2 hb0
  rcases he with ⟨h1, rfl⟩ | ⟨h1, M, C, q, rfl, _⟩
  · go_wp2
    go_ret
    exact ⟨ret_bool h1.symm, by repeat (first | exact b2 | refine Below.alloc ?_ (by first | exact b2.size | (simp; have := b2.size; omega)) _ | refine Below.setCell ?_ (by simp; have := b2.size; omega) _)⟩
  · go_wp2
    go_ret
    exact ⟨ret_bool h1.symm, by repeat (first | exact b2 | refine Below.alloc ?_ (by first | exact b2.size | (simp; have := b2.size; omega)) _ | refine Below.setCell ?_ (by simp; have := b2.size; omega) _)⟩
theorem specValidWear_any (s : Int) (A : Option Addr) (c : Nat) (h : List (Int × Int)) (P : Option Addr) (d : Nat) (l : List (Int × Int × Int)) (U : Option Addr) (v : Nat) (z : List Int) (w : World)
    (hA : HA w A h) (hn : h.length ≤ 1048576) (hwf : HWF h) (hs : -32768 ≤ s ∧ s ≤ 32767) (hL : WnA w P l) (hU : SZ w U z) (hl : l.length ≤ 1048576) (hz : z.length ≤ 1048576) (hlw : WnWF l) (_ : ZWF z) :
    Calls Try.prog 16 #[.agg #[.int .i16 s, .slice A h.length c], .agg #[.slice P l.length d, .slice U z.length v]] w (Says (weB s h l z) w) := by
  obtain ⟨X, hX⟩ : ∃ X, X = (w.alloc (.cells #[.int .i16 s, .slice A h.length c] 41)).alloc (.cells #[.slice P l.length d, .slice U z.length v] 45) := ⟨_, rfl⟩
  have hb0 : Below w.heap.size w X := by rw [hX]; exact ((Below.refl _ _).alloc (Nat.le_refl _) _).alloc (by simp) _
  have P0 : Bk X w.heap.size 41 #[.int .i16 s, .slice A h.length c] := by rw [hX]; exact (Bk.new _ _ _ rfl).old _
  have P1 : Bk X (w.heap.size + 1) 45 #[.slice P l.length d, .slice U z.length v] := by rw [hX]; exact Bk.new _ _ _ (by simp)
  have KW := l06Ok_any w.heap.size (w.heap.size + 1) s A c h P d l U v z X ⟨P0.cell (i := 0) rfl, P0.cell (i := 1) rfl⟩ (P1.cell (i := 0) rfl) (P1.cell (i := 1) rfl) (hA.below hb0) (hL.below hb0) (hU.below hb0) hn hl hz hwf hs hlw
  go_enter Try.func16, Try.ntmps16
  go_upto_region 1 with fail
  rw [← hX]
  clear hX
  go_wp2_with fail
  refine KW.mono ?_
  rintro e w2 ⟨rfl, hb2⟩
  have b2 := step_below hb2 hb0
  go_wp2
  go_ret
  exact ⟨rfl, b2⟩
end Go.Proofs.Ytakdnmakgblamaa
