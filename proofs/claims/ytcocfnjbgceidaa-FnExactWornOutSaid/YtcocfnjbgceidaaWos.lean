import Derived.Test.YtcocfnjbgceidaaGbq
import Derived.Test.YtcocfnjbgceidaaWow
import Derived.Test.YtcocfnjbgceidaaGbr
import Derived.Test.YtcocfnjbgceidaaDon
namespace Go.Proofs.Ytcocfnjbgceidaa
open Go.RowKit Go.Maps
theorem woT_len0 (T : List Wp) (a : Int) : (woT T a).length ≤ T.length := by
  unfold woT
  exact List.length_filter_le _ _
theorem wuT_len (s : Int) (h : List (Int × Int)) (l : List Wp) (z : List Int) (a b : Int) (hl : l.length ≤ 1048576) : (wuT s h l z a b).length ≤ 1048576 := by
  unfold wuT
  split
  · exact Nat.le_trans (woT_len0 l a) hl
  · simp
theorem wuK_len (s : Int) (h : List (Int × Int)) (l : List Wp) (z : List Int) (a b : Int) (hz : z.length ≤ 1048576) : (wuK s h l z a b).length ≤ 1048576 := by
  unfold wuK
  split
  · exact Nat.le_trans (woK_len z b z.length) hz
  · simp
set_option maxRecDepth 20000 in
set_option maxHeartbeats 8000000 in
theorem specWornOut_any (s : Int) (A : Option Addr) (c : Nat) (h : List (Int × Int)) (P : Option Addr) (d : Nat) (l : List Wp) (U : Option Addr) (v : Nat) (z : List Int) (a b : Int) (w : World)
    (hA : HA w A h) (hn : h.length ≤ 1048576) (hwf : HWF h) (hs : -32768 ≤ s ∧ s ≤ 32767) (hL : WnA w P l) (hU : SZ w U z) (hl : l.length ≤ 1048576) (hz : z.length ≤ 1048576) (hlw : WnWF l) (hzw : ZWF z) (hv : LvWF a b) :
    Calls Try.prog 34 #[.agg #[.int .i16 s, .slice A h.length c], .agg #[.slice P l.length d, .slice U z.length v], .agg #[.int .i64 a, .int .i64 b]] w (WuR (wuT s h l z a b) (wuK s h l z a b) (wuC s h l z a b) w) := by
  obtain ⟨X, hX⟩ : ∃ X, X = ((w.alloc (.cells #[.int .i16 s, .slice A h.length c] 60)).alloc (.cells #[.slice P l.length d, .slice U z.length v] 64)).alloc (.cells #[.int .i64 a, .int .i64 b] 66) := ⟨_, rfl⟩
  have hb0 : Below w.heap.size w X := by rw [hX]; exact (((Below.refl _ _).alloc (Nat.le_refl _) _).alloc (by simp) _).alloc (by simp; omega) _
  have P0 : Bk X w.heap.size 60 #[.int .i16 s, .slice A h.length c] := by rw [hX]; exact ((Bk.new _ _ _ rfl).old _).old _
  have P1 : Bk X (w.heap.size + 1) 64 #[.slice P l.length d, .slice U z.length v] := by rw [hX]; exact (Bk.new _ _ _ (by simp)).old _
  have P2 : Bk X (w.heap.size + 1 + 1) 66 #[.int .i64 a, .int .i64 b] := by rw [hX]; exact Bk.new _ _ _ (by simp)
  have hX3 := P2.lt
  have KA := l06Lived_any w.heap.size (w.heap.size + 1) s A c h P d l U v z a b X ⟨P0.cell (i := 0) rfl, P0.cell (i := 1) rfl⟩ (P1.cell (i := 0) rfl) (P1.cell (i := 1) rfl) (hA.below hb0) (hL.below hb0) (hU.below hb0) hn hl hz hwf hs hlw
  go_enter Try.func34, Try.ntmps34
  go_upto_region 1 with fail
  rw [← hX]
  clear hX
  have c4 := P2.cell (i := 0) rfl
  have c5 := P2.cell (i := 1) rfl
  go_wp2_with fail
  refine KA.mono ?_
  rintro e w2 ⟨rfl, hb2⟩
  have b2 := step_below hb2 hb0
  have Q1 := P1.keep hb2
  have Q2 := P2.keep hb2
  have hs2 := b2.size
  clear KA c4 c5
  cases hf : fbV s h l z a b
  · have HC := hide (show wuC s h l z a b = 1 by rw [wuC, hf]; rfl)
    have HT := hide (show wuT s h l z a b = [] by rw [wuT, hf]; rfl)
    have HK := hide (show wuK s h l z a b = [] by rw [wuK, hf]; rfl)
    obtain ⟨Y, hY⟩ : ∃ Y, Y = (w2.alloc (.cells #[] 136)).alloc (.cells #[] 2) := ⟨_, rfl⟩
    have hbY : Below w2.heap.size w2 Y := by rw [hY]; exact ((Below.refl _ _).alloc (Nat.le_refl _) _).alloc (by simp) _
    have bY := step_below hbY b2
    have o1 : Y.ownsRow w.heap.size 136 3 (.slice (some ⟨w2.heap.size, 0, none⟩) 0 0) 0 [] := by
      rw [hY]
      have := (own_emptyI (w := w2) (base := w.heap.size) 136 3 hs2).alloc (.cells #[] 2)
      simpa using this
    have o2 : Y.ownsRow w.heap.size 2 1 (.slice (some ⟨w2.heap.size + 1, 0, none⟩) 0 0) 0 [] := by
      rw [hY]
      have := own_emptyI (w := w2.alloc (.cells #[] 136)) (base := w.heap.size) 2 1 (by simp; omega)
      simpa using this
    clear hf
    go_wp2
    rw [← hY]
    go_ret3
    rw [HC.out, HT.out, HK.out]
    exact ⟨_, _, _, _, rfl, o1, o2, bY⟩
  · have HC := hide (show wuC s h l z a b = 0 by rw [wuC, hf]; rfl)
    have HT := hide (show wuT s h l z a b = woT l a by rw [wuT, hf]; rfl)
    have HK := hide (show wuK s h l z a b = woK z b z.length by rw [wuK, hf]; rfl)
    have KO := l06Worn_any (w.heap.size + 1) P d l U v z a b w2 (Q1.cell (i := 0) rfl) (Q1.cell (i := 1) rfl) (hL.below b2) (hU.below b2) hl hz
    have f0 := Q2.cell (i := 0) rfl
    have f1 := Q2.cell (i := 1) rfl
    clear hf
    go_wp2_with fail
    refine KO.mono ?_
    rintro e w5 ⟨P1', q1, P2', q2, rfl, own1, own2, hb5⟩
    have b5 := step_below hb5 b2
    clear KO f0 f1
    go_wp2
    go_ret3
    rw [HC.out, HT.out, HK.out]
    exact ⟨_, _, _, _, rfl, own_base own1 hs2, own_base own2 hs2, b5⟩
end Go.Proofs.Ytcocfnjbgceidaa
