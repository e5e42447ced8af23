import Derived.Test.YtlbjakmfalhliaaFre
import Derived.Deep.RegionWith
namespace Go.Proofs.Ytlbjakmfalhliaa
open Go.RowKit

theorem lawValidFrame_big (s : Int) (A : Option Addr) (c : Nat) (l : List (Int × Int)) (w : World) (hn : 1048576 < l.length) (hm : l.length ≤ maxLen) :
    Calls Try.prog 3 #[.agg #[.int .i16 s, .slice A l.length c]] w (Says true w) := by
  have hb0 : Below w.heap.size w (w.alloc (.cells #[.int .i16 s, .slice A l.length c] 25)) := (Below.refl _ _).alloc (Nat.le_refl _) _
  go_enter Try.func3, Try.ntmps3
  go_wp2_with (go_at_call 15; refine (szFrame_big s A l.length c hm hn _).mono ?_; rintro e w' ⟨rfl, hb⟩)
  go_ret
  exact ⟨rfl, hb0.trans (hb.mono hb0.size)⟩

set_option maxHeartbeats 1000000 in
theorem lawValidFrame_small (s : Int) (A : Option Addr) (c : Nat) (l : List (Int × Int)) (w : World) (hA : HA w A l) (hn : l.length ≤ 1048576) (hwf : HWF l) (hs : -32768 ≤ s ∧ s ≤ 32767) :
    Calls Try.prog 3 #[.agg #[.int .i16 s, .slice A l.length c]] w (Says true w) := by
  have hb0 : Below w.heap.size w (w.alloc (.cells #[.int .i16 s, .slice A l.length c] 25)) := (Below.refl _ _).alloc (Nat.le_refl _) _
  have hF0 : FP (w.alloc (.cells #[.int .i16 s, .slice A l.length c] 25)) w.heap.size s A l.length c := ⟨by simp [go_sem], by simp [go_sem]⟩
  go_enter Try.func3, Try.ntmps3
  go_wp2_with fail
  refine (szFrame_small s A l.length c hn _).mono ?_
  rintro e w1 ⟨rfl, hb1⟩
  have b1 := step_below hb1 hb0
  have F1 := hF0.keep hb1
  have c1 := F1.1
  have c2 := F1.2
  go_wp2_with fail
  refine (toFrame_any s A c l _ (hA.below b1) hn).mono ?_
  rintro e w2 ⟨g2, rfl, hg2, own2, hb2⟩
  have b2 := step_below hb2 b1
  have F2 := F1.keep hb2
  clear c1 c2
  have c1 := F2.1
  have c2 := F2.2
  go_wp2_with fail
  refine (specValidFrame_any s _ _ l _ (HA.of_own own2) hn hwf hs).mono ?_
  rintro e w3 ⟨rfl, hb3⟩
  have b3 := step_below hb3 b2
  have F3 := F2.keep hb3
  clear c1 c2
  have c1 := F3.1
  have c2 := F3.2
  go_wp2_with fail
  refine (toFrame_any s A c l _ (hA.below b3) hn).mono ?_
  rintro e w4 ⟨g4, rfl, hg4, own4, hb4⟩
  have b4 := step_below hb4 b3
  have F4 := F3.keep hb4
  have hx4 : Below w4.heap.size w4 (w4.alloc (.cells #[.int .i16 s, .slice (some ⟨g4, 0, none⟩) l.length l.length] 30)) := (Below.refl _ _).alloc (Nat.le_refl _) _
  have X4 : FP (w4.alloc (.cells #[.int .i16 s, .slice (some ⟨g4, 0, none⟩) l.length l.length] 30)) w4.heap.size s (some ⟨g4, 0, none⟩) l.length l.length := ⟨by simp [go_sem], by simp [go_sem]⟩
  have b4x := b4.alloc b4.size (.cells #[.int .i16 s, .slice (some ⟨g4, 0, none⟩) l.length l.length] 30)
  have F4' := F4.keep hx4
  have own4x := own_keep own4 hx4
  clear c1 c2
  have c1 := F4.1
  have c2 := F4.2
  go_wp2_with fail
  refine (implValidFrame_any s _ _ l _ (HA.of_own own4x) hn hwf hs).mono ?_
  rintro e w5 ⟨rfl, hb5⟩
  have b5 := step_below hb5 b4x
  have F5 := F4'.keep hb5
  have X5 := X4.keep hb5
  have own5 := own_keep own4x hb5
  have c1 := F5.1
  have c2 := F5.2
  have c3 := X5.1
  have c4 := X5.2
  go_wp2_with fail
  have hd5 : Below w5.heap.size w5 w5.drew := (Below.refl _ _).drew
  have b5d := b5.drew
  have F5d := F5.keep hd5
  have X5d := X5.keep hd5
  have own5d := own_keep own5 hd5
  go_region_with (first | (go_at_call 17; refine (toFrame_any s A c l _ (hA.below b5d) hn).mono ?_; rintro e w6 ⟨g6, rfl, hg6, own6, hb6⟩; have F6 := F5d.keep hb6; have X6 := X5d.keep hb6; have c5 := X6.1; have c6 := X6.2; have own5b := own_keep own5d hb6; have b6 := step_below hb6 b5d) | (go_at_call 19; refine (eqFrame_any s _ _ _ _ l _ (HA.of_own own5b) (HA.of_own own6) hn).mono ?_; rintro e w7 ⟨rfl, hb7⟩; have b7 := step_below hb7 b6))
  all_goals go_wp2
  all_goals go_ret
  all_goals exact ⟨rfl, b7⟩
theorem lawValidFrame_any (s : Int) (A : Option Addr) (c : Nat) (l : List (Int × Int)) (w : World) (hA : HA w A l) (hm : l.length ≤ maxLen) (hwf : HWF l) (hs : -32768 ≤ s ∧ s ≤ 32767) :
    Calls Try.prog 3 #[.agg #[.int .i16 s, .slice A l.length c]] w (Says true w) := by
  rcases Nat.lt_or_ge 1048576 l.length with h | h
  · exact lawValidFrame_big s A c l w h hm
  · exact lawValidFrame_small s A c l w hA h hwf hs
end Go.Proofs.Ytlbjakmfalhliaa
