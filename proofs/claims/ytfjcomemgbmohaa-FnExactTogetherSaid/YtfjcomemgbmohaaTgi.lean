import Derived.Test.YtfjcomemgbmohaaTb
namespace Go.Proofs.Ytfjcomemgbmohaa
open Go.RowKit
set_option maxRecDepth 20000 in
set_option maxHeartbeats 2000000 in
theorem implTogether_any (A : Option Addr) (c : Nat) (l : List (Int × Int)) (B : Option Addr) (d : Nat) (m : List (Int × Int)) (w : World) (hA : NA w A l) (hl : l.length ≤ 1048576) (hwl : WF l) (hB : NA w B m) (hm : m.length ≤ 1048576) (hwm : WF m) :
    Calls Try.prog 35 #[.slice A l.length c, .slice B m.length d] w (OwnN w (togV l m) (togC l m)) := by
  have KO := implValid_any A c l w hA hl hwl
  cases ho : okB l
  · rw [ho] at KO
    have HX := hide (show togC l m = 1 by simp [togC, bothB, ho])
    have HY := hide (show togV l m = [] by simp [togV, bothB, ho])
    clear ho
    go_enter Try.func35, Try.ntmps35
    go_wp2_with fail
    refine KO.mono ?_
    rintro e w1 ⟨rfl, hb1⟩
    go_wp2
    go_ret2
    rw [HX.out, HY.out]
    exact ownN_nil none 0 1 ⟨rfl, Or.inl ⟨rfl, rfl⟩⟩ hb1
  rw [ho] at KO
  have KM : ∀ W, Below w.heap.size w W → Calls Try.prog 46 #[.slice B m.length d] W (Says (okB m) W) := fun W hW => implValid_any B d m W (hB.below hW) hm hwm
  cases h2 : okB m
  · rw [h2] at KM
    have HX := hide (show togC l m = 1 by simp [togC, bothB, h2])
    have HY := hide (show togV l m = [] by simp [togV, bothB, h2])
    clear ho h2
    go_enter Try.func35, Try.ntmps35
    go_wp2_with fail
    refine KO.mono ?_
    rintro e w1 ⟨rfl, hb1⟩
    go_wp2_with fail
    refine (KM w1 hb1).mono ?_
    rintro e w2 ⟨rfl, hb2⟩
    have b2 := step_below hb2 hb1
    go_wp2
    go_ret2
    rw [HX.out, HY.out]
    exact ownN_nil none 0 1 ⟨rfl, Or.inl ⟨rfl, rfl⟩⟩ b2
  rw [h2] at KM
  have hbo : bothB l m = true := by simp [bothB, ho, h2]
  have HX := hide (show togC l m = mkC (l ++ m) by simp [togC, hbo])
  have HY := hide (show togV l m = mkV (l ++ m) by simp [togV, hbo])
  have KMk : ∀ W C q, NA W C (l ++ m) → Calls Try.prog 14 #[.slice C (l ++ m).length q] W (OwnN W (mkV (l ++ m)) (mkC (l ++ m))) := fun W C q h => implMakeTune_any C q (l ++ m) W h (by rw [List.length_append]; have := ok2_len hbo; omega) (hwl.append hwm)
  obtain ⟨MC, hMC⟩ : ∃ x, x = mkC (l ++ m) := ⟨_, rfl⟩
  obtain ⟨MV, hMV⟩ : ∃ x, x = mkV (l ++ m) := ⟨_, rfl⟩
  rw [← hMC] at HX KMk
  rw [← hMV] at HY KMk
  clear ho h2 hbo hMC hMV
  obtain ⟨L, hL⟩ : ∃ L, L = l ++ m := ⟨_, rfl⟩
  rw [← hL] at KMk
  go_enter Try.func35, Try.ntmps35
  go_wp2_with fail
  refine KO.mono ?_
  rintro e w1 ⟨rfl, hb1⟩
  go_wp2_with fail
  refine (KM w1 hb1).mono ?_
  rintro e w2 ⟨rfl, hb2⟩
  have b2 := step_below hb2 hb1
  have hal : Below w2.heap.size w2 (w2.alloc (.cells #[.slice A l.length c, .slice B m.length d] 25)) := (Below.refl _ _).alloc (Nat.le_refl _) _
  have b3 := step_below hal b2
  obtain ⟨g0, g1⟩ := two_new w2 (.slice A l.length c) (.slice B m.length d) 25
  have KC := concat_any w2.heap.size A c l B d m (w2.alloc (.cells #[.slice A l.length c, .slice B m.length d] 25)) g0 g1 (by simp) (hA.below b3) (hB.below b3) hl hm
  rw [← hL] at KC
  clear g0 g1 hL
  go_wp2_with fail
  refine KC.mono ?_
  rintro e w4 ⟨C4, q4, rfl, own4, hb4⟩
  have b4 := step_below hb4 b3
  have KM4 := KMk w4 C4 q4 (NA.of_own own4)
  clear own4 KC
  go_wp2_with fail
  refine KM4.mono ?_
  rintro e w5 ⟨C5, q5, rfl, own5, hb5⟩
  go_wp2
  go_ret2
  rw [HX.out, HY.out]
  exact ⟨C5, q5, rfl, own_base own5 b4.size, step_below hb5 b4⟩
end Go.Proofs.Ytfjcomemgbmohaa
