import Derived.Test.YtfjcomemgbmohaaJb
namespace Go.Proofs.Ytfjcomemgbmohaa
open Go.RowKit
set_option maxRecDepth 20000 in
set_option maxHeartbeats 2000000 in
theorem with_any (s : Int) (A : Option Addr) (c : Nat) (l : List (Int × Int)) (B : Option Addr) (d : Nat) (m V : List (Int × Int)) (C : Int) (w : World) (hA : NA w A l) (hl : l.length ≤ 1000) (hwl : WF l) (hB : NA w B m) (hm : m.length ≤ 1000) (hwm : WF m) (hs : -100000 ≤ s ∧ s ≤ 100000)
    (hC : chC (shP s 0) m = C) (hV : chV (shP s 0) m = V) (hC0 : C = 0 ∨ C = 4) (hVl : V.length ≤ 1000) (hVw : WF V) :
    Calls Try.prog 56 #[.slice A l.length c, .slice B m.length d, .int .i64 s] w (OwnN w (if C = 0 then mkV (l ++ V) else []) (if C = 0 then mkC (l ++ V) else 3)) := by
  have KS := shifted_any s 0 B d m w hB (by omega) hwm hs (by omega)
  rw [hC, hV] at KS
  clear hC hV
  rcases hC0 with rfl | rfl
  · have KMk : ∀ W C q, NA W C (l ++ V) → Calls Try.prog 14 #[.slice C (l ++ V).length q] W (OwnN W (mkV (l ++ V)) (mkC (l ++ V))) := fun W C q h => implMakeTune_any C q (l ++ V) W h (by rw [List.length_append]; omega) (hwl.append hVw)
    rw [if_pos rfl, if_pos rfl]
    obtain ⟨MC, hMC⟩ : ∃ x, x = mkC (l ++ V) := ⟨_, rfl⟩
    obtain ⟨MV, hMV⟩ : ∃ x, x = mkV (l ++ V) := ⟨_, rfl⟩
    rw [← hMC, ← hMV]
    rw [← hMC, ← hMV] at KMk
    clear hMC hMV
    obtain ⟨L, hL⟩ : ∃ L, L = l ++ V := ⟨_, rfl⟩
    rw [← hL] at KMk
    go_enter Try.func56, Try.ntmps56
    go_wp2_with fail
    refine KS.mono ?_
    rintro e w2 ⟨C2, q2, rfl, own2, b2⟩
    have hal : Below w2.heap.size w2 (w2.alloc (.cells #[.slice A l.length c, .slice C2 V.length q2] 25)) := (Below.refl _ _).alloc (Nat.le_refl _) _
    have b3 := step_below hal b2
    obtain ⟨g0, g1⟩ := two_new w2 (.slice A l.length c) (.slice C2 V.length q2) 25
    have KC := concat_any w2.heap.size A c l C2 q2 V (w2.alloc (.cells #[.slice A l.length c, .slice C2 V.length q2] 25)) g0 g1 (by simp) (hA.below b3) ((NA.of_own own2).below hal) (by omega) (by omega)
    rw [← hL] at KC
    clear g0 g1 hL
    go_wp2_with fail
    refine KC.mono ?_
    rintro e w4 ⟨C4, q4, rfl, own4, hb4⟩
    have b4 := step_below hb4 b3
    have KM4 := KMk w4 C4 q4 (NA.of_own own4)
    clear own4 KC
    go_wp2_with fail
    refine KM4.mono ?_
    rintro e w5 ⟨C5, q5, rfl, own5, hb5⟩
    go_wp2
    go_ret2
    exact ⟨C5, q5, rfl, own_base own5 b4.size, step_below hb5 b4⟩
  · go_enter Try.func56, Try.ntmps56
    go_wp2_with fail
    refine KS.mono ?_
    rintro e w2 ⟨C2, q2, rfl, own2, b2⟩
    go_wp2
    go_ret2
    exact ownN_nil none 0 3 ⟨rfl, Or.inl ⟨rfl, rfl⟩⟩ b2
set_option maxRecDepth 20000 in
set_option maxHeartbeats 2000000 in
theorem implJoinTunes_any (A : Option Addr) (c : Nat) (l : List (Int × Int)) (B : Option Addr) (d : Nat) (m : List (Int × Int)) (w : World) (hA : NA w A l) (hl : l.length ≤ 1048576) (hwl : WF l) (hB : NA w B m) (hm : m.length ≤ 1048576) (hwm : WF m) :
    Calls Try.prog 33 #[.slice A l.length c, .slice B m.length d] w (OwnN w (joV l m) (joC l m)) := by
  have KO := implValid_any A c l w hA hl hwl
  cases ho : okB l
  · rw [ho] at KO
    have HX := hide (show joC l m = 1 by simp [joC, bothB, ho])
    have HY := hide (show joV l m = [] by simp [joV, bothB, ho])
    clear ho
    go_enter Try.func33, Try.ntmps33
    go_wp2_with fail
    refine KO.mono ?_
    rintro e w1 ⟨rfl, hb1⟩
    go_wp2
    go_ret2
    rw [HX.out, HY.out]
    exact ownN_nil none 0 1 ⟨rfl, Or.inl ⟨rfl, rfl⟩⟩ hb1
  rw [ho] at KO
  have KM : ∀ W, Below w.heap.size w W → Calls Try.prog 46 #[.slice B m.length d] W (Says (okB m) W) := fun W hW => implValid_any B d m W (hB.below hW) hm hwm
  cases h2 : okB m
  · rw [h2] at KM
    have HX := hide (show joC l m = 1 by simp [joC, bothB, h2])
    have HY := hide (show joV l m = [] by simp [joV, bothB, h2])
    clear ho h2
    go_enter Try.func33, Try.ntmps33
    go_wp2_with fail
    refine KO.mono ?_
    rintro e w1 ⟨rfl, hb1⟩
    go_wp2_with fail
    refine (KM w1 hb1).mono ?_
    rintro e w2 ⟨rfl, hb2⟩
    have b2 := step_below hb2 hb1
    go_wp2
    go_ret2
    rw [HX.out, HY.out]
    exact ownN_nil none 0 1 ⟨rfl, Or.inl ⟨rfl, rfl⟩⟩ b2
  rw [h2] at KM
  have hbo : bothB l m = true := by simp [bothB, ho, h2]
  have hlen := ok2_len hbo
  have hli := len_in ho
  have hcv : chV (shP (lenI l) 0) m = chW (shP (lenI l) 0) m := sh_asc h2
  have KL : ∀ W, Below w.heap.size w W → Calls Try.prog 50 #[.slice A l.length c] W (fun e w' => e = .returned (.int .i64 (lenI l)) ∧ W = w') := fun W hW => implLength_any A c l W (hA.below hW) hl hwl
  have KW : ∀ W, Below w.heap.size w W → Calls Try.prog 56 #[.slice A l.length c, .slice B m.length d, .int .i64 (lenI l)] W (OwnN W (joV l m) (joC l m)) := fun W hW => by
    cases hc : chO (shP (lenI l) 0) m m.length
    · have h := with_any (lenI l) A c l B d m [] 4 W (hA.below hW) (by omega) hwl (hB.below hW) (by omega) hwm (by omega) (by simp [chC, hc]) (by simp [chV, hc]) (Or.inr rfl) (by simp) (fun k hk => absurd hk (by simp))
      have e1 : joC l m = 3 := by simp [joC, hbo, joG, hc]
      have e2 : joV l m = [] := by simp [joV, joG, hc]
      rw [e1, e2]
      exact h
    · have h := with_any (lenI l) A c l B d m (joM l m) 0 W (hA.below hW) (by omega) hwl (hB.below hW) (by omega) hwm (by omega) (by simp [chC, hc]) (by rw [hcv, chW_jo hc]) (Or.inl rfl) (by rw [joM_len]; omega) (wf_range (rangeB_ch hc))
      rw [if_pos rfl, if_pos rfl, (jo_mk hbo hc).1, (jo_mk hbo hc).2] at h
      exact h
  obtain ⟨MC, hMC⟩ : ∃ x, x = joC l m := ⟨_, rfl⟩
  obtain ⟨MV, hMV⟩ : ∃ x, x = joV l m := ⟨_, rfl⟩
  obtain ⟨n, hn⟩ : ∃ x, x = lenI l := ⟨_, rfl⟩
  rw [← hMC, ← hMV, ← hn] at KW
  rw [← hMC, ← hMV]
  rw [← hn] at KL
  clear ho h2 hbo hMC hMV hn hli hcv
  go_enter Try.func33, Try.ntmps33
  go_wp2_with fail
  refine KO.mono ?_
  rintro e w1 ⟨rfl, hb1⟩
  go_wp2_with fail
  refine (KM w1 hb1).mono ?_
  rintro e w2 ⟨rfl, hb2⟩
  have b2 := step_below hb2 hb1
  go_wp2_with fail
  refine (KL w2 b2).mono ?_
  rintro e w2' ⟨rfl, rfl⟩
  go_wp2_with fail
  refine (KW w2 b2).mono ?_
  rintro e w5 ⟨C5, q5, rfl, own5, hb5⟩
  go_wp2
  go_ret2
  exact ⟨C5, q5, rfl, own_base own5 b2.size, step_below hb5 b2⟩
end Go.Proofs.Ytfjcomemgbmohaa
