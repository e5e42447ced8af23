import Derived.Test.YtfjcomemgbmohaaJb
namespace Go.Proofs.Ytfjcomemgbmohaa
open Go.RowKit
set_option maxRecDepth 20000 in
set_option maxHeartbeats 2000000 in
theorem specJoinTunes_any (A : Option Addr) (c : Nat) (l : List (Int × Int)) (B : Option Addr) (d : Nat) (m : List (Int × Int)) (w : World) (hA : NA w A l) (hl : l.length ≤ 1048576) (hwl : WF l) (hB : NA w B m) (hm : m.length ≤ 1048576) (hwm : WF m) :
    Calls Try.prog 32 #[.slice A l.length c, .slice B m.length d] w (OwnN w (joV l m) (joC l m)) := by
  obtain ⟨i0, hi, hz0, hz1, hz2⟩ := info_parts info46
  have KB := l01Both_any A c l B d m w hA hB hl hm hwl hwm
  cases hbo : bothB l m
  · rw [show bcI l m = 1 by simp [bcI, hbo]] at KB
    have HX := hide (show joC l m = 1 by simp [joC, hbo])
    have HY := hide (show joV l m = [] by simp [joV, joC, hbo])
    clear hbo
    go_enter Try.func32, Try.ntmps32
    go_wp2_with fail
    refine KB.mono ?_
    rintro e w1 ⟨rfl, hb1⟩
    go_wp2
    go_ret2
    rw [HX.out, HY.out]
    exact ownN_nil (some ⟨w1.heap.size, 0, none⟩) 0 1 (own_emptyT _ _ hb1.size) (hb1.alloc hb1.size _)
  rw [show bcI l m = 0 by simp [bcI, hbo]] at KB
  have hlen := ok2_len hbo
  have hoo : okB l = true ∧ okB m = true := by simpa [bothB] using hbo
  have hli := len_in hoo.1
  have KL : ∀ W, Below w.heap.size w W → Calls Try.prog 49 #[.slice A l.length c] W (fun e w' => e = .returned (.int .i64 (lenI l)) ∧ W = w') := fun W hW => specLength_any A c l W (hA.below hW) hl hwl
  have KC : ∀ W, Below w.heap.size w W → Calls Try.prog 45 #[.slice B m.length d, .int .i64 (lenI l), .int .i64 0] W (OwnB W (chW (shP (lenI l) 0) m) (chO (shP (lenI l) 0) m m.length)) := fun W hW => l01Changed_any (lenI l) 0 B d m W (hB.below hW) hm hwm (by omega) (by omega)
  have hw1 : IntKind.i64.wrap ((l.length : Int) + (m.length : Int)) = (l.length : Int) + (m.length : Int) := IntWalk.i64_in _ (by omega)
  cases hc : chO (shP (lenI l) 0) m m.length
  · rw [hc] at KC
    have HX := hide (show joC l m = 3 by simp [joC, hbo, joG, hc])
    have HY := hide (show joV l m = [] by simp [joV, joG, hc])
    have hcw : chW (shP (lenI l) 0) m = [] := by simp [chW, hc]
    rw [hcw] at KC
    obtain ⟨n, hn⟩ : ∃ x, x = lenI l := ⟨_, rfl⟩
    rw [← hn] at KL KC
    clear hbo hoo hc hcw hn hli
    go_enter Try.func32, Try.ntmps32
    go_wp2_with fail
    refine KB.mono ?_
    rintro e w1 ⟨rfl, hb1⟩
    go_wp2_with fail
    refine (KL w1 hb1).mono ?_
    rintro e w1' ⟨rfl, rfl⟩
    go_wp2_with fail
    refine (KC w1 hb1).mono ?_
    rintro e w2 ⟨C2, q2, rfl, own2, hb2⟩
    have b2 := step_below hb2 hb1
    go_wp2
    go_ret2
    rw [HX.out, HY.out]
    exact ownN_nil (some ⟨w2.heap.size, 0, none⟩) 0 3 (own_emptyT _ _ b2.size) (b2.alloc b2.size _)
  rw [hc, chW_jo hc] at KC
  have HJL := hide (joM_len l m)
  by_cases h9 : l.length + m.length ≤ 120
  · have HX := hide (show joC l m = 0 by simp [joC, hbo, joG, hc, h9])
    have HY := hide (show joV l m = l ++ joM l m by simp [joV, hbo, joG, hc, h9])
    have h1 : ¬ ((120 : Int) < (l.length : Int) + (m.length : Int)) := by omega
    obtain ⟨n, hn⟩ : ∃ x, x = lenI l := ⟨_, rfl⟩
    obtain ⟨M, hM⟩ : ∃ x, x = joM l m := ⟨_, rfl⟩
    rw [← hn, ← hM] at KC
    rw [← hn] at KL
    rw [← hM] at HY HJL
    clear hbo hoo hc hn hM hli
    go_enter Try.func32, Try.ntmps32
    go_wp2_with fail
    refine KB.mono ?_
    rintro e w1 ⟨rfl, hb1⟩
    go_wp2_with fail
    refine (KL w1 hb1).mono ?_
    rintro e w1' ⟨rfl, rfl⟩
    go_wp2_with fail
    refine (KC w1 hb1).mono ?_
    rintro e w2 ⟨C2, q2, rfl, own2, hb2⟩
    have b2 := step_below hb2 hb1
    have hMl : M.length ≤ 1000 := by rw [HJL.out]; omega
    have hal2 : Below w2.heap.size w2 (w2.alloc (.cells #[] 46)) := (Below.refl _ _).alloc (Nat.le_refl _) _
    have hal := step_below hal2 b2
    have hE : (w2.alloc (.cells #[] 46)).ownsRow w2.heap.size 46 2 (.slice (some ⟨w2.heap.size, 0, none⟩) 0 0) 0 [] := own_emptyT _ _ (Nat.le_refl _)
    obtain ⟨A3, c3, w3, hr3, own3, gr3⟩ := run_append_na _ 25 25 46 Try.underlying25 Try.underlying25 w2.heap.size i0 hi hz0 hz1 hz2 _ 0 [] hE A c l (hA.below hal) (by omega) (by omega) hal2.size
    simp only [Nat.zero_add, List.nil_append] at hr3 own3
    have hb3 : Below w2.heap.size w2 w3 := hal2.grown gr3 hal2.size (fun j hj => (hE.lt j hj).1)
    have NM : NA w3 C2 M := (NA.of_own own2).below hb3
    obtain ⟨A4, c4, w4, hr4, own4, gr4⟩ := run_append_na _ 25 25 46 Try.underlying25 Try.underlying25 w2.heap.size i0 hi hz0 hz1 hz2 _ l.length (cellsOf l) own3 C2 q2 M NM (by omega) (by omega) hb3.size
    rw [← cellsOf_append] at own4
    have hb4 : Below w2.heap.size w2 w4 := hb3.grown gr4 hb3.size (fun j hj => (own3.lt j hj).1)
    have b4 := step_below hb4 b2
    clear gr3 gr4 hE hal hal2 NM
    go_wp2_with (first | (at_builtin; refine Lib.wpList_append_run _ rfl (.tmp 34) (.tmp 35) _ _ rfl _ _ rfl rfl _ _ (hr3 _) ?_) | (at_builtin; refine Lib.wpList_append_run _ rfl (.tmp 36) (.tmp 37) _ _ rfl _ _ rfl rfl _ _ (hr4 _) ?_))
    go_ret2
    rw [HX.out, HY.out]
    exact ownN_of A4 c4 0 _ _ (by rw [List.length_append]) (own_base own4 b2.size) b4
  · have HX := hide (show joC l m = 3 by simp [joC, hbo, joG, hc, h9])
    have HY := hide (show joV l m = [] by simp [joV, joG, h9])
    have h1 : (120 : Int) < (l.length : Int) + (m.length : Int) := by omega
    obtain ⟨n, hn⟩ : ∃ x, x = lenI l := ⟨_, rfl⟩
    obtain ⟨M, hM⟩ : ∃ x, x = joM l m := ⟨_, rfl⟩
    rw [← hn, ← hM] at KC
    rw [← hn] at KL
    clear hbo hoo hc hn hM hli
    go_enter Try.func32, Try.ntmps32
    go_wp2_with fail
    refine KB.mono ?_
    rintro e w1 ⟨rfl, hb1⟩
    go_wp2_with fail
    refine (KL w1 hb1).mono ?_
    rintro e w1' ⟨rfl, rfl⟩
    go_wp2_with fail
    refine (KC w1 hb1).mono ?_
    rintro e w2 ⟨C2, q2, rfl, own2, hb2⟩
    have b2 := step_below hb2 hb1
    go_wp2
    go_ret2
    rw [HX.out, HY.out]
    exact ownN_nil (some ⟨w2.heap.size, 0, none⟩) 0 3 (own_emptyT _ _ b2.size) (b2.alloc b2.size _)
end Go.Proofs.Ytfjcomemgbmohaa
