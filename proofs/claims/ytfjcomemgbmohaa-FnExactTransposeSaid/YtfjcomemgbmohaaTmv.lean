import Derived.Test.YtfjcomemgbmohaaShf
namespace Go.Proofs.Ytfjcomemgbmohaa
open Go.RowKit

def MoveTuneC (l : List (Int × Int)) (x : Int) : Int := if okB l then (if inB x (-200) 200 then chC (shP x 0) l else 4) else 1
def MoveTuneV (l : List (Int × Int)) (x : Int) : List (Int × Int) := if okB l && inB x (-200) 200 then chW (shP x 0) l else []
theorem MoveTuneV_len (l : List (Int × Int)) (x : Int) (h : l.length ≤ 1048576) : (MoveTuneV l x).length ≤ 1048576 := by
  unfold MoveTuneV
  split
  · exact Nat.le_trans (chW_len _ _) h
  · simp
set_option maxRecDepth 20000 in
set_option maxHeartbeats 2000000 in
theorem specMoveTune_any (A : Option Addr) (c : Nat) (l : List (Int × Int)) (x : Int) (w : World) (hA : NA w A l) (hn : l.length ≤ 1048576) (hwf : WF l) :
    Calls Try.prog 21 #[.slice A l.length c, .int .i64 x] w (OwnN w (MoveTuneV l x) (MoveTuneC l x)) := by
  have KO := l01Ok_any A c l w hA hn hwf
  cases ho : okB l
  · rw [ho] at KO
    have HX := hide (show MoveTuneC l x = 1 by simp [MoveTuneC, ho])
    have HY := hide (show MoveTuneV l x = [] by simp [MoveTuneV, ho])
    clear ho
    go_enter Try.func21, Try.ntmps21
    go_wp2_with fail
    refine KO.mono ?_
    rintro e w1 ⟨rfl, hb1⟩
    go_wp2
    go_ret2
    rw [HX.out, HY.out]
    exact ownN_nil (some ⟨w1.heap.size, 0, none⟩) 0 1 (own_emptyT _ _ hb1.size) (hb1.alloc hb1.size _)
  rw [ho] at KO
  cases h1 : inB x (-200) 200
  · have K1 : ∀ W, Calls Try.prog 44 #[.int .i64 x, .int .i64 (-200), .int .i64 200] W fun e w' => e = .returned (.bool false) ∧ W = w' := fun W => by rw [← h1]; exact l00In_any _ _ _ W
    have HX := hide (show MoveTuneC l x = 4 by simp [MoveTuneC, ho, h1])
    have HY := hide (show MoveTuneV l x = [] by simp [MoveTuneV, h1])
    clear ho h1
    go_enter Try.func21, Try.ntmps21
    go_wp2_with fail
    refine KO.mono ?_
    rintro e w1 ⟨rfl, hb1⟩
    go_wp2_with (go_at_call 44; with_reducible refine (K1 _).mono ?_; rintro e w' ⟨rfl, rfl⟩)
    go_ret2
    rw [HX.out, HY.out]
    exact ownN_nil (some ⟨w1.heap.size, 0, none⟩) 0 4 (own_emptyT _ _ hb1.size) (hb1.alloc hb1.size _)
  have K1 : ∀ W, Calls Try.prog 44 #[.int .i64 x, .int .i64 (-200), .int .i64 200] W fun e w' => e = .returned (.bool true) ∧ W = w' := fun W => by rw [← h1]; exact l00In_any _ _ _ W
  have hx : -200 ≤ x ∧ x ≤ 200 := by simpa [inB] using h1
  have HC := hide (show MoveTuneC l x = chC (shP x 0) l by simp [MoveTuneC, ho, h1])
  have HV := hide (show MoveTuneV l x = chW (shP x 0) l by simp [MoveTuneV, ho, h1])
  clear ho h1
  have KC : ∀ W, Below w.heap.size w W → Calls Try.prog 45 #[.slice A l.length c, .int .i64 x, .int .i64 0] W (OwnB W (chW (shP x 0) l) (chO (shP x 0) l l.length)) := fun W hW => l01Changed_any x 0 A c l W (hA.below hW) hn hwf (by omega) (by omega)
  cases hc : chO (shP x 0) l l.length
  · have HX := hide (show chC (shP x 0) l = 4 by simp [chC, hc])
    have HY := hide (show chW (shP x 0) l = [] by simp [chW, hc])
    rw [hc] at KC
    clear hc
    go_enter Try.func21, Try.ntmps21
    go_wp2_with fail
    refine KO.mono ?_
    rintro e w1 ⟨rfl, hb1⟩
    go_wp2_with (go_at_call 44; with_reducible refine (K1 _).mono ?_; rintro e w' ⟨rfl, rfl⟩)
    refine (KC _ hb1).mono ?_
    rintro e w2 ⟨C, q, rfl, own2, hb2⟩
    have b2 := step_below hb2 hb1
    go_wp2
    go_ret2
    rw [HC.out, HV.out, HX.out, HY.out]
    exact ownN_nil (some ⟨w2.heap.size, 0, none⟩) 0 4 (own_emptyT _ _ b2.size) (b2.alloc b2.size _)
  · have HX := hide (show chC (shP x 0) l = 0 by simp [chC, hc])
    rw [hc] at KC
    clear hc
    go_enter Try.func21, Try.ntmps21
    go_wp2_with fail
    refine KO.mono ?_
    rintro e w1 ⟨rfl, hb1⟩
    go_wp2_with (go_at_call 44; with_reducible refine (K1 _).mono ?_; rintro e w' ⟨rfl, rfl⟩)
    refine (KC _ hb1).mono ?_
    rintro e w2 ⟨C, q, rfl, own2, hb2⟩
    have b2 := step_below hb2 hb1
    go_wp2
    go_ret2
    rw [HC.out, HV.out, HX.out]
    exact ⟨C, q, rfl, own_base own2 hb1.size, b2⟩
set_option maxRecDepth 20000 in
set_option maxHeartbeats 2000000 in
theorem implMoveTune_any (A : Option Addr) (c : Nat) (l : List (Int × Int)) (x : Int) (w : World) (hA : NA w A l) (hn : l.length ≤ 1048576) (hwf : WF l) :
    Calls Try.prog 23 #[.slice A l.length c, .int .i64 x] w (OwnN w (MoveTuneV l x) (MoveTuneC l x)) := by
  have KO := implValid_any A c l w hA hn hwf
  cases ho : okB l
  · rw [ho] at KO
    have HX := hide (show MoveTuneC l x = 1 by simp [MoveTuneC, ho])
    have HY := hide (show MoveTuneV l x = [] by simp [MoveTuneV, ho])
    clear ho
    go_enter Try.func23, Try.ntmps23
    go_wp2_with fail
    refine KO.mono ?_
    rintro e w1 ⟨rfl, hb1⟩
    go_wp2
    go_ret2
    rw [HX.out, HY.out]
    exact ownN_nil none 0 1 ⟨rfl, Or.inl ⟨rfl, rfl⟩⟩ hb1
  rw [ho] at KO
  cases h1 : inB x (-200) 200
  · have K1 : ∀ W, Calls Try.prog 47 #[.int .i64 x, .int .i64 (-200), .int .i64 200] W fun e w' => e = .returned (.bool false) ∧ W = w' := fun W => by rw [← h1]; exact within_any _ _ _ W
    have HX := hide (show MoveTuneC l x = 4 by simp [MoveTuneC, ho, h1])
    have HY := hide (show MoveTuneV l x = [] by simp [MoveTuneV, h1])
    clear ho h1
    go_enter Try.func23, Try.ntmps23
    go_wp2_with fail
    refine KO.mono ?_
    rintro e w1 ⟨rfl, hb1⟩
    go_wp2_with (go_at_call 47; with_reducible refine (K1 _).mono ?_; rintro e w' ⟨rfl, rfl⟩)
    go_ret2
    rw [HX.out, HY.out]
    exact ownN_nil none 0 4 ⟨rfl, Or.inl ⟨rfl, rfl⟩⟩ hb1
  have K1 : ∀ W, Calls Try.prog 47 #[.int .i64 x, .int .i64 (-200), .int .i64 200] W fun e w' => e = .returned (.bool true) ∧ W = w' := fun W => by rw [← h1]; exact within_any _ _ _ W
  have hx : -200 ≤ x ∧ x ≤ 200 := by simpa [inB] using h1
  have HC := hide (show MoveTuneC l x = chC (shP x 0) l by simp [MoveTuneC, ho, h1])
  have HV := hide (show MoveTuneV l x = chV (shP x 0) l by rw [sh_asc ho]; simp [MoveTuneV, ho, h1])
  clear ho h1
  have KC : ∀ W, Below w.heap.size w W → Calls Try.prog 48 #[.slice A l.length c, .int .i64 x, .int .i64 0] W (OwnN W (chV (shP x 0) l) (chC (shP x 0) l)) := fun W hW => shifted_any x 0 A c l W (hA.below hW) hn hwf (by omega) (by omega)
  obtain ⟨V, hV⟩ : ∃ V, V = chV (shP x 0) l := ⟨_, rfl⟩
  obtain ⟨C, hC⟩ : ∃ C, C = chC (shP x 0) l := ⟨_, rfl⟩
  rw [← hV] at KC HV
  rw [← hC] at KC HC
  clear hV hC
  go_enter Try.func23, Try.ntmps23
  go_wp2_with fail
  refine KO.mono ?_
  rintro e w1 ⟨rfl, hb1⟩
  go_wp2_with (go_at_call 47; with_reducible refine (K1 _).mono ?_; rintro e w' ⟨rfl, rfl⟩)
  refine (KC _ hb1).mono ?_
  rintro e w2 ⟨C1, q1, rfl, own2, hb2⟩
  go_wp2
  go_ret2
  rw [HC.out, HV.out]
  exact ⟨C1, q1, rfl, own_base own2 hb1.size, step_below hb2 hb1⟩

def TransposeC (l : List (Int × Int)) (x : Int) : Int := if okB l then (if inB x (-48) 48 then chC (shP 0 x) l else 4) else 1
def TransposeV (l : List (Int × Int)) (x : Int) : List (Int × Int) := if okB l && inB x (-48) 48 then chW (shP 0 x) l else []
theorem TransposeV_len (l : List (Int × Int)) (x : Int) (h : l.length ≤ 1048576) : (TransposeV l x).length ≤ 1048576 := by
  unfold TransposeV
  split
  · exact Nat.le_trans (chW_len _ _) h
  · simp
set_option maxRecDepth 20000 in
set_option maxHeartbeats 2000000 in
theorem specTranspose_any (A : Option Addr) (c : Nat) (l : List (Int × Int)) (x : Int) (w : World) (hA : NA w A l) (hn : l.length ≤ 1048576) (hwf : WF l) :
    Calls Try.prog 24 #[.slice A l.length c, .int .i64 x] w (OwnN w (TransposeV l x) (TransposeC l x)) := by
  have KO := l01Ok_any A c l w hA hn hwf
  cases ho : okB l
  · rw [ho] at KO
    have HX := hide (show TransposeC l x = 1 by simp [TransposeC, ho])
    have HY := hide (show TransposeV l x = [] by simp [TransposeV, ho])
    clear ho
    go_enter Try.func24, Try.ntmps24
    go_wp2_with fail
    refine KO.mono ?_
    rintro e w1 ⟨rfl, hb1⟩
    go_wp2
    go_ret2
    rw [HX.out, HY.out]
    exact ownN_nil (some ⟨w1.heap.size, 0, none⟩) 0 1 (own_emptyT _ _ hb1.size) (hb1.alloc hb1.size _)
  rw [ho] at KO
  cases h1 : inB x (-48) 48
  · have K1 : ∀ W, Calls Try.prog 44 #[.int .i64 x, .int .i64 (-48), .int .i64 48] W fun e w' => e = .returned (.bool false) ∧ W = w' := fun W => by rw [← h1]; exact l00In_any _ _ _ W
    have HX := hide (show TransposeC l x = 4 by simp [TransposeC, ho, h1])
    have HY := hide (show TransposeV l x = [] by simp [TransposeV, h1])
    clear ho h1
    go_enter Try.func24, Try.ntmps24
    go_wp2_with fail
    refine KO.mono ?_
    rintro e w1 ⟨rfl, hb1⟩
    go_wp2_with (go_at_call 44; with_reducible refine (K1 _).mono ?_; rintro e w' ⟨rfl, rfl⟩)
    go_ret2
    rw [HX.out, HY.out]
    exact ownN_nil (some ⟨w1.heap.size, 0, none⟩) 0 4 (own_emptyT _ _ hb1.size) (hb1.alloc hb1.size _)
  have K1 : ∀ W, Calls Try.prog 44 #[.int .i64 x, .int .i64 (-48), .int .i64 48] W fun e w' => e = .returned (.bool true) ∧ W = w' := fun W => by rw [← h1]; exact l00In_any _ _ _ W
  have hx : -48 ≤ x ∧ x ≤ 48 := by simpa [inB] using h1
  have HC := hide (show TransposeC l x = chC (shP 0 x) l by simp [TransposeC, ho, h1])
  have HV := hide (show TransposeV l x = chW (shP 0 x) l by simp [TransposeV, ho, h1])
  clear ho h1
  have KC : ∀ W, Below w.heap.size w W → Calls Try.prog 45 #[.slice A l.length c, .int .i64 0, .int .i64 x] W (OwnB W (chW (shP 0 x) l) (chO (shP 0 x) l l.length)) := fun W hW => l01Changed_any 0 x A c l W (hA.below hW) hn hwf (by omega) (by omega)
  cases hc : chO (shP 0 x) l l.length
  · have HX := hide (show chC (shP 0 x) l = 4 by simp [chC, hc])
    have HY := hide (show chW (shP 0 x) l = [] by simp [chW, hc])
    rw [hc] at KC
    clear hc
    go_enter Try.func24, Try.ntmps24
    go_wp2_with fail
    refine KO.mono ?_
    rintro e w1 ⟨rfl, hb1⟩
    go_wp2_with (go_at_call 44; with_reducible refine (K1 _).mono ?_; rintro e w' ⟨rfl, rfl⟩)
    refine (KC _ hb1).mono ?_
    rintro e w2 ⟨C, q, rfl, own2, hb2⟩
    have b2 := step_below hb2 hb1
    go_wp2
    go_ret2
    rw [HC.out, HV.out, HX.out, HY.out]
    exact ownN_nil (some ⟨w2.heap.size, 0, none⟩) 0 4 (own_emptyT _ _ b2.size) (b2.alloc b2.size _)
  · have HX := hide (show chC (shP 0 x) l = 0 by simp [chC, hc])
    rw [hc] at KC
    clear hc
    go_enter Try.func24, Try.ntmps24
    go_wp2_with fail
    refine KO.mono ?_
    rintro e w1 ⟨rfl, hb1⟩
    go_wp2_with (go_at_call 44; with_reducible refine (K1 _).mono ?_; rintro e w' ⟨rfl, rfl⟩)
    refine (KC _ hb1).mono ?_
    rintro e w2 ⟨C, q, rfl, own2, hb2⟩
    have b2 := step_below hb2 hb1
    go_wp2
    go_ret2
    rw [HC.out, HV.out, HX.out]
    exact ⟨C, q, rfl, own_base own2 hb1.size, b2⟩
set_option maxRecDepth 20000 in
set_option maxHeartbeats 2000000 in
theorem implTranspose_any (A : Option Addr) (c : Nat) (l : List (Int × Int)) (x : Int) (w : World) (hA : NA w A l) (hn : l.length ≤ 1048576) (hwf : WF l) :
    Calls Try.prog 25 #[.slice A l.length c, .int .i64 x] w (OwnN w (TransposeV l x) (TransposeC l x)) := by
  have KO := implValid_any A c l w hA hn hwf
  cases ho : okB l
  · rw [ho] at KO
    have HX := hide (show TransposeC l x = 1 by simp [TransposeC, ho])
    have HY := hide (show TransposeV l x = [] by simp [TransposeV, ho])
    clear ho
    go_enter Try.func25, Try.ntmps25
    go_wp2_with fail
    refine KO.mono ?_
    rintro e w1 ⟨rfl, hb1⟩
    go_wp2
    go_ret2
    rw [HX.out, HY.out]
    exact ownN_nil none 0 1 ⟨rfl, Or.inl ⟨rfl, rfl⟩⟩ hb1
  rw [ho] at KO
  cases h1 : inB x (-48) 48
  · have K1 : ∀ W, Calls Try.prog 47 #[.int .i64 x, .int .i64 (-48), .int .i64 48] W fun e w' => e = .returned (.bool false) ∧ W = w' := fun W => by rw [← h1]; exact within_any _ _ _ W
    have HX := hide (show TransposeC l x = 4 by simp [TransposeC, ho, h1])
    have HY := hide (show TransposeV l x = [] by simp [TransposeV, h1])
    clear ho h1
    go_enter Try.func25, Try.ntmps25
    go_wp2_with fail
    refine KO.mono ?_
    rintro e w1 ⟨rfl, hb1⟩
    go_wp2_with (go_at_call 47; with_reducible refine (K1 _).mono ?_; rintro e w' ⟨rfl, rfl⟩)
    go_ret2
    rw [HX.out, HY.out]
    exact ownN_nil none 0 4 ⟨rfl, Or.inl ⟨rfl, rfl⟩⟩ hb1
  have K1 : ∀ W, Calls Try.prog 47 #[.int .i64 x, .int .i64 (-48), .int .i64 48] W fun e w' => e = .returned (.bool true) ∧ W = w' := fun W => by rw [← h1]; exact within_any _ _ _ W
  have hx : -48 ≤ x ∧ x ≤ 48 := by simpa [inB] using h1
  have HC := hide (show TransposeC l x = chC (shP 0 x) l by simp [TransposeC, ho, h1])
  have HV := hide (show TransposeV l x = chV (shP 0 x) l by rw [sh_asc ho]; simp [TransposeV, ho, h1])
  clear ho h1
  have KC : ∀ W, Below w.heap.size w W → Calls Try.prog 48 #[.slice A l.length c, .int .i64 0, .int .i64 x] W (OwnN W (chV (shP 0 x) l) (chC (shP 0 x) l)) := fun W hW => shifted_any 0 x A c l W (hA.below hW) hn hwf (by omega) (by omega)
  obtain ⟨V, hV⟩ : ∃ V, V = chV (shP 0 x) l := ⟨_, rfl⟩
  obtain ⟨C, hC⟩ : ∃ C, C = chC (shP 0 x) l := ⟨_, rfl⟩
  rw [← hV] at KC HV
  rw [← hC] at KC HC
  clear hV hC
  go_enter Try.func25, Try.ntmps25
  go_wp2_with fail
  refine KO.mono ?_
  rintro e w1 ⟨rfl, hb1⟩
  go_wp2_with (go_at_call 47; with_reducible refine (K1 _).mono ?_; rintro e w' ⟨rfl, rfl⟩)
  refine (KC _ hb1).mono ?_
  rintro e w2 ⟨C1, q1, rfl, own2, hb2⟩
  go_wp2
  go_ret2
  rw [HC.out, HV.out]
  exact ⟨C1, q1, rfl, own_base own2 hb1.size, step_below hb2 hb1⟩
end Go.Proofs.Ytfjcomemgbmohaa
