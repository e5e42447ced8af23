import Derived.Test.YtnngbnhdcknfnaaNch
namespace Go.Proofs.Ytnngbnhdcknfnaa
open Go.RowKit

theorem prgB_all {s : Int} {l m : List (Int × Int)} {o : Nat → Int} (h : prgB s l m o = true) : (2 ≤ s ∧ s ≤ 96) ∧ m.length ≤ 12 ∧ SG (secG s m) m.length ∧ SG (ordG m.length o) 48 := by
  simp only [prgB, Bool.and_eq_true, decide_eq_true_eq] at h
  exact ⟨(frB_all h.1.1.1).1, h.1.1.2, all_SG h.1.2, all_SG h.2⟩
theorem secE_nonneg {s : Int} {m : List (Int × Int)} (h : SG (secG s m) m.length) : ∀ k, k ≤ m.length → 0 ≤ secE m k
  | 0, _ => by simp [secE]
  | k + 1, hk => by
    have h1 := secG_of (h k (by omega))
    have h2 := secE_nonneg h k (by omega)
    simp only [secE]
    omega
theorem sec_in {s : Int} {m : List (Int × Int)} (h : SG (secG s m) m.length) (k : Nat) (hk : k < m.length) : 0 ≤ secF m k ∧ secF m k < s ∧ 1 ≤ secS m k ∧ secF m k + secS m k ≤ s := by
  have h1 := secG_of (h k hk)
  have h2 := secE_nonneg h k (by omega)
  exact ⟨by omega, h1.2.1, h1.2.2.1, h1.2.2.2⟩

def saP (m : List (Int × Int)) (x : Int) (k : Nat) : Bool := decide (secF m k ≤ x ∧ x < secF m k + secS m k)
def saJ (m : List (Int × Int)) (x : Int) : Option Nat := (List.range m.length).find? (saP m x)
def saC (s : Int) (l m : List (Int × Int)) (o : Nat → Int) (x : Int) : Int := if prgB s l m o then (if inB x 0 (s - 1) then (if (saJ m x).isSome then 0 else 6) else 2) else 1
def saV (s : Int) (l m : List (Int × Int)) (o : Nat → Int) (x : Int) : Int := if saC s l m o x = 0 then (match saJ m x with | some j => (j : Int) | none => 0) else 0

set_option maxRecDepth 20000 in
set_option maxHeartbeats 2000000 in
theorem specSectionAt_any (s : Int) (A : Option Addr) (c : Nat) (l : List (Int × Int)) (B : Option Addr) (d : Nat) (m : List (Int × Int)) (o : Nat → Int) (x : Int) (w : World) (hA : HA w A l) (hn : l.length ≤ 1048576) (hwf : HWF l) (hs : -32768 ≤ s ∧ s ≤ 32767) (hB : SecA w B m) (hm : m.length ≤ 1048576) (hswf : SWF m) (howf : OWF o) :
    Calls Try.prog 43 #[.agg #[.int .i16 s, .slice A l.length c], .agg (prA B m.length d o), .int .i64 x] w (Two (saV s l m o x) (saC s l m o x) w) := by
  go_enter Try.func43, Try.ntmps43
  go_upto_region 1 with fail
  obtain ⟨X, hX⟩ : ∃ X, X = (w.alloc (.cells #[.int .i16 s, .slice A l.length c] 36)).alloc (.cells (prA B m.length d o) 40) := ⟨_, rfl⟩
  have hb0 : Below w.heap.size w X := by rw [hX]; exact ((Below.refl _ _).alloc (Nat.le_refl _) _).alloc (by simp) _
  have F0 : FP X w.heap.size s A l.length c := by
    have h : Bk X w.heap.size 36 #[.int .i16 s, .slice A l.length c] := by rw [hX]; exact (Bk.new _ _ _ rfl).old _
    exact ⟨h.cell rfl, h.cell rfl⟩
  have P0 : Bk X (w.heap.size + 1) 40 (prA B m.length d o) := by rw [hX]; exact Bk.new _ _ _ (by simp)
  rw [← hX]
  clear hX
  go_wp2_with fail
  refine (l04Ok_any w.heap.size (w.heap.size + 1) s A c l B d m o X F0 (hA.below hb0) hn hwf hs P0 (hB.below hb0) hm hswf howf).mono ?_
  rintro e w1 ⟨rfl, hb1⟩
  have b1 := step_below hb1 hb0
  have F1 := F0.keep hb1
  have P1 := P0.keep hb1
  have A1 := hA.below b1
  have B1 := hB.below b1
  obtain ⟨hs1, hs2⟩ := id hs
  cases hp : prgB s l m o
  · have hcc : saC s l m o x = 1 := by simp [saC, hp]
    have HX := hide hcc
    have HY := hide (show saV s l m o x = 0 by simp [saV, hcc])
    clear hcc hp
    go_wp2
    go_ret2
    exact ⟨by rw [HX.out, HY.out]; rfl, b1⟩
  have hpa := prgB_all hp
  have e0 := F1.1
  have c0 := P1.slice
  cases h1 : inB x 0 (s - 1)
  · have K1 : ∀ W, Calls Try.prog 61 #[.int .i64 x, .int .i64 0, .int .i64 (s - 1)] W fun e w' => e = .returned (.bool false) ∧ W = w' := fun W => by rw [← h1]; exact l00In_any _ _ _ W
    have hcc : saC s l m o x = 2 := by simp [saC, hp, h1]
    have HX := hide hcc
    have HY := hide (show saV s l m o x = 0 by simp [saV, hcc])
    clear hcc hp h1 hpa
    go_wp2_with (go_at_call 61; refine (K1 _).mono ?_; rintro e w' ⟨rfl, rfl⟩)
    go_ret2
    exact ⟨by rw [HX.out, HY.out]; rfl, b1⟩
  have K1 : ∀ W, Calls Try.prog 61 #[.int .i64 x, .int .i64 0, .int .i64 (s - 1)] W fun e w' => e = .returned (.bool true) ∧ W = w' := fun W => by rw [← h1]; exact l00In_any _ _ _ W
  have hcc : saC s l m o x = if (saJ m x).isSome then 0 else 6 := by simp [saC, hp, h1]
  have HX := hide hcc
  have HY := hide (show saV s l m o x = match saJ m x with | some j => (j : Int) | none => 0 by
    unfold saV; rw [hcc]
    cases h : saJ m x <;> simp [h])
  have HSG := hide hpa.2.2.1
  have hm12 := hpa.2.1
  clear hcc hp h1 hpa
  go_wp2_with (go_at_call 61; refine (K1 _).mono ?_; rintro e w' ⟨rfl, rfl⟩)
  go_loop [8] (fun i => ∃ k : Nat, k ≤ m.length ∧ i = .int .i64 k ∧ SG (fun j => !saP m x j) k)
    (fun i => m.length - (intOf i).toNat)
  case atStart => exact ⟨0, Nat.zero_le _, rfl, SG_zero _⟩
  case round =>
    obtain ⟨k, hk, rfl, hG⟩ := hrel
    have HG := hide hG
    clear hG
    by_cases hlt : k < m.length
    · obtain ⟨b', p, rfl, hbb, d1, d2⟩ := B1 k hlt
      obtain ⟨⟨p1, p2⟩, r1, r2⟩ := hswf k hlt
      have hw1 : IntKind.i64.wrap (secF m k + secS m k) = secF m k + secS m k := IntWalk.i64_in _ (by omega)
      by_cases h1 : secF m k ≤ x
      · have q1 : decide (secF m k ≤ x) = true := decide_eq_true h1
        by_cases h2 : x < secF m k + secS m k
        · have q2 : decide (x < secF m k + secS m k) = true := decide_eq_true h2
          have HF := hide (find_yes (P := saP m x) HG.out hlt (by simp [saP, h1, h2]))
          clear h1 h2
          go_wp2
          go_ret2
          exact ⟨by rw [HX.out, HY.out, show saJ m x = some k from HF.out]; rfl, b1⟩
        · have q2 : decide (x < secF m k + secS m k) = false := decide_eq_false h2
          have HF := hide (show (!saP m x k) = true by simp [saP]; omega)
          clear h1 h2
          go_wp2
          go_round
          case rel => exact ⟨k + 1, hlt, by go_num, SG_succ HG.out HF.out⟩
          case measure => simp [intOf]; omega
      · have q1 : decide (secF m k ≤ x) = false := decide_eq_false h1
        have HF := hide (show (!saP m x k) = true by simp [saP]; omega)
        clear h1
        go_wp2
        go_round
        case rel => exact ⟨k + 1, hlt, by go_num, SG_succ HG.out HF.out⟩
        case measure => simp [intOf]; omega
    · obtain rfl : k = m.length := by omega
      have HF := hide (find_no HG.out)
      go_wp2
      go_ret2
      exact ⟨by rw [HX.out, HY.out, show saJ m x = none from HF.out]; rfl, b1⟩

set_option maxRecDepth 20000 in
set_option maxHeartbeats 2000000 in
theorem implSectionAt_any (s : Int) (A : Option Addr) (c : Nat) (l : List (Int × Int)) (B : Option Addr) (d : Nat) (m : List (Int × Int)) (o : Nat → Int) (x : Int) (w : World) (hA : HA w A l) (hn : l.length ≤ 1048576) (hwf : HWF l) (hs : -32768 ≤ s ∧ s ≤ 32767) (hB : SecA w B m) (hm : m.length ≤ 1048576) (hswf : SWF m) (howf : OWF o) :
    Calls Try.prog 44 #[.agg #[.int .i16 s, .slice A l.length c], .agg (prA B m.length d o), .int .i64 x] w (Two (saV s l m o x) (saC s l m o x) w) := by
  have hz := zeroPln
  go_enter Try.func44, Try.ntmps44
  go_upto_region 1 with fail
  obtain ⟨X, hX⟩ : ∃ X, X = (w.alloc (.cells #[.int .i16 s, .slice A l.length c] 36)).alloc (.cells (prA B m.length d o) 40) := ⟨_, rfl⟩
  have hb0 : Below w.heap.size w X := by rw [hX]; exact ((Below.refl _ _).alloc (Nat.le_refl _) _).alloc (by simp) _
  have F0 : FP X w.heap.size s A l.length c := by
    have h : Bk X w.heap.size 36 #[.int .i16 s, .slice A l.length c] := by rw [hX]; exact (Bk.new _ _ _ rfl).old _
    exact ⟨h.cell rfl, h.cell rfl⟩
  have P0 : Bk X (w.heap.size + 1) 40 (prA B m.length d o) := by rw [hX]; exact Bk.new _ _ _ (by simp)
  rw [← hX]
  clear hX
  have f0 := F0.1
  have f1 := F0.2
  have HP := hide P0.range49
  obtain ⟨b, hb⟩ : ∃ b, prgB s l m o = b := ⟨_, rfl⟩
  go_wp2_with (first | (with_reducible refine wpList_load_pr rfl 40 (.tmp 4) rfl (w.heap.size + 1) 0 rfl _ _ _ _ _ HP.out Try.underlying40 rfl (pInfo _ _ _ _) ?_))
  refine (planFor0_any s A c l B d m o _ (hA.below hb0) hn hwf hs (hB.below hb0) hm hswf howf b hb).mono ?_
  rintro e w1 ⟨rfl, hb1⟩
  have b1 := step_below hb1 hb0
  clear f0 f1 HP
  have hzi : (Try.prog.info? 84).map (·.size) = some zpl.size := by rw [zpl_eq]; exact plInfo
  have hzo : zpl.all (·.oneCell') = true := by rw [zpl_eq]; exact plA_one
  cases b
  · simp only [Bool.false_eq_true, if_false]
    have hcc : saC s l m o x = 1 := by simp [saC, hb]
    have HX := hide hcc
    have HY := hide (show saV s l m o x = 0 by simp [saV, hcc])
    clear hcc hb
    go_wp2_with (with_reducible refine wpList_store_newG rfl 84 (.tmp 8) (.tmp 16) rfl zpl rfl rfl 84 _ hzi rfl hzo ?_)
    go_ret2
    exact ⟨by rw [HX.out, HY.out]; rfl, b1.alloc b1.size _⟩
  simp only [if_true]
  have hal : Below w1.heap.size w1 (w1.alloc (.cells (plA s A l.length c B m.length d o) 84)) := (Below.refl _ _).alloc (Nat.le_refl _) _
  have Q0 : Bk (w1.alloc (.cells (plA s A l.length c B m.length d o) 84)) w1.heap.size 84 (plA s A l.length c B m.length d o) := Bk.new _ _ _ rfl
  have b2 := step_below hal b1
  go_upto_region 2 with (with_reducible refine wpList_store_newG rfl 84 (.tmp 8) (.tmp 16) rfl (plA s A l.length c B m.length d o) rfl rfl 84 _ plInfo (by rw [zpl_eq, plA_size, plA_size]) plA_one ?_)
  obtain ⟨Y, hY⟩ : ∃ Y, Y = w1.alloc (.cells (plA s A l.length c B m.length d o) 84) := ⟨_, rfl⟩
  rw [← hY] at hal Q0 b2 ⊢
  clear hY hz hzi hzo hb1 b1
  have A2 := hA.below b2
  have B2 := hB.below b2
  have hpa := prgB_all hb
  have e0 := Q0.plSteps
  have e1 := Q0.plHams
  cases h1 : inB x 0 (s - 1)
  · have K1 : ∀ W, Calls Try.prog 71 #[.agg #[.int .i64 s, .slice A l.length c], .int .i64 x] W (Says false W) := fun W => by rw [← h1]; exact hasStepP_any s x A _ c W hs
    have hcc : saC s l m o x = 2 := by simp [saC, hb, h1]
    have HX := hide hcc
    have HY := hide (show saV s l m o x = 0 by simp [saV, hcc])
    clear hcc hb h1
    go_wp2_with (go_at_call 71; refine (K1 _).mono ?_; rintro e w3 ⟨rfl, hb3⟩)
    go_ret2
    exact ⟨by rw [HX.out, HY.out]; rfl, step_below hb3 b2⟩
  have K1 : ∀ W, Calls Try.prog 71 #[.agg #[.int .i64 s, .slice A l.length c], .int .i64 x] W (Says true W) := fun W => by rw [← h1]; exact hasStepP_any s x A _ c W hs
  have hcc : saC s l m o x = if (saJ m x).isSome then 0 else 6 := by simp [saC, hb, h1]
  have HX := hide hcc
  have HY := hide (show saV s l m o x = match saJ m x with | some j => (j : Int) | none => 0 by
    unfold saV; rw [hcc]
    cases h : saJ m x <;> simp [h])
  have HSG := hide hpa.2.2.1
  have hm12 := hpa.2.1
  clear hcc hb h1 hpa
  go_upto_region 6 with (go_at_call 71; refine (K1 _).mono ?_; rintro e w3 ⟨rfl, hb3⟩)
  have Q3 := Q0.keep hb3
  have b3 := step_below hb3 b2
  have B3 := B2.below hb3
  clear e0 e1
  have e2 := Q3.plSecs
  go_wp2_with fail
  go_loopw [30] (fun i wr => ∃ k : Nat, k ≤ m.length ∧ i = .int .i64 k ∧ SG (fun j => !saP m x j) k ∧ Below w3.heap.size w3 wr)
    (fun i _ => m.length - (intOf i).toNat)
  case atStart => exact ⟨0, Nat.zero_le _, rfl, SG_zero _, Below.refl _ _⟩
  case round =>
    obtain ⟨k, hk, rfl, hG, hbr⟩ := hrel
    have HG := hide hG
    clear hG
    have b4 := step_below hbr b3
    by_cases hlt : k < m.length
    · obtain ⟨b', p, rfl, hbb, d1, d2⟩ := (B3.below hbr) k hlt
      obtain ⟨⟨p1, p2⟩, r1, r2⟩ := hswf k hlt
      obtain ⟨W2, hW2⟩ : ∃ W2, W2 = wr.alloc (.cells #[.int .i16 (secF m k), .int .i16 (secS m k)] 90) := ⟨_, rfl⟩
      have hal2 : Below wr.heap.size wr W2 := by rw [hW2]; exact (Below.refl _ _).alloc (Nat.le_refl _) _
      have KB : Bk W2 wr.heap.size 90 #[.int .i16 (secF m k), .int .i16 (secS m k)] := by rw [hW2]; exact Bk.new _ _ _ rfl
      have b5 := step_below hal2 hbr
      have b6 := step_below hal2 b4
      go_upto_region 9 with fail
      rw [← hW2]
      clear hW2
      have g1 := Later.cell (KB.cell (i := 0) rfl)
      have g2 := Later.cell (KB.cell (i := 1) rfl)
      have hsz := b5.size
      have KE : ∀ W, Calls Try.prog 75 #[.agg #[.int .i16 (secF m k), .int .i16 (secS m k)]] W (SaysI' (secF m k + secS m k) W) := fun W => secEnd_any _ _ ⟨p1, p2⟩ ⟨r1, r2⟩ W
      have hq3 := sec_in HSG.out k hlt
      by_cases h1 : secF m k ≤ x ∧ x < secF m k + secS m k
      · have K2 : ∀ W, Calls Try.prog 64 #[.int .i64 x, .int .i64 (secF m k), .int .i64 (secF m k + secS m k - 1)] W fun e w' => e = .returned (.bool true) ∧ W = w' := fun W => by rw [← show inB x (secF m k) (secF m k + secS m k - 1) = true by simp [inB]; omega]; exact within_any _ _ _ W
        have HF := hide (find_yes (P := saP m x) HG.out hlt (by simp [saP, h1]))
        clear h1
        go_wp2_with fail
        refine wp_region_later (by kernel_rfl) (by kernel_rfl) ?_
        repeat (go_big_quiet_step (first | (go_at_call 75; exact Later.call (KE _)) | (go_at_call 64; exact Later.same (K2 _))))
        refine wpQuiet_nil ?_
        rintro _ ⟨⟨wq, hq⟩, rfl⟩
        go_wp2
        go_ret2
        exact ⟨by rw [HX.out, HY.out, show saJ m x = some k from HF.out]; rfl, step_below hq b6⟩
      · have K2 : ∀ W, Calls Try.prog 64 #[.int .i64 x, .int .i64 (secF m k), .int .i64 (secF m k + secS m k - 1)] W fun e w' => e = .returned (.bool false) ∧ W = w' := fun W => by rw [← show inB x (secF m k) (secF m k + secS m k - 1) = false by simp [inB]; omega]; exact within_any _ _ _ W
        have HF := hide (show (!saP m x k) = true by simp [saP]; omega)
        clear h1
        go_wp2_with fail
        refine wp_region_later (by kernel_rfl) (by kernel_rfl) ?_
        repeat (go_big_quiet_step (first | (go_at_call 75; exact Later.call (KE _)) | (go_at_call 64; exact Later.same (K2 _))))
        refine wpQuiet_nil ?_
        rintro _ ⟨⟨wq, hq⟩, rfl⟩
        go_wp2
        go_roundw
        case rel => exact ⟨k + 1, hlt, by go_num, SG_succ HG.out HF.out, b5.trans (hq.mono hsz)⟩
        case measure => simp [intOf]; omega
    · obtain rfl : k = m.length := by omega
      have HF := hide (find_no HG.out)
      go_wp2
      go_ret2
      exact ⟨by rw [HX.out, HY.out, show saJ m x = none from HF.out]; rfl, b4⟩
end Go.Proofs.Ytnngbnhdcknfnaa
