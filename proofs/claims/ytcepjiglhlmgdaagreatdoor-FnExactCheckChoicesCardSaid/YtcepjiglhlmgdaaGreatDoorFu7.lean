import Derived.Test.YtcepjiglhlmgdaaGreatDoorGbk
import Derived.Test.YtcepjiglhlmgdaaGreatDoorAs8
import Derived.Test.YtcepjiglhlmgdaaGreatDoorGbt
namespace Go.Proofs.YtcepjiglhlmgdaaGreatDoor
open Go.RowKit
theorem cell_setSame {W : World} {g : Nat} {v : Value} (h : W.cell? ⟨g, 0, none⟩ = some v) (x : Value) : (W.setCell ⟨g, 0, none⟩ x).cell? ⟨g, 0, none⟩ = some x := by
  simp [go_sem, h]
def fuV (s : Int) (hl t : List (Int × Int)) (L : List Xc) : Int := if dfQ s hl t L = 0 then ((dfF s.toNat hl t L).getD 0 : Nat) else 0
def fuC (s : Int) (hl t : List (Int × Int)) (L : List Xc) : Int := if dfQ s hl t L = 0 then (if (dfF s.toNat hl t L).isSome then 0 else 6) else dfQ s hl t L
def ccB (s : Int) (hl t : List (Int × Int)) (L : List Xc) : Bool := (dfQ s hl t L == 0) && (dfF s.toNat hl t L).isNone
def ccC (s : Int) (hl t : List (Int × Int)) (L : List Xc) : Int := if dfQ s hl t L = 1 then 1 else 0
theorem fu_q {s : Int} {hl t : List (Int × Int)} {L : List Xc} (h : dfQ s hl t L ≠ 0) : fuV s hl t L = 0 ∧ fuC s hl t L = dfQ s hl t L ∧ ccB s hl t L = false := ⟨if_neg h, if_neg h, by simp [ccB, h]⟩
theorem fu_s {s : Int} {hl t : List (Int × Int)} {L : List Xc} {k : Nat} (h : dfQ s hl t L = 0) (hf : dfF s.toNat hl t L = some k) : fuV s hl t L = k ∧ fuC s hl t L = 0 ∧ ccB s hl t L = false ∧ ccC s hl t L = 0 := ⟨by simp [fuV, h, hf], by simp [fuC, h, hf], by simp [ccB, hf], by simp [ccC, h]⟩
theorem fu_n {s : Int} {hl t : List (Int × Int)} {L : List Xc} (h : dfQ s hl t L = 0) (hf : dfF s.toNat hl t L = none) : fuV s hl t L = 0 ∧ fuC s hl t L = 6 ∧ ccB s hl t L = true ∧ ccC s hl t L = 0 := ⟨by simp [fuV, h, hf], by simp [fuC, h, hf], by simp [ccB, h, hf], by simp [ccC, h]⟩

set_option maxRecDepth 20000 in
set_option maxHeartbeats 4000000 in
theorem specFirstUnfit_any (s : Int) (A : Option Addr) (c : Nat) (hl : List (Int × Int)) (B : Option Addr) (ct : Nat) (t : List (Int × Int)) (C : Option Addr) (cl : Nat) (L : List Xc) (w : World) (hA : HA w A hl) (hn : hl.length ≤ 1048576) (hwf : HWF hl) (hs : -32768 ≤ s ∧ s ≤ 32767)
    (hB : NA w B t) (hnt : t.length ≤ 1048576) (hwt : WF t) (hC : ChA w C L) (hnL : L.length ≤ 1048576) (hwL : ChWF L) :
    Calls Tryz.prog 8 #[.agg #[.int .i16 s, .slice A hl.length c], .slice B t.length ct, .slice C L.length cl] w fun e w' => e = .returned (.tuple #[.int .i64 (fuV s hl t L), .int .i64 (fuC s hl t L)]) ∧ Below w.heap.size w w' := by
  have hz := zeroDrum
  have KQ := fun b W (h0 : FP W b s A hl.length c) (h1 : HA W A hl) (h2 : NA W B t) (h3 : ChA W C L) => l07Asked_any b s A c hl B ct t C cl L W h0 h1 hn hwf hs h2 hnt hwt h3 hnL hwL
  obtain ⟨X, hX⟩ : ∃ X, X = w.alloc (.cells #[.int .i16 s, .slice A hl.length c] 35) := ⟨_, rfl⟩
  have b0 : Below w.heap.size w X := by rw [hX]; exact (Below.refl _ _).alloc (Nat.le_refl _) _
  have F0 : FP X w.heap.size s A hl.length c := by rw [hX]; exact ⟨by simp [go_sem], by simp [go_sem]⟩
  by_cases hq : dfQ s hl t L = 0
  case neg =>
    have hr := fu_q hq
    obtain ⟨q, hqe⟩ : ∃ q, q = dfQ s hl t L := ⟨_, rfl⟩
    rw [← hqe] at hq hr
    have HR := hide hr
    have hqn : (q != 0) = true := by simp [hq]
    simp only [← hqe] at KQ
    clear hqe hq hr
    go_enter Tryz.func8, Tryz.ntmps8
    go_upto_region 1 with fail
    rw [← hX]
    clear hX
    go_wp2_with fail
    refine (KQ _ X F0 (hA.below b0) (hB.below b0) (hC.below b0)).mono ?_
    rintro e w1 ⟨rfl, hb1⟩
    have b1 := step_below hb1 b0
    clear KQ
    go_wp2
    go_ret2
    exact ⟨by rw [HR.out.1, HR.out.2.1]; rfl, b1⟩
  have KT := fun b W (h0 : FP W b s A hl.length c) (h1 : HA W A hl) (h2 : NA W B t) (h3 : ChA W C L) => l07Fit_int b s A c hl B ct t C cl L W h0 h1 h2 h3 hq
  rw [hq] at KQ
  obtain ⟨d, hd⟩ : ∃ d, d = fiD s.toNat hl t L := ⟨_, rfl⟩
  obtain ⟨i, hi⟩ : ∃ i, i = fiI s.toNat hl t L := ⟨_, rfl⟩
  rw [← hd, ← hi] at KT
  have HQ := hide hq
  have HI := hide hi
  have hzd : za.size = (da d).size := by rw [za_eq, da_size, da_size]
  clear hq hd hi
  go_enter Tryz.func8, Tryz.ntmps8
  go_upto_region 1 with fail
  rw [← hX]
  clear hX
  go_wp2_with fail
  refine (KQ _ X F0 (hA.below b0) (hB.below b0) (hC.below b0)).mono ?_
  rintro e w1 ⟨rfl, hb1⟩
  have b1 := step_below hb1 b0
  have F1 := F0.keep hb1
  clear KQ F0
  go_wp2_with fail
  refine (KT _ w1 F1 (hA.below b1) (hB.below b1) (hC.below b1)).mono ?_
  rintro e w2 ⟨rfl, hb2⟩
  have b2 := step_below hb2 b1
  clear KT F1
  go_upto_region 5 with (with_reducible refine wpList_store_new rfl 53 (.tmp 9) (.tmp 21) rfl d rfl rfl 53 _ (dInfo d) hzd ?_)
  have b3 : Below w.heap.size w (w2.alloc (.cells (da d) 53)) := b2.alloc b2.size _
  generalize w2.alloc (.cells (da d) 53) = Y at *
  clear hzd hz
  cases hf : dfF s.toNat hl t L with
  | some k =>
    have hr := dfC_four HQ.out hf
    have HR := hide (fu_s HQ.out hf)
    have hik : i = (k : Int) := by rw [HI.out, hr.2.2.1]
    subst hik
    have hge : ¬ (k : Int) < 0 := by omega
    have hge2 : decide ((k : Int) < 0) = false := decide_eq_false hge
    clear hf hr
    go_wp2
    go_ret2
    exact ⟨by rw [HR.out.1, HR.out.2.1]; rfl, b3⟩
  | none =>
    have hr := dfC_zero HQ.out hf
    have HR := hide (fu_n HQ.out hf)
    have hik : i = -1 := by rw [HI.out, hr.2.1]
    subst hik
    clear hf hr
    go_wp2
    go_ret2
    exact ⟨by rw [HR.out.1, HR.out.2.1]; rfl, b3⟩

set_option maxRecDepth 20000 in
set_option maxHeartbeats 4000000 in
theorem specCheckChoices_any (s : Int) (A : Option Addr) (c : Nat) (hl : List (Int × Int)) (B : Option Addr) (ct : Nat) (t : List (Int × Int)) (C : Option Addr) (cl : Nat) (L : List Xc) (w : World) (hA : HA w A hl) (hn : hl.length ≤ 1048576) (hwf : HWF hl) (hs : -32768 ≤ s ∧ s ≤ 32767)
    (hB : NA w B t) (hnt : t.length ≤ 1048576) (hwt : WF t) (hC : ChA w C L) (hnL : L.length ≤ 1048576) (hwL : ChWF L) :
    Calls Tryz.prog 16 #[.agg #[.int .i16 s, .slice A hl.length c], .slice B t.length ct, .slice C L.length cl] w fun e w' => e = .returned (.tuple #[.bool (ccB s hl t L), .int .i64 (ccC s hl t L)]) ∧ Below w.heap.size w w' := by
  have hz := zeroDrum
  have KQ := fun b W (h0 : FP W b s A hl.length c) (h1 : HA W A hl) (h2 : NA W B t) (h3 : ChA W C L) => l07Asked_any b s A c hl B ct t C cl L W h0 h1 hn hwf hs h2 hnt hwt h3 hnL hwL
  obtain ⟨X, hX⟩ : ∃ X, X = w.alloc (.cells #[.int .i16 s, .slice A hl.length c] 35) := ⟨_, rfl⟩
  have b0 : Below w.heap.size w X := by rw [hX]; exact (Below.refl _ _).alloc (Nat.le_refl _) _
  have F0 : FP X w.heap.size s A hl.length c := by rw [hX]; exact ⟨by simp [go_sem], by simp [go_sem]⟩
  by_cases hq : dfQ s hl t L = 0
  case neg =>
    have hr := fu_q hq
    rcases dfQ_three s hl t L with h | h | h
    · exact absurd h hq
    · have HR := hide (show ccB s hl t L = false ∧ ccC s hl t L = 1 from ⟨hr.2.2, by rw [ccC, h]; rfl⟩)
      rw [h] at KQ
      clear h hq hr
      go_enter Tryz.func16, Tryz.ntmps16
      go_upto_region 1 with fail
      rw [← hX]
      clear hX
      go_wp2_with fail
      refine (KQ _ X F0 (hA.below b0) (hB.below b0) (hC.below b0)).mono ?_
      rintro e w1 ⟨rfl, hb1⟩
      have b1 := step_below hb1 b0
      clear KQ
      go_wp2
      go_ret2
      exact ⟨by rw [HR.out.1, HR.out.2]; rfl, b1⟩
    · have HR := hide (show ccB s hl t L = false ∧ ccC s hl t L = 0 from ⟨hr.2.2, by rw [ccC, h]; rfl⟩)
      rw [h] at KQ
      clear h hq hr
      go_enter Tryz.func16, Tryz.ntmps16
      go_upto_region 1 with fail
      rw [← hX]
      clear hX
      go_wp2_with fail
      refine (KQ _ X F0 (hA.below b0) (hB.below b0) (hC.below b0)).mono ?_
      rintro e w1 ⟨rfl, hb1⟩
      have b1 := step_below hb1 b0
      clear KQ
      go_wp2
      go_ret2
      exact ⟨by rw [HR.out.1, HR.out.2]; rfl, b1⟩
  have KT := fun b W (h0 : FP W b s A hl.length c) (h1 : HA W A hl) (h2 : NA W B t) (h3 : ChA W C L) => l07Fit_int b s A c hl B ct t C cl L W h0 h1 h2 h3 hq
  rw [hq] at KQ
  obtain ⟨d, hd⟩ : ∃ d, d = fiD s.toNat hl t L := ⟨_, rfl⟩
  obtain ⟨i, hi⟩ : ∃ i, i = fiI s.toNat hl t L := ⟨_, rfl⟩
  rw [← hd, ← hi] at KT
  have HQ := hide hq
  have HI := hide hi
  have hzd : za.size = (da d).size := by rw [za_eq, da_size, da_size]
  clear hq hd hi
  go_enter Tryz.func16, Tryz.ntmps16
  go_upto_region 1 with fail
  rw [← hX]
  clear hX
  go_wp2_with fail
  refine (KQ _ X F0 (hA.below b0) (hB.below b0) (hC.below b0)).mono ?_
  rintro e w1 ⟨rfl, hb1⟩
  have b1 := step_below hb1 b0
  have F1 := F0.keep hb1
  clear KQ F0
  go_wp2_with fail
  refine (KT _ w1 F1 (hA.below b1) (hB.below b1) (hC.below b1)).mono ?_
  rintro e w2 ⟨rfl, hb2⟩
  have b2 := step_below hb2 b1
  clear KT F1
  go_upto_region 7 with (with_reducible refine wpList_store_new rfl 53 (.tmp 9) (.tmp 23) rfl d rfl rfl 53 _ (dInfo d) hzd ?_)
  have b3 : Below w.heap.size w (w2.alloc (.cells (da d) 53)) := b2.alloc b2.size _
  generalize w2.alloc (.cells (da d) 53) = Y at *
  clear hzd hz
  cases hf : dfF s.toNat hl t L with
  | some k =>
    have hr := dfC_four HQ.out hf
    have HR := hide (fu_s HQ.out hf)
    have hik : i = (k : Int) := by rw [HI.out, hr.2.2.1]
    subst hik
    have hge : ¬ (k : Int) < 0 := by omega
    have hge2 : decide ((k : Int) < 0) = false := decide_eq_false hge
    clear hf hr
    go_wp2
    go_ret2
    exact ⟨by rw [HR.out.2.2.1, HR.out.2.2.2]; rfl, b3⟩
  | none =>
    have hr := dfC_zero HQ.out hf
    have HR := hide (fu_n HQ.out hf)
    have hik : i = -1 := by rw [HI.out, hr.2.1]
    subst hik
    clear hf hr
    go_wp2
    go_ret2
    exact ⟨by rw [HR.out.2.2.1, HR.out.2.2.2]; rfl, b3⟩

set_option maxRecDepth 20000 in
set_option maxHeartbeats 4000000 in
theorem implFirstUnfit_any (p : Nat → Addr) (s : Int) (A : Option Addr) (c : Nat) (hl : List (Int × Int)) (B : Option Addr) (ct : Nat) (t : List (Int × Int)) (C : Option Addr) (cl : Nat) (L : List Xc) (w : World) (hA : HA w A hl) (hn : hl.length ≤ 1048576) (hwf : HWF hl) (hs : -32768 ≤ s ∧ s ≤ 32767)
    (hB : NA w B t) (hnt : t.length ≤ 1048576) (hwt : WF t) (hC : ChA w C L) (hnL : L.length ≤ 1048576) (hwL : ChWF L) (hE : ErrP p w) (hG : EtW w) :
    Calls Tryz.prog 12 #[.agg #[.int .i16 s, .slice A hl.length c], .slice B t.length ct, .slice C L.length cl] w fun e w' => e = .returned (.tuple #[.int .i64 (fuV s hl t L), .int .i64 (fuC s hl t L)]) ∧ Below w.heap.size w w' := by
  have hz := zeroDrum
  have KD := fun W (h1 : HA W A hl) (h2 : NA W B t) (h3 : ChA W C L) (h4 : ErrP p W) => drumFor_any p s A c hl B ct t C cl L W h4 h1 hn hwf hs h2 hnt hwt h3 hnL hwL
  have hdw := dfD_wf s hl t L
  obtain ⟨X, hX⟩ : ∃ X, X = w.alloc (.cells #[.int .i16 s, .slice A hl.length c] 35) := ⟨_, rfl⟩
  have b0 : Below w.heap.size w X := by rw [hX]; exact (Below.refl _ _).alloc (Nat.le_refl _) _
  have R1 : X.heap[w.heap.size]? = some (.cells #[.int .i16 s, .slice A hl.length c] 35 (0, 0)) := by rw [hX]; exact heap_alloc_new _ _
  have f0 := cell_of_row _ _ 0 _ _ _ R1
  have f1 := cell_of_row _ _ 1 _ _ _ R1
  simp at f0 f1
  have HC := df_cases p s hl t L
  obtain ⟨d, hd⟩ : ∃ d, d = dfD s hl t L := ⟨_, rfl⟩
  obtain ⟨ev, hev⟩ : ∃ ev, ev = dfV p s hl t L := ⟨_, rfl⟩
  simp only [← hd, ← hev] at KD
  rw [← hev] at HC
  have HC' := hide HC
  have hzd : za.size = (da d).size := by rw [za_eq, da_size, da_size]
  clear R1 hdw HC hev hd
  go_enter Tryz.func12, Tryz.ntmps12
  go_upto_region 1 with fail
  rw [← hX]
  clear hX
  go_wp2_with fail
  refine (KD X (hA.below b0) (hB.below b0) (hC.below b0) (hE.keep b0)).mono ?_
  rintro e w2 ⟨rfl, hb2⟩
  have b2 := step_below hb2 b0
  clear KD f0 f1
  go_upto_region 2 with (with_reducible refine wpList_store_new rfl 53 (.tmp 8) (.tmp 16) rfl d rfl rfl 53 _ (dInfo d) hzd ?_)
  obtain ⟨Y, hY⟩ : ∃ Y, Y = w2.alloc (.cells (da d) 53) := ⟨_, rfl⟩
  have b3 : Below w.heap.size w Y := by rw [hY]; exact b2.alloc b2.size _
  rw [← hY]
  clear hY hzd hz
  have b4 : Below w.heap.size w (Y.alloc (.cells #[.int .i64 0] 71)) := b3.alloc b3.size _
  have c4 : (Y.alloc (.cells #[.int .i64 0] 71)).cell? ⟨Y.heap.size, 0, none⟩ = some (.int .i64 0) := by simp [go_sem]
  have g4 : (Y.alloc (.cells #[.int .i64 0] 71)).frozen? ⟨Y.heap.size, 0, none⟩ = false := by simp [go_sem]
  obtain ⟨V, hV⟩ : ∃ V, V = Y.alloc (.cells #[.int .i64 0] 71) := ⟨_, rfl⟩
  rw [← hV] at b4 c4 g4
  have hgY : w.heap.size ≤ Y.heap.size := b3.size
  obtain ⟨gb, hgb⟩ : ∃ gb, gb = Y.heap.size := ⟨_, rfl⟩
  go_upto_region 3 with fail
  rw [← hV, ← hgb]
  rw [← hgb] at c4 g4 hgY
  have hE4 := hE.keep b4
  have hG4 := hG.keep b4
  clear hV hgb b3
  rcases HC'.out with ⟨h1, rfl⟩ | ⟨h1, rfl⟩ | ⟨k, hf, hq, h1, rfl⟩ | ⟨h1, rfl, hq, hf⟩
  · have hq : dfQ s hl t L = 1 := by
      rcases dfQ_three s hl t L with h | h | h
      · rw [dfC, if_pos h] at h1; split at h1 <;> exact absurd h1 (by decide)
      · rw [dfC, if_neg (by rw [h]; decide), h] at h1; exact h
      · rw [dfC, if_neg (by rw [h]; decide), h] at h1; exact absurd h1 (by decide)
    have hr := fu_q (s := s) (hl := hl) (t := t) (L := L) (by rw [hq]; decide)
    have HR := hide (show fuV s hl t L = 0 ∧ fuC s hl t L = 1 from ⟨hr.1, hr.2.1.trans hq⟩)
    clear hq hr h1
    go_wp2_with (go_at_call 25; refine (as_ufE 0 _ _ _ hG4 c4 g4).mono ?_; rintro e w5 ⟨rfl, hb5⟩; refine Hid.out ?_)
    refine hide ?_
    have b5 := step_below hb5 b4
    have hE5 := hE4.keep hb5
    have hne := fun W => Go.run_neq_iface_nil (P := Tryz.prog) (w := W) 67 (by kernel_rfl) 175 (.pointer (some (p 0)))
    go_wp2_with (go_at_call 26; refine (codeOf_0 hE5).mono ?_; rintro e w6 ⟨rfl, hb6⟩)
    go_ret2
    exact ⟨by rw [HR.out.1, HR.out.2]; rfl, by rw [← hb6]; exact b5⟩
  · have hq : dfQ s hl t L = 2 := by
      rcases dfQ_three s hl t L with h | h | h
      · rw [dfC, if_pos h] at h1; split at h1 <;> exact absurd h1 (by decide)
      · rw [dfC, if_neg (by rw [h]; decide), h] at h1; exact absurd h1 (by decide)
      · rw [dfC, if_neg (by rw [h]; decide), h] at h1; exact h
    have hr := fu_q (s := s) (hl := hl) (t := t) (L := L) (by rw [hq]; decide)
    have HR := hide (show fuV s hl t L = 0 ∧ fuC s hl t L = 2 from ⟨hr.1, hr.2.1.trans hq⟩)
    clear hq hr h1
    go_wp2_with (go_at_call 25; refine (as_ufN _ _ _ hE4 hG4 c4 g4).mono ?_; rintro e w5 ⟨rfl, hb5⟩; refine Hid.out ?_)
    refine hide ?_
    have b5 := step_below hb5 b4
    have hE5 := hE4.keep hb5
    have hne := fun W => Go.run_neq_iface_nil (P := Tryz.prog) (w := W) 67 (by kernel_rfl) 97 (.agg #[])
    go_wp2_with (go_at_call 26; refine (codeOf_uneven hE5).mono ?_; rintro e w6 ⟨rfl, hb6⟩)
    go_ret2
    exact ⟨by rw [HR.out.1, HR.out.2]; rfl, step_below hb6 b5⟩
  · have HR := hide (show fuV s hl t L = k ∧ fuC s hl t L = 0 from ⟨(fu_s hq hf).1, (fu_s hq hf).2.1⟩)
    clear hq hf h1
    go_wp2_with (go_at_call 25; refine (as_ufF (k : Int) _ _ _ hG4 c4 g4).mono ?_; rintro e w5 ⟨rfl, W, hbW, rfl⟩; refine Hid.out ?_)
    refine hide ?_
    have hgl : gb < W.heap.size := Nat.lt_of_lt_of_le (World.block_lt_of_cell? _ _ c4) hbW.size
    have c5 := (hbW.cell (p := ⟨gb, 0, none⟩) (World.block_lt_of_cell? _ _ c4)).trans c4
    have b5 : Below w.heap.size w (W.setCell ⟨gb, 0, none⟩ (.int .i64 (k : Int))) := (step_below hbW b4).setCell (p := ⟨gb, 0, none⟩) hgY _
    have l5 : (W.setCell ⟨gb, 0, none⟩ (.int .i64 (k : Int))).cell? ⟨gb, 0, none⟩ = some (.int .i64 (k : Int)) := cell_setSame c5 _
    generalize W.setCell ⟨gb, 0, none⟩ (.int .i64 (k : Int)) = V5 at *
    go_wp2
    go_ret2
    exact ⟨by rw [HR.out.1, HR.out.2]; rfl, b5⟩
  · have HR := hide (show fuV s hl t L = 0 ∧ fuC s hl t L = 6 from ⟨(fu_n hq hf).1, (fu_n hq hf).2.1⟩)
    clear hq hf h1
    go_wp2_with (go_at_call 25; refine (as_nil _ _).mono ?_; rintro e w5 ⟨rfl, rfl⟩; refine Hid.out ?_)
    refine hide ?_
    have b5 := b4
    have hE5 := hE4
    have hne := Go.run_neq_nil_nil_at (P := Tryz.prog) (w := w5) 67 (by kernel_rfl)
    go_wp2
    go_ret2
    exact ⟨by rw [HR.out.1, HR.out.2]; rfl, b5⟩

set_option maxRecDepth 20000 in
set_option maxHeartbeats 4000000 in
theorem implCheckChoices_any (p : Nat → Addr) (s : Int) (A : Option Addr) (c : Nat) (hl : List (Int × Int)) (B : Option Addr) (ct : Nat) (t : List (Int × Int)) (C : Option Addr) (cl : Nat) (L : List Xc) (w : World) (hA : HA w A hl) (hn : hl.length ≤ 1048576) (hwf : HWF hl) (hs : -32768 ≤ s ∧ s ≤ 32767)
    (hB : NA w B t) (hnt : t.length ≤ 1048576) (hwt : WF t) (hC : ChA w C L) (hnL : L.length ≤ 1048576) (hwL : ChWF L) (hE : ErrP p w) (hG : EtW w) :
    Calls Tryz.prog 17 #[.agg #[.int .i16 s, .slice A hl.length c], .slice B t.length ct, .slice C L.length cl] w fun e w' => e = .returned (.tuple #[.bool (ccB s hl t L), .int .i64 (ccC s hl t L)]) ∧ Below w.heap.size w w' := by
  have hz := zeroDrum
  have KD := fun W (h1 : HA W A hl) (h2 : NA W B t) (h3 : ChA W C L) (h4 : ErrP p W) => drumFor_any p s A c hl B ct t C cl L W h4 h1 hn hwf hs h2 hnt hwt h3 hnL hwL
  have hdw := dfD_wf s hl t L
  obtain ⟨X, hX⟩ : ∃ X, X = w.alloc (.cells #[.int .i16 s, .slice A hl.length c] 35) := ⟨_, rfl⟩
  have b0 : Below w.heap.size w X := by rw [hX]; exact (Below.refl _ _).alloc (Nat.le_refl _) _
  have R1 : X.heap[w.heap.size]? = some (.cells #[.int .i16 s, .slice A hl.length c] 35 (0, 0)) := by rw [hX]; exact heap_alloc_new _ _
  have f0 := cell_of_row _ _ 0 _ _ _ R1
  have f1 := cell_of_row _ _ 1 _ _ _ R1
  simp at f0 f1
  have HC := df_cases p s hl t L
  obtain ⟨d, hd⟩ : ∃ d, d = dfD s hl t L := ⟨_, rfl⟩
  obtain ⟨ev, hev⟩ : ∃ ev, ev = dfV p s hl t L := ⟨_, rfl⟩
  simp only [← hd, ← hev] at KD
  rw [← hev] at HC
  have HC' := hide HC
  have hzd : za.size = (da d).size := by rw [za_eq, da_size, da_size]
  clear R1 hdw HC hev hd
  go_enter Tryz.func17, Tryz.ntmps17
  go_upto_region 1 with fail
  rw [← hX]
  clear hX
  go_wp2_with fail
  refine (KD X (hA.below b0) (hB.below b0) (hC.below b0) (hE.keep b0)).mono ?_
  rintro e w2 ⟨rfl, hb2⟩
  have b2 := step_below hb2 b0
  clear KD f0 f1
  go_upto_region 2 with (with_reducible refine wpList_store_new rfl 53 (.tmp 8) (.tmp 16) rfl d rfl rfl 53 _ (dInfo d) hzd ?_)
  obtain ⟨Y, hY⟩ : ∃ Y, Y = w2.alloc (.cells (da d) 53) := ⟨_, rfl⟩
  have b3 : Below w.heap.size w Y := by rw [hY]; exact b2.alloc b2.size _
  rw [← hY]
  clear hY hzd hz
  have b4 : Below w.heap.size w (Y.alloc (.cells #[.nilIface] 79)) := b3.alloc b3.size _
  have c4 : (Y.alloc (.cells #[.nilIface] 79)).cell? ⟨Y.heap.size, 0, none⟩ = some (.nilIface) := by simp [go_sem]
  have g4 : (Y.alloc (.cells #[.nilIface] 79)).frozen? ⟨Y.heap.size, 0, none⟩ = false := by simp [go_sem]
  obtain ⟨V, hV⟩ : ∃ V, V = Y.alloc (.cells #[.nilIface] 79) := ⟨_, rfl⟩
  rw [← hV] at b4 c4 g4
  have hgY : w.heap.size ≤ Y.heap.size := b3.size
  obtain ⟨gb, hgb⟩ : ∃ gb, gb = Y.heap.size := ⟨_, rfl⟩
  go_upto_region 3 with fail
  rw [← hV, ← hgb]
  rw [← hgb] at c4 g4 hgY
  have hE4 := hE.keep b4
  have hG4 := hG.keep b4
  clear hV hgb b3
  rcases HC'.out with ⟨h1, rfl⟩ | ⟨h1, rfl⟩ | ⟨k, hf, hq, h1, rfl⟩ | ⟨h1, rfl, hq, hf⟩
  · have hq : dfQ s hl t L = 1 := by
      rcases dfQ_three s hl t L with h | h | h
      · rw [dfC, if_pos h] at h1; split at h1 <;> exact absurd h1 (by decide)
      · rw [dfC, if_neg (by rw [h]; decide), h] at h1; exact h
      · rw [dfC, if_neg (by rw [h]; decide), h] at h1; exact absurd h1 (by decide)
    have hr := fu_q (s := s) (hl := hl) (t := t) (L := L) (by rw [hq]; decide)
    have HR := hide (show ccB s hl t L = false ∧ ccC s hl t L = 1 from ⟨hr.2.2, by rw [ccC, hq]; rfl⟩)
    clear hq hr h1
    go_wp2_with (go_at_call 25; refine (as_obE 0 _ _ _ c4 g4).mono ?_; rintro e w5 ⟨rfl, hb5⟩; refine Hid.out ?_)
    refine hide ?_
    have b5 := step_below hb5 b4
    have hE5 := hE4.keep hb5
    have heq := fun W => Go.run_eql_iface_nil (P := Tryz.prog) (w := W) 67 (by kernel_rfl) 175 (.pointer (some (p 0)))
    have KC := fun q : Later w5 => codeOf_0 (hE5.keep q.h)
    go_wp2_with fail
    refine wp_region_later (by kernel_rfl) (by kernel_rfl) ?_
    repeat go_big_quiet_step ((go_at_call 26; with_reducible exact Later.same ((KC _).mono fun e w' h => ⟨h.1, h.2⟩)))
    refine wpQuiet_nil ?_
    rintro wq ⟨⟨_, hq⟩, rfl⟩
    go_wp2
    go_ret2
    exact ⟨by rw [HR.out.1, HR.out.2]; rfl, step_below hq b5⟩
  · have hq : dfQ s hl t L = 2 := by
      rcases dfQ_three s hl t L with h | h | h
      · rw [dfC, if_pos h] at h1; split at h1 <;> exact absurd h1 (by decide)
      · rw [dfC, if_neg (by rw [h]; decide), h] at h1; exact absurd h1 (by decide)
      · rw [dfC, if_neg (by rw [h]; decide), h] at h1; exact h
    have hr := fu_q (s := s) (hl := hl) (t := t) (L := L) (by rw [hq]; decide)
    have HR := hide (show ccB s hl t L = false ∧ ccC s hl t L = 0 from ⟨hr.2.2, by rw [ccC, hq]; rfl⟩)
    clear hq hr h1
    go_wp2_with (go_at_call 25; refine (as_obN _ _ _ c4 g4).mono ?_; rintro e w5 ⟨rfl, W, hbW, rfl⟩; refine Hid.out ?_)
    refine hide ?_
    have hgl : gb < W.heap.size := Nat.lt_of_lt_of_le (World.block_lt_of_cell? _ _ c4) hbW.size
    have c5 := (hbW.cell (p := ⟨gb, 0, none⟩) (World.block_lt_of_cell? _ _ c4)).trans c4
    have b5 : Below w.heap.size w (W.setCell ⟨gb, 0, none⟩ (.iface 97 (.agg #[]))) := (step_below hbW b4).setCell (p := ⟨gb, 0, none⟩) hgY _
    have l5 : (W.setCell ⟨gb, 0, none⟩ (.iface 97 (.agg #[]))).cell? ⟨gb, 0, none⟩ = some (.iface 97 (.agg #[])) := cell_setSame c5 _
    generalize W.setCell ⟨gb, 0, none⟩ (.iface 97 (.agg #[])) = V5 at *
    go_wp2
    go_ret2
    exact ⟨by rw [HR.out.1, HR.out.2]; rfl, b5⟩
  · have HR := hide (show ccB s hl t L = false ∧ ccC s hl t L = 0 from ⟨(fu_s hq hf).2.2.1, (fu_s hq hf).2.2.2⟩)
    clear hq hf h1
    go_wp2_with (go_at_call 25; refine (as_obF (k : Int) _ _ _ c4 g4).mono ?_; rintro e w5 ⟨rfl, W, hbW, rfl⟩; refine Hid.out ?_)
    refine hide ?_
    have hgl : gb < W.heap.size := Nat.lt_of_lt_of_le (World.block_lt_of_cell? _ _ c4) hbW.size
    have c5 := (hbW.cell (p := ⟨gb, 0, none⟩) (World.block_lt_of_cell? _ _ c4)).trans c4
    have b5 : Below w.heap.size w (W.setCell ⟨gb, 0, none⟩ (.iface 71 (.agg #[.int .i64 (k : Int)]))) := (step_below hbW b4).setCell (p := ⟨gb, 0, none⟩) hgY _
    have l5 : (W.setCell ⟨gb, 0, none⟩ (.iface 71 (.agg #[.int .i64 (k : Int)]))).cell? ⟨gb, 0, none⟩ = some (.iface 71 (.agg #[.int .i64 (k : Int)])) := cell_setSame c5 _
    generalize W.setCell ⟨gb, 0, none⟩ (.iface 71 (.agg #[.int .i64 (k : Int)])) = V5 at *
    go_wp2
    go_ret2
    exact ⟨by rw [HR.out.1, HR.out.2]; rfl, b5⟩
  · have HR := hide (show ccB s hl t L = true ∧ ccC s hl t L = 0 from ⟨(fu_n hq hf).2.2.1, (fu_n hq hf).2.2.2⟩)
    clear hq hf h1
    go_wp2_with (go_at_call 25; refine (as_nil _ _).mono ?_; rintro e w5 ⟨rfl, rfl⟩; refine Hid.out ?_)
    refine hide ?_
    have b5 := b4
    have hE5 := hE4
    have heq := fun W => Go.run_eql_nil_nil_at (P := Tryz.prog) (w := W) 67 (by kernel_rfl)
    have KC := fun q : Later w5 => codeOf_nil (hE5.keep q.h)
    go_wp2_with fail
    refine wp_region_later (by kernel_rfl) (by kernel_rfl) ?_
    repeat go_big_quiet_step ((go_at_call 26; with_reducible exact Later.same ((KC _).mono fun e w' h => ⟨h.1, h.2⟩)))
    refine wpQuiet_nil ?_
    rintro wq ⟨⟨_, hq⟩, rfl⟩
    go_wp2
    go_ret2
    exact ⟨by rw [HR.out.1, HR.out.2]; rfl, step_below hq b5⟩

/-- the seven errors, and the library's variable -/
def ErtW (w : World) : Prop := ErrW w ∧ EtW w
theorem ErtW.keep {w w' : World} (h : ErtW w) (hb : Below w.heap.size w w') : ErtW w' := ⟨h.1.keep hb, h.2.keep hb⟩

theorem implFirstUnfit_e (s : Int) (A : Option Addr) (c : Nat) (hl : List (Int × Int)) (B : Option Addr) (ct : Nat) (t : List (Int × Int)) (C : Option Addr) (cl : Nat) (L : List Xc) (w : World) (hA : HA w A hl) (hn : hl.length ≤ 1048576) (hwf : HWF hl) (hs : -32768 ≤ s ∧ s ≤ 32767)
    (hB : NA w B t) (hnt : t.length ≤ 1048576) (hwt : WF t) (hC : ChA w C L) (hnL : L.length ≤ 1048576) (hwL : ChWF L) (hE : ErtW w) :
    Calls Tryz.prog 12 #[.agg #[.int .i16 s, .slice A hl.length c], .slice B t.length ct, .slice C L.length cl] w fun e w' => e = .returned (.tuple #[.int .i64 (fuV s hl t L), .int .i64 (fuC s hl t L)]) ∧ Below w.heap.size w w' :=
  let ⟨p, hp⟩ := hE.1
  implFirstUnfit_any p s A c hl B ct t C cl L w hA hn hwf hs hB hnt hwt hC hnL hwL hp hE.2

theorem implCheckChoices_e (s : Int) (A : Option Addr) (c : Nat) (hl : List (Int × Int)) (B : Option Addr) (ct : Nat) (t : List (Int × Int)) (C : Option Addr) (cl : Nat) (L : List Xc) (w : World) (hA : HA w A hl) (hn : hl.length ≤ 1048576) (hwf : HWF hl) (hs : -32768 ≤ s ∧ s ≤ 32767)
    (hB : NA w B t) (hnt : t.length ≤ 1048576) (hwt : WF t) (hC : ChA w C L) (hnL : L.length ≤ 1048576) (hwL : ChWF L) (hE : ErtW w) :
    Calls Tryz.prog 17 #[.agg #[.int .i16 s, .slice A hl.length c], .slice B t.length ct, .slice C L.length cl] w fun e w' => e = .returned (.tuple #[.bool (ccB s hl t L), .int .i64 (ccC s hl t L)]) ∧ Below w.heap.size w w' :=
  let ⟨p, hp⟩ := hE.1
  implCheckChoices_any p s A c hl B ct t C cl L w hA hn hwf hs hB hnt hwt hC hnL hwL hp hE.2

end Go.Proofs.YtcepjiglhlmgdaaGreatDoor
