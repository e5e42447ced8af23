import Derived.Test.YtcepjiglhlmgdaaGreatDoorDrf
import Derived.Test.YtcepjiglhlmgdaaGreatDoorFit7
namespace Go.Proofs.YtcepjiglhlmgdaaGreatDoor
open Go.RowKit
theorem dfQ_three (s : Int) (hl t : List (Int × Int)) (L : List Xc) : dfQ s hl t L = 0 ∨ dfQ s hl t L = 1 ∨ dfQ s hl t L = 2 := by
  unfold dfQ
  split
  · split <;> simp
  · simp
/-- the error of an arrangement, case by case -/
theorem df_cases (p : Nat → Addr) (s : Int) (hl t : List (Int × Int)) (L : List Xc) : (dfC s hl t L = 1 ∧ dfV p s hl t L = erV (p 0)) ∨ (dfC s hl t L = 2 ∧ dfV p s hl t L = unevenV) ∨ (∃ k : Nat, dfF s.toNat hl t L = some k ∧ dfQ s hl t L = 0 ∧ dfC s hl t L = 4 ∧ dfV p s hl t L = unfitV k) ∨ (dfC s hl t L = 0 ∧ dfV p s hl t L = .nilIface ∧ dfQ s hl t L = 0 ∧ dfF s.toNat hl t L = none) := by
  rcases dfQ_three s hl t L with h | h | h
  · cases hf : dfF s.toNat hl t L with
    | some k =>
      obtain ⟨h1, _, h3⟩ := dfR_4 (p := p) h hf
      exact .inr (.inr (.inl ⟨k, rfl, h, h1, h3⟩))
    | none =>
      obtain ⟨d, hd⟩ := dfS_ex hf
      obtain ⟨h1, _, h3⟩ := dfR_0 (p := p) h hf hd
      exact .inr (.inr (.inr ⟨h1, h3, h, rfl⟩))
  · obtain ⟨h1, _, h3⟩ := dfR_1 (p := p) h
    exact .inl ⟨h1, h3⟩
  · obtain ⟨h1, _, h3⟩ := dfR_2 (p := p) h
    exact .inr (.inl ⟨h1, h3⟩)
theorem dfD_wf (s : Int) (hl t : List (Int × Int)) (L : List Xc) : DWF (dfD s hl t L) := by
  unfold dfD
  split
  · cases h : dfS s.toNat hl t L L.length with
    | none => exact zero_wfP
    | some d => exact dfS_wf h
  · exact zero_wfP
theorem codeOf_df (p : Nat → Addr) (s : Int) (hl t : List (Int × Int)) (L : List Xc) (w : World) (hE : ErrP p w) : Calls Tryz.prog 26 #[dfV p s hl t L] w fun e w' => e = .returned (.int .i64 (dfC s hl t L)) ∧ Below w.heap.size w w' := by
  rcases df_cases p s hl t L with ⟨h1, h2⟩ | ⟨h1, h2⟩ | ⟨k, _, _, h1, h2⟩ | ⟨h1, h2, _⟩
  · rw [h1, h2]; exact (codeOf_0 hE).mono fun e w' ⟨h3, h4⟩ => ⟨h3, by rw [← h4]; exact Below.refl _ _⟩
  · rw [h1, h2]; exact codeOf_uneven hE
  · rw [h1, h2]; exact codeOf_unfit k hE
  · rw [h1, h2]; exact (codeOf_nil hE).mono fun e w' ⟨h3, h4⟩ => ⟨h3, by rw [← h4]; exact Below.refl _ _⟩
theorem df_neq (p : Nat → Addr) (s : Int) (hl t : List (Int × Int)) (L : List Xc) (w : World) : (binOp .neq 67 (dfV p s hl t L) .nilIface).run Tryz.prog w = .ok (.bool (decide (dfC s hl t L ≠ 0))) w := by
  rcases df_cases p s hl t L with ⟨h1, h2⟩ | ⟨h1, h2⟩ | ⟨k, _, _, h1, h2⟩ | ⟨h1, h2, _⟩
  · rw [h1, h2]; exact Go.run_neq_iface_nil (P := Tryz.prog) (w := w) 67 (by kernel_rfl) _ _
  · rw [h1, h2]; exact Go.run_neq_iface_nil (P := Tryz.prog) (w := w) 67 (by kernel_rfl) _ _
  · rw [h1, h2]; exact Go.run_neq_iface_nil (P := Tryz.prog) (w := w) 67 (by kernel_rfl) _ _
  · rw [h1, h2]; exact Go.run_neq_nil_nil_at (P := Tryz.prog) (w := w) 67 (by kernel_rfl)
theorem df_eql (p : Nat → Addr) (s : Int) (hl t : List (Int × Int)) (L : List Xc) (w : World) : (binOp .eql 67 (dfV p s hl t L) .nilIface).run Tryz.prog w = .ok (.bool (decide (dfC s hl t L = 0))) w := by
  rcases df_cases p s hl t L with ⟨h1, h2⟩ | ⟨h1, h2⟩ | ⟨k, _, _, h1, h2⟩ | ⟨h1, h2, _⟩
  · rw [h1, h2]; exact Go.run_eql_iface_nil (P := Tryz.prog) (w := w) 67 (by kernel_rfl) _ _
  · rw [h1, h2]; exact Go.run_eql_iface_nil (P := Tryz.prog) (w := w) 67 (by kernel_rfl) _ _
  · rw [h1, h2]; exact Go.run_eql_iface_nil (P := Tryz.prog) (w := w) 67 (by kernel_rfl) _ _
  · rw [h1, h2]; exact Go.run_eql_nil_nil_at (P := Tryz.prog) (w := w) 67 (by kernel_rfl)
end Go.Proofs.YtcepjiglhlmgdaaGreatDoor
namespace Go.Proofs.YtcepjiglhlmgdaaGreatDoor
open Go.RowKit
set_option maxRecDepth 20000 in
set_option maxHeartbeats 4000000 in
theorem l07Asked_any (b : Nat) (s : Int) (A : Option Addr) (c : Nat) (hl : List (Int × Int)) (B : Option Addr) (ct : Nat) (t : List (Int × Int)) (C : Option Addr) (cl : Nat) (L : List Xc) (w : World) (hF : FP w b s A hl.length c) (hA : HA w A hl) (hn : hl.length ≤ 1048576) (hwf : HWF hl) (hs : -32768 ≤ s ∧ s ≤ 32767)
    (hB : NA w B t) (hnt : t.length ≤ 1048576) (hwt : WF t) (hC : ChA w C L) (hnL : L.length ≤ 1048576) (hwL : ChWF L) :
    Calls Tryz.prog 19 #[.pointer (some ⟨b, 0, none⟩), .slice B t.length ct, .slice C L.length cl] w fun e w' => e = .returned (.int .i64 (dfQ s hl t L)) ∧ Below w.heap.size w w' := by
  have KF := l02Frame_any b s A c hl w hF hA hn hwf hs
  have KO := fun W (h2 : NA W B t) => l01Ok_any B ct t W h2 hnt hwt
  have KC := fun W (h3 : ChA W C L) => l07Choices_any C cl L W h3 hnL hwL
  obtain ⟨v, hv⟩ : ∃ v, v = dfQ s hl t L := ⟨_, rfl⟩
  rw [← hv]
  have HV := hide hv
  clear hv
  cases hf : frB s hl
  · rw [hf] at KF
    have HR := hide (dfQ_no (s := s) (hl := hl) (t := t) (L := L) (by simp [hf]))
    clear hf KO KC
    go_enter Tryz.func19, Tryz.ntmps19
    go_wp2_with fail
    refine KF.mono ?_
    rintro e w1 ⟨rfl, b1⟩
    go_wp2
    go_ret
    exact ⟨by rw [HV.out, HR.out]; rfl, b1⟩
  rw [hf] at KF
  cases ho : okB t
  · rw [ho] at KO
    have HR := hide (dfQ_no (s := s) (hl := hl) (t := t) (L := L) (by simp [ho]))
    clear hf ho KC
    go_enter Tryz.func19, Tryz.ntmps19
    go_wp2_with fail
    refine KF.mono ?_
    rintro e w1 ⟨rfl, b1⟩
    go_wp2_with fail
    refine (KO w1 (hB.below b1)).mono ?_
    rintro e w2 ⟨rfl, hb2⟩
    have b2 := step_below hb2 b1
    go_wp2
    go_ret
    exact ⟨by rw [HV.out, HR.out]; rfl, b2⟩
  rw [ho] at KO
  cases hx : xsB L
  · rw [hx] at KC
    have HR := hide (dfQ_no (s := s) (hl := hl) (t := t) (L := L) (by simp [hx]))
    clear hf ho hx
    go_enter Tryz.func19, Tryz.ntmps19
    go_wp2_with fail
    refine KF.mono ?_
    rintro e w1 ⟨rfl, b1⟩
    go_wp2_with fail
    refine (KO w1 (hB.below b1)).mono ?_
    rintro e w2 ⟨rfl, hb2⟩
    have b2 := step_below hb2 b1
    go_wp2_with fail
    refine (KC w2 (hC.below b2)).mono ?_
    rintro e w3 ⟨rfl, hb3⟩
    have b3 := step_below hb3 b2
    go_wp2
    go_ret
    exact ⟨by rw [HV.out, HR.out]; rfl, b3⟩
  rw [hx] at KC
  have hall := And.intro hf (And.intro ho hx)
  clear hf ho hx
  by_cases hne : L.length = t.length
  · have hnei : ((L.length : Int) != (t.length : Int)) = false := by simp [hne]
    have HR := hide (dfQ_yes (s := s) (hl := hl) hall hne)
    have HNE := hide hne
    clear hne hall
    go_enter Tryz.func19, Tryz.ntmps19
    go_wp2_with fail
    refine KF.mono ?_
    rintro e w1 ⟨rfl, b1⟩
    go_wp2_with fail
    refine (KO w1 (hB.below b1)).mono ?_
    rintro e w2 ⟨rfl, hb2⟩
    have b2 := step_below hb2 b1
    go_wp2_with fail
    refine (KC w2 (hC.below b2)).mono ?_
    rintro e w3 ⟨rfl, hb3⟩
    have b3 := step_below hb3 b2
    go_wp2
    go_ret
    exact ⟨by rw [HV.out, HR.out]; rfl, b3⟩
  · have hnei : ((L.length : Int) != (t.length : Int)) = true := by simp; omega
    have HR := hide (dfQ_uneven (s := s) (hl := hl) hall hne)
    have HNE := hide hne
    clear hne hall
    go_enter Tryz.func19, Tryz.ntmps19
    go_wp2_with fail
    refine KF.mono ?_
    rintro e w1 ⟨rfl, b1⟩
    go_wp2_with fail
    refine (KO w1 (hB.below b1)).mono ?_
    rintro e w2 ⟨rfl, hb2⟩
    have b2 := step_below hb2 b1
    go_wp2_with fail
    refine (KC w2 (hC.below b2)).mono ?_
    rintro e w3 ⟨rfl, hb3⟩
    have b3 := step_below hb3 b2
    go_wp2
    go_ret
    exact ⟨by rw [HV.out, HR.out]; rfl, b3⟩
end Go.Proofs.YtcepjiglhlmgdaaGreatDoor
namespace Go.Proofs.YtcepjiglhlmgdaaGreatDoor
open Go.RowKit
theorem dfQ_inv {s : Int} {hl t : List (Int × Int)} {L : List Xc} (h : dfQ s hl t L = 0) : frB s hl = true ∧ okB t = true ∧ xsB L = true ∧ L.length = t.length := by
  by_cases h1 : frB s hl = true ∧ okB t = true ∧ xsB L = true
  · by_cases h2 : L.length = t.length
    · exact ⟨h1.1, h1.2.1, h1.2.2, h2⟩
    · rw [dfQ_uneven h1 h2] at h; exact absurd h (by decide)
  · rw [dfQ_no h1] at h; exact absurd h (by decide)
theorem dfC_q {s : Int} {hl t : List (Int × Int)} {L : List Xc} (h : dfQ s hl t L ≠ 0) : dfC s hl t L = dfQ s hl t L ∧ dfD s hl t L = fun _ => 0 := by
  have h1 : dfC s hl t L = dfQ s hl t L := by rw [dfC, if_neg h]
  exact ⟨h1, by rw [dfD, if_neg (by rw [h1]; exact h)]⟩
theorem dfC_four {s : Int} {hl t : List (Int × Int)} {L : List Xc} {k : Nat} (h : dfQ s hl t L = 0) (hf : dfF s.toNat hl t L = some k) : dfC s hl t L = 4 ∧ (dfD s hl t L = fun _ => 0) ∧ fiI s.toNat hl t L = k ∧ fiD s.toNat hl t L = fun _ => 0 := by
  have h1 : dfC s hl t L = 4 := by rw [dfC, if_pos h, hf]; rfl
  exact ⟨h1, by rw [dfD, if_neg (by rw [h1]; decide)], (fi_some hf).2, (fi_some hf).1⟩
theorem dfC_zero {s : Int} {hl t : List (Int × Int)} {L : List Xc} (h : dfQ s hl t L = 0) (hf : dfF s.toNat hl t L = none) : dfC s hl t L = 0 ∧ fiI s.toNat hl t L = -1 ∧ fiD s.toNat hl t L = dfD s hl t L := by
  have h1 : dfC s hl t L = 0 := by rw [dfC, if_pos h, hf]; rfl
  obtain ⟨d, hd⟩ := dfS_ex hf
  exact ⟨h1, (fi_none hd).2, by rw [(fi_none hd).1, dfD, if_pos h1, hd]; rfl⟩
theorem fiD_wf (S : Nat) (hl t : List (Int × Int)) (L : List Xc) : DWF (fiD S hl t L) := by
  unfold fiD
  split
  · exact zero_wfP
  · cases h : dfS S hl t L L.length with
    | none => exact zero_wfP
    | some d => exact dfS_wf h
/-- l07Fit with a frame whose size is an integer -/
theorem l07Fit_int (b : Nat) (s : Int) (A : Option Addr) (c : Nat) (hl : List (Int × Int)) (B : Option Addr) (ct : Nat) (t : List (Int × Int)) (C : Option Addr) (cl : Nat) (L : List Xc) (w : World) (hF : FP w b s A hl.length c) (hA : HA w A hl) (hB : NA w B t) (hC : ChA w C L) (hq : dfQ s hl t L = 0) :
    Calls Tryz.prog 20 #[.pointer (some ⟨b, 0, none⟩), .slice B t.length ct, .slice C L.length cl] w fun e w' => e = .returned (.tuple #[.agg (da (fiD s.toNat hl t L)), .int .i64 (fiI s.toNat hl t L)]) ∧ Below w.heap.size w w' := by
  obtain ⟨h1, h2, h3, h4⟩ := dfQ_inv hq
  obtain ⟨⟨s1, s2⟩, ⟨n1, n2⟩, hG⟩ := frB_all h1
  obtain ⟨S, rfl⟩ : ∃ S : Nat, s = (S : Int) := ⟨s.toNat, by omega⟩
  exact l07Fit_any b S A c hl B ct t C cl L w hF hA (by omega) n2 hG hB h2 hC h4
end Go.Proofs.YtcepjiglhlmgdaaGreatDoor
