import Derived.Test.YtmmninlnpnhboaaGreatDoorFit7
import Derived.Test.YtmmninlnpnhboaaGreatDoorDfi
namespace Go.Proofs.YtmmninlnpnhboaaGreatDoor
open Go.RowKit
set_option maxRecDepth 20000 in
set_option maxHeartbeats 4000000 in
theorem l07Asked_any (b : Nat) (s : Int) (A : Option Addr) (c : Nat) (hl : List (Int × Int)) (B : Option Addr) (ct : Nat) (t : List (Int × Int)) (C : Option Addr) (cl : Nat) (L : List Xc) (w : World) (hF : FP w b s A hl.length c) (hA : HA w A hl) (hn : hl.length ≤ 1048576) (hwf : HWF hl) (hs : -32768 ≤ s ∧ s ≤ 32767)
    (hB : NA w B t) (hnt : t.length ≤ 1048576) (hwt : WF t) (hC : ChA w C L) (hnL : L.length ≤ 1048576) (hwL : ChWF L) :
    Calls Tryz.prog 42 #[.pointer (some ⟨b, 0, none⟩), .slice B t.length ct, .slice C L.length cl] w fun e w' => e = .returned (.int .i64 (dfQ s hl t L)) ∧ Below w.heap.size w w' := by
  have KF := l02Frame_any b s A c hl w hF hA hn hwf hs
  have KO := fun W (h2 : NA W B t) => l01Ok_any B ct t W h2 hnt hwt
  have KC := fun W (h3 : ChA W C L) => l07Choices_any C cl L W h3 hnL hwL
  obtain ⟨v, hv⟩ : ∃ v, v = dfQ s hl t L := ⟨_, rfl⟩
  rw [← hv]
  have HV := hide hv
  clear hv
  cases hf : frB s hl
  · rw [hf] at KF
    have HR := hide (dfQ_no (s := s) (hl := hl) (t := t) (L := L) (by simp [hf]))
    clear hf KO KC
    go_enter Tryz.func42, Tryz.ntmps42
    go_wp2_with fail
    refine KF.mono ?_
    rintro e w1 ⟨rfl, b1⟩
    go_wp2
    go_ret
    exact ⟨by rw [HV.out, HR.out]; rfl, b1⟩
  rw [hf] at KF
  cases ho : okB t
  · rw [ho] at KO
    have HR := hide (dfQ_no (s := s) (hl := hl) (t := t) (L := L) (by simp [ho]))
    clear hf ho KC
    go_enter Tryz.func42, Tryz.ntmps42
    go_wp2_with fail
    refine KF.mono ?_
    rintro e w1 ⟨rfl, b1⟩
    go_wp2_with fail
    refine (KO w1 (hB.below b1)).mono ?_
    rintro e w2 ⟨rfl, hb2⟩
    have b2 := step_below hb2 b1
    go_wp2
    go_ret
    exact ⟨by rw [HV.out, HR.out]; rfl, b2⟩
  rw [ho] at KO
  cases hx : xsB L
  · rw [hx] at KC
    have HR := hide (dfQ_no (s := s) (hl := hl) (t := t) (L := L) (by simp [hx]))
    clear hf ho hx
    go_enter Tryz.func42, Tryz.ntmps42
    go_wp2_with fail
    refine KF.mono ?_
    rintro e w1 ⟨rfl, b1⟩
    go_wp2_with fail
    refine (KO w1 (hB.below b1)).mono ?_
    rintro e w2 ⟨rfl, hb2⟩
    have b2 := step_below hb2 b1
    go_wp2_with fail
    refine (KC w2 (hC.below b2)).mono ?_
    rintro e w3 ⟨rfl, hb3⟩
    have b3 := step_below hb3 b2
    go_wp2
    go_ret
    exact ⟨by rw [HV.out, HR.out]; rfl, b3⟩
  rw [hx] at KC
  have hall := And.intro hf (And.intro ho hx)
  clear hf ho hx
  by_cases hne : L.length = t.length
  · have hnei : ((L.length : Int) != (t.length : Int)) = false := by simp [hne]
    have HR := hide (dfQ_yes (s := s) (hl := hl) hall hne)
    have HNE := hide hne
    clear hne hall
    go_enter Tryz.func42, Tryz.ntmps42
    go_wp2_with fail
    refine KF.mono ?_
    rintro e w1 ⟨rfl, b1⟩
    go_wp2_with fail
    refine (KO w1 (hB.below b1)).mono ?_
    rintro e w2 ⟨rfl, hb2⟩
    have b2 := step_below hb2 b1
    go_wp2_with fail
    refine (KC w2 (hC.below b2)).mono ?_
    rintro e w3 ⟨rfl, hb3⟩
    have b3 := step_below hb3 b2
    go_wp2
    go_ret
    exact ⟨by rw [HV.out, HR.out]; rfl, b3⟩
  · have hnei : ((L.length : Int) != (t.length : Int)) = true := by simp; omega
    have HR := hide (dfQ_uneven (s := s) (hl := hl) hall hne)
    have HNE := hide hne
    clear hne hall
    go_enter Tryz.func42, Tryz.ntmps42
    go_wp2_with fail
    refine KF.mono ?_
    rintro e w1 ⟨rfl, b1⟩
    go_wp2_with fail
    refine (KO w1 (hB.below b1)).mono ?_
    rintro e w2 ⟨rfl, hb2⟩
    have b2 := step_below hb2 b1
    go_wp2_with fail
    refine (KC w2 (hC.below b2)).mono ?_
    rintro e w3 ⟨rfl, hb3⟩
    have b3 := step_below hb3 b2
    go_wp2
    go_ret
    exact ⟨by rw [HV.out, HR.out]; rfl, b3⟩
end Go.Proofs.YtmmninlnpnhboaaGreatDoor
