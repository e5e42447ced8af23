import Derived.Test.YtncdgjaadlpncaaDoorGe
import Derived.Test.YtncdgjaadlpncaaDoorLst
namespace Go.Proofs.YtncdgjaadlpncaaDoor
open Go.RowKit

/-- the cost of a drum behind another one -/
def cstI (a b : Nat → Int) : Int := mvI a b + mvI b a
theorem mvI_bd (p q : Nat → Int) : 0 ≤ mvI p q ∧ mvI p q ≤ 412316860320 := by
  have h := cntT_le (mvD p q) (mv_wf p q) 96 (Nat.le_refl _)
  unfold mvI cntI
  omega
def ccI (s : Int) (l : List (Int × Int)) (a b : Nat → Int) : Int := onlyI (ask2B s l a b) (cstI a b)

set_option maxRecDepth 20000 in
set_option maxHeartbeats 1000000 in
theorem l05Both_any (x g h : Nat) (s : Int) (A : Option Addr) (c : Nat) (l : List (Int × Int)) (a b : Nat → Int) (w : World) (hF : FP w x s A l.length c) (hA : HA w A l) (hn : l.length ≤ 1048576) (hwf : HWF l) (hs : -32768 ≤ s ∧ s ≤ 32767)
    (hD : Dr w g 31 a) (hE : Dr w h 31 b) (ha : DWF a) (hb : DWF b) :
    Calls Tryd.prog 36 #[.pointer (some ⟨x, 0, none⟩), .pointer (some ⟨g, 0, none⟩), .pointer (some ⟨h, 0, none⟩)] w (SaysI (codeI (ask2B s l a b)) w) := by
  go_enter Tryd.func36, Tryd.ntmps36
  go_wp2_with fail
  refine (l02Frame_any _ s A c l _ hF hA hn hwf hs).mono ?_
  rintro e w1 ⟨rfl, hb1⟩
  have F1 := hF.keep hb1
  have D1 := hD.keep hb1
  have E1 := hE.keep hb1
  cases hf : frB s l
  · have HX := hide (show codeI (ask2B s l a b) = 1 by simp [ask2B, hf, codeI])
    clear hf
    go_wp2
    go_ret
    exact ⟨ret_int HX.out.symm, hb1⟩
  · have hfa := frB_all hf
    go_wp2_with fail
    refine (l02Drum_any _ _ s A l.length c a _ F1 D1 hfa.2.1.2 hfa.1 ha).mono ?_
    rintro e w2 ⟨rfl, hb2⟩
    have b2 := step_below hb2 hb1
    have F2 := F1.keep hb2
    have E2 := E1.keep hb2
    cases hda : drB s l.length a
    · have HX := hide (show codeI (ask2B s l a b) = 1 by simp [ask2B, hf, hda, codeI])
      clear hf hda
      go_wp2
      go_ret
      exact ⟨ret_int HX.out.symm, b2⟩
    · go_wp2_with fail
      refine (l02Drum_any _ _ s A l.length c b _ F2 E2 hfa.2.1.2 hfa.1 hb).mono ?_
      rintro e w3 ⟨rfl, hb3⟩
      have b3 := step_below hb3 b2
      cases hdb : drB s l.length b
      · have HX := hide (show codeI (ask2B s l a b) = 1 by simp [ask2B, hf, hda, hdb, codeI])
        clear hf hda hdb
        go_wp2
        go_ret
        exact ⟨ret_int HX.out.symm, b3⟩
      · have HX := hide (show codeI (ask2B s l a b) = 0 by simp [ask2B, hf, hda, hdb, codeI])
        clear hf hda hdb
        go_wp2
        go_ret
        exact ⟨ret_int HX.out.symm, b3⟩
end Go.Proofs.YtncdgjaadlpncaaDoor
