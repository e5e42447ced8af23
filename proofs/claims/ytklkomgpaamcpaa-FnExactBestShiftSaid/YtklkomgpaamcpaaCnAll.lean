import Derived.Test.YtklkomgpaamcpaaCnImpl
namespace Go.Proofs.Ytklkomgpaamcpaa
open Go.RowKit Go.Maps

def comI (l m : List (Int × Int)) : Int := if okB l = true ∧ okB m = true then (cpC l m 0 l.length : Int) else 0

set_option maxHeartbeats 2000000 in
theorem specCommonNotes_any (A B : Option Addr) (c d : Nat) (l m : List (Int × Int)) (w : World) (hA : NA w A l) (hB : NA w B m) (hn : l.length ≤ 1048576) (hn' : m.length ≤ 1048576) (hwf : WF l) (hwg : WF m) :
    Calls Try.prog 32 #[.slice A l.length c, .slice B m.length d] w (Pair (.int .i64 (comI l m)) (.int .i64 (bothI l m)) w) := by
  by_cases h : okB l = true ∧ okB m = true
  · have HV := hide (show bothI l m = 0 by simp [bothI, h])
    have HC := hide (show comI l m = (cpC l m 0 l.length : Int) by simp [comI, h])
    have H := hide h
    clear h
    go_enter Try.func32, Try.ntmps32
    go_wp2_with fail
    refine (l01Both_any A B c d l m _ hA hB hn hn' hwf hwg).mono ?_
    rintro e w1 ⟨rfl, hb⟩
    rw [HV.out]
    go_wp2_with fail
    refine (l01Common_yes A B c d l m 0 _ (hA.below hb) (hB.below hb) H.out.1 H.out.2 (by omega)).mono ?_
    rintro e w2 ⟨rfl, hb2⟩
    go_wp2
    go_ret2
    exact ⟨by rw [HV.out, HC.out]; rfl, hb.trans (hb2.mono hb.size)⟩
  · have HV := hide (show bothI l m = 1 by simp only [bothI, if_neg h])
    have HC := hide (show comI l m = 0 by simp only [comI, if_neg h])
    clear h
    go_enter Try.func32, Try.ntmps32
    go_wp2_with fail
    refine (l01Both_any A B c d l m _ hA hB hn hn' hwf hwg).mono ?_
    rintro e w1 ⟨rfl, hb⟩
    rw [HV.out]
    go_wp2
    go_ret2
    exact ⟨by rw [HV.out, HC.out]; rfl, hb⟩

set_option maxHeartbeats 2000000 in
theorem implCommonNotes_any (A B : Option Addr) (c d : Nat) (l m : List (Int × Int)) (w : World) (hA : NA w A l) (hB : NA w B m) (hn : l.length ≤ 1048576) (hn' : m.length ≤ 1048576) (hwf : WF l) (hwg : WF m) :
    Calls Try.prog 33 #[.slice A l.length c, .slice B m.length d] w (Pair (.int .i64 (comI l m)) (.int .i64 (bothI l m)) w) := by
  cases hok : okB l
  · have HV := hide (show bothI l m = 1 by simp [bothI, hok])
    have HC := hide (show comI l m = 0 by simp [comI, hok])
    have HOK := hide hok
    clear hok
    go_enter Try.func33, Try.ntmps33
    go_wp2_with fail
    refine (implValid_any A c l _ hA hn hwf).mono ?_
    rintro e w1 ⟨rfl, hb⟩
    rw [HOK.out]
    go_wp2
    go_ret2
    exact ⟨by rw [HV.out, HC.out]; rfl, hb⟩
  · cases hok' : okB m
    · have HV := hide (show bothI l m = 1 by simp [bothI, hok'])
      have HC := hide (show comI l m = 0 by simp [comI, hok'])
      have HOK := hide hok
      have HOM := hide hok'
      clear hok hok'
      go_enter Try.func33, Try.ntmps33
      go_wp2_with fail
      refine (implValid_any A c l _ hA hn hwf).mono ?_
      rintro e w1 ⟨rfl, hb⟩
      rw [HOK.out]
      go_wp2_with fail
      refine (implValid_any B d m _ (hB.below hb) hn' hwg).mono ?_
      rintro e w2 ⟨rfl, hb2⟩
      rw [HOM.out]
      go_wp2
      go_ret2
      exact ⟨by rw [HV.out, HC.out]; rfl, hb.trans (hb2.mono hb.size)⟩
    · have h := implCommon_yes A B c d l m w hA hB hn hn' hwf hwg hok hok'
      have hv : bothI l m = 0 := by simp [bothI, hok, hok']
      have hc : comI l m = (cpC l m 0 l.length : Int) := by simp [comI, hok, hok']
      rw [hv, hc]
      exact h
end Go.Proofs.Ytklkomgpaamcpaa
