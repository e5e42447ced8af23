import Derived.Test.YtklkomgpaamcpaaBsImpl
namespace Go.Proofs.Ytklkomgpaamcpaa
open Go.RowKit Go.Maps

set_option maxHeartbeats 2000000 in
theorem specBestShift_any (A B : Option Addr) (c d : Nat) (l m : List (Int × Int)) (w : World) (hA : NA w A l) (hB : NA w B m) (hn : l.length ≤ 1048576) (hn' : m.length ≤ 1048576) (hwf : WF l) (hwg : WF m) :
    Calls Try.prog 34 #[.slice A l.length c, .slice B m.length d] w (Trip (.int .i64 (bs1 l m)) (.int .i64 (bs2 l m)) (.int .i64 (bothI l m)) w) := by
  by_cases h : okB l = true ∧ okB m = true
  · have h1 := specShift_yes A B c d l m w hA hB hn hn' hwf hwg h.1 h.2
    have hv : bothI l m = 0 := by simp [bothI, h]
    have hc : bs1 l m = (bst (bsF l m) 401).1 := by simp [bs1, h]
    have hd : bs2 l m = ((bst (bsF l m) 401).2 : Nat) := by simp [bs2, h]
    rw [hv, hc, hd]
    exact h1
  · have HV := hide (show bothI l m = 1 by simp only [bothI, if_neg h])
    have HC := hide (show bs1 l m = 0 by simp only [bs1, if_neg h])
    have HD := hide (show bs2 l m = 0 by simp only [bs2, if_neg h])
    clear h
    go_enter Try.func34, Try.ntmps34
    go_wp2_with fail
    refine (l01Both_any A B c d l m _ hA hB hn hn' hwf hwg).mono ?_
    rintro e w1 ⟨rfl, hb⟩
    rw [HV.out]
    go_wp2
    go_ret3
    exact ⟨by rw [HV.out, HC.out, HD.out]; rfl, hb⟩

set_option maxHeartbeats 2000000 in
theorem implBestShift_any (A B : Option Addr) (c d : Nat) (l m : List (Int × Int)) (w : World) (hA : NA w A l) (hB : NA w B m) (hn : l.length ≤ 1048576) (hn' : m.length ≤ 1048576) (hwf : WF l) (hwg : WF m) :
    Calls Try.prog 35 #[.slice A l.length c, .slice B m.length d] w (Trip (.int .i64 (bs1 l m)) (.int .i64 (bs2 l m)) (.int .i64 (bothI l m)) w) := by
  cases hok : okB l
  · have HV := hide (show bothI l m = 1 by simp [bothI, hok])
    have HC := hide (show bs1 l m = 0 by simp [bs1, hok])
    have HD := hide (show bs2 l m = 0 by simp [bs2, hok])
    have HOK := hide hok
    clear hok
    go_enter Try.func35, Try.ntmps35
    go_wp2_with fail
    refine (implValid_any A c l _ hA hn hwf).mono ?_
    rintro e w1 ⟨rfl, hb⟩
    rw [HOK.out]
    go_wp2
    go_ret3
    exact ⟨by rw [HV.out, HC.out, HD.out]; rfl, hb⟩
  · cases hok' : okB m
    · have HV := hide (show bothI l m = 1 by simp [bothI, hok'])
      have HC := hide (show bs1 l m = 0 by simp [bs1, hok'])
      have HD := hide (show bs2 l m = 0 by simp [bs2, hok'])
      have HOK := hide hok
      have HOM := hide hok'
      clear hok hok'
      go_enter Try.func35, Try.ntmps35
      go_wp2_with fail
      refine (implValid_any A c l _ hA hn hwf).mono ?_
      rintro e w1 ⟨rfl, hb⟩
      rw [HOK.out]
      go_wp2_with fail
      refine (implValid_any B d m _ (hB.below hb) hn' hwg).mono ?_
      rintro e w2 ⟨rfl, hb2⟩
      rw [HOM.out]
      go_wp2
      go_ret3
      exact ⟨by rw [HV.out, HC.out, HD.out]; rfl, hb.trans (hb2.mono hb.size)⟩
    · have h := implShift_yes A B c d l m w hA hB hn hn' hwf hwg hok hok'
      have hv : bothI l m = 0 := by simp [bothI, hok, hok']
      have hc : bs1 l m = (bst (bsF l m) 401).1 := by simp [bs1, hok, hok']
      have hd : bs2 l m = ((bst (bsF l m) 401).2 : Nat) := by simp [bs2, hok, hok']
      rw [hv, hc, hd]
      exact h
end Go.Proofs.Ytklkomgpaamcpaa
