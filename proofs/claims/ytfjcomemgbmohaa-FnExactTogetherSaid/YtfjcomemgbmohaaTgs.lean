import Derived.Test.YtfjcomemgbmohaaTb
namespace Go.Proofs.Ytfjcomemgbmohaa
open Go.RowKit
set_option maxRecDepth 20000 in
set_option maxHeartbeats 2000000 in
theorem specTogether_any (A : Option Addr) (c : Nat) (l : List (Int × Int)) (B : Option Addr) (d : Nat) (m : List (Int × Int)) (w : World) (hA : NA w A l) (hl : l.length ≤ 1048576) (hwl : WF l) (hB : NA w B m) (hm : m.length ≤ 1048576) (hwm : WF m) :
    Calls Try.prog 34 #[.slice A l.length c, .slice B m.length d] w (OwnN w (togV l m) (togC l m)) := by
  obtain ⟨i0, hi, hz0, hz1, hz2⟩ := info_parts info46
  have KB := l01Both_any A c l B d m w hA hB hl hm hwl hwm
  cases hbo : bothB l m
  · rw [show bcI l m = 1 by simp [bcI, hbo]] at KB
    have HX := hide (show togC l m = 1 by simp [togC, hbo])
    have HY := hide (show togV l m = [] by simp [togV, togC, hbo])
    clear hbo
    go_enter Try.func34, Try.ntmps34
    go_wp2_with fail
    refine KB.mono ?_
    rintro e w1 ⟨rfl, hb1⟩
    go_wp2
    go_ret2
    rw [HX.out, HY.out]
    exact ownN_nil (some ⟨w1.heap.size, 0, none⟩) 0 1 (own_emptyT _ _ hb1.size) (hb1.alloc hb1.size _)
  rw [show bcI l m = 0 by simp [bcI, hbo]] at KB
  have HX := hide (show togC l m = if (sortU (l ++ m)).length ≤ 120 then 0 else 3 by simp [togC, hbo, mkC, tog_range hbo])
  have HY := hide (show togV l m = if (sortU (l ++ m)).length ≤ 120 then sortU (l ++ m) else [] by simp only [togV, hbo, if_true, mkV, mkC, tog_range hbo]; split <;> simp_all)
  have hlen : l.length + m.length ≤ 240 := by have := ok2_len hbo; omega
  have hsl := sortU_le (l ++ m)
  have KS : ∀ W C q, NA W C (l ++ m) → Calls Try.prog 37 #[.slice C (l.length + m.length) q] W (OwnT W (sortU (l ++ m))) := fun W C q h => by
    have := l01Sorted_any C q (l ++ m) W h (by rw [List.length_append]; omega) (hwl.append hwm)
    rwa [List.length_append] at this
  rw [List.length_append] at hsl
  obtain ⟨S, hS⟩ : ∃ x, x = sortU (l ++ m) := ⟨_, rfl⟩
  rw [← hS] at HX HY KS hsl
  clear hbo hS
  go_enter Try.func34, Try.ntmps34
  go_wp2_with fail
  refine KB.mono ?_
  rintro e w1 ⟨rfl, hb1⟩
  have hal : Below w.heap.size w (w1.alloc (.cells #[] 46)) := hb1.alloc hb1.size _
  have hE : (w1.alloc (.cells #[] 46)).ownsRow w.heap.size 46 2 (.slice (some ⟨w1.heap.size, 0, none⟩) 0 0) 0 [] := own_emptyT _ _ hb1.size
  obtain ⟨A3, c3, w3, hr3, own3, gr3⟩ := run_append_na _ 24 25 46 Try.underlying24 Try.underlying25 w.heap.size i0 hi hz0 hz1 hz2 _ 0 [] hE A c l (hA.below hal) (by omega) (by omega) hal.size
  simp only [Nat.zero_add, List.nil_append] at hr3 own3
  have hb3 : Below w.heap.size w w3 := hal.grown gr3 hal.size (fun j hj => (hE.lt j hj).1)
  obtain ⟨A4, c4, w4, hr4, own4, gr4⟩ := run_append_na _ 24 25 46 Try.underlying24 Try.underlying25 w.heap.size i0 hi hz0 hz1 hz2 _ l.length (cellsOf l) own3 B d m (hB.below hb3) (by omega) (by omega) hb3.size
  rw [← cellsOf_append] at own4
  have hb4 : Below w.heap.size w w4 := hb3.grown gr4 hb3.size (fun j hj => (own3.lt j hj).1)
  have KS4 := KS w4 A4 c4 (NA.of_own (by rw [List.length_append]; exact own4))
  clear own4 own3 gr3 gr4 hE hal
  go_wp2_with (first | (at_builtin; refine Lib.wpList_append_run _ rfl (.tmp 15) (.tmp 16) _ _ rfl _ _ rfl rfl _ _ (hr3 _) ?_) | (at_builtin; refine Lib.wpList_append_run _ rfl (.tmp 17) (.tmp 18) _ _ rfl _ _ rfl rfl _ _ (hr4 _) ?_))
  refine KS4.mono ?_
  rintro e w5 ⟨C5, q5, rfl, own5, hb5⟩
  have b5 := step_below hb5 hb4
  by_cases h : S.length ≤ 120
  · have HX2 := hide (show togC l m = 0 by rw [HX.out, if_pos h])
    have HY2 := hide (show togV l m = S by rw [HY.out, if_pos h])
    have h1 : ¬ ((120 : Int) < (S.length : Int)) := by omega
    go_wp2
    go_ret2
    rw [HX2.out, HY2.out]
    exact ⟨C5, q5, rfl, own_base own5 hb4.size, b5⟩
  · have HX2 := hide (show togC l m = 3 by rw [HX.out, if_neg h])
    have HY2 := hide (show togV l m = [] by rw [HY.out, if_neg h])
    have h1 : (120 : Int) < (S.length : Int) := by omega
    go_wp2
    go_ret2
    rw [HX2.out, HY2.out]
    exact ownN_nil (some ⟨w5.heap.size, 0, none⟩) 0 3 (own_emptyT _ _ b5.size) (b5.alloc b5.size _)
end Go.Proofs.Ytfjcomemgbmohaa
