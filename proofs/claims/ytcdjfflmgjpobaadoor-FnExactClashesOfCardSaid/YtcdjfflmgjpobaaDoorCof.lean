import Derived.Test.YtcdjfflmgjpobaaDoorPlc
namespace Go.Proofs.YtcdjfflmgjpobaaDoor
open Go.RowKit

def coL (s : Int) (l : List (Int × Int)) (d : Nat → Int) : List (Nat × Nat) := if askB s l d then clsF s.toNat d l (pinsL d) else []
theorem clsF_len (S : Nat) (d : Nat → Int) (l : List (Int × Int)) : (clsF S d l (pinsL d)).length ≤ 4000 := by
  have h1 := List.length_filter_le (fun p : Nat × Nat => nextB S d p.1 p.2 (hRe l p.2).toNat) (pinsL d)
  have h2 := pinsL_len d
  unfold clsF
  omega
theorem coL_len (s : Int) (l : List (Int × Int)) (d : Nat → Int) : (coL s l d).length ≤ 4000 := by
  unfold coL
  split
  · exact clsF_len _ _ _
  · simp

set_option maxRecDepth 20000 in
set_option maxHeartbeats 1000000 in
theorem specClashesOf_any (s : Int) (A : Option Addr) (c : Nat) (l : List (Int × Int)) (d : Nat → Int) (w : World) (hA : HA w A l) (hn : l.length ≤ 1048576) (hwf : HWF l) (hs : -32768 ≤ s ∧ s ≤ 32767) (hd : DWF d) :
    Calls Tryd.prog 25 #[.agg #[.int .i16 s, .slice A l.length c], .agg (da d)] w (OwnAZ w (coL s l d).length (flatP (coL s l d)) (codeI (askB s l d))) := by
  have hb0 : Below w.heap.size w ((w.alloc (.cells #[.int .i16 s, .slice A l.length c] 34)).alloc (.cells (da d) 36)) := ((Below.refl _ _).alloc (Nat.le_refl _) _).alloc (by simp) _
  have hF : FP ((w.alloc (.cells #[.int .i16 s, .slice A l.length c] 34)).alloc (.cells (da d) 36)) w.heap.size s A l.length c := ⟨by simp [go_sem], by simp [go_sem]⟩
  have hD : Dr ((w.alloc (.cells #[.int .i16 s, .slice A l.length c] 34)).alloc (.cells (da d) 36)) (w.heap.size + 1) 36 d := heap_new' _ _ _ (by simp)
  go_enter Tryd.func25, Tryd.ntmps25
  go_wp2_with fail
  refine (l02Asked_any _ _ s A c l d _ hF hD (hA.below hb0) hn hwf hs hd).mono ?_
  rintro e w1 ⟨rfl, hb1⟩
  have b1 := step_below hb1 hb0
  have F1 := hF.keep hb1
  have D1 := hD.keep hb1
  cases ha : askB s l d
  · simp only [codeI]
    have HX := hide (show coL s l d = [] by simp [coL, ha])
    have HC := hide (show codeI (askB s l d) = 1 by rw [ha]; rfl)
    clear ha
    go_wp2
    go_ret2
    exact ⟨some ⟨w1.heap.size, 0, none⟩, 0, by rw [HC.out, HX.out]; rfl, by rw [HX.out]; exact own_emptyA b1.size, b1.alloc b1.size _⟩
  have hfa := ask_all ha
  obtain ⟨S, hSs⟩ : ∃ S : Nat, s = (S : Int) := ⟨s.toNat, by omega⟩
  have hS2 : 2 ≤ S ∧ S ≤ 96 := by omega
  have hSn : s.toNat = S := by omega
  simp only [codeI]
  have HX := hide (show coL s l d = clsF S d l (pinsL d) by simp [coL, ha, hSn])
  have HC := hide (show codeI (askB s l d) = 0 by rw [ha]; rfl)
  subst hSs
  have hl24 := hfa.2.1.2
  have HG1 := hide hfa.2.2.1
  have HV := hide hfa.2.2.2
  clear ha hfa hSn
  go_wp2_with fail
  refine (l02Clashes_any _ _ S A c l d _ F1 D1 (hA.below b1) hS2 hl24 HG1.out HV.out hd).mono ?_
  rintro e w2 ⟨A2, c2, rfl, own2, hb2⟩
  go_wp2
  go_ret2
  exact ⟨A2, c2, by rw [HC.out, HX.out]; rfl, by rw [HX.out, ← acells_flat]; exact own_base own2 b1.size, step_below hb2 b1⟩

set_option maxRecDepth 20000 in
set_option maxHeartbeats 1000000 in
theorem implClashesOf_any (s : Int) (A : Option Addr) (c : Nat) (l : List (Int × Int)) (d : Nat → Int) (w : World) (hA : HA w A l) (hn : l.length ≤ 1048576) (hwf : HWF l) (hs : -32768 ≤ s ∧ s ≤ 32767) (hd : DWF d) (hT : TabW w) :
    Calls Tryd.prog 26 #[.agg #[.int .i16 s, .slice A l.length c], .agg (da d)] w (OwnAZ w (coL s l d).length (flatP (coL s l d)) (codeI (askB s l d))) := by
  have hb0 : Below w.heap.size w ((w.alloc (.cells #[.int .i16 s, .slice A l.length c] 34)).alloc (.cells (da d) 36)) := ((Below.refl _ _).alloc (Nat.le_refl _) _).alloc (by simp) _
  have D0 : Dr ((w.alloc (.cells #[.int .i16 s, .slice A l.length c] 34)).alloc (.cells (da d) 36)) (w.heap.size + 1) 36 d := heap_new' _ _ _ (by simp)
  have HR0 := hide D0.range
  go_enter Tryd.func26, Tryd.ntmps26
  go_wp2_with (first | (with_reducible refine wpList_load_da rfl 36 (.tmp 3) rfl (w.heap.size + 1) 0 rfl d _ HR0.out Tryd.underlying36 rfl (dInfo d) ?_) | (with_reducible refine wpList_build1 rfl (.tmp 8) rfl d rfl ?_) | (with_reducible refine wpList_build1 rfl (.tmp 9) rfl d rfl ?_) | (with_reducible refine wpList_build1 rfl (.tmp 10) rfl d rfl ?_) | (with_reducible refine wpList_build1 rfl (.tmp 11) rfl d rfl ?_))
  refine (machine1_any s A c l d _ (hA.below hb0) hn hwf hs hd _ (by simp)).mono ?_
  rintro e w2 ⟨rfl, hb2⟩
  have hx0 : Below ((w.alloc (.cells #[.int .i16 s, .slice A l.length c] 34)).alloc (.cells (da d) 36)).heap.size ((w.alloc (.cells #[.int .i16 s, .slice A l.length c] 34)).alloc (.cells (da d) 36)) (((w.alloc (.cells #[.int .i16 s, .slice A l.length c] 34)).alloc (.cells (da d) 36)).alloc (.cells (da d) 36)) := (Below.refl _ _).alloc (Nat.le_refl _) _
  have b2 := step_below hb2 (hb0.alloc hb0.size (.cells (da d) 36))
  have hy : Below w2.heap.size w2 (w2.alloc (.cells #[.int .i64 s, .slice A l.length c] 78)) := (Below.refl _ _).alloc (Nat.le_refl _) _
  have b3 := b2.alloc b2.size (.cells #[.int .i64 s, .slice A l.length c] 78)
  have D3 := ((D0.keep hx0).keep hb2).keep hy
  cases ha : askB s l d
  · have HX := hide (show coL s l d = [] by simp [coL, ha])
    have HC := hide (show codeI (askB s l d) = 1 by rw [ha]; rfl)
    clear ha
    go_wp2
    go_ret2
    exact ⟨none, 0, by rw [HX.out, HC.out]; rfl, by rw [HX.out]; exact ⟨rfl, Or.inl ⟨rfl, rfl⟩⟩, b3⟩
  have hfa := ask_all ha
  obtain ⟨S, hSs⟩ : ∃ S : Nat, s = (S : Int) := ⟨s.toNat, by omega⟩
  have hS2 : 2 ≤ S ∧ S ≤ 96 := by omega
  have hSn : s.toNat = S := by omega
  have HX := hide (show coL s l d = pinsL (clD S d l) by rw [clD_pins S d l hd]; simp [coL, ha, hSn])
  have HC := hide (show codeI (askB s l d) = 0 by rw [ha]; rfl)
  subst hSs
  have hl24 := hfa.2.1.2
  have HG1 := hide hfa.2.2.1
  have HV := hide hfa.2.2.2
  clear ha hfa hSn
  have HR3 := hide D3.range
  go_wp2_with (with_reducible refine wpList_load_da rfl 36 (.tmp 3) rfl (w.heap.size + 1) 0 rfl d _ HR3.out Tryd.underlying36 rfl (dInfo d) ?_)
  refine (clashes_any S A c l d _ (hA.below b3) hS2 hl24 HG1.out HV.out hd (hT.keep b3)).mono ?_
  rintro e w4 ⟨rfl, hb4⟩
  have b4 := step_below hb4 b3
  have hcw := clD_wf S d l
  obtain ⟨cd, hcd⟩ : ∃ cd, clD S d l = cd := ⟨_, rfl⟩
  rw [hcd] at HX hcw ⊢
  clear hcd
  go_wp2_with fail
  refine (places_any cd _ hcw (hT.keep b4)).mono ?_
  rintro e w5 ⟨A5, c5, rfl, own5, hb5⟩
  go_wp2
  go_ret2
  exact ⟨A5, c5, by rw [HX.out, HC.out]; rfl, by rw [HX.out, ← acells_flat]; exact own_base own5 b4.size, step_below hb5 b4⟩
end Go.Proofs.YtcdjfflmgjpobaaDoor
