import Derived.Test.YtcdjfflmgjpobaaDoorClp
namespace Go.Proofs.YtcdjfflmgjpobaaDoor
open Go.RowKit

def ipB (s : Int) (l : List (Int × Int)) (d : Nat → Int) : Bool := askB s l d && decide ((clsF s.toNat d l (pinsL d)).length = 0)
theorem pins_zero : pinsL (fun _ => 0) = [] := by
  have : ∀ n, pinsT (fun _ => 0) n = [] := by
    intro n
    induction n with
    | zero => rfl
    | succ n ih => rw [pinsT_succ, ih]; simp [bitsL_zero]
  exact this 96
theorem same_empty (S : Nat) (d : Nat → Int) (l : List (Int × Int)) (hd : DWF d) : sameD (clD S d l) (fun _ => 0) = decide ((clsF S d l (pinsL d)).length = 0) := by
  rw [Bool.eq_iff_iff, decide_eq_true_eq]
  constructor
  · intro h
    have h1 := (sameD_iff _ _).1 h
    have h2 : pinsL (clD S d l) = pinsL (fun _ => 0) := by
      have : ∀ n, n ≤ 96 → pinsT (clD S d l) n = pinsT (fun _ => 0) n := by
        intro n
        induction n with
        | zero => intro _; rfl
        | succ n ih => intro hn; rw [pinsT_succ, pinsT_succ, ih (by omega), da_inj h1 n (by omega)]
      exact this 96 (Nat.le_refl _)
    rw [← clD_pins S d l hd, h2, pins_zero]; rfl
  · intro h
    have h1 : clsF S d l (pinsL d) = [] := List.eq_nil_of_length_eq_zero h
    rw [sameD_iff]
    unfold clD
    rw [h1]
    rfl

set_option maxRecDepth 20000 in
set_option maxHeartbeats 1000000 in
theorem specIsPlayable_any (s : Int) (A : Option Addr) (c : Nat) (l : List (Int × Int)) (d : Nat → Int) (w : World) (hA : HA w A l) (hn : l.length ≤ 1048576) (hwf : HWF l) (hs : -32768 ≤ s ∧ s ≤ 32767) (hd : DWF d) :
    Calls Tryd.prog 21 #[.agg #[.int .i16 s, .slice A l.length c], .agg (da d)] w (Pair (.bool (ipB s l d)) (.int .i64 (codeI (askB s l d))) w) := by
  have hb0 : Below w.heap.size w ((w.alloc (.cells #[.int .i16 s, .slice A l.length c] 34)).alloc (.cells (da d) 36)) := ((Below.refl _ _).alloc (Nat.le_refl _) _).alloc (by simp) _
  have hF : FP ((w.alloc (.cells #[.int .i16 s, .slice A l.length c] 34)).alloc (.cells (da d) 36)) w.heap.size s A l.length c := ⟨by simp [go_sem], by simp [go_sem]⟩
  have hD : Dr ((w.alloc (.cells #[.int .i16 s, .slice A l.length c] 34)).alloc (.cells (da d) 36)) (w.heap.size + 1) 36 d := heap_new' _ _ _ (by simp)
  go_enter Tryd.func21, Tryd.ntmps21
  go_wp2_with fail
  refine (l02Asked_any _ _ s A c l d _ hF hD (hA.below hb0) hn hwf hs hd).mono ?_
  rintro e w1 ⟨rfl, hb1⟩
  have b1 := step_below hb1 hb0
  have F1 := hF.keep hb1
  have D1 := hD.keep hb1
  cases ha : askB s l d
  · simp only [codeI]
    have HX := hide (show ipB s l d = false by simp [ipB, ha])
    have HC := hide (show codeI (askB s l d) = 1 by rw [ha]; rfl)
    clear ha
    go_wp2
    go_ret2
    exact ⟨by rw [HX.out, HC.out]; rfl, b1⟩
  have hfa := ask_all ha
  obtain ⟨S, hSs⟩ : ∃ S : Nat, s = (S : Int) := ⟨s.toNat, by omega⟩
  have hS2 : 2 ≤ S ∧ S ≤ 96 := by omega
  have hSn : s.toNat = S := by omega
  simp only [codeI]
  have HX := hide (show ipB s l d = decide ((clsF S d l (pinsL d)).length = 0) by simp [ipB, ha, hSn])
  have HC := hide (show codeI (askB s l d) = 0 by rw [ha]; rfl)
  subst hSs
  have hl24 := hfa.2.1.2
  have HG1 := hide hfa.2.2.1
  have HV := hide hfa.2.2.2
  clear ha hfa hSn
  go_wp2_with fail
  refine (l02Clashes_any _ _ S A c l d _ F1 D1 (hA.below b1) hS2 hl24 HG1.out HV.out hd).mono ?_
  rintro e w2 ⟨A2, c2, rfl, own2, hb2⟩
  have hlen : (clsF S d l (pinsL d)).length ≤ 4000 := by
    have h1 := List.length_filter_le (fun p : Nat × Nat => nextB S d p.1 p.2 (hRe l p.2).toNat) (pinsL d)
    have h2 := pinsT_len d 96
    unfold clsF
    unfold pinsL at h1 ⊢
    omega
  obtain ⟨N, hN⟩ : ∃ N, (clsF S d l (pinsL d)).length = N := ⟨_, rfl⟩
  rw [hN] at HX hlen ⊢
  have hdn : ((N : Int) == 0) = decide (N = 0) := by
    by_cases h : N = 0 <;> simp [h]
  go_wp2
  go_ret2
  exact ⟨by rw [HX.out, HC.out]; rfl, step_below hb2 b1⟩

set_option maxRecDepth 20000 in
set_option maxHeartbeats 1000000 in
theorem implIsPlayable_any (s : Int) (A : Option Addr) (c : Nat) (l : List (Int × Int)) (d : Nat → Int) (w : World) (hA : HA w A l) (hn : l.length ≤ 1048576) (hwf : HWF l) (hs : -32768 ≤ s ∧ s ≤ 32767) (hd : DWF d) (hT : TabW w) :
    Calls Tryd.prog 22 #[.agg #[.int .i16 s, .slice A l.length c], .agg (da d)] w (Pair (.bool (ipB s l d)) (.int .i64 (codeI (askB s l d))) w) := by
  have hb0 : Below w.heap.size w ((w.alloc (.cells #[.int .i16 s, .slice A l.length c] 34)).alloc (.cells (da d) 36)) := ((Below.refl _ _).alloc (Nat.le_refl _) _).alloc (by simp) _
  have D0 : Dr ((w.alloc (.cells #[.int .i16 s, .slice A l.length c] 34)).alloc (.cells (da d) 36)) (w.heap.size + 1) 36 d := heap_new' _ _ _ (by simp)
  have HR0 := hide D0.range
  go_enter Tryd.func22, Tryd.ntmps22
  go_wp2_with (first | (with_reducible refine wpList_load_da rfl 36 (.tmp 3) rfl (w.heap.size + 1) 0 rfl d _ HR0.out Tryd.underlying36 rfl (dInfo d) ?_) | (with_reducible refine wpList_build1 rfl (.tmp 10) rfl d rfl ?_))
  refine (machine1_any s A c l d _ (hA.below hb0) hn hwf hs hd _ (by simp)).mono ?_
  rintro e w2 ⟨rfl, hb2⟩
  have hx0 : Below ((w.alloc (.cells #[.int .i16 s, .slice A l.length c] 34)).alloc (.cells (da d) 36)).heap.size ((w.alloc (.cells #[.int .i16 s, .slice A l.length c] 34)).alloc (.cells (da d) 36)) (((w.alloc (.cells #[.int .i16 s, .slice A l.length c] 34)).alloc (.cells (da d) 36)).alloc (.cells (da d) 36)) := (Below.refl _ _).alloc (Nat.le_refl _) _
  have b2 := step_below hb2 (hb0.alloc hb0.size (.cells (da d) 36))
  have hy : Below w2.heap.size w2 (w2.alloc (.cells #[.int .i64 s, .slice A l.length c] 78)) := (Below.refl _ _).alloc (Nat.le_refl _) _
  have b3 := b2.alloc b2.size (.cells #[.int .i64 s, .slice A l.length c] 78)
  have D3 := ((D0.keep hx0).keep hb2).keep hy
  cases ha : askB s l d
  · have HX := hide (show ipB s l d = false by simp [ipB, ha])
    have HC := hide (show codeI (askB s l d) = 1 by rw [ha]; rfl)
    clear ha
    go_wp2
    go_ret2
    exact ⟨by rw [HX.out, HC.out]; rfl, b3⟩
  have hfa := ask_all ha
  obtain ⟨S, hSs⟩ : ∃ S : Nat, s = (S : Int) := ⟨s.toNat, by omega⟩
  have hS2 : 2 ≤ S ∧ S ≤ 96 := by omega
  have hSn : s.toNat = S := by omega
  have HX := hide (show ipB s l d = sameD (clD S d l) (fun _ => 0) by rw [same_empty S d l hd]; simp [ipB, ha, hSn])
  have HC := hide (show codeI (askB s l d) = 0 by rw [ha]; rfl)
  subst hSs
  have hl24 := hfa.2.1.2
  have HG1 := hide hfa.2.2.1
  have HV := hide hfa.2.2.2
  clear ha hfa hSn
  have HR3 := hide D3.range
  go_wp2_with (with_reducible refine wpList_load_da rfl 36 (.tmp 3) rfl (w.heap.size + 1) 0 rfl d _ HR3.out Tryd.underlying36 rfl (dInfo d) ?_)
  refine (clashes_any S A c l d _ (hA.below b3) hS2 hl24 HG1.out HV.out hd (hT.keep b3)).mono ?_
  rintro e w4 ⟨rfl, hb4⟩
  have hEQ := fun W => eqDr (clD S d l) (fun _ => 0) (clD_wf S d l) zero_wf W
  go_wp2_with (with_reducible refine wpList_build0 rfl rfl ?_)
  go_ret2
  exact ⟨by rw [HX.out, HC.out]; rfl, step_below hb4 b3⟩
end Go.Proofs.YtcdjfflmgjpobaaDoor
