import Derived.Test.YtdglhgfhlcdflaaDoorGbb
namespace Go.Proofs.YtdglhgfhlcdflaaDoor
open Go.RowKit

/-- how many steps behind a pin the next one of its track comes -/
def nxN (S : Nat) (d : Nat → Int) (k t : Nat) : Nat := ((List.range S).find? fun j => decide (1 ≤ j) && pinB d ((k + j) % S) t).getD S
theorem nx_hit {S : Nat} {d : Nat → Int} {k t g : Nat} (hg : 1 ≤ g) (hS : g < S) (h0 : nextB S d k t g = false) (h : pinB d ((k + g) % S) t = true) : nxN S d k t = g := by
  have : (List.range S).find? (fun j => decide (1 ≤ j) && pinB d ((k + j) % S) t) = some g := by
    rw [List.find?_range_eq_some]
    refine ⟨by simp [hg, h], by simpa using hS, fun j hj => ?_⟩
    have h1 : ∀ j, j < g → (decide (1 ≤ j) && pinB d ((k + j) % S) t) = false := by
      intro j hj
      simp only [nextB, List.any_eq_false, List.mem_range] at h0
      simpa using h0 j hj
    rw [h1 j hj]; rfl
  rw [nxN, this]; rfl
theorem nx_end {S : Nat} {d : Nat → Int} {k t : Nat} (h0 : nextB S d k t S = false) : nxN S d k t = S := by
  have : (List.range S).find? (fun j => decide (1 ≤ j) && pinB d ((k + j) % S) t) = none := by
    rw [List.find?_eq_none]
    intro j hj
    simp only [nextB, List.any_eq_false] at h0
    exact h0 j hj
  rw [nxN, this]; rfl
theorem nx_le (S : Nat) (d : Nat → Int) (k t : Nat) : nxN S d k t ≤ S := by
  unfold nxN
  cases h : (List.range S).find? fun j => decide (1 ≤ j) && pinB d ((k + j) % S) t with
  | none => simp
  | some i =>
    have := List.mem_range.1 (List.mem_of_find?_eq_some h)
    simp; omega
theorem nx_lt {S : Nat} {d : Nat → Int} {k t R : Nat} (hR : R ≤ S) : decide (nxN S d k t < R) = nextB S d k t R := by
  unfold nxN
  cases h : (List.range S).find? fun j => decide (1 ≤ j) && pinB d ((k + j) % S) t with
  | none =>
    rw [List.find?_eq_none] at h
    have h1 : nextB S d k t R = false := by
      simp only [nextB, List.any_eq_false, List.mem_range]
      intro j hj
      exact h j (List.mem_range.2 (by omega))
    rw [h1]
    simp; omega
  | some i =>
    have h2 := h
    rw [List.find?_range_eq_some] at h
    obtain ⟨hp, hi, hmin⟩ := h
    simp only [Option.getD_some]
    by_cases hiR : i < R
    · have : nextB S d k t R = true := by
        simp only [nextB, List.any_eq_true, List.mem_range]
        exact ⟨i, hiR, hp⟩
      rw [this]; simpa using hiR
    · have : nextB S d k t R = false := by
        simp only [nextB, List.any_eq_false, List.mem_range]
        intro j hj
        have h3 := hmin j (by omega)
        intro e
        rw [e] at h3
        cases h3
      rw [this]; simpa using hiR

set_option maxRecDepth 20000 in
set_option maxHeartbeats 2000000 in
theorem l02Next_any (b g : Nat) (S : Nat) (A : Option Addr) (n c : Nat) (d : Nat → Int) (k t : Nat) (w : World) (hF : FP w b S A n c) (hD : Dr w g 43 d) (hS : 2 ≤ S ∧ S ≤ 96) (hk : k < S) (ht : t < 32) (hd : DWF d) :
    Calls Tryd.prog 85 #[.pointer (some ⟨b, 0, none⟩), .pointer (some ⟨g, 0, none⟩), .int .i64 k, .int .i64 t] w fun e w' => e = .returned (.int .i64 (nxN S d k t : Nat)) ∧ w = w' := by
  obtain ⟨g1, g2⟩ := hF
  have KP : ∀ (y : Nat), y < 96 → ∀ W, W = w → Calls Tryd.prog 59 #[.pointer (some ⟨g, 0, none⟩), .int .i64 (y : Int), .int .i64 t] W fun e w' => e = .returned (.bool (pinB d y t)) ∧ W = w' := fun y hy W hW => by subst hW; exact l02Pin_any g y t d _ hD hy (by omega) hd
  have hwS : IntKind.i64.wrap (S : Int) = (S : Int) := IntWalk.i64_in _ (by omega)
  go_enter Tryd.func85, Tryd.ntmps85
  go_wp2_with fail
  go_loop [10] (fun i => ∃ m : Nat, 1 ≤ m ∧ m ≤ S ∧ i = .int .i64 m ∧ nextB S d k t m = false) (fun i => S - (intOf i).toNat)
  case atStart => exact ⟨1, Nat.le_refl _, by omega, rfl, nextB_zero S d k t⟩
  case round =>
    obtain ⟨m, hm1, hmS, rfl, hN⟩ := hrel
    have HN := hide hN
    clear hN
    by_cases hlt : m < S
    · obtain ⟨y, hye⟩ : ∃ y, (k + m) % S = y := ⟨_, rfl⟩
      have hm2 : ((k : Int) + (m : Int)) % (S : Int) = (y : Int) := by rw [← hye]; push_cast; rfl
      have hne : ((S : Int) == 0) = false := by simp; omega
      have hy : y < 96 := by rw [← hye]; exact Nat.lt_of_lt_of_le (Nat.mod_lt _ (by omega)) (by omega)
      cases hp : pinB d y t
      · have K1 : ∀ W, W = w → Calls Tryd.prog 59 #[.pointer (some ⟨g, 0, none⟩), .int .i64 (y : Int), .int .i64 t] W fun e w' => e = .returned (.bool false) ∧ W = w' := by rw [← hp]; exact KP y hy
        have HX := hide (show nextB S d k t (m + 1) = false by rw [nextB_succ _ _ _ _ _ hm1, HN.out, hye, hp]; rfl)
        clear hp hye KP
        go_wp2_with (go_at_call 59; with_reducible refine (K1 _ rfl).mono ?_; rintro e w' ⟨rfl, rfl⟩)
        go_round
        case rel => exact ⟨m + 1, by omega, hlt, by go_num, HX.out⟩
        case measure => simp [intOf]; omega
      · have K1 : ∀ W, W = w → Calls Tryd.prog 59 #[.pointer (some ⟨g, 0, none⟩), .int .i64 (y : Int), .int .i64 t] W fun e w' => e = .returned (.bool true) ∧ W = w' := by rw [← hp]; exact KP y hy
        have HX := hide (nx_hit hm1 hlt HN.out (by rw [hye]; exact hp))
        clear hp hye KP
        go_wp2_with (go_at_call 59; with_reducible refine (K1 _ rfl).mono ?_; rintro e w' ⟨rfl, rfl⟩)
        go_ret
        exact ⟨ret_int (by rw [HX.out]), rfl⟩
    · obtain rfl : m = S := by omega
      go_wp2
      go_ret
      exact ⟨ret_int (by rw [nx_end HN.out]), rfl⟩

set_option maxRecDepth 20000 in
set_option maxHeartbeats 2000000 in
theorem l02Clash_any (b g : Nat) (S : Nat) (A : Option Addr) (c : Nat) (l : List (Int × Int)) (d : Nat → Int) (k t : Nat) (w : World) (hF : FP w b S A l.length c) (hD : Dr w g 43 d) (hA : HA w A l) (hS : 2 ≤ S ∧ S ≤ 96) (hl : l.length ≤ 24) (hg : HG S l l.length) (hk : k < S) (ht : t < l.length) (hd : DWF d) :
    Calls Tryd.prog 77 #[.pointer (some ⟨b, 0, none⟩), .pointer (some ⟨g, 0, none⟩), .int .i64 k, .int .i64 t] w (Says (clB S d l k t) w) := by
  obtain ⟨g1, g2⟩ := id hF
  obtain ⟨bb, o, rfl, hbb, c1, c2⟩ := hA t ht
  obtain ⟨_, e1, e2, e3⟩ := hg.at ht
  obtain ⟨R, hR⟩ : ∃ R : Nat, hRe l t = (R : Int) := ⟨(hRe l t).toNat, by omega⟩
  rw [hR] at c2 e1 e2 e3
  have hRn : (hRe l t).toNat = R := by omega
  have q2 := Later.cell g2
  have q3 := Later.cell c2
  have hti : (t : Int) < (l.length : Int) := by omega
  have hwR : IntKind.i64.wrap (R : Int) = (R : Int) := IntWalk.i64_in _ (by omega)
  cases hp : pinB d k t
  · have K1 : ∀ p : Later w, Calls Tryd.prog 59 #[.pointer (some ⟨g, 0, none⟩), .int .i64 (k : Int), .int .i64 t] p.w fun e w' => e = .returned (.bool false) ∧ p.w = w' := fun p => by rw [← hp]; exact l02Pin_any g k t d _ (hD.keep p.h) (by omega) (by omega) hd
    have HX := hide (show clB S d l k t = false by simp [clB, hp])
    clear hp c1 c2 g1 g2 hR hRn hg hA
    go_enter Tryd.func77, Tryd.ntmps77
    go_wp2_with fail
    refine wp_region_later (by kernel_rfl) (by kernel_rfl) ?_
    repeat (go_big_quiet_step ((go_at_call 59; with_reducible exact Later.same (K1 _))))
    refine wpQuiet_nil ?_
    rintro _ ⟨⟨wq, hq⟩, rfl⟩
    go_wp2
    go_ret
    exact ⟨ret_bool HX.out.symm, hq⟩
  · have K1 : ∀ p : Later w, Calls Tryd.prog 59 #[.pointer (some ⟨g, 0, none⟩), .int .i64 (k : Int), .int .i64 t] p.w fun e w' => e = .returned (.bool true) ∧ p.w = w' := fun p => by rw [← hp]; exact l02Pin_any g k t d _ (hD.keep p.h) (by omega) (by omega) hd
    have hnl := nx_lt (S := S) (d := d) (k := k) (t := t) (R := R) (by omega)
    obtain ⟨N, hN⟩ : ∃ N, nxN S d k t = N := ⟨_, rfl⟩
    rw [hN] at hnl
    have HX := hide (show clB S d l k t = decide (N < R) by simp [clB, hp, hRn, hnl])
    have K2 : ∀ p : Later w, Calls Tryd.prog 85 #[.pointer (some ⟨b, 0, none⟩), .pointer (some ⟨g, 0, none⟩), .int .i64 (k : Int), .int .i64 t] p.w fun e w' => e = .returned (.int .i64 (N : Int)) ∧ p.w = w' := fun p => by rw [← hN]; exact l02Next_any b g S _ _ c d k t _ (hF.keep p.h) (hD.keep p.h) hS hk (by omega) hd
    have hni : decide ((N : Int) < (R : Int)) = nextB S d k t R := by rw [← hnl]; exact decide_eq_decide.2 (by omega)
    clear hp c1 c2 g1 g2 hR hRn hg hA hN hnl
    go_enter Tryd.func77, Tryd.ntmps77
    go_wp2_with fail
    refine wp_region_later (by kernel_rfl) (by kernel_rfl) ?_
    repeat (go_big_quiet_step (first | (go_at_call 59; with_reducible exact Later.same (K1 _)) | (go_at_call 85; with_reducible exact Later.same (K2 _))))
    refine wpQuiet_nil ?_
    rintro _ ⟨⟨wq, hq⟩, rfl⟩
    go_wp2
    go_ret
    exact ⟨ret_bool HX.out.symm, hq⟩
end Go.Proofs.YtdglhgfhlcdflaaDoor
