import Derived.Test.YtnmfkgapiccjmaaDoorPch
import Derived.Laws.Concat
namespace Go.Proofs.YtnmfkgapiccjmaaDoor
open Go.RowKit

theorem hs_row (w : World) (r : Nat) (hr : r < 12) : (w.alloc (.cells #[.string ⟨#[99]⟩, .string ⟨#[99, 35]⟩, .string ⟨#[100]⟩, .string ⟨#[100, 35]⟩, .string ⟨#[101]⟩, .string ⟨#[102]⟩, .string ⟨#[102, 35]⟩, .string ⟨#[103]⟩, .string ⟨#[103, 35]⟩, .string ⟨#[97]⟩, .string ⟨#[97, 35]⟩, .string ⟨#[98]⟩] 9)).cell? ⟨w.heap.size, r, none⟩ = some (.string (hsB r)) := by
  rw [cell_of_row _ _ _ _ _ _ (heap_alloc_new _ _)]
  match r, hr with
  | 0, _ | 1, _ | 2, _ | 3, _ | 4, _ | 5, _ | 6, _ | 7, _ | 8, _ | 9, _ | 10, _ | 11, _ => rfl
theorem hs_sz (r : Nat) (hr : r < 12) : ((hsB r).size : Int) ≤ 8388608 := by
  match r, hr with
  | 0, _ | 1, _ | 2, _ | 3, _ | 4, _ | 5, _ | 6, _ | 7, _ | 8, _ | 9, _ | 10, _ | 11, _ => decide
theorem oc_sz (q : Nat) : ((ocB q).size : Int) ≤ 8388608 := by
  show ((1 : Nat) : Int) ≤ 8388608
  omega
theorem ocq (q : Nat) (hq : q < 4) : (q : Int) = 0 ∨ (q : Int) = 1 ∨ (q : Int) = 2 ∨ (q : Int) = 3 := by omega

set_option maxRecDepth 20000 in
set_option maxHeartbeats 2000000 in
theorem l01Name_any (x : Int) (q r : Nat) (hx : x = 12 * (q : Int) + (r : Int)) (hq : q < 4) (hr : r < 12) (w : World) :
    Calls Tryd.prog 11 #[.int .i64 x] w fun e w' => e = .returned (.string (hsB r ++ ocB q)) ∧ Below w.heap.size w w' := by
  have hrem : x.tmod 12 = (r : Int) := by rw [Int.tmod_eq_emod_of_nonneg (by omega)]; omega
  have hquo : x.tdiv 12 = (q : Int) := by rw [Int.tdiv_eq_ediv_of_nonneg (by omega)]; omega
  have hal : Below w.heap.size w (w.alloc (.cells #[.string ⟨#[99]⟩, .string ⟨#[99, 35]⟩, .string ⟨#[100]⟩, .string ⟨#[100, 35]⟩, .string ⟨#[101]⟩, .string ⟨#[102]⟩, .string ⟨#[102, 35]⟩, .string ⟨#[103]⟩, .string ⟨#[103, 35]⟩, .string ⟨#[97]⟩, .string ⟨#[97, 35]⟩, .string ⟨#[98]⟩] 9)) := (Below.refl _ _).alloc (Nat.le_refl _) _
  have c1 := Later.cell (hs_row w r hr)
  have hri : (r : Int) < 12 := by omega
  have hz1 := hs_sz r hr
  have hz2 := oc_sz q
  have hwq : IntKind.i64.wrap (q : Int) = (q : Int) := IntWalk.i64_in _ (by omega)
  have KD : ∀ W, Calls Tryd.prog 13 #[.int .i64 (q : Int)] W fun e w' => e = .returned (.string (ocB q)) ∧ Below W.heap.size W w' := fun W => dec_any q (ocq q hq) W
  have HX := hide hx
  clear hx
  go_enter Tryd.func11, Tryd.ntmps11
  go_wp2_with fail
  refine wp_region_later (by kernel_rfl) (by kernel_rfl) ?_
  repeat (go_big_quiet_step ((go_at_call 13; with_reducible exact Later.call (KD _))))
  refine wpQuiet_nil ?_
  rintro wz ⟨⟨_, hq2⟩, rfl⟩
  go_wp2
  go_ret
  exact ⟨rfl, hal.trans (hq2.mono hal.size)⟩

set_option maxRecDepth 20000 in
set_option maxHeartbeats 2000000 in
theorem specPitchName_any (x : Int) (w : World) :
    Calls Tryd.prog 7 #[.int .i64 x] w fun e w' => e = .returned (.string (pnV x)) ∧ Below w.heap.size w w' := by
  go_enter Tryd.func7, Tryd.ntmps7
  cases hx : inB x 0 47
  · have KI : ∀ W, Calls Tryd.prog 9 #[.int .i64 x, .int .i64 0, .int .i64 47] W fun e w' => e = .returned (.bool false) ∧ W = w' := fun W => by rw [← hx]; exact l00In_any x 0 47 W
    have HV := hide (show pnV x = ⟨#[]⟩ by simp [pnV, hx])
    clear hx
    go_wp2_with (go_at_call 9; refine (KI _).mono ?_; rintro e w' ⟨rfl, rfl⟩)
    go_ret
    exact ⟨by rw [HV.out]; rfl, Below.refl _ _⟩
  · have KI : ∀ W, Calls Tryd.prog 9 #[.int .i64 x, .int .i64 0, .int .i64 47] W fun e w' => e = .returned (.bool true) ∧ W = w' := fun W => by rw [← hx]; exact l00In_any x 0 47 W
    have hr : 0 ≤ x ∧ x ≤ 47 := by simpa [inB] using hx
    have HV := hide (show pnV x = hsB (x.toNat % 12) ++ ocB (x.toNat / 12) by simp [pnV, hx])
    have KN := l01Name_any x (x.toNat / 12) (x.toNat % 12) (by omega) (by omega) (by omega) w
    clear hr hx
    go_wp2_with (first | (go_at_call 9; refine (KI _).mono ?_; rintro e w' ⟨rfl, rfl⟩) | (go_at_call 11; refine KN.mono ?_; rintro e w' ⟨rfl, hb⟩))
    go_ret
    exact ⟨by rw [HV.out]; rfl, hb⟩

set_option maxRecDepth 20000 in
set_option maxHeartbeats 2000000 in
theorem implPitchName_any (x : Int) (w : World) (hT : StpW w) :
    Calls Tryd.prog 8 #[.int .i64 x] w fun e w' => e = .returned (.string (pnV x)) ∧ w = w' := by
  go_enter Tryd.func8, Tryd.ntmps8
  cases hx : inB x 0 47
  · have KI : ∀ W, Calls Tryd.prog 10 #[.int .i64 x, .int .i64 0, .int .i64 47] W fun e w' => e = .returned (.bool false) ∧ W = w' := fun W => by rw [← hx]; exact within_any x 0 47 W
    have HV := hide (show pnV x = ⟨#[]⟩ by simp [pnV, hx])
    clear hx
    go_wp2_with (go_at_call 10; refine (KI _).mono ?_; rintro e w' ⟨rfl, rfl⟩)
    go_ret
    exact ⟨by rw [HV.out]; rfl, rfl⟩
  · have KI : ∀ W, Calls Tryd.prog 10 #[.int .i64 x, .int .i64 0, .int .i64 47] W fun e w' => e = .returned (.bool true) ∧ W = w' := fun W => by rw [← hx]; exact within_any x 0 47 W
    have hr : 0 ≤ x ∧ x ≤ 47 := by simpa [inB] using hx
    obtain ⟨q, hqd⟩ : ∃ q, x.toNat / 12 = q := ⟨_, rfl⟩
    obtain ⟨r, hrd⟩ : ∃ r, x.toNat % 12 = r := ⟨_, rfl⟩
    have HV := hide (show pnV x = hsB r ++ ocB q by simp [pnV, hx, hqd, hrd])
    have hq4 : q < 4 := by omega
    have hr12 : r < 12 := by omega
    have hxx : x = 12 * (q : Int) + (r : Int) := by omega
    have hrem : x.tmod 12 = (r : Int) := by rw [Int.tmod_eq_emod_of_nonneg (by omega)]; omega
    have hquo : x.tdiv 12 = (q : Int) := by rw [Int.tdiv_eq_ediv_of_nonneg (by omega)]; omega
    have hwq : IntKind.i64.wrap (q : Int) = (q : Int) := IntWalk.i64_in _ (by omega)
    have hri : (r : Int) < 12 := by omega
    have hz1 := hs_sz r hr12
    have hz2 := oc_sz q
    have c1 := hT r hr12
    have KF : ∀ W, Calls Tryd.prog 12 #[.int .i64 (q : Int), .int .i64 10] W fun e w' => e = .returned (.string (ocB q)) ∧ W = w' := fun W => fmt_any q (ocq q hq4) W
    clear hr hx hqd hrd hxx
    go_wp2_with (first | (go_at_call 10; refine (KI _).mono ?_; rintro e w' ⟨rfl, rfl⟩) | (go_at_call 12; refine (KF _).mono ?_; rintro e w' ⟨rfl, rfl⟩))
    go_ret
    exact ⟨by rw [HV.out]; rfl, rfl⟩

theorem lawPitchName_any (x : Int) (w : World) (hT : StpW w) (_hx : -9223372036854775808 ≤ x ∧ x ≤ 9223372036854775807) :
    Calls Tryd.prog 4 #[.int .i64 x] w fun e w' => e = .returned (.bool true) ∧ Below w.heap.size w w' := by
  go_enter Tryd.func4, Tryd.ntmps4
  go_wp2_with fail
  refine (specPitchName_any x w).mono ?_
  rintro e w1 ⟨rfl, hb⟩
  have hT1 : StpW w1 := fun j hj => (hb.cell (p := ⟨_, j, none⟩) (World.block_lt_of_cell? w _ (hT j hj))).trans (hT j hj)
  obtain ⟨z, hz⟩ : ∃ z, pnV x = z := ⟨_, rfl⟩
  have KI := implPitchName_any x w1 hT1
  rw [hz] at KI ⊢
  clear hz
  go_wp2_with fail
  refine KI.mono ?_
  rintro e w2 ⟨rfl, rfl⟩
  go_wp2
  go_ret
  exact ⟨rfl, hb⟩
end Go.Proofs.YtnmfkgapiccjmaaDoor
