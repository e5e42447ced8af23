import Derived.Test.YtbneonmnjpiggaaDoorDcm
import Derived.Lib.LaidTab
namespace Go.Proofs.YtbneonmnjpiggaaDoor
open Go.RowKit
def inB (n l m : Int) : Bool := decide (l ≤ n ∧ n ≤ m)
theorem l00In_any (n l m : Int) (w : World) :
    Calls Tryd.prog 16 #[.int .i64 n, .int .i64 l, .int .i64 m] w fun e w' => e = .returned (.bool (inB n l m)) ∧ w = w' := by
  go_enter Tryd.func16, Tryd.ntmps16
  go_wp2
  all_goals go_ret
  all_goals exact ⟨ret_bool (by simp [inB] <;> omega), rfl⟩
theorem within_any (n l m : Int) (w : World) :
    Calls Tryd.prog 17 #[.int .i64 n, .int .i64 l, .int .i64 m] w fun e w' => e = .returned (.bool (inB n l m)) ∧ w = w' := by
  go_enter Tryd.func17, Tryd.ntmps17
  go_wp2
  all_goals go_ret
  all_goals exact ⟨ret_bool (by simp [inB] <;> omega), rfl⟩
theorem isQuarter_any (q : Int) (w : World) : Calls Tryd.prog 12 #[.int .i64 q] w fun e w' => e = .returned (.bool (inB q 0 47)) ∧ w = w' := by
  go_enter Tryd.func12, Tryd.ntmps12
  go_wp2_with (go_at_call 17; refine (within_any _ _ _ _).mono ?_; rintro e w' ⟨rfl, rfl⟩)
  go_ret
  exact ⟨rfl, rfl⟩
theorem l04Quarter_any (q : Int) (w : World) : Calls Tryd.prog 9 #[.int .i64 q] w fun e w' => e = .returned (.bool (inB q 0 47)) ∧ w = w' := by
  go_enter Tryd.func9, Tryd.ntmps9
  go_wp2_with (go_at_call 16; refine (l00In_any _ _ _ _).mono ?_; rintro e w' ⟨rfl, rfl⟩)
  go_ret
  exact ⟨rfl, rfl⟩
/-- the hour of a quarter -/
def whH (k : Nat) : Nat := if k < 4 then 12 else k / 4
theorem whH_lt {k : Nat} (h : k < 48) : whH k < 13 := by unfold whH; split <;> omega
theorem l04HourQ_any (k : Nat) (w : World) (hk : k < 48) : Calls Tryd.prog 11 #[.int .i64 k] w fun e w' => e = .returned (.int .i64 (whH k)) ∧ w = w' := by
  by_cases h : k < 4
  · have HW := hide (show whH k = 12 by rw [whH, if_pos h])
    have h1 : (k : Int) < 4 := by omega
    go_enter Tryd.func11, Tryd.ntmps11
    go_wp2
    go_ret
    exact ⟨by rw [HW.out]; rfl, rfl⟩
  · obtain ⟨H, hH⟩ : ∃ H : Nat, H = k / 4 := ⟨_, rfl⟩
    have HW := hide (show whH k = H by rw [whH, if_neg h, hH])
    have h1 : ¬ (k : Int) < 4 := by omega
    have h2 : (k : Int) / 4 = (H : Int) := by omega
    have h3 : (k : Int).tdiv 4 = (H : Int) := by rw [Int.tdiv_eq_ediv_of_nonneg (by omega)]; exact h2
    have h4 : IntKind.i64.wrap (H : Int) = (H : Int) := IntWalk.i64_in _ (by omega)
    clear hH
    go_enter Tryd.func11, Tryd.ntmps11
    go_wp2
    go_ret
    exact ⟨by rw [HW.out]; rfl, rfl⟩
/-- the texts of the quarters within an hour -/
def miT : List (List UInt8) := [[48, 48], [49, 53], [51, 48], [52, 53]]
/-- the text of a quarter -/
def qtL (k : Nat) : List UInt8 := Lib.decDigits (whH k) ++ 58 :: miT.getD (k % 4) []
def qtV (x : Int) : ByteArray := if inB x 0 47 = true then ⟨(qtL x.toNat).toArray⟩ else ⟨#[]⟩
theorem miT_len {r : Nat} (h : r < 4) : (miT.getD r []).length = 2 := by
  have hc : r = 0 ∨ r = 1 ∨ r = 2 ∨ r = 3 := by omega
  rcases hc with rfl | rfl | rfl | rfl <;> rfl
theorem ends_cell (w : World) {r : Nat} (h : r < 4) : (w.alloc (.cells #[.string ⟨#[58, 48, 48]⟩, .string ⟨#[58, 49, 53]⟩, .string ⟨#[58, 51, 48]⟩, .string ⟨#[58, 52, 53]⟩] 9)).cell? ⟨w.heap.size, r, none⟩ = some (.string ⟨(58 :: miT.getD r []).toArray⟩) := by
  have hB := heap_alloc_new w (.cells #[.string ⟨#[58, 48, 48]⟩, .string ⟨#[58, 49, 53]⟩, .string ⟨#[58, 51, 48]⟩, .string ⟨#[58, 52, 53]⟩] 9)
  have hc : r = 0 ∨ r = 1 ∨ r = 2 ∨ r = 3 := by omega
  rcases hc with rfl | rfl | rfl | rfl <;> (rw [cell_of_row _ _ _ _ _ _ hB]; rfl)
set_option maxRecDepth 20000 in
set_option maxHeartbeats 2000000 in
theorem specQuarterText_any (x : Int) (w : World) :
    Calls Tryd.prog 5 #[.int .i64 x] w fun e w' => e = .returned (.string (qtV x)) ∧ Below w.heap.size w w' := by
  cases hx : inB x 0 47
  · have KI : ∀ W, Calls Tryd.prog 9 #[.int .i64 x] W fun e w' => e = .returned (.bool false) ∧ W = w' := fun W => by rw [← hx]; exact l04Quarter_any x W
    have HV := hide (show qtV x = ⟨#[]⟩ by simp [qtV, hx])
    clear hx
    go_enter Tryd.func5, Tryd.ntmps5
    go_wp2_with (go_at_call 9; refine (KI _).mono ?_; rintro e w' ⟨rfl, rfl⟩)
    go_ret
    exact ⟨by rw [HV.out]; rfl, (Below.refl _ _).alloc (Nat.le_refl _) _⟩
  have KI : ∀ W, Calls Tryd.prog 9 #[.int .i64 x] W fun e w' => e = .returned (.bool true) ∧ W = w' := fun W => by rw [← hx]; exact l04Quarter_any x W
  have hr : 0 ≤ x ∧ x ≤ 47 := by simpa [inB] using hx
  obtain ⟨k, rfl⟩ := Int.eq_ofNat_of_zero_le hr.1
  have hk : k < 48 := by omega
  have HV : qtV (k : Int) = ⟨(qtL k).toArray⟩ := by rw [qtV, if_pos hx, Int.toNat_natCast]
  obtain ⟨r, hr'⟩ : ∃ r : Nat, r = k % 4 := ⟨_, rfl⟩
  have hr4 : r < 4 := by omega
  have q3 : (k : Int) % 4 = (r : Int) := by omega
  have q4 : (k : Int).tmod 4 = (r : Int) := by rw [Int.tmod_eq_emod_of_nonneg (by omega)]; exact q3
  have q6 : IntKind.i64.wrap (r : Int) = (r : Int) := IntWalk.i64_in _ (by omega)
  have qi1 : (0 : Int) ≤ (r : Int) := by omega
  have qi2 : (r : Int) < 4 := by omega
  have KH := fun W => l04HourQ_any k W hk
  have hh13 := whH_lt hk
  have hcat : (⟨(Lib.decDigits (whH k)).toArray⟩ ++ ⟨(58 :: miT.getD r []).toArray⟩ : ByteArray) = qtV (k : Int) := by
    rw [HV, qtL, ← hr']
    apply ByteArray.ext
    simp [ByteArray.data_append]
  have c1 := ends_cell w hr4
  have hdl : (Lib.decDigits (whH k)).length ≤ 9223372036854775804 := by have := dec_len (whH k); omega
  have hml : (58 :: miT.getD r []).length = 3 := by rw [List.length_cons, miT_len hr4]
  have KD := fun W (hW : Below w.heap.size w W) => Decimal_any (whH k) W (by omega)
  obtain ⟨h, hh⟩ : ∃ h, h = whH k := ⟨_, rfl⟩
  rw [← hh] at KH KD hcat hdl
  obtain ⟨ml, hmle⟩ : ∃ ml, ml = (58 :: miT.getD r [] : List UInt8) := ⟨_, rfl⟩
  rw [← hmle] at hml hcat c1
  obtain ⟨z, hz⟩ : ∃ z : ByteArray, z = ⟨ml.toArray⟩ := ⟨_, rfl⟩
  have hzl : z.size = 3 := by rw [hz]; simpa [ByteArray.size] using hml
  rw [← hz] at hcat c1
  have hcat := hide hcat
  clear hr hx HV hr' hh hh13 hmle hml hz
  go_enter Tryd.func5, Tryd.ntmps5
  go_upto_region 4 with (go_at_call 9; refine (KI _).mono ?_; rintro e w' ⟨rfl, rfl⟩)
  obtain ⟨X, hX⟩ : ∃ X, X = w.alloc (.cells #[.string ⟨#[58, 48, 48]⟩, .string ⟨#[58, 49, 53]⟩, .string ⟨#[58, 51, 48]⟩, .string ⟨#[58, 52, 53]⟩] 9) := ⟨_, rfl⟩
  have b0 : Below w.heap.size w X := by rw [hX]; exact (Below.refl _ _).alloc (Nat.le_refl _) _
  rw [← hX] at c1 ⊢
  clear hX
  have b1 : Below w.heap.size w X.drew := b0.drew
  refine wp_region_held_drew (S := fun Y => Y.cell? ⟨w.heap.size, r, none⟩ = some (.string z)) (by kernel_rfl) c1 fun hS => ?_
  generalize X.drew = W1 at *
  refine wpAnyH_take (i := 0) (v := .int .i64 k) rfl (by kernel_rfl) (by kernel_rfl) (by kernel_rfl) (fun _ _ _ h => h) (Or.inl ⟨by rfl, fun w' _ => by go_simp⟩) hS ?_
  change wpAnyH _ _ _ _ _ _ _ (Act.put _ (some 8) _) _
  simp only [Act.put, List.setIfInBounds_toArray, List.set_cons_zero, List.set_cons_succ]
  refine wpAnyH_take (i := 3) (v := .slice (some ⟨w.heap.size, 0, none⟩) 4 4) rfl (by kernel_rfl) (by kernel_rfl) (by kernel_rfl) (fun _ _ _ h => h) (Or.inl ⟨by rfl, fun w' _ => by go_simp⟩) hS ?_
  change wpAnyH _ _ _ _ _ _ _ (Act.put _ (some 11) _) _
  simp only [Act.put, List.setIfInBounds_toArray, List.set_cons_zero, List.set_cons_succ]
  refine wpAnyH_take (i := 4) (v := .int .i64 k) rfl (by kernel_rfl) (by kernel_rfl) (by kernel_rfl) (fun _ _ _ h => h) (Or.inl ⟨by rfl, fun w' _ => by go_simp⟩) hS ?_
  change wpAnyH _ _ _ _ _ _ _ (Act.put _ (some 12) _) _
  simp only [Act.put, List.setIfInBounds_toArray, List.set_cons_zero, List.set_cons_succ]
  refine wpAnyH_take (i := 5) (v := .int .i64 r) rfl (by kernel_rfl) (by kernel_rfl) (by kernel_rfl) (fun _ _ _ h => h) (Or.inl ⟨by rfl, fun w' _ => by go_simp⟩) hS ?_
  change wpAnyH _ _ _ _ _ _ _ (Act.put _ (some 13) _) _
  simp only [Act.put, List.setIfInBounds_toArray, List.set_cons_zero, List.set_cons_succ]
  refine wpAnyH_take (i := 6) (v := .pointer (some ⟨w.heap.size, r, none⟩)) rfl (by kernel_rfl) (by kernel_rfl) (by kernel_rfl) (fun _ _ _ h => h) (Or.inl ⟨by rfl, fun w' _ => by go_simp⟩) hS ?_
  change wpAnyH _ _ _ _ _ _ _ (Act.put _ (some 14) _) _
  simp only [Act.put, List.setIfInBounds_toArray, List.set_cons_zero, List.set_cons_succ]
  refine wpAnyH_take (i := 7) (v := .string z) rfl (by kernel_rfl) (by kernel_rfl) (by kernel_rfl) (fun _ _ _ h => h) (Or.inl ⟨by rfl, fun w' h => ?_⟩) hS ?_
  · have c0 := h
    clear h
    go_simp
  change wpAnyH _ _ _ _ _ _ _ (Act.put _ (some 15) _) _
  simp only [Act.put, List.setIfInBounds_toArray, List.set_cons_zero, List.set_cons_succ]
  refine wpAnyH_ready (rs := [1]) (by kernel_rfl) (by simp) (AllReadyH.cons rfl ?_ AllReadyH.nil)
  intro K hK
  rw [if_pos (by rfl)]
  go_simp
  refine (KH W1).mono ?_
  rintro e W2 ⟨rfl, rfl⟩
  refine hK.out _ _ hS (fun hS1 => ?_)
  clear hK K
  try (change wpAnyH _ _ _ _ _ _ _ (Act.put _ (some 9) _) _)
  try simp only [Act.put, List.setIfInBounds_toArray, List.set_cons_zero, List.set_cons_succ]
  refine wpAnyH_ready (rs := [2]) (by kernel_rfl) (by simp) (AllReadyH.cons rfl ?_ AllReadyH.nil)
  intro K hK
  rw [if_pos (by rfl)]
  go_simp
  refine (KD W1 b1).mono ?_
  rintro e W2 ⟨rfl, hbc⟩
  have b2 := step_below hbc b1
  refine hK.out _ _ ((hbc.cell (p := ⟨_, r, none⟩) (World.block_lt_of_cell? W1 _ hS)).trans hS) (fun hS2 => ?_)
  clear hK K
  try (change wpAnyH _ _ _ _ _ _ _ (Act.put _ (some 10) _) _)
  try simp only [Act.put, List.setIfInBounds_toArray, List.set_cons_zero, List.set_cons_succ]
  refine wpAnyH_take (i := 8) (v := .string (qtV k)) rfl (by kernel_rfl) (by kernel_rfl) (by kernel_rfl) (fun _ _ _ h => h) (Or.inl ⟨by rfl, fun w' _ => by go_simp; first | done | exact hcat.out | (rw [hcat.out])⟩) hS2 ?_
  change wpAnyH _ _ _ _ _ _ _ (Act.put _ (some 16) _) _
  simp only [Act.put, List.setIfInBounds_toArray, List.set_cons_zero, List.set_cons_succ]
  refine wpAnyH_take (i := 9) (v := .string (qtV k)) rfl (by kernel_rfl) (by kernel_rfl) (by kernel_rfl) (fun _ _ _ h => h) (Or.inl ⟨by rfl, fun w' _ => by go_simp⟩) hS2 ?_
  change wpAnyH _ _ _ _ _ _ _ (Act.put _ (some 2) _) _
  simp only [Act.put, List.setIfInBounds_toArray, List.set_cons_zero, List.set_cons_succ]
  refine wpAnyH_done (by kernel_rfl) ?_ _
  go_wp2
  go_ret
  exact ⟨rfl, b2⟩
end Go.Proofs.YtbneonmnjpiggaaDoor
