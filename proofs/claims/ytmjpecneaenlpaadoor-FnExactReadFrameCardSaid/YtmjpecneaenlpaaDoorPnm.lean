import Derived.Test.YtmjpecneaenlpaaDoorGah
import Derived.Test.YtmjpecneaenlpaaDoorSda
import Derived.IntWalk
import Derived.BigQuiet
import Derived.Laws.Concat
import Derived.Laws.IdiomStrings
namespace Go.Proofs.YtmjpecneaenlpaaDoor
open Go.RowKit

/-- the names of the half steps -/
def hsT : List (List UInt8) := [[99], [99, 35], [100], [100, 35], [101], [102], [102, 35], [103], [103, 35], [97], [97, 35], [98]]
def hsB (j : Nat) : ByteArray := ⟨(hsT.getD j []).toArray⟩
def ocB (q : Nat) : ByteArray := ⟨#[UInt8.ofNat (48 + q)]⟩
def pnV (x : Int) : ByteArray := if inB x 0 47 = true then hsB (x.toNat % 12) ++ ocB (x.toNat / 12) else ⟨#[]⟩
def StpW (w : World) : Prop := ∀ j, j < 12 → w.cell? ⟨0, j, none⟩ = some (.string (hsB j))

set_option maxRecDepth 20000 in
set_option maxHeartbeats 2000000 in
theorem fmt_any (x : Int) (hx : x = 0 ∨ x = 1 ∨ x = 2 ∨ x = 3) (w : World) :
    Calls Tryd.prog 58 #[.int .i64 x, .int .i64 10] w fun e w' => e = .returned (.string (ocB x.toNat)) ∧ w = w' := by
  have KS : ∀ W, Calls Tryd.prog 110 #[.int .i64 x] W fun e w' => e = .returned (.string (ocB x.toNat)) ∧ W = w' := fun W => by
    go_enter Tryd.func110, Tryd.ntmps110
    rcases hx with rfl | rfl | rfl | rfl
    all_goals
      go_wp2
      go_ret
      exact ⟨rfl, rfl⟩
  have KF : ∀ W, Calls Tryd.prog 82 #[.int .i64 x, .int .i64 10] W fun e w' => e = .returned (.string (ocB x.toNat)) ∧ W = w' := fun W => by
    go_enter Tryd.func82, Tryd.ntmps82
    rcases hx with rfl | rfl | rfl | rfl
    all_goals
      go_wp2_with (go_at_call 110; refine (KS _).mono ?_; rintro e w' ⟨rfl, rfl⟩)
      go_ret
      exact ⟨rfl, rfl⟩
  go_enter Tryd.func58, Tryd.ntmps58
  go_wp2_with (go_at_call 82; refine (KF _).mono ?_; rintro e w' ⟨rfl, rfl⟩)
  go_ret
  exact ⟨rfl, rfl⟩

theorem back1 (w : World) (b : UInt8) : (convert 117 9 (.slice (some ⟨w.heap.size, 0, none⟩) 1 1)).run Tryd.prog (w.alloc (.cells #[.int .u8 (b.toNat : Int)] 5)) = .ok (.string ⟨#[b]⟩) (w.alloc (.cells #[.int .u8 (b.toNat : Int)] 5)) :=
  run_convert_bytes_back _ 117 9 5 ⟨w.heap.size, 0, none⟩ 1 [b] Tryd.underlying117 Tryd.underlying5 Tryd.underlying9 (fun j hj => by
    obtain rfl : j = 0 := by simpa using hj
    rw [Addr.add_mid, cell_of_row _ _ _ _ _ _ (heap_alloc_new _ _)]
    rfl)
set_option maxRecDepth 20000 in
set_option maxHeartbeats 2000000 in
theorem dec_any (x : Int) (hx : x = 0 ∨ x = 1 ∨ x = 2 ∨ x = 3) (w : World) :
    Calls Tryd.prog 74 #[.int .i64 x] w fun e w' => e = .returned (.string (ocB x.toNat)) ∧ Below w.heap.size w w' := by
  have b0 : (convert 117 9 (.slice (some ⟨w.heap.size, 0, none⟩) 1 1)).run Tryd.prog (w.alloc (.cells #[.int .u8 48] 5)) = .ok (.string ⟨#[48]⟩) (w.alloc (.cells #[.int .u8 48] 5)) := back1 w 48
  have b1 : (convert 117 9 (.slice (some ⟨w.heap.size, 0, none⟩) 1 1)).run Tryd.prog (w.alloc (.cells #[.int .u8 49] 5)) = .ok (.string ⟨#[49]⟩) (w.alloc (.cells #[.int .u8 49] 5)) := back1 w 49
  have b2 : (convert 117 9 (.slice (some ⟨w.heap.size, 0, none⟩) 1 1)).run Tryd.prog (w.alloc (.cells #[.int .u8 50] 5)) = .ok (.string ⟨#[50]⟩) (w.alloc (.cells #[.int .u8 50] 5)) := back1 w 50
  have b3 : (convert 117 9 (.slice (some ⟨w.heap.size, 0, none⟩) 1 1)).run Tryd.prog (w.alloc (.cells #[.int .u8 51] 5)) = .ok (.string ⟨#[51]⟩) (w.alloc (.cells #[.int .u8 51] 5)) := back1 w 51
  go_enter Tryd.func74, Tryd.ntmps74
  rcases hx with rfl | rfl | rfl | rfl
  all_goals
    go_wp2
    go_ret
    exact ⟨rfl, (Below.refl _ _).alloc (Nat.le_refl _) _⟩
theorem hs_row (w : World) (r : Nat) (hr : r < 12) : (w.alloc (.cells #[.string ⟨#[99]⟩, .string ⟨#[99, 35]⟩, .string ⟨#[100]⟩, .string ⟨#[100, 35]⟩, .string ⟨#[101]⟩, .string ⟨#[102]⟩, .string ⟨#[102, 35]⟩, .string ⟨#[103]⟩, .string ⟨#[103, 35]⟩, .string ⟨#[97]⟩, .string ⟨#[97, 35]⟩, .string ⟨#[98]⟩] 9)).cell? ⟨w.heap.size, r, none⟩ = some (.string (hsB r)) := by
  rw [cell_of_row _ _ _ _ _ _ (heap_alloc_new _ _)]
  match r, hr with
  | 0, _ | 1, _ | 2, _ | 3, _ | 4, _ | 5, _ | 6, _ | 7, _ | 8, _ | 9, _ | 10, _ | 11, _ => rfl
theorem hs_sz (r : Nat) (hr : r < 12) : ((hsB r).size : Int) ≤ 8388608 := by
  match r, hr with
  | 0, _ | 1, _ | 2, _ | 3, _ | 4, _ | 5, _ | 6, _ | 7, _ | 8, _ | 9, _ | 10, _ | 11, _ => decide
theorem oc_sz (q : Nat) : ((ocB q).size : Int) ≤ 8388608 := by
  show ((1 : Nat) : Int) ≤ 8388608
  omega
theorem ocq (q : Nat) (hq : q < 4) : (q : Int) = 0 ∨ (q : Int) = 1 ∨ (q : Int) = 2 ∨ (q : Int) = 3 := by omega

set_option maxRecDepth 20000 in
set_option maxHeartbeats 2000000 in
theorem l01Name_any (x : Int) (q r : Nat) (hx : x = 12 * (q : Int) + (r : Int)) (hq : q < 4) (hr : r < 12) (w : World) :
    Calls Tryd.prog 51 #[.int .i64 x] w fun e w' => e = .returned (.string (hsB r ++ ocB q)) ∧ Below w.heap.size w w' := by
  have hrem : x.tmod 12 = (r : Int) := by rw [Int.tmod_eq_emod_of_nonneg (by omega)]; omega
  have hquo : x.tdiv 12 = (q : Int) := by rw [Int.tdiv_eq_ediv_of_nonneg (by omega)]; omega
  have hal : Below w.heap.size w (w.alloc (.cells #[.string ⟨#[99]⟩, .string ⟨#[99, 35]⟩, .string ⟨#[100]⟩, .string ⟨#[100, 35]⟩, .string ⟨#[101]⟩, .string ⟨#[102]⟩, .string ⟨#[102, 35]⟩, .string ⟨#[103]⟩, .string ⟨#[103, 35]⟩, .string ⟨#[97]⟩, .string ⟨#[97, 35]⟩, .string ⟨#[98]⟩] 9)) := (Below.refl _ _).alloc (Nat.le_refl _) _
  have c1 := Later.cell (hs_row w r hr)
  have hri : (r : Int) < 12 := by omega
  have hz1 := hs_sz r hr
  have hz2 := oc_sz q
  have hwq : IntKind.i64.wrap (q : Int) = (q : Int) := IntWalk.i64_in _ (by omega)
  have KD : ∀ W, Calls Tryd.prog 74 #[.int .i64 (q : Int)] W fun e w' => e = .returned (.string (ocB q)) ∧ Below W.heap.size W w' := fun W => dec_any q (ocq q hq) W
  have HX := hide hx
  clear hx
  go_enter Tryd.func51, Tryd.ntmps51
  go_wp2_with fail
  refine wp_region_later (by kernel_rfl) (by kernel_rfl) ?_
  repeat (go_big_quiet_step ((go_at_call 74; with_reducible exact Later.call (KD _))))
  refine wpQuiet_nil ?_
  rintro wz ⟨⟨_, hq2⟩, rfl⟩
  go_wp2
  go_ret
  exact ⟨rfl, hal.trans (hq2.mono hal.size)⟩

set_option maxRecDepth 20000 in
set_option maxHeartbeats 2000000 in
theorem implPitchName_any (x : Int) (w : World) (hT : StpW w) :
    Calls Tryd.prog 59 #[.int .i64 x] w fun e w' => e = .returned (.string (pnV x)) ∧ w = w' := by
  go_enter Tryd.func59, Tryd.ntmps59
  cases hx : inB x 0 47
  · have KI : ∀ W, Calls Tryd.prog 83 #[.int .i64 x, .int .i64 0, .int .i64 47] W fun e w' => e = .returned (.bool false) ∧ W = w' := fun W => by rw [← hx]; exact within_any x 0 47 W
    have HV := hide (show pnV x = ⟨#[]⟩ by simp [pnV, hx])
    clear hx
    go_wp2_with (go_at_call 83; refine (KI _).mono ?_; rintro e w' ⟨rfl, rfl⟩)
    go_ret
    exact ⟨by rw [HV.out]; rfl, rfl⟩
  · have KI : ∀ W, Calls Tryd.prog 83 #[.int .i64 x, .int .i64 0, .int .i64 47] W fun e w' => e = .returned (.bool true) ∧ W = w' := fun W => by rw [← hx]; exact within_any x 0 47 W
    have hr : 0 ≤ x ∧ x ≤ 47 := by simpa [inB] using hx
    obtain ⟨q, hqd⟩ : ∃ q, x.toNat / 12 = q := ⟨_, rfl⟩
    obtain ⟨r, hrd⟩ : ∃ r, x.toNat % 12 = r := ⟨_, rfl⟩
    have HV := hide (show pnV x = hsB r ++ ocB q by simp [pnV, hx, hqd, hrd])
    have hq4 : q < 4 := by omega
    have hr12 : r < 12 := by omega
    have hxx : x = 12 * (q : Int) + (r : Int) := by omega
    have hrem : x.tmod 12 = (r : Int) := by rw [Int.tmod_eq_emod_of_nonneg (by omega)]; omega
    have hquo : x.tdiv 12 = (q : Int) := by rw [Int.tdiv_eq_ediv_of_nonneg (by omega)]; omega
    have hwq : IntKind.i64.wrap (q : Int) = (q : Int) := IntWalk.i64_in _ (by omega)
    have hri : (r : Int) < 12 := by omega
    have hz1 := hs_sz r hr12
    have hz2 := oc_sz q
    have c1 := hT r hr12
    have KF : ∀ W, Calls Tryd.prog 58 #[.int .i64 (q : Int), .int .i64 10] W fun e w' => e = .returned (.string (ocB q)) ∧ W = w' := fun W => fmt_any q (ocq q hq4) W
    clear hr hx hqd hrd hxx
    go_wp2_with (first | (go_at_call 83; refine (KI _).mono ?_; rintro e w' ⟨rfl, rfl⟩) | (go_at_call 58; refine (KF _).mono ?_; rintro e w' ⟨rfl, rfl⟩))
    go_ret
    exact ⟨by rw [HV.out]; rfl, rfl⟩

theorem StpW.below {w w' : World} (h : StpW w) (hb : Below w.heap.size w w') : StpW w' := fun j hj => (hb.cell (p := ⟨_, j, none⟩) (World.block_lt_of_cell? w _ (h j hj))).trans (h j hj)
theorem pnV_len (x : Int) : (pnV x).data.toList.length ≤ 3 := by
  unfold pnV
  split
  · have hr : x.toNat % 12 < 12 := by omega
    generalize x.toNat % 12 = r at *
    rw [ByteArray.data_append]
    match r, hr with
    | 0, _ | 1, _ | 2, _ | 3, _ | 4, _ | 5, _ | 6, _ | 7, _ | 8, _ | 9, _ | 10, _ | 11, _ => simp [hsB, hsT, ocB]
  · simp
theorem l01Name_in (x : Int) (hx : 0 ≤ x ∧ x ≤ 47) (w : World) :
    Calls Tryd.prog 51 #[.int .i64 x] w fun e w' => e = .returned (.string (pnV x)) ∧ Below w.heap.size w w' := by
  have h := l01Name_any x (x.toNat / 12) (x.toNat % 12) (by omega) (by omega) (by omega) w
  have hV : pnV x = hsB (x.toNat % 12) ++ ocB (x.toNat / 12) := by unfold pnV; rw [if_pos (by simp [inB]; omega)]
  rw [hV]
  exact h
end Go.Proofs.YtmjpecneaenlpaaDoor
