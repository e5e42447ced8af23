import Derived.Test.YtdglhgfhlcdflaaDoorGat
namespace Go.Proofs.YtdglhgfhlcdflaaDoor
open Go.RowKit

theorem okB_eq (l : List (Int × Int)) : okB l = (decide (l.length ≤ 120) && rangeB l && ascB l) := by
  have : (List.range l.length).all (good l) = (rangeB l && ascB l) := by
    rw [Bool.eq_iff_iff]
    simp only [good, rangeB, ascB, List.all_eq_true, List.mem_range, Bool.and_eq_true]
    exact ⟨fun h => ⟨fun j hj => (h j hj).1, fun j hj => (h j hj).2⟩, fun h j hj => ⟨h.1 j hj, h.2 j hj⟩⟩
  rw [okB, this, Bool.and_comm, Bool.and_assoc]

set_option maxHeartbeats 400000 in
theorem implValid_any (A : Option Addr) (c : Nat) (l : List (Int × Int)) (w : World) (hA : NA w A l) (hn : l.length ≤ 1048576) (hwf : WF l) :
    Calls Tryd.prog 51 #[.slice A l.length c] w (Says (okB l) w) := by
  have HO := hide (okB_eq l)
  have hW0 : Below w.heap.size w (w.alloc (.cells #[.func (.func 73) #[] #[], .func (.func 74) #[] #[], .func (.func 75) #[] #[]] 93)) := (Below.refl _ _).alloc (Nat.le_refl _) _
  go_enter Tryd.func51, Tryd.ntmps51
  go_wp2_with fail
  go_loopw [9] (fun i wr => ∃ k : Nat, k ≤ 3 ∧ i = .int .i64 k ∧ (0 < k → decide (l.length ≤ 120) = true) ∧ (1 < k → rangeB l = true) ∧ (2 < k → ascB l = true) ∧
      wr.cell? ⟨w.heap.size, 0, none⟩ = some (.func (.func 73) #[] #[]) ∧ wr.cell? ⟨w.heap.size, 1, none⟩ = some (.func (.func 74) #[] #[]) ∧ wr.cell? ⟨w.heap.size, 2, none⟩ = some (.func (.func 75) #[] #[]) ∧ Below w.heap.size w wr)
    (fun i _ => 4 - (intOf i).toNat)
  case atStart =>
    exact ⟨0, by omega, rfl, fun h => absurd h (by omega), fun h => absurd h (by omega), fun h => absurd h (by omega), by simp [go_sem], by simp [go_sem], by simp [go_sem], hW0⟩
  case round =>
    obtain ⟨k, hk, rfl, e1, e2, e3, f1, f2, f3, hb⟩ := hrel
    have E1 := hide e1
    have E2 := hide e2
    have E3 := hide e3
    clear e1 e2 e3
    have hs := hb.size
    have l1 := World.block_lt_of_cell? wr _ f1
    match k, hk with
    | 0, _ =>
      go_wp2_with (go_at_call 73; refine (isShort_any A l.length c hn _).mono ?_; rintro e w2 ⟨rfl, rfl⟩)
      · go_ret
        exact ⟨ret_bool (by rw [HO.out, Bool.not_eq_true' _ |>.mp ‹(!decide (l.length ≤ 120)) = true›]; rfl), hb⟩
      · go_roundw
        case rel => exact ⟨1, by omega, by go_num, fun _ => Bool.not_eq_false' _ |>.mp ‹(!decide (l.length ≤ 120)) = false›, fun h => absurd h (by omega), fun h => absurd h (by omega), f1, f2, f3, hb⟩
        case measure => simp [intOf]
    | 1, _ =>
      go_wp2_with (go_at_call 74; refine (isInRange_any A c l _ (hA.below hb) hn hwf).mono ?_; rintro e w2 ⟨rfl, hb2⟩)
      · go_ret
        exact ⟨ret_bool (by rw [HO.out, show rangeB l = false by simpa using ‹(!rangeB l) = true›]; simp), hb.trans (hb2.mono hs)⟩
      · go_roundw
        case rel => exact ⟨2, by omega, by go_num, fun _ => E1.out (by omega), fun _ => by simpa using ‹(!rangeB l) = false›, fun h => absurd h (by omega), (hb2.cell (p := ⟨_, _, none⟩) l1).trans f1, (hb2.cell (p := ⟨_, _, none⟩) l1).trans f2, (hb2.cell (p := ⟨_, _, none⟩) l1).trans f3, hb.trans (hb2.mono hs)⟩
        case measure => simp [intOf]
    | 2, _ =>
      go_wp2_with (go_at_call 75; refine (ascends_any A c l _ (hA.below hb) hn).mono ?_; rintro e w2 ⟨rfl, hb2⟩)
      · go_ret
        exact ⟨ret_bool (by rw [HO.out, show ascB l = false by simpa using ‹(!ascB l) = true›]; simp), hb.trans (hb2.mono hs)⟩
      · go_roundw
        case rel => exact ⟨3, by omega, by go_num, fun _ => E1.out (by omega), fun _ => E2.out (by omega), fun _ => by simpa using ‹(!ascB l) = false›, (hb2.cell (p := ⟨_, _, none⟩) l1).trans f1, (hb2.cell (p := ⟨_, _, none⟩) l1).trans f2, (hb2.cell (p := ⟨_, _, none⟩) l1).trans f3, hb.trans (hb2.mono hs)⟩
        case measure => simp [intOf]
    | 3, _ =>
      go_wp2
      go_ret
      exact ⟨ret_bool (by rw [HO.out, E1.out (by omega), E2.out (by omega), E3.out (by omega)]; rfl), hb⟩

end Go.Proofs.YtdglhgfhlcdflaaDoor
namespace Go.Proofs.YtdglhgfhlcdflaaDoor
open Go.RowKit


def lenI (l : List (Int × Int)) : Int := if l.length = 0 then 0 else nAt l (l.length - 1) + 1
theorem lenI_zero (l : List (Int × Int)) (h : l.length = 0) : lenI l = 0 := by rw [lenI, if_pos h]
theorem lenI_pos (l : List (Int × Int)) (h : 0 < l.length) : lenI l = nAt l (l.length - 1) + 1 := by rw [lenI, if_neg (by omega)]

theorem specLength_any (A : Option Addr) (c : Nat) (l : List (Int × Int)) (w : World) (hA : NA w A l) (hn : l.length ≤ 1048576) (hwf : WF l) :
    Calls Tryd.prog 45 #[.slice A l.length c] w fun e w' => e = .returned (.int .i64 (lenI l)) ∧ w = w' := by
  by_cases h0 : l.length = 0
  · have H := hide (lenI_zero l h0)
    have h1 : ((l.length : Int) == 0) = true := by simp [h0]
    have h2 : (l.length == 0) = true := by simp [h0]
    clear h0
    go_enter Tryd.func45, Tryd.ntmps45
    go_wp2
    all_goals go_ret
    all_goals exact ⟨ret_int H.out.symm, rfl⟩
  · have H := hide (lenI_pos l (by omega))
    have h1 : ((l.length : Int) == 0) = false := by simpa using h0
    have h2 : (l.length == 0) = false := by simpa using h0
    obtain ⟨b, o, rfl, hbb, c1, c2⟩ := hA (l.length - 1) (by omega)
    obtain ⟨⟨e1, e2⟩, _, _⟩ := hwf (l.length - 1) (by omega)
    have s2 : (0 : Int) ≤ (l.length : Int) - 1 := by omega
    have s3 : (1 : Int) ≤ (l.length : Int) := by omega
    have s4 : ((l.length : Int) - 1).toNat = l.length - 1 := by omega
    clear h0 hA hwf
    go_enter Tryd.func45, Tryd.ntmps45
    go_wp2
    all_goals go_ret
    all_goals exact ⟨ret_int H.out.symm, rfl⟩
theorem implLength_any (A : Option Addr) (c : Nat) (l : List (Int × Int)) (w : World) (hA : NA w A l) (hn : l.length ≤ 1048576) (hwf : WF l) :
    Calls Tryd.prog 52 #[.slice A l.length c] w fun e w' => e = .returned (.int .i64 (lenI l)) ∧ w = w' := by
  by_cases h0 : l.length = 0
  · have H := hide (lenI_zero l h0)
    have h1 : ((l.length : Int) == 0) = true := by simp [h0]
    have h2 : (l.length == 0) = true := by simp [h0]
    clear h0
    go_enter Tryd.func52, Tryd.ntmps52
    go_wp2
    all_goals go_ret
    all_goals exact ⟨ret_int H.out.symm, rfl⟩
  · have H := hide (lenI_pos l (by omega))
    have h1 : ((l.length : Int) == 0) = false := by simpa using h0
    have h2 : (l.length == 0) = false := by simpa using h0
    obtain ⟨b, o, rfl, hbb, c1, c2⟩ := hA (l.length - 1) (by omega)
    obtain ⟨⟨e1, e2⟩, _, _⟩ := hwf (l.length - 1) (by omega)
    have s2 : (0 : Int) ≤ (l.length : Int) - 1 := by omega
    have s3 : (1 : Int) ≤ (l.length : Int) := by omega
    have s4 : ((l.length : Int) - 1).toNat = l.length - 1 := by omega
    clear h0 hA hwf
    go_enter Tryd.func52, Tryd.ntmps52
    go_wp2
    all_goals go_ret
    all_goals exact ⟨ret_int H.out.symm, rfl⟩
end Go.Proofs.YtdglhgfhlcdflaaDoor
