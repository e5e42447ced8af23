import Derived.Test.YtcepjiglhlmgdaaGreatDoorGat
import Derived.Test.YtcepjiglhlmgdaaGreatDoorGau
import Derived.Test.YtcepjiglhlmgdaaGreatDoorFree
namespace Go.Proofs.YtcepjiglhlmgdaaGreatDoor
open Go.RowKit
/-- whether a choice's pin has a free place, and the drum behind it -/
def plO (S : Nat) (hl : List (Int × Int)) (d : Nat → Int) (a : Int) (x : Bool × Int × Int × Int) : Bool := x.1 || freeB S d (hRe hl x.2.2.2.toNat).toNat (a + x.2.1).toNat x.2.2.2.toNat
def plN (d : Nat → Int) (a : Int) (x : Bool × Int × Int × Int) : Nat → Int := if x.1 then d else togD d (a + x.2.1).toNat x.2.2.2.toNat
def plD (S : Nat) (hl : List (Int × Int)) (d : Nat → Int) (a : Int) (x : Bool × Int × Int × Int) : Nat → Int := if plO S hl d a x then plN d a x else fun _ => 0
theorem chS_in {S a p : Int} {hl : List (Int × Int)} {x : Bool × Int × Int × Int} (h : x ∈ chS S hl a p) (hx : x.1 = false) : ((-3 ≤ x.2.1 ∧ x.2.1 ≤ 3) ∧ (-1 ≤ x.2.2.1 ∧ x.2.2.1 ≤ 1)) ∧ (0 ≤ a + x.2.1 ∧ a + x.2.1 < S) ∧ (0 ≤ x.2.2.2 ∧ x.2.2.2 < hl.length) := by
  rw [chS, List.mem_append] at h
  rcases h with h | h
  · rw [chF, List.mem_flatMap] at h
    obtain ⟨m, hm, h⟩ := h
    have h1 := mvS_in hm
    unfold chR at h
    split at h
    · rename_i hi
      rw [List.mem_map] at h
      obtain ⟨t, ht, rfl⟩ := h
      have h2 := trk_lt ht
      simp [inB] at hi
      dsimp only
      omega
    · cases h
  · rw [List.mem_singleton] at h
    rw [h] at hx
    cases hx
set_option maxHeartbeats 2000000 in
set_option maxRecDepth 20000 in
theorem placed_any (S : Nat) (A : Option Addr) (c : Nat) (hl : List (Int × Int)) (d : Nat → Int) (a p : Int) (xa : Bool) (xl xo xt : Int) (w : World) (ha : 0 ≤ a ∧ a ≤ 199) (hp : 0 ≤ p ∧ p ≤ 47) (hSb : 2 ≤ S ∧ S ≤ 96) (hA : HA w A hl) (hn : hl.length ≤ 24) (hg : HG S hl hl.length) (hd : DWF d) (hx : (xa, xl, xo, xt) ∈ chS S hl a p) :
    Calls Tryz.prog 40 #[.agg #[.int .i64 S, .slice A hl.length c], .agg (da d), .agg #[.int .i16 a, .int .i8 p], .agg #[.bool xa, .int .i8 xl, .int .i8 xo, .int .i8 xt]] w fun e w' => e = .returned (.tuple #[.agg (da (plD S hl d a (xa, xl, xo, xt))), .bool (plO S hl d a (xa, xl, xo, xt))]) ∧ Below w.heap.size w w' := by
  have hz := zeroDrum
  obtain ⟨X, hX⟩ : ∃ X, X = ((((w.alloc (.cells #[.int .i64 S, .slice A hl.length c] 93)).alloc (.cells (da d) 53)).alloc (.cells #[.int .i16 a, .int .i8 p] 59)).alloc (.cells #[.bool xa, .int .i8 xl, .int .i8 xo, .int .i8 xt] 63)).alloc (.cells za 53) := ⟨_, rfl⟩
  have b0 : Below w.heap.size w X := by rw [hX]; exact (((((Below.refl _ _).alloc (Nat.le_refl _) _).alloc (by simp) _).alloc (by simp; omega) _).alloc (by simp; omega) _).alloc (by simp; omega) _
  have R1 : X.heap[w.heap.size]? = some (.cells #[.int .i64 S, .slice A hl.length c] 93 (0, 0)) := by rw [hX]; exact heap_old' (heap_old' (heap_old' (heap_old' (heap_new' _ _ _ rfl))))
  have D1 : Dr X (w.heap.size + 1) 53 d := by rw [hX]; exact heap_old' (heap_old' (heap_old' (heap_new' _ _ _ (by simp))))
  have R2 : X.heap[w.heap.size + 1 + 1]? = some (.cells #[.int .i16 a, .int .i8 p] 59 (0, 0)) := by rw [hX]; exact heap_old' (heap_old' (heap_new' _ _ _ (by simp)))
  have R3 : X.heap[w.heap.size + 1 + 1 + 1]? = some (.cells #[.bool xa, .int .i8 xl, .int .i8 xo, .int .i8 xt] 63 (0, 0)) := by rw [hX]; exact heap_old' (heap_new' _ _ _ (by simp))
  have D4 : Dr X (w.heap.size + 1 + 1 + 1 + 1) 53 (fun _ => 0) := by rw [hX, za_eq]; exact heap_new' _ _ _ (by simp)
  have x0 := cell_of_row _ _ 0 _ _ _ R3
  simp at x0
  have HX := hide hX
  clear hX
  cases xa
  · obtain ⟨⟨h1, h2⟩, ⟨h3, h4⟩, h5, h6⟩ := chS_in hx rfl
    dsimp only at h1 h2 h3 h4 h5 h6
    have n0 := cell_of_row _ _ 0 _ _ _ R2
    have n1 := cell_of_row _ _ 1 _ _ _ R2
    have x1 := cell_of_row _ _ 1 _ _ _ R3
    have x2 := cell_of_row _ _ 2 _ _ _ R3
    have x3 := cell_of_row _ _ 3 _ _ _ R3
    simp at n0 n1 x1 x2 x3
    have KB := fun W => noteBy_any a p false xl xo xt W ha hp h1 h2
    have w1 : IntKind.i64.wrap (a + xl) = a + xl := IntWalk.i64_in _ (by omega)
    have w2 : IntKind.i64.wrap xt = xt := IntWalk.i64_in _ (by omega)
    obtain ⟨st, hst⟩ : ∃ st : Nat, a + xl = (st : Int) := ⟨(a + xl).toNat, by omega⟩
    obtain ⟨tk, htk⟩ : ∃ tk : Nat, xt = (tk : Int) := ⟨xt.toNat, by omega⟩
    have HPO := hide (show plO S hl d a (false, xl, xo, xt) = freeB S d (hRe hl tk).toNat st tk by simp [plO, hst, htk])
    have HPN := hide (show plN d a (false, xl, xo, xt) = togD d st tk by simp [plN, hst, htk])
    have HPD := hide (show plD S hl d a (false, xl, xo, xt) = if plO S hl d a (false, xl, xo, xt) then plN d a (false, xl, xo, xt) else fun _ => 0 from rfl)
    have HST := hide hst
    have HTK := hide htk
    have hkS : st < S := by omega
    have htH : tk < hl.length := by omega
    clear hst htk hx
    go_enter Tryz.func40, Tryz.ntmps40
    go_upto_region 1 with fail
    rw [← HX.out]
    go_upto_region 3 with fail
    have b1 : Below w.heap.size w X.drew := b0.drew
    have hXd : Below X.heap.size X X.drew := (Below.refl _ _).drew
    have R1d := (hXd.block _ (Array.getElem?_eq_some_iff.1 R1).1).trans R1
    have D1d := D1.keep hXd
    have D4d := D4.keep hXd
    have Ad := (hA.below b0).below hXd
    refine wp_region_held_drew (S := fun Y => Y.cell? ⟨w.heap.size + 1 + 1, 0, none⟩ = some (.int .i16 a) ∧ Y.cell? ⟨w.heap.size + 1 + 1, 1, none⟩ = some (.int .i8 p) ∧ Y.cell? ⟨w.heap.size + 1 + 1 + 1, 0, none⟩ = some (.bool false) ∧ Y.cell? ⟨w.heap.size + 1 + 1 + 1, 1, none⟩ = some (.int .i8 xl) ∧ Y.cell? ⟨w.heap.size + 1 + 1 + 1, 2, none⟩ = some (.int .i8 xo) ∧ Y.cell? ⟨w.heap.size + 1 + 1 + 1, 3, none⟩ = some (.int .i8 xt)) (by kernel_rfl) ⟨n0, n1, x0, x1, x2, x3⟩ fun hS => ?_
    clear R1 R2 R3 D1 D4 hA n0 n1 x0 x1 x2 x3 hXd HX
    generalize X.drew = W1 at *
    refine wpAnyH_take (i := 0) (v := .agg #[.int .i16 a, .int .i8 p]) rfl (by kernel_rfl) (by kernel_rfl) (by kernel_rfl) (fun _ _ _ h => h) (Or.inl ⟨by rfl, fun w' h => ?_⟩) hS ?_
    · have c0 := h.1
      have c1 := h.2.1
      have c2 := h.2.2.1
      have c3 := h.2.2.2.1
      have c4 := h.2.2.2.2.1
      have c5 := h.2.2.2.2.2
      clear h
      go_simp
    change wpAnyH _ _ _ _ _ _ _ (Act.put _ (some 15) _) _
    simp only [Act.put, List.setIfInBounds_toArray, List.set_cons_zero, List.set_cons_succ]
    refine wpAnyH_take (i := 1) (v := .agg #[.bool false, .int .i8 xl, .int .i8 xo, .int .i8 xt]) rfl (by kernel_rfl) (by kernel_rfl) (by kernel_rfl) (fun _ _ _ h => h) (Or.inl ⟨by rfl, fun w' h => ?_⟩) hS ?_
    · have c0 := h.1
      have c1 := h.2.1
      have c2 := h.2.2.1
      have c3 := h.2.2.2.1
      have c4 := h.2.2.2.2.1
      have c5 := h.2.2.2.2.2
      clear h
      go_simp
    change wpAnyH _ _ _ _ _ _ _ (Act.put _ (some 16) _) _
    simp only [Act.put, List.setIfInBounds_toArray, List.set_cons_zero, List.set_cons_succ]
    refine wpAnyH_take (i := 5) (v := .pointer (some ⟨w.heap.size + 1 + 1 + 1, 3, none⟩)) rfl (by kernel_rfl) (by kernel_rfl) (by kernel_rfl) (fun _ _ _ h => h) (Or.inl ⟨by rfl, fun w' _ => by go_simp⟩) hS ?_
    change wpAnyH _ _ _ _ _ _ _ (Act.put _ (some 20) _) _
    simp only [Act.put, List.setIfInBounds_toArray, List.set_cons_zero, List.set_cons_succ]
    refine wpAnyH_take (i := 6) (v := .int .i8 xt) rfl (by kernel_rfl) (by kernel_rfl) (by kernel_rfl) (fun _ _ _ h => h) (Or.inl ⟨by rfl, fun w' h => ?_⟩) hS ?_
    · have c0 := h.1
      have c1 := h.2.1
      have c2 := h.2.2.1
      have c3 := h.2.2.2.1
      have c4 := h.2.2.2.2.1
      have c5 := h.2.2.2.2.2
      clear h
      go_simp
    change wpAnyH _ _ _ _ _ _ _ (Act.put _ (some 21) _) _
    simp only [Act.put, List.setIfInBounds_toArray, List.set_cons_zero, List.set_cons_succ]
    refine wpAnyH_take (i := 7) (v := .int .i64 xt) rfl (by kernel_rfl) (by kernel_rfl) (by kernel_rfl) (fun _ _ _ h => h) (Or.inl ⟨by rfl, fun w' _ => by go_simp⟩) hS ?_
    change wpAnyH _ _ _ _ _ _ _ (Act.put _ (some 22) _) _
    simp only [Act.put, List.setIfInBounds_toArray, List.set_cons_zero, List.set_cons_succ]
    refine wpAnyH_ready (rs := [2]) (by kernel_rfl) (by simp) (AllReadyH.cons rfl ?_ AllReadyH.nil)
    intro K hK
    rw [if_pos (by rfl)]
    go_simp
    refine (KB W1).mono ?_
    rintro e W2 ⟨rfl, hbc1⟩
    have b2 := step_below hbc1 b1
    refine hK.out _ _ ⟨(hbc1.cell (p := ⟨_, _, none⟩) (World.block_lt_of_cell? _ _ hS.1)).trans hS.1, (hbc1.cell (p := ⟨_, _, none⟩) (World.block_lt_of_cell? _ _ hS.2.1)).trans hS.2.1, (hbc1.cell (p := ⟨_, _, none⟩) (World.block_lt_of_cell? _ _ hS.2.2.1)).trans hS.2.2.1, (hbc1.cell (p := ⟨_, _, none⟩) (World.block_lt_of_cell? _ _ hS.2.2.2.1)).trans hS.2.2.2.1, (hbc1.cell (p := ⟨_, _, none⟩) (World.block_lt_of_cell? _ _ hS.2.2.2.2.1)).trans hS.2.2.2.2.1, (hbc1.cell (p := ⟨_, _, none⟩) (World.block_lt_of_cell? _ _ hS.2.2.2.2.2)).trans hS.2.2.2.2.2⟩ (fun hS1 => ?_)
    clear hK K
    try (change wpAnyH _ _ _ _ _ _ _ (Act.put _ (some 17) _) _)
    try simp only [Act.put, List.setIfInBounds_toArray, List.set_cons_zero, List.set_cons_succ]
    refine wpAnyH_take (i := 3) (v := .int .i16 (a + xl)) rfl (by kernel_rfl) (by kernel_rfl) (by kernel_rfl) (fun _ _ _ h => h) (Or.inl ⟨by rfl, fun w' _ => by go_simp; simp [Instr.field, asAgg, run_underlying Tryz.underlying59, go_sem]⟩) hS1 ?_
    change wpAnyH _ _ _ _ _ _ _ (Act.put _ (some 18) _) _
    simp only [Act.put, List.setIfInBounds_toArray, List.set_cons_zero, List.set_cons_succ]
    refine wpAnyH_take (i := 4) (v := .int .i64 (a + xl)) rfl (by kernel_rfl) (by kernel_rfl) (by kernel_rfl) (fun _ _ _ h => h) (Or.inl ⟨by rfl, fun w' _ => by go_simp⟩) hS1 ?_
    change wpAnyH _ _ _ _ _ _ _ (Act.put _ (some 19) _) _
    simp only [Act.put, List.setIfInBounds_toArray, List.set_cons_zero, List.set_cons_succ]
    refine wpAnyH_take (i := 8) (v := .int .i64 (a + xl)) rfl (by kernel_rfl) (by kernel_rfl) (by kernel_rfl) (fun _ _ _ h => h) (Or.inl ⟨by rfl, fun w' _ => by go_simp⟩) hS1 ?_
    change wpAnyH _ _ _ _ _ _ _ (Act.put _ (some 10) _) _
    simp only [Act.put, List.setIfInBounds_toArray, List.set_cons_zero, List.set_cons_succ]
    refine wpAnyH_take (i := 9) (v := .int .i64 xt) rfl (by kernel_rfl) (by kernel_rfl) (by kernel_rfl) (fun _ _ _ h => h) (Or.inl ⟨by rfl, fun w' _ => by go_simp⟩) hS1 ?_
    change wpAnyH _ _ _ _ _ _ _ (Act.put _ (some 11) _) _
    simp only [Act.put, List.setIfInBounds_toArray, List.set_cons_zero, List.set_cons_succ]
    refine wpAnyH_done (by kernel_rfl) ?_ _
    have R1W2 := (hbc1.block _ (Array.getElem?_eq_some_iff.1 R1d).1).trans R1d
    have D1W2 := D1d.keep hbc1
    have D4W2 := D4d.keep hbc1
    have m0 := cell_of_row _ _ 0 _ _ _ R1W2
    have m1 := cell_of_row _ _ 1 _ _ _ R1W2
    simp at m0 m1
    have KF := isFree_any S A c hl d st tk W2 (Ad.below hbc1) hSb hn hg hkS htH hd
    have KG := fun W => toggled_any st tk d W (by omega) (by omega) hd
    have HD := hide D1W2.range
    obtain ⟨fb, hfb⟩ : ∃ fb, fb = freeB S d (hRe hl tk).toNat st tk := ⟨_, rfl⟩
    rw [← hfb] at KF
    have HFB := hide (HPO.out.trans hfb.symm)
    rw [HST.out, HTK.out]
    clear hfb R1d D1d D4d R1W2 hS1 Ad
    go_wp2_with (with_reducible refine wpList_load_da rfl 53 (.tmp 5) rfl (w.heap.size + 1) 0 rfl d _ HD.out Tryz.underlying53 rfl (dInfo d) ?_)
    refine KF.mono ?_
    rintro e W3 ⟨rfl, hb3⟩
    have b3 := step_below hb3 b2
    have D1W3 := D1W2.keep hb3
    have D4W3 := D4W2.keep hb3
    clear m0 m1 HD D1W2 D4W2 KF
    cases fb
    · have HZ := hide (show W3.heap[w.heap.size + 1 + 1 + 1 + 1]? = some (.cells (da fun _ => 0) 53 (0, 0)) from D4W3)
      go_wp2_with (first | (with_reducible refine wpList_build0 rfl rfl ?_) | (with_reducible refine wpList_store_row rfl 53 (.tmp 8) (.tmp 29) rfl (w.heap.size + 1 + 1 + 1 + 1) (da fun _ => 0) rfl rfl 53 _ HZ.out (by rw [da_size]; exact info53) (by simp only [da_size]) (da_one _) ?_))
      exact bodyPost_ret (v := .tuple #[.agg (da fun _ => 0), .bool false]) (results_dr Tryz.results40 _ _ (w.heap.size + 1 + 1 + 1 + 1) 53 _ _ (by simp) (by simp) (setRow_heap _ _ _ _ _ _ HZ.out)) rfl ⟨by rw [HPD.out, HFB.out]; rfl, below_setRow b3 (by omega)⟩
    · have HD := hide D1W3.range
      go_wp2_with (with_reducible refine wpList_load_da rfl 53 (.tmp 5) rfl (w.heap.size + 1) 0 rfl d _ HD.out Tryz.underlying53 rfl (dInfo d) ?_)
      refine (KG W3).mono ?_
      rintro e W4 ⟨rfl, hb4⟩
      have b4 := step_below hb4 b3
      have D4W4 := D4W3.keep hb4
      have HZ := hide (show W4.heap[w.heap.size + 1 + 1 + 1 + 1]? = some (.cells (da fun _ => 0) 53 (0, 0)) from D4W4)
      go_wp2_with (with_reducible refine wpList_store_row rfl 53 (.tmp 8) (.tmp 33) rfl (w.heap.size + 1 + 1 + 1 + 1) (da (togD d st tk)) rfl rfl 53 _ HZ.out (by rw [da_size]; exact info53) (by simp only [da_size]) (da_one _) ?_)
      exact bodyPost_ret (v := .tuple #[.agg (da (togD d st tk)), .bool true]) (results_dr Tryz.results40 _ _ (w.heap.size + 1 + 1 + 1 + 1) 53 _ _ (by simp) (by simp) (setRow_heap _ _ _ _ _ _ HZ.out)) rfl ⟨by rw [HPD.out, HFB.out, HPN.out]; rfl, below_setRow b4 (by omega)⟩
  · have HPD := hide (show plD S hl d a (true, xl, xo, xt) = d by simp [plD, plO, plN])
    have HPO := hide (show plO S hl d a (true, xl, xo, xt) = true by simp [plO])
    have HD := hide D1.range
    have HZ := hide (show X.heap[w.heap.size + 1 + 1 + 1 + 1]? = some (.cells (da fun _ => 0) 53 (0, 0)) from D4)
    clear R1 R2 R3 D1 D4
    go_enter Tryz.func40, Tryz.ntmps40
    go_upto_region 1 with fail
    rw [← HX.out]
    go_wp2_with (first | (with_reducible refine wpList_load_da rfl 53 (.tmp 5) rfl (w.heap.size + 1) 0 rfl d _ HD.out Tryz.underlying53 rfl (dInfo d) ?_) | (with_reducible refine wpList_store_row rfl 53 (.tmp 8) (.tmp 14) rfl (w.heap.size + 1 + 1 + 1 + 1) (da d) rfl rfl 53 _ HZ.out (by rw [da_size]; exact info53) (by simp only [da_size]) (da_one _) ?_))
    exact bodyPost_ret (v := .tuple #[.agg (da d), .bool true]) (results_dr Tryz.results40 _ _ (w.heap.size + 1 + 1 + 1 + 1) 53 _ _ (by simp) (by simp) (setRow_heap _ _ _ _ _ _ HZ.out)) rfl ⟨by rw [HPD.out, HPO.out], below_setRow b0 (by omega)⟩
end Go.Proofs.YtcepjiglhlmgdaaGreatDoor
