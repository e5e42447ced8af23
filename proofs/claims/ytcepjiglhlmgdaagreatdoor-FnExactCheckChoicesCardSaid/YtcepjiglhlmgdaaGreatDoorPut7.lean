import Derived.Test.YtcepjiglhlmgdaaGreatDoorFor
namespace Go.Proofs.YtcepjiglhlmgdaaGreatDoor
open Go.RowKit
theorem grown_below {w w' : World} {row : Option Nat} (h : Below w.heap.size w w') : w.grownBy w' row := ⟨h.os, h.tape, h.output, h.size, fun k hk _ => h.block k hk⟩
/-- the drum behind a choice's pin, where it has a place -/
def plP (S : Nat) (hl : List (Int × Int)) (d : Nat → Int) (a : Int) (x : Bool × Int × Int × Int) : Nat → Int := if plO S hl d a x then plN d a x else d
theorem setG {w W : World} {g st : Nat} {v : Value} (h : w.grownBy W (some g)) : w.grownBy (W.setCell ⟨g, st, none⟩ v) (some g) := ⟨h.os, h.tape, h.output, by have := h.size; simpa [World.setCell] using this, fun k hk hne => (Below.heap_setCell W ⟨g, st, none⟩ v k (fun e => hne (by rw [e]))).trans (h.block k hk hne)⟩
set_option maxRecDepth 20000 in
set_option maxHeartbeats 4000000 in
theorem l07Put_any (b g : Nat) (S : Nat) (A : Option Addr) (c : Nat) (hl : List (Int × Int)) (d : Nat → Int) (a p : Int) (xa : Bool) (xl xo xt : Int) (w : World) (hF : FP w b S A hl.length c) (hA : HA w A hl) (hD : Dr w g 53 d) (hS0 : 2 ≤ S ∧ S ≤ 96) (hn : hl.length ≤ 24) (hg : HG S hl hl.length) (ha : 0 ≤ a ∧ a ≤ 199) (_hp : 0 ≤ p ∧ p ≤ 47) (hd : DWF d) (hx : (xa, xl, xo, xt) ∈ chS S hl a p) :
    Calls Tryz.prog 34 #[.pointer (some ⟨b, 0, none⟩), .pointer (some ⟨g, 0, none⟩), .agg #[.int .i16 a, .int .i8 p], .agg #[.bool xa, .int .i8 xl, .int .i8 xo, .int .i8 xt]] w fun e w' => e = .returned (.bool (plO S hl d a (xa, xl, xo, xt))) ∧ Dr w' g 53 (plP S hl d a (xa, xl, xo, xt)) ∧ w.grownBy w' (some g) := by
  obtain ⟨pb, hpb⟩ : ∃ pb, pb = plO S hl d a (xa, xl, xo, xt) := ⟨_, rfl⟩
  obtain ⟨pp, hpp⟩ : ∃ pp, pp = plP S hl d a (xa, xl, xo, xt) := ⟨_, rfl⟩
  rw [← hpb, ← hpp]
  obtain ⟨X, hX⟩ : ∃ X, X = (w.alloc (.cells #[.int .i16 a, .int .i8 p] 59)).alloc (.cells #[.bool xa, .int .i8 xl, .int .i8 xo, .int .i8 xt] 63) := ⟨_, rfl⟩
  have b0 : Below w.heap.size w X := by rw [hX]; exact ((Below.refl _ _).alloc (Nat.le_refl _) _).alloc (by simp) _
  have R2 : X.heap[w.heap.size]? = some (.cells #[.int .i16 a, .int .i8 p] 59 (0, 0)) := by rw [hX]; exact heap_old' (heap_new' _ _ _ rfl)
  have R3 : X.heap[w.heap.size + 1]? = some (.cells #[.bool xa, .int .i8 xl, .int .i8 xo, .int .i8 xt] 63 (0, 0)) := by rw [hX]; exact heap_new' _ _ _ (by simp)
  have hgl := hD.lt
  have D1 := hD.keep b0
  have x0 := cell_of_row _ _ 0 _ _ _ R3
  have n0 := cell_of_row _ _ 0 _ _ _ R2
  have x1 := cell_of_row _ _ 1 _ _ _ R3
  have x3 := cell_of_row _ _ 3 _ _ _ R3
  simp at x0 n0 x1 x3
  cases xa
  · obtain ⟨⟨h1, h2⟩, ⟨h3, h4⟩, h5, h6⟩ := chS_in hx rfl
    dsimp only at h1 h2 h3 h4 h5 h6
    obtain ⟨st, hst⟩ : ∃ st : Nat, a + xl = (st : Int) := ⟨(a + xl).toNat, by omega⟩
    obtain ⟨tk, rfl⟩ : ∃ tk : Nat, xt = (tk : Int) := ⟨xt.toNat, by omega⟩
    have HPO := hide (show plO S hl d a (false, xl, xo, tk) = freeB S d (hRe hl tk).toNat st tk by simp [plO, hst])
    have HPN := hide (show plN d a (false, xl, xo, tk) = togD d st tk by simp [plN, hst])
    have hkS : st < S := by omega
    have htH : tk < hl.length := by omega
    have w1 : IntKind.i64.wrap a = a := IntWalk.i64_in _ (by omega)
    have w2 : IntKind.i64.wrap xl = xl := IntWalk.i64_in _ (by omega)
    have w3 : IntKind.i64.wrap (a + xl) = (st : Int) := by rw [hst]; exact IntWalk.i64_in _ (by omega)
    have w4 : IntKind.i64.wrap (tk : Int) = tk := IntWalk.i64_in _ (by omega)
    have w5 : IntKind.u64.wrap (tk : Int) = tk := by simp [IntKind.wrap, IntKind.signed, IntKind.bits]; omega
    have KF := l02Free_any b g S A c hl d st tk X (hF.keep b0) D1 (hA.below b0) hS0 hn hg hkS htH hd
    obtain ⟨fb, hfb⟩ : ∃ fb, fb = freeB S d (hRe hl tk).toNat st tk := ⟨_, rfl⟩
    rw [← hfb] at KF
    have HFB := hide (hpb.trans (HPO.out.trans hfb.symm))
    have HPP := hide (show pp = if fb then togD d st tk else d by rw [hpp, plP, HPO.out, HPN.out, hfb])
    clear hpb hpp
    have HF2 := hide hfb
    clear hst hfb hx R2
    go_enter Tryz.func34, Tryz.ntmps34
    go_upto_region 1 with fail
    rw [← hX]
    clear hX
    go_wp2_with fail
    refine KF.mono ?_
    rintro e w' ⟨rfl, rfl⟩
    cases fb
    · go_wp2
      go_ret
      exact ⟨by rw [HFB.out]; rfl, by rw [HPP.out]; exact D1, grown_below b0⟩
    · have hre : 1 ≤ (hRe hl tk).toNat := by have h7 := hg tk htH; simp [hamB, inB] at h7; omega
      have hpn : pinB d st tk = false := by
        cases hc : pinB d st tk
        · rfl
        · have h7 := freeB_no (S := S) (d := d) (r := (hRe hl tk).toNat) (k := st) (t := tk) (g := 0) (by omega) (by rw [frAt_zero hkS]; exact hc)
          have h8 := HF2.out
          rw [h7] at h8
          cases h8
      have hox := or_xor (d := d) (k := st) (t := tk) (hd st (by omega)).1 (by omega) hpn
      have htk32 : tk < 32 := by omega
      have hst96 : (st : Int) < 96 := by omega
      clear hpn hre x0 x1 n0
      go_upto_region 6 with fail
      have hWd : Below X.heap.size X X.drew := (Below.refl _ _).drew
      have D3 := D1.keep hWd
      have b3 := step_below hWd b0
      have R3d := (hWd.block _ (Array.getElem?_eq_some_iff.1 R3).1).trans R3
      have x3 := cell_of_row _ _ 3 _ _ _ R3d
      simp at x3
      refine wp_region_held_drew (S := fun Y => Y.cell? ⟨w.heap.size + 1, 3, none⟩ = some (.int .i8 tk)) (by kernel_rfl) x3 fun hS => ?_
      generalize X.drew = W1 at *
      refine wpAnyH_take (i := 0) (v := .pointer (some ⟨g, 0, none⟩)) rfl (by kernel_rfl) (by kernel_rfl) (by kernel_rfl) (fun _ _ _ h => h) (Or.inl ⟨by rfl, fun w' _ => by go_simp⟩) hS ?_
      change wpAnyH _ _ _ _ _ _ _ (Act.put _ (some 27) _) _
      simp only [Act.put, List.setIfInBounds_toArray, List.set_cons_zero, List.set_cons_succ]
      refine wpAnyH_take (i := 1) (v := .int .i64 st) rfl (by kernel_rfl) (by kernel_rfl) (by kernel_rfl) (fun _ _ _ h => h) (Or.inl ⟨by rfl, fun w' _ => by go_simp⟩) hS ?_
      change wpAnyH _ _ _ _ _ _ _ (Act.put _ (some 28) _) _
      simp only [Act.put, List.setIfInBounds_toArray, List.set_cons_zero, List.set_cons_succ]
      refine wpAnyH_take (i := 2) (v := .pointer (some ⟨g, 0, none⟩)) rfl (by kernel_rfl) (by kernel_rfl) (by kernel_rfl) (fun _ _ _ h => h) (Or.inl ⟨by rfl, fun w' _ => by go_simp⟩) hS ?_
      change wpAnyH _ _ _ _ _ _ _ (Act.put _ (some 29) _) _
      simp only [Act.put, List.setIfInBounds_toArray, List.set_cons_zero, List.set_cons_succ]
      refine wpAnyH_take (i := 3) (v := .int .i64 st) rfl (by kernel_rfl) (by kernel_rfl) (by kernel_rfl) (fun _ _ _ h => h) (Or.inl ⟨by rfl, fun w' _ => by go_simp⟩) hS ?_
      change wpAnyH _ _ _ _ _ _ _ (Act.put _ (some 30) _) _
      simp only [Act.put, List.setIfInBounds_toArray, List.set_cons_zero, List.set_cons_succ]
      refine wpAnyH_take (i := 4) (v := .pointer (some ⟨g, 0, none⟩)) rfl (by kernel_rfl) (by kernel_rfl) (by kernel_rfl) (fun _ _ _ h => h) (Or.inl ⟨by rfl, fun w' _ => by go_simp⟩) hS ?_
      change wpAnyH _ _ _ _ _ _ _ (Act.put _ (some 31) _) _
      simp only [Act.put, List.setIfInBounds_toArray, List.set_cons_zero, List.set_cons_succ]
      refine wpAnyH_take (i := 5) (v := .pointer (some ⟨g, st, none⟩)) rfl (by kernel_rfl) (by kernel_rfl) (by kernel_rfl) (fun _ _ _ h => h) (Or.inl ⟨by rfl, fun w' _ => by go_simp⟩) hS ?_
      change wpAnyH _ _ _ _ _ _ _ (Act.put _ (some 32) _) _
      simp only [Act.put, List.setIfInBounds_toArray, List.set_cons_zero, List.set_cons_succ]
      refine wpAnyH_take (i := 7) (v := .pointer (some ⟨w.heap.size + 1, 3, none⟩)) rfl (by kernel_rfl) (by kernel_rfl) (by kernel_rfl) (fun _ _ _ h => h) (Or.inl ⟨by rfl, fun w' _ => by go_simp⟩) hS ?_
      change wpAnyH _ _ _ _ _ _ _ (Act.put _ (some 34) _) _
      simp only [Act.put, List.setIfInBounds_toArray, List.set_cons_zero, List.set_cons_succ]
      refine wpAnyH_take (i := 8) (v := .int .i8 tk) rfl (by kernel_rfl) (by kernel_rfl) (by kernel_rfl) (fun _ _ _ h => h) (Or.inl ⟨by rfl, fun w' h => ?_⟩) hS ?_
      · have c0 := h
        clear h
        go_simp
      change wpAnyH _ _ _ _ _ _ _ (Act.put _ (some 35) _) _
      simp only [Act.put, List.setIfInBounds_toArray, List.set_cons_zero, List.set_cons_succ]
      refine wpAnyH_take (i := 9) (v := .int .u64 tk) rfl (by kernel_rfl) (by kernel_rfl) (by kernel_rfl) (fun _ _ _ h => h) (Or.inl ⟨by rfl, fun w' _ => by go_simp⟩) hS ?_
      change wpAnyH _ _ _ _ _ _ _ (Act.put _ (some 36) _) _
      simp only [Act.put, List.setIfInBounds_toArray, List.set_cons_zero, List.set_cons_succ]
      refine wpAnyH_take (i := 10) (v := .int .u32 (2 ^ tk % 4294967296)) rfl (by kernel_rfl) (by kernel_rfl) (by kernel_rfl) (fun _ _ _ h => h) (Or.inl ⟨by rfl, fun w' _ => by go_simp; first | done | (simp [IntKind.wrap, IntKind.signed, IntKind.bits])⟩) hS ?_
      change wpAnyH _ _ _ _ _ _ _ (Act.put _ (some 37) _) _
      simp only [Act.put, List.setIfInBounds_toArray, List.set_cons_zero, List.set_cons_succ]
      refine wpAnyH_take (i := 12) (v := .pointer (some ⟨g, 0, none⟩)) rfl (by kernel_rfl) (by kernel_rfl) (by kernel_rfl) (fun _ _ _ h => h) (Or.inl ⟨by rfl, fun w' _ => by go_simp⟩) hS ?_
      change wpAnyH _ _ _ _ _ _ _ (Act.put _ (some 39) _) _
      simp only [Act.put, List.setIfInBounds_toArray, List.set_cons_zero, List.set_cons_succ]
      refine wpAnyH_ready (rs := [6]) (by kernel_rfl) (by simp) (AllReadyH.cons rfl ?_ AllReadyH.nil)
      intro K hK
      rw [if_pos (by rfl)]
      have cz := D3.cell (i := st) (by omega)
      go_simp
      refine hK.out _ _ hS (fun hS => ?_)
      clear hK K
      try (change wpAnyH _ _ _ _ _ _ _ (Act.put _ (some 33) _) _)
      try simp only [Act.put, List.setIfInBounds_toArray, List.set_cons_zero, List.set_cons_succ]
      refine wpAnyH_take (i := 11) (v := .int .u32 (bits .xor .u32 (d st) (2 ^ tk % 4294967296))) rfl (by kernel_rfl) (by kernel_rfl) (by kernel_rfl) (fun _ _ _ h => h) (Or.inl ⟨by rfl, fun w' _ => by go_simp; first | done | (rw [hox])⟩) hS ?_
      change wpAnyH _ _ _ _ _ _ _ (Act.put _ (some 38) _) _
      simp only [Act.put, List.setIfInBounds_toArray, List.set_cons_zero, List.set_cons_succ]
      refine wpAnyH_take (i := 13) (v := .pointer (some ⟨g, st, none⟩)) rfl (by kernel_rfl) (by kernel_rfl) (by kernel_rfl) (fun _ _ _ h => h) (Or.inl ⟨by rfl, fun w' _ => by go_simp⟩) hS ?_
      change wpAnyH _ _ _ _ _ _ _ (Act.put _ (some 40) _) _
      simp only [Act.put, List.setIfInBounds_toArray, List.set_cons_zero, List.set_cons_succ]
      refine wpAnyH_ready (rs := [14]) (by kernel_rfl) (by simp) (AllReadyH.cons rfl ?_ AllReadyH.nil)
      intro K hK
      rw [if_pos (by rfl)]
      have fz := D3.frozen st
      go_simp
      refine hK.out _ _ ((World.cell?_of_block (Below.heap_setCell W1 ⟨g, st, none⟩ _ _ (by dsimp only; omega))).trans hS) (fun hS2 => ?_)
      clear hK K
      refine wpAnyH_done (by kernel_rfl) ?_ _
      go_wp2_with fail
      go_ret
      exact ⟨by rw [HFB.out]; rfl, by rw [HPP.out]; exact D3.set st _, setG (grown_below b3)⟩
  · have HPO := hide (show plO S hl d a (true, xl, xo, xt) = true by simp [plO])
    have HPN := hide (show plN d a (true, xl, xo, xt) = d by simp [plN])
    have HB := hide (hpb.trans HPO.out)
    have HPP := hide (show pp = d by rw [hpp, plP, HPO.out, HPN.out]; rfl)
    clear hpb hpp
    go_enter Tryz.func34, Tryz.ntmps34
    go_upto_region 1 with fail
    rw [← hX]
    clear hX
    go_wp2
    go_ret
    exact ⟨by rw [HB.out]; rfl, by rw [HPP.out]; exact D1, grown_below b0⟩
end Go.Proofs.YtcepjiglhlmgdaaGreatDoor
