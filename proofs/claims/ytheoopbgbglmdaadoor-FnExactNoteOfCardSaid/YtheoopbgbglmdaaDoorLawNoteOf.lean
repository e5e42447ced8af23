import Derived.Test.YtheoopbgbglmdaaDoorNa7
import Derived.Test.YtheoopbgbglmdaaDoorGat
import Derived.Test.YtheoopbgbglmdaaDoorEqt
import Derived.Test.YtheoopbgbglmdaaDoorCho
import Derived.Test.YtheoopbgbglmdaaDoorGbj
import Derived.OrdersHeld
namespace Go.Proofs.YtheoopbgbglmdaaDoor
open Go.RowKit
set_option maxRecDepth 20000 in
set_option maxHeartbeats 4000000 in
theorem lawNoteOf_any (x0_0 x0_1 : Int) (x1_0 : Bool) (x1_1 x1_2 x1_3 : Int) (w : World) (hv0 : NoWF x0_0 x0_1) (hv1 : XcWF x1_0 x1_1 x1_2 x1_3) (hT : ErrW w) :
    Calls Tryd.prog 3 #[.agg #[.int .i16 x0_0, .int .i8 x0_1], .agg #[.bool x1_0, .int .i8 x1_1, .int .i8 x1_2, .int .i8 x1_3]] w (Says true w) := by
  have KS := fun W => specNoteOf_any x0_0 x0_1 x1_0 x1_1 x1_2 x1_3 W hv0 hv1
  have KI := fun W (h : ErrW W) => implNoteOf_e x0_0 x0_1 x1_0 x1_1 x1_2 x1_3 W hv0 hv1 h
  obtain ⟨ra, hra⟩ : ∃ r, r = noA x0_0 x0_1 x1_0 x1_1 x1_2 x1_3 := ⟨_, rfl⟩
  obtain ⟨rp, hrp⟩ : ∃ r, r = noP x0_0 x0_1 x1_0 x1_1 x1_2 x1_3 := ⟨_, rfl⟩
  obtain ⟨r1, hr1⟩ : ∃ r, r = noC x0_0 x0_1 x1_0 x1_1 x1_2 x1_3 := ⟨_, rfl⟩
  simp only [← hra, ← hrp, ← hr1] at KS KI
  clear hra hrp hr1
  have KE := fun W => eqNote_any ra rp ra rp W
  simp only [and_self, decide_true] at KE
  obtain ⟨X0, hX0⟩ : ∃ X, X = (w.alloc (.cells #[.int .i16 x0_0, .int .i8 x0_1] 25)).alloc (.cells #[.bool x1_0, .int .i8 x1_1, .int .i8 x1_2, .int .i8 x1_3] 27) := ⟨_, rfl⟩
  have b0 : Below w.heap.size w X0 := by rw [hX0]; exact ((Below.refl _ _).alloc (Nat.le_refl _) _).alloc (by simp) _
  have NX : Bk X0 w.heap.size 25 #[.int .i16 x0_0, .int .i8 x0_1] := by rw [hX0]; exact heap_old' (heap_new' _ _ _ rfl)
  have CX : Bk X0 (w.heap.size + 1) 27 #[.bool x1_0, .int .i8 x1_1, .int .i8 x1_2, .int .i8 x1_3] := by rw [hX0]; exact heap_new' _ _ _ (by simp)
  go_enter Tryd.func3, Tryd.ntmps3
  go_upto_region 1 with fail
  rw [← hX0]
  clear hX0
  go_cut [5, 6] from 9 to 16 (fun a_ b_ wx => ∃ (g : Nat) (W : World), a_ = .pointer (some ⟨g, 0, none⟩) ∧ b_ = .int .i64 r1 ∧ W = wx ∧ Bk W g 28 #[.int .i16 ra, .int .i8 rp] ∧ X0.heap.size ≤ g ∧ Below X0.heap.size X0 W)
  case first =>
    have hd1 : Below X0.heap.size X0 X0.drew := (Below.refl _ _).drew
    have N1 := NX.keep hd1
    have C1 := CX.keep hd1
    refine wp_region_held_drew (S := fun Y => Bk Y w.heap.size 25 #[.int .i16 x0_0, .int .i8 x0_1] ∧ Bk Y (w.heap.size + 1) 27 #[.bool x1_0, .int .i8 x1_1, .int .i8 x1_2, .int .i8 x1_3]) (by kernel_rfl) ⟨N1, C1⟩ fun hS1 => ?_
    obtain ⟨V1, hV1⟩ : ∃ X, X = X0.drew := ⟨_, rfl⟩
    rw [← hV1] at hd1 N1 C1 hS1 ⊢
    clear hV1
    refine wpAnyH_take (i := 0) (v := .agg #[.int .i16 x0_0, .int .i8 x0_1]) rfl (by kernel_rfl) (by kernel_rfl) (by kernel_rfl) (fun _ _ _ h => h) (Or.inl ⟨by rfl, fun w' h => ?_⟩) hS1 ?_
    · have c0 := h.1.cell (i := 0) rfl
      have c1 := h.1.cell (i := 1) rfl
      clear h
      go_simp
    change wpAnyH _ _ _ _ _ _ _ (Act.put _ (some 10) _) _
    simp only [Act.put, List.setIfInBounds_toArray, List.set_cons_zero, List.set_cons_succ]
    refine wpAnyH_take (i := 2) (v := .agg #[.bool x1_0, .int .i8 x1_1, .int .i8 x1_2, .int .i8 x1_3]) rfl (by kernel_rfl) (by kernel_rfl) (by kernel_rfl) (fun _ _ _ h => h) (Or.inl ⟨by rfl, fun w' h => ?_⟩) hS1 ?_
    · have c0 := h.2.cell (i := 0) rfl
      have c1 := h.2.cell (i := 1) rfl
      have c2 := h.2.cell (i := 2) rfl
      have c3 := h.2.cell (i := 3) rfl
      clear h
      go_simp
    change wpAnyH _ _ _ _ _ _ _ (Act.put _ (some 12) _) _
    simp only [Act.put, List.setIfInBounds_toArray, List.set_cons_zero, List.set_cons_succ]
    refine wpAnyH_ready (rs := [1, 8]) (by kernel_rfl) (by simp) (AllReadyH.cons rfl ?_ (AllReadyH.cons rfl ?_ AllReadyH.nil))
    · intro K hK
      rw [if_pos (by rfl)]
      go_simp
      refine (toNote_any x0_0 x0_1 V1).mono ?_
      rintro e V2 ⟨rfl, hb2⟩
      have td2 := hd1.trans (hb2.mono hd1.size)
      have N2 := N1.keep hb2
      have C2 := C1.keep hb2
      refine hK.out _ _ ⟨N2, C2⟩ (fun hS2 => ?_)
      clear hK K
      refine wpAnyH_ready (rs := [3, 8]) (by kernel_rfl) (by simp) (AllReadyH.cons rfl ?_ (AllReadyH.cons rfl ?_ AllReadyH.nil))
      · intro K hK
        rw [if_pos (by rfl)]
        go_simp
        refine (toChoice_any x1_0 x1_1 x1_2 x1_3 V2).mono ?_
        rintro e V3 ⟨rfl, hb3⟩
        have td3 := td2.trans (hb3.mono td2.size)
        have N3 := N2.keep hb3
        have C3 := C2.keep hb3
        refine hK.out _ _ ⟨N3, C3⟩ (fun hS3 => ?_)
        clear hK K
        refine wpAnyH_ready (rs := [4, 8]) (by kernel_rfl) (by simp) (AllReadyH.cons rfl ?_ (AllReadyH.cons rfl ?_ AllReadyH.nil))
        · intro K hK
          rw [if_pos (by rfl)]
          go_simp
          refine (KS V3).mono ?_
          rintro e V4 ⟨rfl, hb4⟩
          have td4 := td3.trans (hb4.mono td3.size)
          have N4 := N3.keep hb4
          have C4 := C3.keep hb4
          refine hK.out _ _ ⟨N4, C4⟩ (fun hS4 => ?_)
          clear hK K
          refine wpAnyH_take (i := 5) (v := .tuple #[.agg #[.int .i16 ra, .int .i8 rp], .int .i64 r1]) rfl (by kernel_rfl) (by kernel_rfl) (by kernel_rfl) (fun _ _ _ h => h) (Or.inl ⟨by rfl, fun w' _ => by go_simp⟩) hS4 ?_
          change wpAnyH _ _ _ _ _ _ _ (Act.put _ (some 9) _) _
          simp only [Act.put, List.setIfInBounds_toArray, List.set_cons_zero, List.set_cons_succ]
          refine wpAnyH_take (i := 6) (v := .agg #[.int .i16 ra, .int .i8 rp]) rfl (by kernel_rfl) (by kernel_rfl) (by kernel_rfl) (fun _ _ _ h => h) (Or.inl ⟨by rfl, fun w' _ => by go_simp⟩) hS4 ?_
          change wpAnyH _ _ _ _ _ _ _ (Act.put _ (some 15) _) _
          simp only [Act.put, List.setIfInBounds_toArray, List.set_cons_zero, List.set_cons_succ]
          refine wpAnyH_take (i := 7) (v := .int .i64 r1) rfl (by kernel_rfl) (by kernel_rfl) (by kernel_rfl) (fun _ _ _ h => h) (Or.inl ⟨by rfl, fun w' _ => by go_simp⟩) hS4 ?_
          change wpAnyH _ _ _ _ _ _ _ (Act.put _ (some 16) _) _
          simp only [Act.put, List.setIfInBounds_toArray, List.set_cons_zero, List.set_cons_succ]
          refine wpAnyH_ready (rs := [8]) (by kernel_rfl) (by simp) (AllReadyH.cons rfl ?_ AllReadyH.nil)
          obtain ⟨V5, hV5⟩ : ∃ X, X = V4.alloc (.cells #[.int .i16 0, .int .i8 0] 28) := ⟨_, rfl⟩
          have hb5 : Below V4.heap.size V4 V5 := by rw [hV5]; exact (Below.refl _ _).alloc (Nat.le_refl _) _
          have Z5 : Bk V5 V4.heap.size 28 #[.int .i16 0, .int .i8 0] := by rw [hV5]; exact Bk.new _ _ _ rfl
          have ge5 : X0.heap.size ≤ V4.heap.size := td4.size
          intro K hK
          rw [if_pos (by rfl)]
          go_simp
          rw [← hV5]
          clear hV5
          have td5 := td4.trans (hb5.mono td4.size)
          have N5 := N4.keep hb5
          have C5 := C4.keep hb5
          refine hK.out _ _ ⟨N5, C5⟩ (fun hS5 => ?_)
          clear hK K
          refine wpAnyH_ready (rs := [9]) (by kernel_rfl) (by simp) (AllReadyH.cons rfl ?_ AllReadyH.nil)
          intro K hK
          rw [if_pos (by rfl)]
          refine wp_store_row 28 (.tmp 5) (.tmp 15) rfl (V4.heap.size) #[.int .i16 ra, .int .i8 rp] rfl rfl 28 _ Z5 (infoNote2 _ _) (szNote2 _ _ _ _) (oneNote2 _ _) ?_
          have hb6 : Below X0.heap.size V5 (V5.setRow (V4.heap.size) #[.int .i16 ra, .int .i8 rp]) := below_setRow (Below.refl _ _) ge5
          have DD : Bk (V5.setRow (V4.heap.size) #[.int .i16 ra, .int .i8 rp]) (V4.heap.size) 28 #[.int .i16 ra, .int .i8 rp] := setRow_heap _ _ _ _ _ _ Z5
          have N6 : Bk (V5.setRow (V4.heap.size) #[.int .i16 ra, .int .i8 rp]) w.heap.size 25 #[.int .i16 x0_0, .int .i8 x0_1] := (setRow_other _ _ _ _ (by have e1 := NX.lt; have e2 := ge5; omega)).trans N5
          have C6 : Bk (V5.setRow (V4.heap.size) #[.int .i16 ra, .int .i8 rp]) (w.heap.size + 1) 27 #[.bool x1_0, .int .i8 x1_1, .int .i8 x1_2, .int .i8 x1_3] := (setRow_other _ _ _ _ (by have e1 := CX.lt; have e2 := ge5; omega)).trans C5
          have td6 := td5.trans hb6
          refine hK.out _ _ ⟨N6, C6⟩ (fun hS6 => ?_)
          clear hK K
          refine wpAnyH_take (i := 10) (v := .int .i64 r1) rfl (by kernel_rfl) (by kernel_rfl) (by kernel_rfl) (fun _ _ _ h => h) (Or.inl ⟨by rfl, fun w' _ => by go_simp⟩) hS6 ?_
          change wpAnyH _ _ _ _ _ _ _ (Act.put _ (some 6) _) _
          simp only [Act.put, List.setIfInBounds_toArray, List.set_cons_zero, List.set_cons_succ]
          refine wpAnyH_done (by kernel_rfl) ?_ _
          go_wp2_with fail
          go_meet
          exact ⟨_, _, rfl, rfl, rfl, DD, ge5, td6⟩
        · obtain ⟨V7, hV7⟩ : ∃ X, X = V3.alloc (.cells #[.int .i16 0, .int .i8 0] 28) := ⟨_, rfl⟩
          have hb7 : Below V3.heap.size V3 V7 := by rw [hV7]; exact (Below.refl _ _).alloc (Nat.le_refl _) _
          have Z7 : Bk V7 V3.heap.size 28 #[.int .i16 0, .int .i8 0] := by rw [hV7]; exact Bk.new _ _ _ rfl
          have ge7 : X0.heap.size ≤ V3.heap.size := td3.size
          intro K hK
          rw [if_pos (by rfl)]
          go_simp
          rw [← hV7]
          clear hV7
          have td7 := td3.trans (hb7.mono td3.size)
          have N7 := N3.keep hb7
          have C7 := C3.keep hb7
          refine hK.out _ _ ⟨N7, C7⟩ (fun hS7 => ?_)
          clear hK K
          refine wpAnyH_ready (rs := [4]) (by kernel_rfl) (by simp) (AllReadyH.cons rfl ?_ AllReadyH.nil)
          intro K hK
          rw [if_pos (by rfl)]
          go_simp
          refine (KS V7).mono ?_
          rintro e V8 ⟨rfl, hb8⟩
          have td8 := td7.trans (hb8.mono td7.size)
          have N8 := N7.keep hb8
          have C8 := C7.keep hb8
          have Z8 := Z7.keep hb8
          refine hK.out _ _ ⟨N8, C8⟩ (fun hS8 => ?_)
          clear hK K
          refine wpAnyH_take (i := 5) (v := .tuple #[.agg #[.int .i16 ra, .int .i8 rp], .int .i64 r1]) rfl (by kernel_rfl) (by kernel_rfl) (by kernel_rfl) (fun _ _ _ h => h) (Or.inl ⟨by rfl, fun w' _ => by go_simp⟩) hS8 ?_
          change wpAnyH _ _ _ _ _ _ _ (Act.put _ (some 9) _) _
          simp only [Act.put, List.setIfInBounds_toArray, List.set_cons_zero, List.set_cons_succ]
          refine wpAnyH_take (i := 6) (v := .agg #[.int .i16 ra, .int .i8 rp]) rfl (by kernel_rfl) (by kernel_rfl) (by kernel_rfl) (fun _ _ _ h => h) (Or.inl ⟨by rfl, fun w' _ => by go_simp⟩) hS8 ?_
          change wpAnyH _ _ _ _ _ _ _ (Act.put _ (some 15) _) _
          simp only [Act.put, List.setIfInBounds_toArray, List.set_cons_zero, List.set_cons_succ]
          refine wpAnyH_take (i := 7) (v := .int .i64 r1) rfl (by kernel_rfl) (by kernel_rfl) (by kernel_rfl) (fun _ _ _ h => h) (Or.inl ⟨by rfl, fun w' _ => by go_simp⟩) hS8 ?_
          change wpAnyH _ _ _ _ _ _ _ (Act.put _ (some 16) _) _
          simp only [Act.put, List.setIfInBounds_toArray, List.set_cons_zero, List.set_cons_succ]
          refine wpAnyH_ready (rs := [9]) (by kernel_rfl) (by simp) (AllReadyH.cons rfl ?_ AllReadyH.nil)
          intro K hK
          rw [if_pos (by rfl)]
          refine wp_store_row 28 (.tmp 5) (.tmp 15) rfl (V3.heap.size) #[.int .i16 ra, .int .i8 rp] rfl rfl 28 _ Z8 (infoNote2 _ _) (szNote2 _ _ _ _) (oneNote2 _ _) ?_
          have hb9 : Below X0.heap.size V8 (V8.setRow (V3.heap.size) #[.int .i16 ra, .int .i8 rp]) := below_setRow (Below.refl _ _) ge7
          have DD : Bk (V8.setRow (V3.heap.size) #[.int .i16 ra, .int .i8 rp]) (V3.heap.size) 28 #[.int .i16 ra, .int .i8 rp] := setRow_heap _ _ _ _ _ _ Z8
          have N9 : Bk (V8.setRow (V3.heap.size) #[.int .i16 ra, .int .i8 rp]) w.heap.size 25 #[.int .i16 x0_0, .int .i8 x0_1] := (setRow_other _ _ _ _ (by have e1 := NX.lt; have e2 := ge7; omega)).trans N8
          have C9 : Bk (V8.setRow (V3.heap.size) #[.int .i16 ra, .int .i8 rp]) (w.heap.size + 1) 27 #[.bool x1_0, .int .i8 x1_1, .int .i8 x1_2, .int .i8 x1_3] := (setRow_other _ _ _ _ (by have e1 := CX.lt; have e2 := ge7; omega)).trans C8
          have td9 := td8.trans hb9
          refine hK.out _ _ ⟨N9, C9⟩ (fun hS9 => ?_)
          clear hK K
          refine wpAnyH_take (i := 10) (v := .int .i64 r1) rfl (by kernel_rfl) (by kernel_rfl) (by kernel_rfl) (fun _ _ _ h => h) (Or.inl ⟨by rfl, fun w' _ => by go_simp⟩) hS9 ?_
          change wpAnyH _ _ _ _ _ _ _ (Act.put _ (some 6) _) _
          simp only [Act.put, List.setIfInBounds_toArray, List.set_cons_zero, List.set_cons_succ]
          refine wpAnyH_done (by kernel_rfl) ?_ _
          go_wp2_with fail
          go_meet
          exact ⟨_, _, rfl, rfl, rfl, DD, ge7, td9⟩
      · obtain ⟨V10, hV10⟩ : ∃ X, X = V2.alloc (.cells #[.int .i16 0, .int .i8 0] 28) := ⟨_, rfl⟩
        have hb10 : Below V2.heap.size V2 V10 := by rw [hV10]; exact (Below.refl _ _).alloc (Nat.le_refl _) _
        have Z10 : Bk V10 V2.heap.size 28 #[.int .i16 0, .int .i8 0] := by rw [hV10]; exact Bk.new _ _ _ rfl
        have ge10 : X0.heap.size ≤ V2.heap.size := td2.size
        intro K hK
        rw [if_pos (by rfl)]
        go_simp
        rw [← hV10]
        clear hV10
        have td10 := td2.trans (hb10.mono td2.size)
        have N10 := N2.keep hb10
        have C10 := C2.keep hb10
        refine hK.out _ _ ⟨N10, C10⟩ (fun hS10 => ?_)
        clear hK K
        refine wpAnyH_ready (rs := [3]) (by kernel_rfl) (by simp) (AllReadyH.cons rfl ?_ AllReadyH.nil)
        intro K hK
        rw [if_pos (by rfl)]
        go_simp
        refine (toChoice_any x1_0 x1_1 x1_2 x1_3 V10).mono ?_
        rintro e V11 ⟨rfl, hb11⟩
        have td11 := td10.trans (hb11.mono td10.size)
        have N11 := N10.keep hb11
        have C11 := C10.keep hb11
        have Z11 := Z10.keep hb11
        refine hK.out _ _ ⟨N11, C11⟩ (fun hS11 => ?_)
        clear hK K
        refine wpAnyH_ready (rs := [4]) (by kernel_rfl) (by simp) (AllReadyH.cons rfl ?_ AllReadyH.nil)
        intro K hK
        rw [if_pos (by rfl)]
        go_simp
        refine (KS V11).mono ?_
        rintro e V12 ⟨rfl, hb12⟩
        have td12 := td11.trans (hb12.mono td11.size)
        have N12 := N11.keep hb12
        have C12 := C11.keep hb12
        have Z12 := Z11.keep hb12
        refine hK.out _ _ ⟨N12, C12⟩ (fun hS12 => ?_)
        clear hK K
        refine wpAnyH_take (i := 5) (v := .tuple #[.agg #[.int .i16 ra, .int .i8 rp], .int .i64 r1]) rfl (by kernel_rfl) (by kernel_rfl) (by kernel_rfl) (fun _ _ _ h => h) (Or.inl ⟨by rfl, fun w' _ => by go_simp⟩) hS12 ?_
        change wpAnyH _ _ _ _ _ _ _ (Act.put _ (some 9) _) _
        simp only [Act.put, List.setIfInBounds_toArray, List.set_cons_zero, List.set_cons_succ]
        refine wpAnyH_take (i := 6) (v := .agg #[.int .i16 ra, .int .i8 rp]) rfl (by kernel_rfl) (by kernel_rfl) (by kernel_rfl) (fun _ _ _ h => h) (Or.inl ⟨by rfl, fun w' _ => by go_simp⟩) hS12 ?_
        change wpAnyH _ _ _ _ _ _ _ (Act.put _ (some 15) _) _
        simp only [Act.put, List.setIfInBounds_toArray, List.set_cons_zero, List.set_cons_succ]
        refine wpAnyH_take (i := 7) (v := .int .i64 r1) rfl (by kernel_rfl) (by kernel_rfl) (by kernel_rfl) (fun _ _ _ h => h) (Or.inl ⟨by rfl, fun w' _ => by go_simp⟩) hS12 ?_
        change wpAnyH _ _ _ _ _ _ _ (Act.put _ (some 16) _) _
        simp only [Act.put, List.setIfInBounds_toArray, List.set_cons_zero, List.set_cons_succ]
        refine wpAnyH_ready (rs := [9]) (by kernel_rfl) (by simp) (AllReadyH.cons rfl ?_ AllReadyH.nil)
        intro K hK
        rw [if_pos (by rfl)]
        refine wp_store_row 28 (.tmp 5) (.tmp 15) rfl (V2.heap.size) #[.int .i16 ra, .int .i8 rp] rfl rfl 28 _ Z12 (infoNote2 _ _) (szNote2 _ _ _ _) (oneNote2 _ _) ?_
        have hb13 : Below X0.heap.size V12 (V12.setRow (V2.heap.size) #[.int .i16 ra, .int .i8 rp]) := below_setRow (Below.refl _ _) ge10
        have DD : Bk (V12.setRow (V2.heap.size) #[.int .i16 ra, .int .i8 rp]) (V2.heap.size) 28 #[.int .i16 ra, .int .i8 rp] := setRow_heap _ _ _ _ _ _ Z12
        have N13 : Bk (V12.setRow (V2.heap.size) #[.int .i16 ra, .int .i8 rp]) w.heap.size 25 #[.int .i16 x0_0, .int .i8 x0_1] := (setRow_other _ _ _ _ (by have e1 := NX.lt; have e2 := ge10; omega)).trans N12
        have C13 : Bk (V12.setRow (V2.heap.size) #[.int .i16 ra, .int .i8 rp]) (w.heap.size + 1) 27 #[.bool x1_0, .int .i8 x1_1, .int .i8 x1_2, .int .i8 x1_3] := (setRow_other _ _ _ _ (by have e1 := CX.lt; have e2 := ge10; omega)).trans C12
        have td13 := td12.trans hb13
        refine hK.out _ _ ⟨N13, C13⟩ (fun hS13 => ?_)
        clear hK K
        refine wpAnyH_take (i := 10) (v := .int .i64 r1) rfl (by kernel_rfl) (by kernel_rfl) (by kernel_rfl) (fun _ _ _ h => h) (Or.inl ⟨by rfl, fun w' _ => by go_simp⟩) hS13 ?_
        change wpAnyH _ _ _ _ _ _ _ (Act.put _ (some 6) _) _
        simp only [Act.put, List.setIfInBounds_toArray, List.set_cons_zero, List.set_cons_succ]
        refine wpAnyH_done (by kernel_rfl) ?_ _
        go_wp2_with fail
        go_meet
        exact ⟨_, _, rfl, rfl, rfl, DD, ge10, td13⟩
    · obtain ⟨V14, hV14⟩ : ∃ X, X = V1.alloc (.cells #[.int .i16 0, .int .i8 0] 28) := ⟨_, rfl⟩
      have hb14 : Below V1.heap.size V1 V14 := by rw [hV14]; exact (Below.refl _ _).alloc (Nat.le_refl _) _
      have Z14 : Bk V14 V1.heap.size 28 #[.int .i16 0, .int .i8 0] := by rw [hV14]; exact Bk.new _ _ _ rfl
      have ge14 : X0.heap.size ≤ V1.heap.size := hd1.size
      intro K hK
      rw [if_pos (by rfl)]
      go_simp
      rw [← hV14]
      clear hV14
      have td14 := hd1.trans (hb14.mono hd1.size)
      have N14 := N1.keep hb14
      have C14 := C1.keep hb14
      refine hK.out _ _ ⟨N14, C14⟩ (fun hS14 => ?_)
      clear hK K
      refine wpAnyH_ready (rs := [1]) (by kernel_rfl) (by simp) (AllReadyH.cons rfl ?_ AllReadyH.nil)
      intro K hK
      rw [if_pos (by rfl)]
      go_simp
      refine (toNote_any x0_0 x0_1 V14).mono ?_
      rintro e V15 ⟨rfl, hb15⟩
      have td15 := td14.trans (hb15.mono td14.size)
      have N15 := N14.keep hb15
      have C15 := C14.keep hb15
      have Z15 := Z14.keep hb15
      refine hK.out _ _ ⟨N15, C15⟩ (fun hS15 => ?_)
      clear hK K
      refine wpAnyH_ready (rs := [3]) (by kernel_rfl) (by simp) (AllReadyH.cons rfl ?_ AllReadyH.nil)
      intro K hK
      rw [if_pos (by rfl)]
      go_simp
      refine (toChoice_any x1_0 x1_1 x1_2 x1_3 V15).mono ?_
      rintro e V16 ⟨rfl, hb16⟩
      have td16 := td15.trans (hb16.mono td15.size)
      have N16 := N15.keep hb16
      have C16 := C15.keep hb16
      have Z16 := Z15.keep hb16
      refine hK.out _ _ ⟨N16, C16⟩ (fun hS16 => ?_)
      clear hK K
      refine wpAnyH_ready (rs := [4]) (by kernel_rfl) (by simp) (AllReadyH.cons rfl ?_ AllReadyH.nil)
      intro K hK
      rw [if_pos (by rfl)]
      go_simp
      refine (KS V16).mono ?_
      rintro e V17 ⟨rfl, hb17⟩
      have td17 := td16.trans (hb17.mono td16.size)
      have N17 := N16.keep hb17
      have C17 := C16.keep hb17
      have Z17 := Z16.keep hb17
      refine hK.out _ _ ⟨N17, C17⟩ (fun hS17 => ?_)
      clear hK K
      refine wpAnyH_take (i := 5) (v := .tuple #[.agg #[.int .i16 ra, .int .i8 rp], .int .i64 r1]) rfl (by kernel_rfl) (by kernel_rfl) (by kernel_rfl) (fun _ _ _ h => h) (Or.inl ⟨by rfl, fun w' _ => by go_simp⟩) hS17 ?_
      change wpAnyH _ _ _ _ _ _ _ (Act.put _ (some 9) _) _
      simp only [Act.put, List.setIfInBounds_toArray, List.set_cons_zero, List.set_cons_succ]
      refine wpAnyH_take (i := 6) (v := .agg #[.int .i16 ra, .int .i8 rp]) rfl (by kernel_rfl) (by kernel_rfl) (by kernel_rfl) (fun _ _ _ h => h) (Or.inl ⟨by rfl, fun w' _ => by go_simp⟩) hS17 ?_
      change wpAnyH _ _ _ _ _ _ _ (Act.put _ (some 15) _) _
      simp only [Act.put, List.setIfInBounds_toArray, List.set_cons_zero, List.set_cons_succ]
      refine wpAnyH_take (i := 7) (v := .int .i64 r1) rfl (by kernel_rfl) (by kernel_rfl) (by kernel_rfl) (fun _ _ _ h => h) (Or.inl ⟨by rfl, fun w' _ => by go_simp⟩) hS17 ?_
      change wpAnyH _ _ _ _ _ _ _ (Act.put _ (some 16) _) _
      simp only [Act.put, List.setIfInBounds_toArray, List.set_cons_zero, List.set_cons_succ]
      refine wpAnyH_ready (rs := [9]) (by kernel_rfl) (by simp) (AllReadyH.cons rfl ?_ AllReadyH.nil)
      intro K hK
      rw [if_pos (by rfl)]
      refine wp_store_row 28 (.tmp 5) (.tmp 15) rfl (V1.heap.size) #[.int .i16 ra, .int .i8 rp] rfl rfl 28 _ Z17 (infoNote2 _ _) (szNote2 _ _ _ _) (oneNote2 _ _) ?_
      have hb18 : Below X0.heap.size V17 (V17.setRow (V1.heap.size) #[.int .i16 ra, .int .i8 rp]) := below_setRow (Below.refl _ _) ge14
      have DD : Bk (V17.setRow (V1.heap.size) #[.int .i16 ra, .int .i8 rp]) (V1.heap.size) 28 #[.int .i16 ra, .int .i8 rp] := setRow_heap _ _ _ _ _ _ Z17
      have N18 : Bk (V17.setRow (V1.heap.size) #[.int .i16 ra, .int .i8 rp]) w.heap.size 25 #[.int .i16 x0_0, .int .i8 x0_1] := (setRow_other _ _ _ _ (by have e1 := NX.lt; have e2 := ge14; omega)).trans N17
      have C18 : Bk (V17.setRow (V1.heap.size) #[.int .i16 ra, .int .i8 rp]) (w.heap.size + 1) 27 #[.bool x1_0, .int .i8 x1_1, .int .i8 x1_2, .int .i8 x1_3] := (setRow_other _ _ _ _ (by have e1 := CX.lt; have e2 := ge14; omega)).trans C17
      have td18 := td17.trans hb18
      refine hK.out _ _ ⟨N18, C18⟩ (fun hS18 => ?_)
      clear hK K
      refine wpAnyH_take (i := 10) (v := .int .i64 r1) rfl (by kernel_rfl) (by kernel_rfl) (by kernel_rfl) (fun _ _ _ h => h) (Or.inl ⟨by rfl, fun w' _ => by go_simp⟩) hS18 ?_
      change wpAnyH _ _ _ _ _ _ _ (Act.put _ (some 6) _) _
      simp only [Act.put, List.setIfInBounds_toArray, List.set_cons_zero, List.set_cons_succ]
      refine wpAnyH_done (by kernel_rfl) ?_ _
      go_wp2_with fail
      go_meet
      exact ⟨_, _, rfl, rfl, rfl, DD, ge14, td18⟩
  obtain ⟨g1, w1, rfl, rfl, rfl, K1, ge1, hb1⟩ := hcut
  have b1 := step_below hb1 b0
  have NY := NX.keep hb1
  have CY := CX.keep hb1
  have gl1 := K1.lt
  go_upto_region 2 with fail
  go_cut [7, 8] from 17 to 24 (fun a_ b_ wx => ∃ (g : Nat) (W : World), a_ = .pointer (some ⟨g, 0, none⟩) ∧ b_ = .int .i64 r1 ∧ W = wx ∧ Bk W g 28 #[.int .i16 ra, .int .i8 rp] ∧ w1.heap.size ≤ g ∧ Below w1.heap.size w1 W)
  case first =>
    have hd19 : Below w1.heap.size w1 w1.drew := (Below.refl _ _).drew
    have N19 := NY.keep hd19
    have C19 := CY.keep hd19
    refine wp_region_held_drew (S := fun Y => Bk Y w.heap.size 25 #[.int .i16 x0_0, .int .i8 x0_1] ∧ Bk Y (w.heap.size + 1) 27 #[.bool x1_0, .int .i8 x1_1, .int .i8 x1_2, .int .i8 x1_3]) (by kernel_rfl) ⟨N19, C19⟩ fun hS19 => ?_
    obtain ⟨V19, hV19⟩ : ∃ X, X = w1.drew := ⟨_, rfl⟩
    rw [← hV19] at hd19 N19 C19 hS19 ⊢
    clear hV19
    refine wpAnyH_take (i := 0) (v := .agg #[.int .i16 x0_0, .int .i8 x0_1]) rfl (by kernel_rfl) (by kernel_rfl) (by kernel_rfl) (fun _ _ _ h => h) (Or.inl ⟨by rfl, fun w' h => ?_⟩) hS19 ?_
    · have c0 := h.1.cell (i := 0) rfl
      have c1 := h.1.cell (i := 1) rfl
      clear h
      go_simp
    change wpAnyH _ _ _ _ _ _ _ (Act.put _ (some 18) _) _
    simp only [Act.put, List.setIfInBounds_toArray, List.set_cons_zero, List.set_cons_succ]
    refine wpAnyH_take (i := 2) (v := .agg #[.bool x1_0, .int .i8 x1_1, .int .i8 x1_2, .int .i8 x1_3]) rfl (by kernel_rfl) (by kernel_rfl) (by kernel_rfl) (fun _ _ _ h => h) (Or.inl ⟨by rfl, fun w' h => ?_⟩) hS19 ?_
    · have c0 := h.2.cell (i := 0) rfl
      have c1 := h.2.cell (i := 1) rfl
      have c2 := h.2.cell (i := 2) rfl
      have c3 := h.2.cell (i := 3) rfl
      clear h
      go_simp
    change wpAnyH _ _ _ _ _ _ _ (Act.put _ (some 20) _) _
    simp only [Act.put, List.setIfInBounds_toArray, List.set_cons_zero, List.set_cons_succ]
    refine wpAnyH_ready (rs := [1, 8]) (by kernel_rfl) (by simp) (AllReadyH.cons rfl ?_ (AllReadyH.cons rfl ?_ AllReadyH.nil))
    · intro K hK
      rw [if_pos (by rfl)]
      go_simp
      refine (toNote_any x0_0 x0_1 V19).mono ?_
      rintro e V20 ⟨rfl, hb20⟩
      have td20 := hd19.trans (hb20.mono hd19.size)
      have N20 := N19.keep hb20
      have C20 := C19.keep hb20
      refine hK.out _ _ ⟨N20, C20⟩ (fun hS20 => ?_)
      clear hK K
      refine wpAnyH_ready (rs := [3, 8]) (by kernel_rfl) (by simp) (AllReadyH.cons rfl ?_ (AllReadyH.cons rfl ?_ AllReadyH.nil))
      · intro K hK
        rw [if_pos (by rfl)]
        go_simp
        refine (toChoice_any x1_0 x1_1 x1_2 x1_3 V20).mono ?_
        rintro e V21 ⟨rfl, hb21⟩
        have td21 := td20.trans (hb21.mono td20.size)
        have N21 := N20.keep hb21
        have C21 := C20.keep hb21
        refine hK.out _ _ ⟨N21, C21⟩ (fun hS21 => ?_)
        clear hK K
        refine wpAnyH_ready (rs := [4, 8]) (by kernel_rfl) (by simp) (AllReadyH.cons rfl ?_ (AllReadyH.cons rfl ?_ AllReadyH.nil))
        · intro K hK
          rw [if_pos (by rfl)]
          go_simp
          refine (KI V21 (hT.keep (step_below td21 b1))).mono ?_
          rintro e V22 ⟨rfl, hb22⟩
          have td22 := td21.trans (hb22.mono td21.size)
          have N22 := N21.keep hb22
          have C22 := C21.keep hb22
          refine hK.out _ _ ⟨N22, C22⟩ (fun hS22 => ?_)
          clear hK K
          refine wpAnyH_take (i := 5) (v := .tuple #[.agg #[.int .i16 ra, .int .i8 rp], .int .i64 r1]) rfl (by kernel_rfl) (by kernel_rfl) (by kernel_rfl) (fun _ _ _ h => h) (Or.inl ⟨by rfl, fun w' _ => by go_simp⟩) hS22 ?_
          change wpAnyH _ _ _ _ _ _ _ (Act.put _ (some 17) _) _
          simp only [Act.put, List.setIfInBounds_toArray, List.set_cons_zero, List.set_cons_succ]
          refine wpAnyH_take (i := 6) (v := .agg #[.int .i16 ra, .int .i8 rp]) rfl (by kernel_rfl) (by kernel_rfl) (by kernel_rfl) (fun _ _ _ h => h) (Or.inl ⟨by rfl, fun w' _ => by go_simp⟩) hS22 ?_
          change wpAnyH _ _ _ _ _ _ _ (Act.put _ (some 23) _) _
          simp only [Act.put, List.setIfInBounds_toArray, List.set_cons_zero, List.set_cons_succ]
          refine wpAnyH_take (i := 7) (v := .int .i64 r1) rfl (by kernel_rfl) (by kernel_rfl) (by kernel_rfl) (fun _ _ _ h => h) (Or.inl ⟨by rfl, fun w' _ => by go_simp⟩) hS22 ?_
          change wpAnyH _ _ _ _ _ _ _ (Act.put _ (some 24) _) _
          simp only [Act.put, List.setIfInBounds_toArray, List.set_cons_zero, List.set_cons_succ]
          refine wpAnyH_ready (rs := [8]) (by kernel_rfl) (by simp) (AllReadyH.cons rfl ?_ AllReadyH.nil)
          obtain ⟨V23, hV23⟩ : ∃ X, X = V22.alloc (.cells #[.int .i16 0, .int .i8 0] 28) := ⟨_, rfl⟩
          have hb23 : Below V22.heap.size V22 V23 := by rw [hV23]; exact (Below.refl _ _).alloc (Nat.le_refl _) _
          have Z23 : Bk V23 V22.heap.size 28 #[.int .i16 0, .int .i8 0] := by rw [hV23]; exact Bk.new _ _ _ rfl
          have ge23 : w1.heap.size ≤ V22.heap.size := td22.size
          intro K hK
          rw [if_pos (by rfl)]
          go_simp
          rw [← hV23]
          clear hV23
          have td23 := td22.trans (hb23.mono td22.size)
          have N23 := N22.keep hb23
          have C23 := C22.keep hb23
          refine hK.out _ _ ⟨N23, C23⟩ (fun hS23 => ?_)
          clear hK K
          refine wpAnyH_ready (rs := [9]) (by kernel_rfl) (by simp) (AllReadyH.cons rfl ?_ AllReadyH.nil)
          intro K hK
          rw [if_pos (by rfl)]
          refine wp_store_row 28 (.tmp 7) (.tmp 23) rfl (V22.heap.size) #[.int .i16 ra, .int .i8 rp] rfl rfl 28 _ Z23 (infoNote2 _ _) (szNote2 _ _ _ _) (oneNote2 _ _) ?_
          have hb24 : Below w1.heap.size V23 (V23.setRow (V22.heap.size) #[.int .i16 ra, .int .i8 rp]) := below_setRow (Below.refl _ _) ge23
          have DD : Bk (V23.setRow (V22.heap.size) #[.int .i16 ra, .int .i8 rp]) (V22.heap.size) 28 #[.int .i16 ra, .int .i8 rp] := setRow_heap _ _ _ _ _ _ Z23
          have N24 : Bk (V23.setRow (V22.heap.size) #[.int .i16 ra, .int .i8 rp]) w.heap.size 25 #[.int .i16 x0_0, .int .i8 x0_1] := (setRow_other _ _ _ _ (by have e1 := NY.lt; have e2 := ge23; omega)).trans N23
          have C24 : Bk (V23.setRow (V22.heap.size) #[.int .i16 ra, .int .i8 rp]) (w.heap.size + 1) 27 #[.bool x1_0, .int .i8 x1_1, .int .i8 x1_2, .int .i8 x1_3] := (setRow_other _ _ _ _ (by have e1 := CY.lt; have e2 := ge23; omega)).trans C23
          have td24 := td23.trans hb24
          refine hK.out _ _ ⟨N24, C24⟩ (fun hS24 => ?_)
          clear hK K
          refine wpAnyH_take (i := 10) (v := .int .i64 r1) rfl (by kernel_rfl) (by kernel_rfl) (by kernel_rfl) (fun _ _ _ h => h) (Or.inl ⟨by rfl, fun w' _ => by go_simp⟩) hS24 ?_
          change wpAnyH _ _ _ _ _ _ _ (Act.put _ (some 8) _) _
          simp only [Act.put, List.setIfInBounds_toArray, List.set_cons_zero, List.set_cons_succ]
          refine wpAnyH_done (by kernel_rfl) ?_ _
          go_wp2_with fail
          go_meet
          exact ⟨_, _, rfl, rfl, rfl, DD, ge23, td24⟩
        · obtain ⟨V25, hV25⟩ : ∃ X, X = V21.alloc (.cells #[.int .i16 0, .int .i8 0] 28) := ⟨_, rfl⟩
          have hb25 : Below V21.heap.size V21 V25 := by rw [hV25]; exact (Below.refl _ _).alloc (Nat.le_refl _) _
          have Z25 : Bk V25 V21.heap.size 28 #[.int .i16 0, .int .i8 0] := by rw [hV25]; exact Bk.new _ _ _ rfl
          have ge25 : w1.heap.size ≤ V21.heap.size := td21.size
          intro K hK
          rw [if_pos (by rfl)]
          go_simp
          rw [← hV25]
          clear hV25
          have td25 := td21.trans (hb25.mono td21.size)
          have N25 := N21.keep hb25
          have C25 := C21.keep hb25
          refine hK.out _ _ ⟨N25, C25⟩ (fun hS25 => ?_)
          clear hK K
          refine wpAnyH_ready (rs := [4]) (by kernel_rfl) (by simp) (AllReadyH.cons rfl ?_ AllReadyH.nil)
          intro K hK
          rw [if_pos (by rfl)]
          go_simp
          refine (KI V25 (hT.keep (step_below td25 b1))).mono ?_
          rintro e V26 ⟨rfl, hb26⟩
          have td26 := td25.trans (hb26.mono td25.size)
          have N26 := N25.keep hb26
          have C26 := C25.keep hb26
          have Z26 := Z25.keep hb26
          refine hK.out _ _ ⟨N26, C26⟩ (fun hS26 => ?_)
          clear hK K
          refine wpAnyH_take (i := 5) (v := .tuple #[.agg #[.int .i16 ra, .int .i8 rp], .int .i64 r1]) rfl (by kernel_rfl) (by kernel_rfl) (by kernel_rfl) (fun _ _ _ h => h) (Or.inl ⟨by rfl, fun w' _ => by go_simp⟩) hS26 ?_
          change wpAnyH _ _ _ _ _ _ _ (Act.put _ (some 17) _) _
          simp only [Act.put, List.setIfInBounds_toArray, List.set_cons_zero, List.set_cons_succ]
          refine wpAnyH_take (i := 6) (v := .agg #[.int .i16 ra, .int .i8 rp]) rfl (by kernel_rfl) (by kernel_rfl) (by kernel_rfl) (fun _ _ _ h => h) (Or.inl ⟨by rfl, fun w' _ => by go_simp⟩) hS26 ?_
          change wpAnyH _ _ _ _ _ _ _ (Act.put _ (some 23) _) _
          simp only [Act.put, List.setIfInBounds_toArray, List.set_cons_zero, List.set_cons_succ]
          refine wpAnyH_take (i := 7) (v := .int .i64 r1) rfl (by kernel_rfl) (by kernel_rfl) (by kernel_rfl) (fun _ _ _ h => h) (Or.inl ⟨by rfl, fun w' _ => by go_simp⟩) hS26 ?_
          change wpAnyH _ _ _ _ _ _ _ (Act.put _ (some 24) _) _
          simp only [Act.put, List.setIfInBounds_toArray, List.set_cons_zero, List.set_cons_succ]
          refine wpAnyH_ready (rs := [9]) (by kernel_rfl) (by simp) (AllReadyH.cons rfl ?_ AllReadyH.nil)
          intro K hK
          rw [if_pos (by rfl)]
          refine wp_store_row 28 (.tmp 7) (.tmp 23) rfl (V21.heap.size) #[.int .i16 ra, .int .i8 rp] rfl rfl 28 _ Z26 (infoNote2 _ _) (szNote2 _ _ _ _) (oneNote2 _ _) ?_
          have hb27 : Below w1.heap.size V26 (V26.setRow (V21.heap.size) #[.int .i16 ra, .int .i8 rp]) := below_setRow (Below.refl _ _) ge25
          have DD : Bk (V26.setRow (V21.heap.size) #[.int .i16 ra, .int .i8 rp]) (V21.heap.size) 28 #[.int .i16 ra, .int .i8 rp] := setRow_heap _ _ _ _ _ _ Z26
          have N27 : Bk (V26.setRow (V21.heap.size) #[.int .i16 ra, .int .i8 rp]) w.heap.size 25 #[.int .i16 x0_0, .int .i8 x0_1] := (setRow_other _ _ _ _ (by have e1 := NY.lt; have e2 := ge25; omega)).trans N26
          have C27 : Bk (V26.setRow (V21.heap.size) #[.int .i16 ra, .int .i8 rp]) (w.heap.size + 1) 27 #[.bool x1_0, .int .i8 x1_1, .int .i8 x1_2, .int .i8 x1_3] := (setRow_other _ _ _ _ (by have e1 := CY.lt; have e2 := ge25; omega)).trans C26
          have td27 := td26.trans hb27
          refine hK.out _ _ ⟨N27, C27⟩ (fun hS27 => ?_)
          clear hK K
          refine wpAnyH_take (i := 10) (v := .int .i64 r1) rfl (by kernel_rfl) (by kernel_rfl) (by kernel_rfl) (fun _ _ _ h => h) (Or.inl ⟨by rfl, fun w' _ => by go_simp⟩) hS27 ?_
          change wpAnyH _ _ _ _ _ _ _ (Act.put _ (some 8) _) _
          simp only [Act.put, List.setIfInBounds_toArray, List.set_cons_zero, List.set_cons_succ]
          refine wpAnyH_done (by kernel_rfl) ?_ _
          go_wp2_with fail
          go_meet
          exact ⟨_, _, rfl, rfl, rfl, DD, ge25, td27⟩
      · obtain ⟨V28, hV28⟩ : ∃ X, X = V20.alloc (.cells #[.int .i16 0, .int .i8 0] 28) := ⟨_, rfl⟩
        have hb28 : Below V20.heap.size V20 V28 := by rw [hV28]; exact (Below.refl _ _).alloc (Nat.le_refl _) _
        have Z28 : Bk V28 V20.heap.size 28 #[.int .i16 0, .int .i8 0] := by rw [hV28]; exact Bk.new _ _ _ rfl
        have ge28 : w1.heap.size ≤ V20.heap.size := td20.size
        intro K hK
        rw [if_pos (by rfl)]
        go_simp
        rw [← hV28]
        clear hV28
        have td28 := td20.trans (hb28.mono td20.size)
        have N28 := N20.keep hb28
        have C28 := C20.keep hb28
        refine hK.out _ _ ⟨N28, C28⟩ (fun hS28 => ?_)
        clear hK K
        refine wpAnyH_ready (rs := [3]) (by kernel_rfl) (by simp) (AllReadyH.cons rfl ?_ AllReadyH.nil)
        intro K hK
        rw [if_pos (by rfl)]
        go_simp
        refine (toChoice_any x1_0 x1_1 x1_2 x1_3 V28).mono ?_
        rintro e V29 ⟨rfl, hb29⟩
        have td29 := td28.trans (hb29.mono td28.size)
        have N29 := N28.keep hb29
        have C29 := C28.keep hb29
        have Z29 := Z28.keep hb29
        refine hK.out _ _ ⟨N29, C29⟩ (fun hS29 => ?_)
        clear hK K
        refine wpAnyH_ready (rs := [4]) (by kernel_rfl) (by simp) (AllReadyH.cons rfl ?_ AllReadyH.nil)
        intro K hK
        rw [if_pos (by rfl)]
        go_simp
        refine (KI V29 (hT.keep (step_below td29 b1))).mono ?_
        rintro e V30 ⟨rfl, hb30⟩
        have td30 := td29.trans (hb30.mono td29.size)
        have N30 := N29.keep hb30
        have C30 := C29.keep hb30
        have Z30 := Z29.keep hb30
        refine hK.out _ _ ⟨N30, C30⟩ (fun hS30 => ?_)
        clear hK K
        refine wpAnyH_take (i := 5) (v := .tuple #[.agg #[.int .i16 ra, .int .i8 rp], .int .i64 r1]) rfl (by kernel_rfl) (by kernel_rfl) (by kernel_rfl) (fun _ _ _ h => h) (Or.inl ⟨by rfl, fun w' _ => by go_simp⟩) hS30 ?_
        change wpAnyH _ _ _ _ _ _ _ (Act.put _ (some 17) _) _
        simp only [Act.put, List.setIfInBounds_toArray, List.set_cons_zero, List.set_cons_succ]
        refine wpAnyH_take (i := 6) (v := .agg #[.int .i16 ra, .int .i8 rp]) rfl (by kernel_rfl) (by kernel_rfl) (by kernel_rfl) (fun _ _ _ h => h) (Or.inl ⟨by rfl, fun w' _ => by go_simp⟩) hS30 ?_
        change wpAnyH _ _ _ _ _ _ _ (Act.put _ (some 23) _) _
        simp only [Act.put, List.setIfInBounds_toArray, List.set_cons_zero, List.set_cons_succ]
        refine wpAnyH_take (i := 7) (v := .int .i64 r1) rfl (by kernel_rfl) (by kernel_rfl) (by kernel_rfl) (fun _ _ _ h => h) (Or.inl ⟨by rfl, fun w' _ => by go_simp⟩) hS30 ?_
        change wpAnyH _ _ _ _ _ _ _ (Act.put _ (some 24) _) _
        simp only [Act.put, List.setIfInBounds_toArray, List.set_cons_zero, List.set_cons_succ]
        refine wpAnyH_ready (rs := [9]) (by kernel_rfl) (by simp) (AllReadyH.cons rfl ?_ AllReadyH.nil)
        intro K hK
        rw [if_pos (by rfl)]
        refine wp_store_row 28 (.tmp 7) (.tmp 23) rfl (V20.heap.size) #[.int .i16 ra, .int .i8 rp] rfl rfl 28 _ Z30 (infoNote2 _ _) (szNote2 _ _ _ _) (oneNote2 _ _) ?_
        have hb31 : Below w1.heap.size V30 (V30.setRow (V20.heap.size) #[.int .i16 ra, .int .i8 rp]) := below_setRow (Below.refl _ _) ge28
        have DD : Bk (V30.setRow (V20.heap.size) #[.int .i16 ra, .int .i8 rp]) (V20.heap.size) 28 #[.int .i16 ra, .int .i8 rp] := setRow_heap _ _ _ _ _ _ Z30
        have N31 : Bk (V30.setRow (V20.heap.size) #[.int .i16 ra, .int .i8 rp]) w.heap.size 25 #[.int .i16 x0_0, .int .i8 x0_1] := (setRow_other _ _ _ _ (by have e1 := NY.lt; have e2 := ge28; omega)).trans N30
        have C31 : Bk (V30.setRow (V20.heap.size) #[.int .i16 ra, .int .i8 rp]) (w.heap.size + 1) 27 #[.bool x1_0, .int .i8 x1_1, .int .i8 x1_2, .int .i8 x1_3] := (setRow_other _ _ _ _ (by have e1 := CY.lt; have e2 := ge28; omega)).trans C30
        have td31 := td30.trans hb31
        refine hK.out _ _ ⟨N31, C31⟩ (fun hS31 => ?_)
        clear hK K
        refine wpAnyH_take (i := 10) (v := .int .i64 r1) rfl (by kernel_rfl) (by kernel_rfl) (by kernel_rfl) (fun _ _ _ h => h) (Or.inl ⟨by rfl, fun w' _ => by go_simp⟩) hS31 ?_
        change wpAnyH _ _ _ _ _ _ _ (Act.put _ (some 8) _) _
        simp only [Act.put, List.setIfInBounds_toArray, List.set_cons_zero, List.set_cons_succ]
        refine wpAnyH_done (by kernel_rfl) ?_ _
        go_wp2_with fail
        go_meet
        exact ⟨_, _, rfl, rfl, rfl, DD, ge28, td31⟩
    · obtain ⟨V32, hV32⟩ : ∃ X, X = V19.alloc (.cells #[.int .i16 0, .int .i8 0] 28) := ⟨_, rfl⟩
      have hb32 : Below V19.heap.size V19 V32 := by rw [hV32]; exact (Below.refl _ _).alloc (Nat.le_refl _) _
      have Z32 : Bk V32 V19.heap.size 28 #[.int .i16 0, .int .i8 0] := by rw [hV32]; exact Bk.new _ _ _ rfl
      have ge32 : w1.heap.size ≤ V19.heap.size := hd19.size
      intro K hK
      rw [if_pos (by rfl)]
      go_simp
      rw [← hV32]
      clear hV32
      have td32 := hd19.trans (hb32.mono hd19.size)
      have N32 := N19.keep hb32
      have C32 := C19.keep hb32
      refine hK.out _ _ ⟨N32, C32⟩ (fun hS32 => ?_)
      clear hK K
      refine wpAnyH_ready (rs := [1]) (by kernel_rfl) (by simp) (AllReadyH.cons rfl ?_ AllReadyH.nil)
      intro K hK
      rw [if_pos (by rfl)]
      go_simp
      refine (toNote_any x0_0 x0_1 V32).mono ?_
      rintro e V33 ⟨rfl, hb33⟩
      have td33 := td32.trans (hb33.mono td32.size)
      have N33 := N32.keep hb33
      have C33 := C32.keep hb33
      have Z33 := Z32.keep hb33
      refine hK.out _ _ ⟨N33, C33⟩ (fun hS33 => ?_)
      clear hK K
      refine wpAnyH_ready (rs := [3]) (by kernel_rfl) (by simp) (AllReadyH.cons rfl ?_ AllReadyH.nil)
      intro K hK
      rw [if_pos (by rfl)]
      go_simp
      refine (toChoice_any x1_0 x1_1 x1_2 x1_3 V33).mono ?_
      rintro e V34 ⟨rfl, hb34⟩
      have td34 := td33.trans (hb34.mono td33.size)
      have N34 := N33.keep hb34
      have C34 := C33.keep hb34
      have Z34 := Z33.keep hb34
      refine hK.out _ _ ⟨N34, C34⟩ (fun hS34 => ?_)
      clear hK K
      refine wpAnyH_ready (rs := [4]) (by kernel_rfl) (by simp) (AllReadyH.cons rfl ?_ AllReadyH.nil)
      intro K hK
      rw [if_pos (by rfl)]
      go_simp
      refine (KI V34 (hT.keep (step_below td34 b1))).mono ?_
      rintro e V35 ⟨rfl, hb35⟩
      have td35 := td34.trans (hb35.mono td34.size)
      have N35 := N34.keep hb35
      have C35 := C34.keep hb35
      have Z35 := Z34.keep hb35
      refine hK.out _ _ ⟨N35, C35⟩ (fun hS35 => ?_)
      clear hK K
      refine wpAnyH_take (i := 5) (v := .tuple #[.agg #[.int .i16 ra, .int .i8 rp], .int .i64 r1]) rfl (by kernel_rfl) (by kernel_rfl) (by kernel_rfl) (fun _ _ _ h => h) (Or.inl ⟨by rfl, fun w' _ => by go_simp⟩) hS35 ?_
      change wpAnyH _ _ _ _ _ _ _ (Act.put _ (some 17) _) _
      simp only [Act.put, List.setIfInBounds_toArray, List.set_cons_zero, List.set_cons_succ]
      refine wpAnyH_take (i := 6) (v := .agg #[.int .i16 ra, .int .i8 rp]) rfl (by kernel_rfl) (by kernel_rfl) (by kernel_rfl) (fun _ _ _ h => h) (Or.inl ⟨by rfl, fun w' _ => by go_simp⟩) hS35 ?_
      change wpAnyH _ _ _ _ _ _ _ (Act.put _ (some 23) _) _
      simp only [Act.put, List.setIfInBounds_toArray, List.set_cons_zero, List.set_cons_succ]
      refine wpAnyH_take (i := 7) (v := .int .i64 r1) rfl (by kernel_rfl) (by kernel_rfl) (by kernel_rfl) (fun _ _ _ h => h) (Or.inl ⟨by rfl, fun w' _ => by go_simp⟩) hS35 ?_
      change wpAnyH _ _ _ _ _ _ _ (Act.put _ (some 24) _) _
      simp only [Act.put, List.setIfInBounds_toArray, List.set_cons_zero, List.set_cons_succ]
      refine wpAnyH_ready (rs := [9]) (by kernel_rfl) (by simp) (AllReadyH.cons rfl ?_ AllReadyH.nil)
      intro K hK
      rw [if_pos (by rfl)]
      refine wp_store_row 28 (.tmp 7) (.tmp 23) rfl (V19.heap.size) #[.int .i16 ra, .int .i8 rp] rfl rfl 28 _ Z35 (infoNote2 _ _) (szNote2 _ _ _ _) (oneNote2 _ _) ?_
      have hb36 : Below w1.heap.size V35 (V35.setRow (V19.heap.size) #[.int .i16 ra, .int .i8 rp]) := below_setRow (Below.refl _ _) ge32
      have DD : Bk (V35.setRow (V19.heap.size) #[.int .i16 ra, .int .i8 rp]) (V19.heap.size) 28 #[.int .i16 ra, .int .i8 rp] := setRow_heap _ _ _ _ _ _ Z35
      have N36 : Bk (V35.setRow (V19.heap.size) #[.int .i16 ra, .int .i8 rp]) w.heap.size 25 #[.int .i16 x0_0, .int .i8 x0_1] := (setRow_other _ _ _ _ (by have e1 := NY.lt; have e2 := ge32; omega)).trans N35
      have C36 : Bk (V35.setRow (V19.heap.size) #[.int .i16 ra, .int .i8 rp]) (w.heap.size + 1) 27 #[.bool x1_0, .int .i8 x1_1, .int .i8 x1_2, .int .i8 x1_3] := (setRow_other _ _ _ _ (by have e1 := CY.lt; have e2 := ge32; omega)).trans C35
      have td36 := td35.trans hb36
      refine hK.out _ _ ⟨N36, C36⟩ (fun hS36 => ?_)
      clear hK K
      refine wpAnyH_take (i := 10) (v := .int .i64 r1) rfl (by kernel_rfl) (by kernel_rfl) (by kernel_rfl) (fun _ _ _ h => h) (Or.inl ⟨by rfl, fun w' _ => by go_simp⟩) hS36 ?_
      change wpAnyH _ _ _ _ _ _ _ (Act.put _ (some 8) _) _
      simp only [Act.put, List.setIfInBounds_toArray, List.set_cons_zero, List.set_cons_succ]
      refine wpAnyH_done (by kernel_rfl) ?_ _
      go_wp2_with fail
      go_meet
      exact ⟨_, _, rfl, rfl, rfl, DD, ge32, td36⟩
  obtain ⟨g2, w2, rfl, rfl, rfl, K2, ge2, hb2⟩ := hcut
  have b2 := step_below hb2 b1
  have K3 := K1.keep hb2
  have c0 := K2.cell (i := 0) rfl
  have c1 := K2.cell (i := 1) rfl
  have e0 := K3.cell (i := 0) rfl
  have e1 := K3.cell (i := 1) rfl
  have hne : (r1 != r1) = false := by simp
  clear KS KI NY CY NX CX K1 K2 K3 hT
  go_wp2_with fail
  refine (KE w2).mono ?_
  rintro e w3 ⟨rfl, hb3⟩
  have b3 := step_below hb3 b2
  go_wp2
  go_ret
  exact ⟨rfl, b3⟩
end Go.Proofs.YtheoopbgbglmdaaDoor
