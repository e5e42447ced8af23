import Derived.Test.YtcdjfflmgjpobaaRev
namespace Go.Proofs.Ytcdjfflmgjpobaa
open Go.RowKit

/-- the mirrored drum, its first k steps laid -/
def mirT (S : Nat) (d : Nat → Int) (k : Nat) (i : Nat) : Int := if i < S ∧ S - 1 - i < k then d (S - 1 - i) else 0
theorem mirT_zero (S : Nat) (d : Nat → Int) : mirT S d 0 = fun _ => 0 := by funext i; simp [mirT]
theorem mirT_step {S k : Nat} {d : Nat → Int} (hk : k < S) (i : Nat) : (if i = S - 1 - k then d k else mirT S d k i) = mirT S d (k + 1) i := by
  unfold mirT
  by_cases e : i = S - 1 - k
  · subst e
    rw [if_pos rfl, if_pos ⟨by omega, by omega⟩, show S - 1 - (S - 1 - k) = k by omega]
  · rw [if_neg e]
    by_cases hi : i < S
    · by_cases h2 : S - 1 - i < k
      · rw [if_pos ⟨hi, h2⟩, if_pos ⟨hi, by omega⟩]
      · rw [if_neg (fun h => h2 h.2), if_neg (fun h => by have := h.2; omega)]
    · rw [if_neg (fun h => hi h.1), if_neg (fun h => hi h.1)]
theorem FP.other {w : World} {b g k : Nat} {s : Int} {A : Option Addr} {n c : Nat} (h : FP w b s A n c) (hne : b ≠ g) (v : Value) : FP (w.setCell ⟨g, k, none⟩ v) b s A n c :=
  ⟨(cell_block (heap_setCell_other _ _ _ _ hne)).trans h.1, (cell_block (heap_setCell_other _ _ _ _ hne)).trans h.2⟩
theorem mir_rev {S : Nat} {s : Int} {n : Nat} {d : Nat → Int} (hs : s = (S : Int)) (h : drB s n d = true) (i : Nat) (hi : i < 96) : revD S d i = mirT S d S i := by
  unfold revD mirT
  by_cases e : i < S
  · rw [if_pos e, if_pos ⟨e, by omega⟩]
  · rw [if_neg e, if_neg (fun h => e h.1)]
    have := drB_all h i hi
    simp only [stepB, Bool.and_eq_true, Bool.or_eq_true, decide_eq_true_eq] at this
    omega
theorem slice_drum (g S : Nat) (hS : S ≤ 96) (w : World) : (Instr.sliceAt 29 (.pointer (some ⟨g, 0, none⟩)) none (some (.int .i64 (S : Int))) none).run Try.prog w = .ok (.slice (some ⟨g, 0, none⟩) S 96) w := by
  have hl : Try.prog.arrayLen 29 = 96 := by kernel_rfl
  have he : Try.prog.elem 29 = 26 := by kernel_rfl
  rw [run_sliceAt_array_h w 29 ⟨g, 0, none⟩ Try.underlying29 .i64 S (by omega) (by rw [hl]; omega), hl, he]
  simp [Try.sizeOf26, slicedAt, go_sem]
def mirC (s : Int) (l : List (Int × Int)) (d : Nat → Int) : Int := codeI (askB s l d)
def mirD (s : Int) (l : List (Int × Int)) (d : Nat → Int) : Nat → Int := if mirC s l d = 0 then mirT s.toNat d s.toNat else fun _ => 0

set_option maxRecDepth 20000 in
set_option maxHeartbeats 2000000 in
theorem specMirrorDrum_any (s : Int) (A : Option Addr) (c : Nat) (l : List (Int × Int)) (d : Nat → Int) (w : World) (hA : HA w A l) (hn : l.length ≤ 1048576) (hwf : HWF l) (hs : -32768 ≤ s ∧ s ≤ 32767) (hd : DWF d) :
    Calls Try.prog 8 #[.agg #[.int .i16 s, .slice A l.length c], .agg (da d)] w (DrC (mirD s l d) (mirC s l d) w) := by
  have hz := zeroDrum
  have hb0 : Below w.heap.size w (((w.alloc (.cells #[.int .i16 s, .slice A l.length c] 34)).alloc (.cells (da d) 29)).alloc (.cells za 29)) := (((Below.refl _ _).alloc (Nat.le_refl _) _).alloc (by simp) _).alloc (by simp; omega) _
  have hF : FP (((w.alloc (.cells #[.int .i16 s, .slice A l.length c] 34)).alloc (.cells (da d) 29)).alloc (.cells za 29)) w.heap.size s A l.length c := ⟨by simp [go_sem], by simp [go_sem]⟩
  have hD : Dr (((w.alloc (.cells #[.int .i16 s, .slice A l.length c] 34)).alloc (.cells (da d) 29)).alloc (.cells za 29)) (w.heap.size + 1) 29 d := heap_old' (heap_new' _ _ _ (by simp))
  have hZ : Dr (((w.alloc (.cells #[.int .i16 s, .slice A l.length c] 34)).alloc (.cells (da d) 29)).alloc (.cells za 29)) (w.heap.size + 1 + 1) 29 (fun _ => 0) := by rw [za_eq]; exact heap_new' _ _ _ (by simp)
  go_enter Try.func8, Try.ntmps8
  go_wp2_with fail
  refine (l02Asked_any _ _ s A c l d _ hF hD (hA.below hb0) hn hwf hs hd).mono ?_
  rintro e w1 ⟨rfl, hb1⟩
  have b1 := step_below hb1 hb0
  have D1 := hD.keep hb1
  have F1 := hF.keep hb1
  have Z1 := hZ.keep hb1
  have R1 : w1.heap[w.heap.size + 1 + 1]? = some (.cells (da fun _ => 0) 29 (0, 0)) := Z1
  have HZ := hide R1
  clear R1 hZ
  cases ha : askB s l d
  · simp only [codeI]
    have hcc : mirC s l d = 1 := by simp [mirC, ha, codeI]
    have HX := hide hcc
    have HY := hide (show mirD s l d = fun _ => 0 by simp [mirD, hcc])
    clear hcc
    clear ha hz
    go_wp2_with (first | (with_reducible refine wpList_build0 rfl rfl ?_) | (with_reducible refine wpList_store_row rfl 29 (.tmp 4) (.tmp 12) rfl (w.heap.size + 1 + 1) (da fun _ => 0) rfl rfl 29 _ HZ.out (by rw [da_size]; exact info29) (by simp only [da_size]) (da_one _) ?_))
    exact bodyPost_ret (v := .tuple #[.agg (da fun _ => 0), .int .i64 1]) (results_dr Try.results8 _ _ (w.heap.size + 1 + 1) 29 _ _ (by simp [Act.put]) (by simp [Act.put]) (setRow_heap _ _ _ _ _ _ HZ.out)) rfl ⟨by rw [HY.out, HX.out], below_setRow b1 (by omega)⟩
  have hfa := ask_all ha
  obtain ⟨S, hSs⟩ : ∃ S : Nat, s = (S : Int) := ⟨s.toNat, by omega⟩
  have hS2 : 2 ≤ S ∧ S ≤ 96 := by omega
  have hSn : s.toNat = S := by omega
  simp only [codeI]
  have hcc : mirC s l d = 0 := by simp [mirC, ha, codeI]
  have HX := hide hcc
  have HY := hide (show mirD s l d = mirT S d S by simp [mirD, hcc, hSn])
  clear hcc
  clear ha hfa hSn
  subst hSs
  have b1x := b1.alloc b1.size (.cells (da fun _ => 0) 29)
  have hal : Below w1.heap.size w1 (w1.alloc (.cells (da fun _ => 0) 29)) := (Below.refl _ _).alloc (Nat.le_refl _) _
  have D1x := D1.keep hal
  have Z1x := Z1.keep hal
  have F1x := F1.keep hal
  have O1x : Dr (w1.alloc (.cells (da fun _ => 0) 29)) w1.heap.size 29 (fun _ => 0) := heap_new' _ _ _ rfl
  have hw1 : w.heap.size + 1 + 1 < w1.heap.size := Z1.lt
  have hzz : za.size = (da fun _ => 0).size := by rw [za_eq]
  go_wp2_with (first | (with_reducible refine wpList_build0 rfl rfl ?_) | (with_reducible refine wpList_store_new rfl 29 (.tmp 7) (.tmp 14) rfl (fun _ => 0) rfl rfl 29 _ (dInfo fun _ => 0) hzz ?_))
  clear hz
  go_loopw [8] (fun i wr => ∃ k : Nat, k ≤ S ∧ i = .int .i64 k ∧ FP wr w.heap.size S A l.length c ∧ Dr wr (w.heap.size + 1) 29 d ∧ Dr wr (w.heap.size + 1 + 1) 29 (fun _ => 0) ∧ Dr wr w1.heap.size 29 (mirT S d k) ∧ Below w.heap.size w wr)
    (fun i _ => S - (intOf i).toNat)
  case atStart => exact ⟨0, Nat.zero_le _, rfl, F1x, D1x, Z1x, by rw [mirT_zero]; exact O1x, b1x⟩
  case round =>
    obtain ⟨k, hk, rfl, E0, E1, E2, E3, hb⟩ := hrel
    have e0 := E0.1
    by_cases hlt : k < S
    · have hk96 : k < 96 := by omega
      have hd1 : Below wr.heap.size wr wr.drew := (Below.refl _ _).drew
      obtain ⟨j, hj⟩ : ∃ j, S - 1 - k = j := ⟨_, rfl⟩
      have hj96 : j < 96 := by omega
      have hwS : IntKind.i64.wrap (S : Int) = (S : Int) := IntWalk.i64_in _ (by omega)
      have hwa : IntKind.i64.wrap ((S : Int) - 1) = (S : Int) - 1 := IntWalk.i64_in _ (by omega)
      have hwb : IntKind.i64.wrap ((S : Int) - 1 - (k : Int)) = (j : Int) := by rw [show (S : Int) - 1 - (k : Int) = (j : Int) by omega]; exact IntWalk.i64_in _ (by omega)
      go_wp2_with fail
      refine wp_region_still_tail 10 (by kernel_rfl) (by kernel_rfl) ?_
      change wpStill _ _ wr.drew (fun a' => wpList _ _ _ _ a' wr.drew) _ _
      simp only [List.take_succ_cons, List.take_zero, List.drop_succ_cons, List.drop_zero]
      have E0d := E0.keep hd1
      have E1d := E1.keep hd1
      have E2d := E2.keep hd1
      have E3d := E3.keep hd1
      have hbd := hb.drew
      clear E0 E1 E2 E3 hb hd1 e0
      generalize wr.drew = wd at *
      have c0 := E0d.1
      have c3 := E1d.cell hk96
      have c4 := E3d.cell hj96
      have f4 := E3d.frozen j
      have hki : (k : Int) < 96 := by omega
      have hdi : (j : Int) < 96 := by omega
      repeat still_step
      refine wpStill_nil ?_
      go_wp2
      go_roundw
      case rel => exact ⟨k + 1, hlt, by go_num, E0d.other (by omega) _, E1d.other (by omega) _, E2d.other (by omega) _, (E3d.set j (d k)).congr fun i _ => by rw [← hj]; exact mirT_step hlt i, hbd.setCell (p := ⟨_, _, none⟩) (by dsimp only; omega) _⟩
      case measure => simp [intOf]; omega
    · obtain rfl : k = S := by omega
      have R2 : wr.heap[w.heap.size + 1 + 1]? = some (.cells (da fun _ => 0) 29 (0, 0)) := E2
      have HZ := hide R2
      have HR3 := hide E3.range
      clear R2
      go_wp2_with (first | (with_reducible refine wpList_load_da rfl 29 (.tmp 7) rfl w1.heap.size 0 rfl (mirT k d k) _ HR3.out Try.underlying29 rfl (dInfo (mirT k d k)) ?_) | (with_reducible refine wpList_store_row rfl 29 (.tmp 4) (.tmp 32) rfl (w.heap.size + 1 + 1) (da (mirT k d k)) rfl rfl 29 _ HZ.out (by rw [da_size]; exact info29) (by simp only [da_size]) (da_one _) ?_))
      exact bodyPost_ret (v := .tuple #[.agg (da (mirT k d k)), .int .i64 0]) (results_dr Try.results8 _ _ (w.heap.size + 1 + 1) 29 _ _ (by simp [Act.put]) (by simp [Act.put]) (setRow_heap _ _ _ _ _ _ HZ.out)) rfl ⟨by rw [HY.out, HX.out], below_setRow hb (by omega)⟩

set_option maxRecDepth 20000 in
set_option maxHeartbeats 2000000 in
theorem implMirrorDrum_any (s : Int) (A : Option Addr) (c : Nat) (l : List (Int × Int)) (d : Nat → Int) (w : World) (hA : HA w A l) (hn : l.length ≤ 1048576) (hwf : HWF l) (hs : -32768 ≤ s ∧ s ≤ 32767) (hd : DWF d) :
    Calls Try.prog 11 #[.agg #[.int .i16 s, .slice A l.length c], .agg (da d)] w (DrC (mirD s l d) (mirC s l d) w) := by
  have hz := zeroDrum
  have hb0 : Below w.heap.size w (((w.alloc (.cells #[.int .i16 s, .slice A l.length c] 34)).alloc (.cells (da d) 29)).alloc (.cells za 29)) := (((Below.refl _ _).alloc (Nat.le_refl _) _).alloc (by simp) _).alloc (by simp; omega) _
  have D0 : Dr (((w.alloc (.cells #[.int .i16 s, .slice A l.length c] 34)).alloc (.cells (da d) 29)).alloc (.cells za 29)) (w.heap.size + 1) 29 d := heap_old' (heap_new' _ _ _ (by simp))
  have Z0 : Dr (((w.alloc (.cells #[.int .i16 s, .slice A l.length c] 34)).alloc (.cells (da d) 29)).alloc (.cells za 29)) (w.heap.size + 1 + 1) 29 (fun _ => 0) := by rw [za_eq]; exact heap_new' _ _ _ (by simp)
  have HR0 := hide D0.range
  go_enter Try.func11, Try.ntmps11
  go_wp2_with (first | (with_reducible refine wpList_load_da rfl 29 (.tmp 3) rfl (w.heap.size + 1) 0 rfl d _ HR0.out Try.underlying29 rfl (dInfo d) ?_) | (with_reducible refine wpList_build1 rfl (.tmp 10) rfl d rfl ?_))
  refine (machine1_any s A c l d _ (hA.below hb0) hn hwf hs hd _ (by simp)).mono ?_
  rintro e w2 ⟨rfl, hb2⟩
  have hx0 : Below (((w.alloc (.cells #[.int .i16 s, .slice A l.length c] 34)).alloc (.cells (da d) 29)).alloc (.cells za 29)).heap.size (((w.alloc (.cells #[.int .i16 s, .slice A l.length c] 34)).alloc (.cells (da d) 29)).alloc (.cells za 29)) ((((w.alloc (.cells #[.int .i16 s, .slice A l.length c] 34)).alloc (.cells (da d) 29)).alloc (.cells za 29)).alloc (.cells (da d) 29)) := (Below.refl _ _).alloc (Nat.le_refl _) _
  have b2 := step_below hb2 (hb0.alloc hb0.size (.cells (da d) 29))
  have hy : Below w2.heap.size w2 (w2.alloc (.cells #[.int .i64 s, .slice A l.length c] 58)) := (Below.refl _ _).alloc (Nat.le_refl _) _
  have M3 : (w2.alloc (.cells #[.int .i64 s, .slice A l.length c] 58)).heap[w2.heap.size]? = some (.cells #[.int .i64 s, .slice A l.length c] 58 (0, 0)) := heap_alloc_new _ _
  have b3 := b2.alloc b2.size (.cells #[.int .i64 s, .slice A l.length c] 58)
  have D3 := ((D0.keep hx0).keep hb2).keep hy
  have Z2 := (Z0.keep hx0).keep hb2
  have hw2 : w.heap.size + 1 + 1 < w2.heap.size := Z2.lt
  have Z3 := Z2.keep hy
  have R3 : (w2.alloc (.cells #[.int .i64 s, .slice A l.length c] 58)).heap[w.heap.size + 1 + 1]? = some (.cells (da fun _ => 0) 29 (0, 0)) := Z3
  have HZ := hide R3
  cases ha : askB s l d
  · have hcc : mirC s l d = 1 := by simp [mirC, ha, codeI]
    have HX := hide hcc
    have HY := hide (show mirD s l d = fun _ => 0 by simp [mirD, hcc])
    clear R3 hcc
    clear ha hz
    go_wp2_with (first | (with_reducible refine wpList_build0 rfl rfl ?_) | (with_reducible refine wpList_store_row rfl 29 (.tmp 4) (.tmp 17) rfl (w.heap.size + 1 + 1) (da fun _ => 0) rfl rfl 29 _ HZ.out (by rw [da_size]; exact info29) (by simp only [da_size]) (da_one _) ?_))
    exact bodyPost_ret (v := .tuple #[.agg (da fun _ => 0), .int .i64 1]) (results_dr Try.results11 _ _ (w.heap.size + 1 + 1) 29 _ _ (by simp [Act.put]) (by simp [Act.put]) (setRow_heap _ _ _ _ _ _ HZ.out)) rfl ⟨by rw [HY.out, HX.out], below_setRow b3 (by omega)⟩
  have hfa := ask_all ha
  obtain ⟨S, hSs⟩ : ∃ S : Nat, s = (S : Int) := ⟨s.toNat, by omega⟩
  have hS2 : 2 ≤ S ∧ S ≤ 96 := by omega
  have hSn : s.toNat = S := by omega
  have hcc : mirC s l d = 0 := by simp [mirC, ha, codeI]
  have HX := hide hcc
  have HY := hide (show mirD s l d = mirT S d S by simp [mirD, hcc, hSn])
  have HV := hide (fun i hi => mir_rev hSs hfa.2.2.2 i hi)
  clear hcc ha hfa hSn HZ
  subst hSs
  have m1 := cell_of_row _ _ 0 _ _ _ M3
  simp at m1
  have hsl := slice_drum (w.heap.size + 1) S hS2.2 (w2.alloc (.cells #[.int .i64 S, .slice A l.length c] 58))
  go_wp2_with fail
  refine (reverse_any (w.heap.size + 1) S 96 d _ D3 hS2.2).mono ?_
  rintro e w4 ⟨rfl, D4, hk4, hb4⟩
  have b4 := hb4 _ _ b3 (by omega)
  have R4 : w4.heap[w.heap.size + 1 + 1]? = some (.cells (da fun _ => 0) 29 (0, 0)) := (hk4 _ (by omega)).trans R3
  have HZ := hide R4
  have D5 : Dr w4 (w.heap.size + 1) 29 (mirT S d S) := D4.congr HV.out
  have HR4 := hide D5.range
  clear R3 R4 D5 D4 hz
  go_wp2_with (first | (with_reducible refine wpList_load_da rfl 29 (.tmp 3) rfl (w.heap.size + 1) 0 rfl (mirT S d S) _ HR4.out Try.underlying29 rfl (dInfo (mirT S d S)) ?_) | (with_reducible refine wpList_store_row rfl 29 (.tmp 4) (.tmp 22) rfl (w.heap.size + 1 + 1) (da (mirT S d S)) rfl rfl 29 _ HZ.out (by rw [da_size]; exact info29) (by simp only [da_size]) (da_one _) ?_))
  exact bodyPost_ret (v := .tuple #[.agg (da (mirT S d S)), .int .i64 0]) (results_dr Try.results11 _ _ (w.heap.size + 1 + 1) 29 _ _ (by simp [Act.put]) (by simp [Act.put]) (setRow_heap _ _ _ _ _ _ HZ.out)) rfl ⟨by rw [HY.out, HX.out], below_setRow b4 (by omega)⟩
end Go.Proofs.Ytcdjfflmgjpobaa
