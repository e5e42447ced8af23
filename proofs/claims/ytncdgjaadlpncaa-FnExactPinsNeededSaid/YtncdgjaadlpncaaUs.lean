import Derived.Test.YtncdgjaadlpncaaUi
import Derived.StillTailTactics
namespace Go.Proofs.Ytncdgjaadlpncaa
open Go.RowKit

theorem code_ne {cc : Int} (h : ¬ cc = 0) : (cc != 0) = true := by simpa using h
theorem code_neq {cc : Int} (h : ¬ cc = 0) : (cc == 0) = false := by simpa using h
/-- the code of drums and a first one -/
def fstC (s : Int) (l : List (Int × Int)) (ds : List (Nat → Int)) (x : Int) : Int := if lstC s l ds = 0 then (if inB x (-1) ((ds.length : Int) - 1) then (if ds.length = 0 then 6 else 0) else 2) else lstC s l ds
theorem fstC_minus (s : Int) (l : List (Int × Int)) (ds : List (Nat → Int)) : fstC s l ds (-1) = shC s l ds := by
  have h : inB (-1) (-1) ((ds.length : Int) - 1) = true := by simp [inB]; omega
  simp [fstC, shC, h]
set_option maxRecDepth 20000 in
set_option maxHeartbeats 1000000 in
theorem l05First_any (b g e : Nat) (s : Int) (A : Option Addr) (c : Nat) (l : List (Int × Int)) (ds : List (Nat → Int)) (x : Int) (w : World) (hF : FP w b s A l.length c) (hA : HA w A l) (hn : l.length ≤ 1048576) (hwf : HWF l) (hs : -32768 ≤ s ∧ s ≤ 32767)
    (hL : LD w g ds) (hd : DsWF ds) (hds : ds.length ≤ 1048576) :
    Calls Try.prog 78 #[.pointer (some ⟨b, 0, none⟩), .slice (some ⟨g, 0, none⟩) ds.length e, .int .i64 x] w (SaysI (fstC s l ds x) w) := by
  go_enter Try.func78, Try.ntmps78
  go_wp2_with fail
  refine (l05Asked_any b g e s A c l ds _ hF hA hn hwf hs hL hd hds).mono ?_
  rintro e' w1 ⟨rfl, hb1⟩
  obtain ⟨cc, hcc⟩ : ∃ cc, cc = lstC s l ds := ⟨_, rfl⟩
  rw [← hcc]
  have HCC := hide hcc
  clear hcc
  by_cases h0 : cc = 0
  · subst h0
    have hw : IntKind.i64.wrap ((ds.length : Int) - 1) = (ds.length : Int) - 1 := IntWalk.i64_in _ (by omega)
    have KI : ∀ W, Calls Try.prog 91 #[.int .i64 x, .int .i64 (-1), .int .i64 ((ds.length : Int) - 1)] W fun e w' => e = .returned (.bool (inB x (-1) ((ds.length : Int) - 1))) ∧ W = w' := fun W => l00In_any x _ _ W
    cases hx : inB x (-1) ((ds.length : Int) - 1)
    · rw [hx] at KI
      have HC := hide (show fstC s l ds x = 2 by simp [fstC, ← HCC.out, hx])
      clear hx
      go_wp2_with (go_at_call 91; with_reducible refine (KI _).mono ?_; rintro e w' ⟨rfl, rfl⟩)
      go_ret
      exact ⟨ret_int HC.out.symm, hb1⟩
    · rw [hx] at KI
      by_cases hl0 : ds.length = 0
      · have HC := hide (show fstC s l ds x = 6 by unfold fstC; rw [if_pos HCC.out.symm, if_pos hx, if_pos hl0])
        have hle : ((ds.length : Int) == 0) = true := by simp [hl0]
        clear hx hl0
        go_wp2_with (go_at_call 91; with_reducible refine (KI _).mono ?_; rintro e w' ⟨rfl, rfl⟩)
        go_ret
        exact ⟨ret_int HC.out.symm, hb1⟩
      · have HC := hide (show fstC s l ds x = 0 by simp [fstC, ← HCC.out, hx, hl0])
        have hle : ((ds.length : Int) == 0) = false := by simpa using hl0
        clear hx hl0
        go_wp2_with (go_at_call 91; with_reducible refine (KI _).mono ?_; rintro e w' ⟨rfl, rfl⟩)
        go_ret
        exact ⟨ret_int HC.out.symm, hb1⟩
  · have HC := hide (show fstC s l ds x = cc by simp [fstC, ← HCC.out, h0])
    have hne := code_neq h0
    clear h0
    go_wp2
    go_ret
    exact ⟨ret_int HC.out.symm, hb1⟩

set_option maxRecDepth 20000 in
set_option maxHeartbeats 2000000 in
theorem l05Union_any (g e : Nat) (ds : List (Nat → Int)) (w : World) (hL : LD w g ds) (hds : ds.length ≤ 1048576) :
    Calls Try.prog 82 #[.slice (some ⟨g, 0, none⟩) ds.length e] w fun e' w' => e' = .returned (.agg (da (unT ds ds.length))) ∧ Below w.heap.size w w' := by
  have hz := zeroDrum
  have hza : za.size = (da fun _ => 0).size := by rw [da_size]; rfl
  have hzz : ((w.alloc (.cells za 29)).alloc (.cells za 29)).heap[w.heap.size + 1]? = some (.cells za 29 (0, 0)) := heap_new' _ _ _ (by simp)
  have HZZ := hide hzz
  obtain ⟨X0, hX⟩ : ∃ X, X = ((w.alloc (.cells za 29)).alloc (.cells za 29)).setRow (w.heap.size + 1) (da fun _ => 0) := ⟨_, rfl⟩
  have b0 : Below w.heap.size w X0 := by rw [hX]; exact below_setRow (((Below.refl _ _).alloc (Nat.le_refl _) _).alloc (by simp) _) (by omega)
  have Z0 : Dr X0 w.heap.size 29 (fun _ => 0) := by rw [hX]; exact (setRow_other _ _ _ _ (by omega)).trans (by rw [za_eq]; exact heap_old' (heap_new' _ _ _ rfl))
  have O0 : Dr X0 (w.heap.size + 1) 29 (unT ds 0) := by rw [hX]; exact setRow_heap _ _ _ _ _ _ hzz
  clear hzz
  go_enter Try.func82, Try.ntmps82
  go_upto_region 2 with (first | (with_reducible refine wpList_build0 rfl rfl ?_) | (with_reducible refine wpList_store_row rfl 29 (.tmp 3) (.tmp 6) rfl (w.heap.size + 1) (da fun _ => 0) rfl rfl 29 _ HZZ.out (by rw [da_size]; exact info29) hza (da_one _) ?_))
  rw [← hX]
  clear hX hz hza
  go_wp2_with fail
  go_loopw [4] (fun i wr => ∃ k : Nat, 0 ≤ k ∧ k ≤ ds.length ∧ i = .int .i64 k ∧ Dr wr w.heap.size 29 (fun _ => 0) ∧ Dr wr (w.heap.size + 1) 29 (unT ds k) ∧ Below w.heap.size w wr)
    (fun i _ => ds.length - (intOf i).toNat)
  case atStart => exact ⟨0, Nat.le_refl _, by omega, rfl, Z0, O0, b0⟩
  case round =>
    obtain ⟨k, hk0, hk, rfl, Z1, O1, hb⟩ := hrel
    by_cases hlt : k < ds.length
    · have hki : (k : Int) < (ds.length : Int) := by omega
      obtain ⟨q, hqq⟩ : ∃ q, ds.getD k (fun _ => 0) = q := ⟨_, rfl⟩
      have HQ := hide hqq
      obtain ⟨p, hp⟩ : ∃ p, unT ds k = p := ⟨_, rfl⟩
      rw [hp] at O1
      have HP := hide hp
      clear hp hqq
      go_wp2_with fail
      go_loopw [5] (fun i wq => ∃ j : Nat, j ≤ 96 ∧ i = .int .i64 j ∧ Dr wq w.heap.size 29 (fun _ => 0) ∧ Dr wq (w.heap.size + 1) 29 (fun i => if i < j then orD p q i else p i) ∧ Below w.heap.size w wq)
        (fun i _ => 96 - (intOf i).toNat)
      case atStart => exact ⟨0, Nat.zero_le _, rfl, Z1, O1, hb⟩
      case round =>
        obtain ⟨j, hj, rfl, Z2, O2, hb2⟩ := hrel
        by_cases hlt2 : j < 96
        · have hji : (j : Int) < 96 := by omega
          go_wp2_with fail
          have hd0 : Below wr.heap.size wr wr.drew := (Below.refl _ _).drew
          have b3 := hb2.drew
          have Z3 := Z2.keep hd0
          have O3 := O2.keep hd0
          refine wp_region_still_tail 12 (by kernel_rfl) (by kernel_rfl) ?_
          change wpStill _ _ wr.drew (fun a' => wpList _ _ _ _ a' wr.drew) _ _
          simp only [List.take_succ_cons, List.take_zero, List.drop_succ_cons, List.drop_zero]
          clear Z2 O2 hd0
          generalize wr.drew = wd at *
          have c1 : wd.cell? ⟨w.heap.size + 1, j, none⟩ = some (.int .u32 (p j)) := by rw [O3.cell hlt2, if_neg (Nat.lt_irrefl j)]
          have f1 := O3.frozen j
          have c2 : wd.cell? ⟨g, k * 96 + j, none⟩ = some (.int .u32 (q j)) := by rw [← HQ.out]; exact (hL.keep b3).range hlt j _ (dv_get _ j hlt2)
          repeat still_step
          refine wpStill_nil ?_
          go_wp2
          go_roundw
          case rel =>
            refine ⟨j + 1, hlt2, by go_num, Z3.other (by omega) _, (O3.set j _).congr fun i hi => ?_, b3.setCell (p := ⟨_, _, none⟩) (by dsimp only; omega) _⟩
            change (if i = j then orD p q j else _) = _
            by_cases e : i = j
            · subst e; rw [if_pos rfl, if_pos (by omega)]
            · rw [if_neg e]
              by_cases h2 : i < j
              · rw [if_pos h2, if_pos (by omega)]
              · rw [if_neg h2, if_neg (by omega)]
          case measure => simp [intOf]; omega
        · obtain rfl : j = 96 := by omega
          have O3 : Dr wr (w.heap.size + 1) 29 (unT ds (k + 1)) := O2.congr fun i hi => by rw [if_pos hi, unT, HP.out, HQ.out]
          have HO := hide O3
          clear O2 O3
          go_wp2
          go_roundw
          case rel => exact ⟨k + 1, by omega, hlt, by go_num, Z2, HO.out, hb2⟩
          case measure => simp [intOf]; omega
    · obtain rfl : k = ds.length := by omega
      have HR := hide O1.range
      have R2 : wr.heap[w.heap.size]? = some (.cells (da fun _ => 0) 29 (0, 0)) := Z1
      have HZ := hide R2
      clear R2 Z1 O1
      go_wp2_with (first | (with_reducible refine wpList_load_da rfl 29 (.tmp 3) rfl (w.heap.size + 1) 0 rfl (unT ds ds.length) _ HR.out Try.underlying29 rfl (dInfo (unT ds ds.length)) ?_) | (with_reducible refine wpList_store_row rfl 29 (.tmp 2) (.tmp 29) rfl w.heap.size (da (unT ds ds.length)) rfl rfl 29 _ HZ.out (by rw [da_size]; exact info29) (by simp only [da_size]) (da_one _) ?_))
      exact bodyPost_ret (v := .agg (da (unT ds ds.length))) (results_cell_row Try.results82 _ _ w.heap.size 29 (da (unT ds ds.length)) (0, 0) _ (by simp [Act.put]) (setRow_heap _ _ _ _ _ _ HZ.out) Try.underlying29 rfl (by rw [da_size]; exact info29)) rfl ⟨rfl, below_setRow hb (by omega)⟩
set_option maxRecDepth 20000 in
set_option maxHeartbeats 2000000 in
theorem specUnionOf_any (s : Int) (A : Option Addr) (c : Nat) (l : List (Int × Int)) (g e : Nat) (ds : List (Nat → Int)) (w : World) (hA : HA w A l) (hn : l.length ≤ 1048576) (hwf : HWF l) (hs : -32768 ≤ s ∧ s ≤ 32767)
    (hL : LD w g ds) (hd : DsWF ds) (hds : ds.length ≤ 1048576) :
    Calls Try.prog 41 #[.agg #[.int .i16 s, .slice A l.length c], .slice (some ⟨g, 0, none⟩) ds.length e] w (DrC (unD s l ds) (unK s l ds) w) := by
  have hz := zeroDrum
  obtain ⟨X0, hX⟩ : ∃ X, X = (w.alloc (.cells #[.int .i16 s, .slice A l.length c] 34)).alloc (.cells za 29) := ⟨_, rfl⟩
  have b0 : Below w.heap.size w X0 := by rw [hX]; exact ((Below.refl _ _).alloc (Nat.le_refl _) _).alloc (by simp) _
  have F0 : FP X0 w.heap.size s A l.length c := by rw [hX]; exact ⟨by simp [go_sem], by simp [go_sem]⟩
  have Z0 : Dr X0 (w.heap.size + 1) 29 (fun _ => 0) := by rw [hX, za_eq]; exact heap_new' _ _ _ (by simp)
  go_enter Try.func41, Try.ntmps41
  go_upto_region 1 with fail
  rw [← hX]
  clear hX hz
  go_wp2_with fail
  refine (l05Asked_any _ g e s A c l ds _ F0 (hA.below b0) hn hwf hs (hL.keep b0) hd hds).mono ?_
  rintro e' w1 ⟨rfl, hb1⟩
  have b1 := step_below hb1 b0
  have Z1 := Z0.keep hb1
  have L1 := hL.keep b1
  obtain ⟨cc, hcc⟩ : ∃ cc, cc = lstC s l ds := ⟨_, rfl⟩
  rw [← hcc]
  have HCC := hide hcc
  clear hcc
  by_cases h0 : cc = 0
  · subst h0
    have HC := hide (show unK s l ds = 0 from HCC.out.symm)
    have HY := hide (show unD s l ds = unT ds ds.length by simp [unD, ← HCC.out])
    go_wp2_with fail
    refine (l05Union_any g e ds _ L1 hds).mono ?_
    rintro e' w2 ⟨rfl, hb2⟩
    have b2 := step_below hb2 b1
    have R2 : w2.heap[w.heap.size + 1]? = some (.cells (da fun _ => 0) 29 (0, 0)) := Z1.keep hb2
    have HZ := hide R2
    clear R2 Z1
    go_wp2_with (with_reducible refine wpList_store_row rfl 29 (.tmp 4) (.tmp 14) rfl (w.heap.size + 1) (da (unT ds ds.length)) rfl rfl 29 _ HZ.out (by rw [da_size]; exact info29) (by simp only [da_size]) (da_one _) ?_)
    exact bodyPost_ret (v := .tuple #[.agg (da (unT ds ds.length)), .int .i64 0]) (results_dr Try.results41 _ _ (w.heap.size + 1) 29 _ _ (by simp [Act.put]) (by simp [Act.put]) (setRow_heap _ _ _ _ _ _ HZ.out)) rfl ⟨by rw [HY.out, HC.out], below_setRow b2 (by omega)⟩
  · have HC := hide (show unK s l ds = cc from HCC.out.symm)
    have HY := hide (show unD s l ds = fun _ => 0 by simp [unD, ← HCC.out, h0])
    have hne := code_ne h0
    clear h0
    have R2 : w1.heap[w.heap.size + 1]? = some (.cells (da fun _ => 0) 29 (0, 0)) := Z1
    have HZ := hide R2
    clear R2 Z1
    go_wp2_with (first | (with_reducible refine wpList_build0 rfl rfl ?_) | (with_reducible refine wpList_store_row rfl 29 (.tmp 4) (.tmp 11) rfl (w.heap.size + 1) (da fun _ => 0) rfl rfl 29 _ HZ.out (by rw [da_size]; exact info29) (by simp only [da_size]) (da_one _) ?_))
    exact bodyPost_ret (v := .tuple #[.agg (da fun _ => 0), .int .i64 cc]) (results_dr Try.results41 _ _ (w.heap.size + 1) 29 _ _ (by simp [Act.put]) (by simp [Act.put]) (setRow_heap _ _ _ _ _ _ HZ.out)) rfl ⟨by rw [HY.out, HC.out], below_setRow b1 (by omega)⟩
set_option maxRecDepth 20000 in
set_option maxHeartbeats 2000000 in
theorem specSharedPins_any (s : Int) (A : Option Addr) (c : Nat) (l : List (Int × Int)) (g e : Nat) (ds : List (Nat → Int)) (w : World) (hA : HA w A l) (hn : l.length ≤ 1048576) (hwf : HWF l) (hs : -32768 ≤ s ∧ s ≤ 32767)
    (hL : LD w g ds) (hd : DsWF ds) (hds : ds.length ≤ 1048576) :
    Calls Try.prog 37 #[.agg #[.int .i16 s, .slice A l.length c], .slice (some ⟨g, 0, none⟩) ds.length e] w (DrC (shD s l ds) (shC s l ds) w) := by
  have hz := zeroDrum
  obtain ⟨X0, hX⟩ : ∃ X, X = (w.alloc (.cells #[.int .i16 s, .slice A l.length c] 34)).alloc (.cells za 29) := ⟨_, rfl⟩
  have b0' : Below w.heap.size w X0 := by rw [hX]; exact ((Below.refl _ _).alloc (Nat.le_refl _) _).alloc (by simp) _
  have F0 : FP X0 w.heap.size s A l.length c := by rw [hX]; exact ⟨by simp [go_sem], by simp [go_sem]⟩
  have Z0' : Dr X0 (w.heap.size + 1) 29 (fun _ => 0) := by rw [hX, za_eq]; exact heap_new' _ _ _ (by simp)
  go_enter Try.func37, Try.ntmps37
  go_upto_region 1 with fail
  rw [← hX]
  clear hX
  go_wp2_with fail
  refine (l05First_any _ g e s A c l ds (-1) _ F0 (hA.below b0') hn hwf hs (hL.keep b0') hd hds).mono ?_
  rintro e' w1 ⟨rfl, hb1⟩
  rw [fstC_minus]
  have b1 := step_below hb1 b0'
  have Z1 := Z0'.keep hb1
  have L1 := hL.keep b1
  have hzl : w.heap.size + 1 < w1.heap.size := Z1.lt
  obtain ⟨cc, hcc⟩ : ∃ cc, cc = shC s l ds := ⟨_, rfl⟩
  rw [← hcc]
  have HCC := hide hcc
  clear hcc
  by_cases h0 : cc = 0
  · subst h0
    have hl1 : 0 < ds.length := by
      have h := HCC.out
      unfold shC at h
      split at h
      · rcases Nat.eq_zero_or_pos ds.length with h1 | h1
        · rw [if_pos h1] at h; cases h
        · exact h1
      · omega
    have HC := hide (show shC s l ds = 0 from HCC.out.symm)
    have HY := hide (show shD s l ds = shT ds ds.length by simp [shD, ← HCC.out])
    have hal : Below w1.heap.size w1 (w1.alloc (.cells (da (shT ds 0)) 29)) := (Below.refl _ _).alloc (Nat.le_refl _) _
    have O0' : Dr (w1.alloc (.cells (da (shT ds 0)) 29)) w1.heap.size 29 (shT ds 0) := heap_new' _ _ _ rfl
    have O0 : Dr (w1.alloc (.cells (da (shT ds 0)) 29)) w1.heap.size 29 (shT ds 1) := O0'.congr fun i hi => (shT_one hd hl1 i hi).symm
    have Z0 := Z1.keep hal
    have b0 := step_below hal b1
    have hza : za.size = (da (shT ds 0)).size := by rw [da_size]; rfl
    have hR0 : Hid (w1.rangeAt g 0 (dv (shT ds 0))) := hide (by have := L1.range hl1; rwa [Nat.zero_mul] at this)
    have hi0 : (0 : Int) < (ds.length : Int) := by omega
    clear O0'
    go_upto_region 5 with (first | (with_reducible refine wpList_load_da rfl 29 (.tmp 17) rfl g 0 rfl (shT ds 0) _ hR0.out Try.underlying29 rfl (dInfo (shT ds 0)) ?_) | (with_reducible refine wpList_store_new rfl 29 (.tmp 7) (.tmp 18) rfl (shT ds 0) rfl rfl 29 _ (dInfo (shT ds 0)) hza ?_))
    clear hza hi0 hz
    go_wp2_with fail
    go_loopw [8] (fun i wr => ∃ k : Nat, 1 ≤ k ∧ k ≤ ds.length ∧ i = .int .i64 k ∧ Dr wr (w.heap.size + 1) 29 (fun _ => 0) ∧ Dr wr (w1.heap.size) 29 (shT ds k) ∧ Below w.heap.size w wr)
      (fun i _ => ds.length - (intOf i).toNat)
    case atStart => exact ⟨1, Nat.le_refl _, by omega, rfl, Z0, O0, b0⟩
    case round =>
      obtain ⟨k, hk0, hk, rfl, Z1, O1, hb⟩ := hrel
      by_cases hlt : k < ds.length
      · have hki : (k : Int) < (ds.length : Int) := by omega
        obtain ⟨q, hqq⟩ : ∃ q, ds.getD k (fun _ => 0) = q := ⟨_, rfl⟩
        have HQ := hide hqq
        obtain ⟨p, hp⟩ : ∃ p, shT ds k = p := ⟨_, rfl⟩
        rw [hp] at O1
        have HP := hide hp
        clear hp hqq
        go_wp2_with fail
        go_loopw [9] (fun i wq => ∃ j : Nat, j ≤ 96 ∧ i = .int .i64 j ∧ Dr wq (w.heap.size + 1) 29 (fun _ => 0) ∧ Dr wq (w1.heap.size) 29 (fun i => if i < j then andD p q i else p i) ∧ Below w.heap.size w wq)
          (fun i _ => 96 - (intOf i).toNat)
        case atStart => exact ⟨0, Nat.zero_le _, rfl, Z1, O1, hb⟩
        case round =>
          obtain ⟨j, hj, rfl, Z2, O2, hb2⟩ := hrel
          by_cases hlt2 : j < 96
          · have hji : (j : Int) < 96 := by omega
            go_wp2_with fail
            have hd0 : Below wr.heap.size wr wr.drew := (Below.refl _ _).drew
            have b3 := hb2.drew
            have Z3 := Z2.keep hd0
            have O3 := O2.keep hd0
            refine wp_region_still_tail 12 (by kernel_rfl) (by kernel_rfl) ?_
            change wpStill _ _ wr.drew (fun a' => wpList _ _ _ _ a' wr.drew) _ _
            simp only [List.take_succ_cons, List.take_zero, List.drop_succ_cons, List.drop_zero]
            clear Z2 O2 hd0
            generalize wr.drew = wd at *
            have c1 : wd.cell? ⟨w1.heap.size, j, none⟩ = some (.int .u32 (p j)) := by rw [O3.cell hlt2, if_neg (Nat.lt_irrefl j)]
            have f1 := O3.frozen j
            have c2 : wd.cell? ⟨g, k * 96 + j, none⟩ = some (.int .u32 (q j)) := by rw [← HQ.out]; exact (hL.keep b3).range hlt j _ (dv_get _ j hlt2)
            repeat still_step
            refine wpStill_nil ?_
            go_wp2
            go_roundw
            case rel =>
              refine ⟨j + 1, hlt2, by go_num, Z3.other (by omega) _, (O3.set j _).congr fun i hi => ?_, b3.setCell (p := ⟨_, _, none⟩) (by dsimp only; omega) _⟩
              change (if i = j then andD p q j else _) = _
              by_cases e : i = j
              · subst e; rw [if_pos rfl, if_pos (by omega)]
              · rw [if_neg e]
                by_cases h2 : i < j
                · rw [if_pos h2, if_pos (by omega)]
                · rw [if_neg h2, if_neg (by omega)]
            case measure => simp [intOf]; omega
          · obtain rfl : j = 96 := by omega
            have O3 : Dr wr (w1.heap.size) 29 (shT ds (k + 1)) := O2.congr fun i hi => by rw [if_pos hi, shT, HP.out, HQ.out]
            have HO := hide O3
            clear O2 O3
            go_wp2
            go_roundw
            case rel => exact ⟨k + 1, by omega, hlt, by go_num, Z2, HO.out, hb2⟩
            case measure => simp [intOf]; omega
      · obtain rfl : k = ds.length := by omega
        have HR := hide O1.range
        have R2 : wr.heap[(w.heap.size + 1)]? = some (.cells (da fun _ => 0) 29 (0, 0)) := Z1
        have HZ := hide R2
        clear R2 Z1 O1
        go_wp2_with (first | (with_reducible refine wpList_load_da rfl 29 (.tmp 7) rfl (w1.heap.size) 0 rfl (shT ds ds.length) _ HR.out Try.underlying29 rfl (dInfo (shT ds ds.length)) ?_) | (with_reducible refine wpList_store_row rfl 29 (.tmp 4) (.tmp 41) rfl (w.heap.size + 1) (da (shT ds ds.length)) rfl rfl 29 _ HZ.out (by rw [da_size]; exact info29) (by simp only [da_size]) (da_one _) ?_))
        exact bodyPost_ret (v := .tuple #[.agg (da (shT ds ds.length)), .int .i64 0]) (results_dr Try.results37 _ _ (w.heap.size + 1) 29 _ _ (by simp [Act.put]) (by simp [Act.put]) (setRow_heap _ _ _ _ _ _ HZ.out)) rfl ⟨by rw [HY.out, HC.out], below_setRow hb (by omega)⟩
  · have HC := hide (show shC s l ds = cc from HCC.out.symm)
    have HY := hide (show shD s l ds = fun _ => 0 by simp [shD, ← HCC.out, h0])
    have hne := code_ne h0
    clear h0 hz
    have R2 : w1.heap[w.heap.size + 1]? = some (.cells (da fun _ => 0) 29 (0, 0)) := Z1
    have HZ := hide R2
    clear R2 Z1
    go_wp2_with (first | (with_reducible refine wpList_build0 rfl rfl ?_) | (with_reducible refine wpList_store_row rfl 29 (.tmp 4) (.tmp 14) rfl (w.heap.size + 1) (da fun _ => 0) rfl rfl 29 _ HZ.out (by rw [da_size]; exact info29) (by simp only [da_size]) (da_one _) ?_))
    exact bodyPost_ret (v := .tuple #[.agg (da fun _ => 0), .int .i64 cc]) (results_dr Try.results37 _ _ (w.heap.size + 1) 29 _ _ (by simp [Act.put]) (by simp [Act.put]) (setRow_heap _ _ _ _ _ _ HZ.out)) rfl ⟨by rw [HY.out, HC.out], below_setRow b1 (by omega)⟩
end Go.Proofs.Ytncdgjaadlpncaa
