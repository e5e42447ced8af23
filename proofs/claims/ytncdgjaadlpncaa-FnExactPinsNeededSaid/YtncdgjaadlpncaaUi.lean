import Derived.Test.YtncdgjaadlpncaaUni
import Derived.Test.YtncdgjaadlpncaaWps
import Derived.Test.YtncdgjaadlpncaaCpn
namespace Go.Proofs.Ytncdgjaadlpncaa
open Go.RowKit

def unK (s : Int) (l : List (Int × Int)) (ds : List (Nat → Int)) : Int := lstC s l ds
def unD (s : Int) (l : List (Int × Int)) (ds : List (Nat → Int)) : Nat → Int := if lstC s l ds = 0 then unT ds ds.length else fun _ => 0
/-- the code of SharedPins -/
def shC (s : Int) (l : List (Int × Int)) (ds : List (Nat → Int)) : Int := if lstC s l ds = 0 then (if ds.length = 0 then 6 else 0) else lstC s l ds
def shD (s : Int) (l : List (Int × Int)) (ds : List (Nat → Int)) : Nat → Int := if shC s l ds = 0 then shT ds ds.length else fun _ => 0
def pnI (s : Int) (l : List (Int × Int)) (ds : List (Nat → Int)) : Int := if lstC s l ds = 0 then (mxT ds ds.length : Nat) else 0

set_option maxRecDepth 20000 in
set_option maxHeartbeats 2000000 in
theorem implUnionOf_any (s : Int) (A : Option Addr) (c : Nat) (l : List (Int × Int)) (g e : Nat) (ds : List (Nat → Int)) (w : World) (hA : HA w A l) (hn : l.length ≤ 1048576) (hwf : HWF l) (hs : -32768 ≤ s ∧ s ≤ 32767)
    (hL : LD w g ds) (hd : DsWF ds) (hds : ds.length ≤ 1048576) :
    Calls Try.prog 42 #[.agg #[.int .i16 s, .slice A l.length c], .slice (some ⟨g, 0, none⟩) ds.length e] w (DrC (unD s l ds) (unK s l ds) w) := by
  have hz := zeroDrum
  obtain ⟨X0, hX⟩ : ∃ X, X = ((w.alloc (.cells #[.int .i16 s, .slice A l.length c] 34)).alloc (.cells za 29)) := ⟨_, rfl⟩
  have hb0 : Below w.heap.size w X0 := by rw [hX]; exact ((Below.refl _ _).alloc (Nat.le_refl _) _).alloc (by simp) _
  have Z0 : Dr X0 (w.heap.size + 1) 29 (fun _ => 0) := by rw [hX, za_eq]; exact heap_new' _ _ _ (by simp)
  have c00 : X0.cell? ⟨w.heap.size, 0, none⟩ = some (.int .i16 s) := by rw [hX]; simp [go_sem]
  have c01 : X0.cell? ⟨w.heap.size, 1, none⟩ = some (.slice A l.length c) := by rw [hX]; simp [go_sem]
  go_enter Try.func42, Try.ntmps42
  go_upto_region 1 with fail
  rw [← hX]
  clear hX
  go_wp2_with fail
  refine (machineForList_any s A c l g e ds _ (hA.below hb0) hn hwf hs (hL.keep hb0) hd hds).mono ?_
  rintro e' w1 ⟨t, B, n, c', rfl, _, hb1⟩
  have b1 := step_below hb1 hb0
  have L1 := hL.keep b1
  clear c00 c01
  obtain ⟨X2, hX2⟩ : ∃ X, X = w1.alloc (.cells #[.int .i64 t, .slice B n c'] 77) := ⟨_, rfl⟩
  have hb2 : Below w1.heap.size w1 X2 := by rw [hX2]; exact (Below.refl _ _).alloc (Nat.le_refl _) _
  have b2 := step_below hb2 b1
  have L2 := L1.keep hb2
  have Z2 := (Z0.keep hb1).keep hb2
  have hzl : w.heap.size + 1 < X2.heap.size := Z2.lt
  obtain ⟨cc, hcc⟩ : ∃ cc, cc = lstC s l ds := ⟨_, rfl⟩
  rw [← hcc]
  have HCC := hide hcc
  clear hcc
  go_upto_region 2 with fail
  rw [← hX2]
  clear hX2
  by_cases h0 : cc = 0
  · subst h0
    have HC := hide (show unK s l ds = 0 from HCC.out.symm)
    have HY := hide (show unD s l ds = unT ds ds.length by simp [unD, ← HCC.out])
    have hal : Below X2.heap.size X2 (X2.alloc (.cells za 29)) := (Below.refl _ _).alloc (Nat.le_refl _) _
    have O3 : Dr (X2.alloc (.cells za 29)) X2.heap.size 29 (unT ds 0) := by rw [za_eq]; exact heap_new' _ _ _ rfl
    have Z3 := Z2.keep hal
    have L3 := L2.keep hal
    have b3 := step_below hal b2
    go_wp2_with fail
    go_loopw [10, 23] (fun _ i wr => ∃ k : Nat, k ≤ ds.length ∧ i = .int .i64 k ∧ Dr wr X2.heap.size 29 (unT ds k) ∧ Dr wr (w.heap.size + 1) 29 (fun _ => 0) ∧ LD wr g ds ∧ Below w.heap.size w wr)
      (fun _ i _ => ds.length - (intOf i).toNat)
    case atStart => exact ⟨0, Nat.zero_le _, rfl, O3, Z3, L3, b3⟩
    case round =>
      obtain ⟨k, hk, rfl, D1, Z4, L4, hb⟩ := hrel
      by_cases hlt : k < ds.length
      · have hR := hide (L4.range hlt)
        obtain ⟨q, hqq⟩ : ∃ q, ds.getD k (fun _ => 0) = q := ⟨_, rfl⟩
        rw [hqq] at hR
        have HQ := hide hqq
        clear hqq
        have hza : za.size = (da q).size := by rw [da_size]; rfl
        have hal : Below wr.heap.size wr (wr.alloc (.cells (da q) 29)) := (Below.refl _ _).alloc (Nat.le_refl _) _
        have D5 := D1.keep hal
        have Q5 : Dr (wr.alloc (.cells (da q) 29)) wr.heap.size 29 q := heap_alloc_new _ _
        have HD5 := hide D5.range
        have HQ5 := hide Q5.range
        obtain ⟨p, hp⟩ : ∃ p, unT ds k = p := ⟨_, rfl⟩
        rw [hp] at HD5
        have HP := hide hp
        clear hp
        have hdl := D1.lt
        go_wp2_with (first | (with_reducible refine wpList_load_da rfl 29 (.tmp 25) rfl g (k * 96) rfl q _ hR.out Try.underlying29 rfl (dInfo q) ?_) | (with_reducible refine wpList_store_new rfl 29 (.tmp 10) (.tmp 26) rfl q rfl rfl 29 _ (dInfo q) hza ?_) | (with_reducible refine wpList_load_da rfl 29 (.tmp 8) rfl X2.heap.size 0 rfl p _ HD5.out Try.underlying29 rfl (dInfo p) ?_) | (with_reducible refine wpList_load_da rfl 29 (.tmp 10) rfl wr.heap.size 0 rfl q _ HQ5.out Try.underlying29 rfl (dInfo q) ?_))
        refine (plus_any p q _).mono ?_
        rintro e'' w6 ⟨rfl, hb6⟩
        have D6 := D5.keep hb6
        have Z6 := (Z4.keep hal).keep hb6
        have L6 := (L4.keep hal).keep hb6
        have b6 := step_below hb6 (step_below hal hb)
        have HD6 := hide (show w6.heap[X2.heap.size]? = some (.cells (da (unT ds k)) 29 (0, 0)) from D6)
        have hsz6 := hb6.size
        clear D5 D1 D6
        go_wp2_with (with_reducible refine wpList_store_row rfl 29 (.tmp 8) (.tmp 29) rfl X2.heap.size (da (orD p q)) rfl rfl 29 _ HD6.out (by rw [da_size]; exact info29) (by simp only [da_size]) (da_one _) ?_)
        have hS : Below X2.heap.size w6 (w6.setRow X2.heap.size (da (orD p q))) := below_setRow (Below.refl _ _) (Nat.le_refl _)
        go_roundw
        case rel =>
          refine ⟨k + 1, hlt, by go_num, ?_, (setRow_other _ _ _ _ (by omega)).trans Z6, ⟨Nat.lt_of_lt_of_le L6.lt (below_setRow (B := 0) (Below.refl _ _) (Nat.zero_le _)).size, fun j hj => ?_⟩, below_setRow b6 (by have := b2.size; omega)⟩
          · show _ = _
            rw [setRow_heap _ _ _ _ _ _ HD6.out, ← HP.out, ← HQ.out]
            rfl
          · exact fun i v hv => (cell_block (setRow_other _ _ _ _ (by have := L2.lt; omega))).trans (L6.range hj i v hv)
        case measure => simp [intOf]; omega
      · obtain rfl : k = ds.length := by omega
        have HR := hide D1.range
        have R2 : wr.heap[w.heap.size + 1]? = some (.cells (da fun _ => 0) 29 (0, 0)) := Z4
        have HZ := hide R2
        clear R2 Z4 D1
        go_wp2_with (first | (with_reducible refine wpList_load_da rfl 29 (.tmp 8) rfl X2.heap.size 0 rfl (unT ds ds.length) _ HR.out Try.underlying29 rfl (dInfo (unT ds ds.length)) ?_) | (with_reducible refine wpList_store_row rfl 29 (.tmp 4) (.tmp 31) rfl (w.heap.size + 1) (da (unT ds ds.length)) rfl rfl 29 _ HZ.out (by rw [da_size]; exact info29) (by simp only [da_size]) (da_one _) ?_))
        exact bodyPost_ret (v := .tuple #[.agg (da (unT ds ds.length)), .int .i64 0]) (results_dr Try.results42 _ _ (w.heap.size + 1) 29 _ _ (by simp [Act.put]) (by simp [Act.put]) (setRow_heap _ _ _ _ _ _ HZ.out)) rfl ⟨by rw [HY.out, HC.out], below_setRow hb (by omega)⟩
  · have HC := hide (show unK s l ds = cc from HCC.out.symm)
    have hne : (cc != 0) = true := by simpa using h0
    have HY := hide (show unD s l ds = fun _ => 0 by simp [unD, ← HCC.out, h0])
    clear hz h0
    have R2 : X2.heap[w.heap.size + 1]? = some (.cells (da fun _ => 0) 29 (0, 0)) := Z2
    have HZ := hide R2
    clear R2 Z2
    go_wp2_with (first | (with_reducible refine wpList_build0 rfl rfl ?_) | (with_reducible refine wpList_store_row rfl 29 (.tmp 4) (.tmp 19) rfl (w.heap.size + 1) (da fun _ => 0) rfl rfl 29 _ HZ.out (by rw [da_size]; exact info29) (by simp only [da_size]) (da_one _) ?_))
    exact bodyPost_ret (v := .tuple #[.agg (da fun _ => 0), .int .i64 cc]) (results_dr Try.results42 _ _ (w.heap.size + 1) 29 _ _ (by simp [Act.put]) (by simp [Act.put]) (setRow_heap _ _ _ _ _ _ HZ.out)) rfl ⟨by rw [HY.out, HC.out], below_setRow b2 (by omega)⟩

set_option maxRecDepth 20000 in
set_option maxHeartbeats 2000000 in
theorem implSharedPins_any (s : Int) (A : Option Addr) (c : Nat) (l : List (Int × Int)) (g e : Nat) (ds : List (Nat → Int)) (w : World) (hA : HA w A l) (hn : l.length ≤ 1048576) (hwf : HWF l) (hs : -32768 ≤ s ∧ s ≤ 32767)
    (hL : LD w g ds) (hd : DsWF ds) (hds : ds.length ≤ 1048576) :
    Calls Try.prog 39 #[.agg #[.int .i16 s, .slice A l.length c], .slice (some ⟨g, 0, none⟩) ds.length e] w (DrC (shD s l ds) (shC s l ds) w) := by
  have hz := zeroDrum
  obtain ⟨X0, hX⟩ : ∃ X, X = ((w.alloc (.cells #[.int .i16 s, .slice A l.length c] 34)).alloc (.cells za 29)) := ⟨_, rfl⟩
  have hb0 : Below w.heap.size w X0 := by rw [hX]; exact ((Below.refl _ _).alloc (Nat.le_refl _) _).alloc (by simp) _
  have Z0 : Dr X0 (w.heap.size + 1) 29 (fun _ => 0) := by rw [hX, za_eq]; exact heap_new' _ _ _ (by simp)
  have c00 : X0.cell? ⟨w.heap.size, 0, none⟩ = some (.int .i16 s) := by rw [hX]; simp [go_sem]
  have c01 : X0.cell? ⟨w.heap.size, 1, none⟩ = some (.slice A l.length c) := by rw [hX]; simp [go_sem]
  go_enter Try.func39, Try.ntmps39
  go_upto_region 1 with fail
  rw [← hX]
  clear hX
  go_wp2_with fail
  refine (machineForList_any s A c l g e ds _ (hA.below hb0) hn hwf hs (hL.keep hb0) hd hds).mono ?_
  rintro e' w1 ⟨t, B, n, c', rfl, _, hb1⟩
  have b1 := step_below hb1 hb0
  have L1 := hL.keep b1
  clear c00 c01
  obtain ⟨X2, hX2⟩ : ∃ X, X = w1.alloc (.cells #[.int .i64 t, .slice B n c'] 77) := ⟨_, rfl⟩
  have hb2 : Below w1.heap.size w1 X2 := by rw [hX2]; exact (Below.refl _ _).alloc (Nat.le_refl _) _
  have b2 := step_below hb2 b1
  have L2 := L1.keep hb2
  have Z2 := (Z0.keep hb1).keep hb2
  have hzl : w.heap.size + 1 < X2.heap.size := Z2.lt
  obtain ⟨cc, hcc⟩ : ∃ cc, cc = lstC s l ds := ⟨_, rfl⟩
  rw [← hcc]
  have HCC := hide hcc
  clear hcc
  go_upto_region 2 with fail
  rw [← hX2]
  clear hX2
  by_cases h0 : cc = 0
  · subst h0
    by_cases hl0 : ds.length = 0
    · have HC := hide (show shC s l ds = 6 by simp [shC, ← HCC.out, hl0])
      have HY := hide (show shD s l ds = fun _ => 0 by simp [shD, HC.out])
      have hle : ((ds.length : Int) == 0) = true := by simp [hl0]
      clear hz
      have R2 : X2.heap[w.heap.size + 1]? = some (.cells (da fun _ => 0) 29 (0, 0)) := Z2
      have HZ := hide R2
      clear R2 Z2 hl0
      go_wp2_with (first | (with_reducible refine wpList_build0 rfl rfl ?_) | (with_reducible refine wpList_store_row rfl 29 (.tmp 4) (.tmp 24) rfl (w.heap.size + 1) (da fun _ => 0) rfl rfl 29 _ HZ.out (by rw [da_size]; exact info29) (by simp only [da_size]) (da_one _) ?_))
      exact bodyPost_ret (v := .tuple #[.agg (da fun _ => 0), .int .i64 6]) (results_dr Try.results39 _ _ (w.heap.size + 1) 29 _ _ (by simp [Act.put]) (by simp [Act.put]) (setRow_heap _ _ _ _ _ _ HZ.out)) rfl ⟨by rw [HY.out, HC.out], below_setRow b2 (by omega)⟩
    have hl1 : 0 < ds.length := by omega
    have HC := hide (show shC s l ds = 0 by simp [shC, ← HCC.out, hl0])
    have HY := hide (show shD s l ds = shT ds ds.length by simp [shD, HC.out])
    have hle : ((ds.length : Int) == 0) = false := by simpa using hl0
    clear hl0
    have hal : Below X2.heap.size X2 (X2.alloc (.cells (da (shT ds 0)) 29)) := (Below.refl _ _).alloc (Nat.le_refl _) _
    have O3 : Dr (X2.alloc (.cells (da (shT ds 0)) 29)) X2.heap.size 29 (shT ds 0) := heap_new' _ _ _ rfl
    have Z3 := Z2.keep hal
    have L3 := L2.keep hal
    have b3 := step_below hal b2
    have hza : za.size = (da (shT ds 0)).size := by rw [da_size]; rfl
    have hR0 : Hid (X2.rangeAt g 0 (dv (shT ds 0))) := hide (by have := L2.range hl1; rwa [Nat.zero_mul] at this)
    have hi0 : (0 : Int) < (ds.length : Int) := by omega
    go_upto_region 8 with (first | (with_reducible refine wpList_load_da rfl 29 (.tmp 26) rfl g 0 rfl (shT ds 0) _ hR0.out Try.underlying29 rfl (dInfo (shT ds 0)) ?_) | (with_reducible refine wpList_store_new rfl 29 (.tmp 8) (.tmp 27) rfl (shT ds 0) rfl rfl 29 _ (dInfo (shT ds 0)) hza ?_))
    clear hza hi0
    go_loopw [10, 30] (fun _ i wr => ∃ k : Nat, k ≤ ds.length ∧ i = .int .i64 k ∧ Dr wr X2.heap.size 29 (shT ds k) ∧ Dr wr (w.heap.size + 1) 29 (fun _ => 0) ∧ LD wr g ds ∧ Below w.heap.size w wr)
      (fun _ i _ => ds.length - (intOf i).toNat)
    case atStart => exact ⟨0, Nat.zero_le _, rfl, O3, Z3, L3, b3⟩
    case round =>
      obtain ⟨k, hk, rfl, D1, Z4, L4, hb⟩ := hrel
      by_cases hlt : k < ds.length
      · have hR := hide (L4.range hlt)
        obtain ⟨q, hqq⟩ : ∃ q, ds.getD k (fun _ => 0) = q := ⟨_, rfl⟩
        rw [hqq] at hR
        have HQ := hide hqq
        clear hqq
        have hza : za.size = (da q).size := by rw [da_size]; rfl
        have hal : Below wr.heap.size wr (wr.alloc (.cells (da q) 29)) := (Below.refl _ _).alloc (Nat.le_refl _) _
        have D5 := D1.keep hal
        have Q5 : Dr (wr.alloc (.cells (da q) 29)) wr.heap.size 29 q := heap_alloc_new _ _
        have HD5 := hide D5.range
        have HQ5 := hide Q5.range
        obtain ⟨p, hp⟩ : ∃ p, shT ds k = p := ⟨_, rfl⟩
        rw [hp] at HD5
        have HP := hide hp
        clear hp
        have hdl := D1.lt
        go_wp2_with (first | (with_reducible refine wpList_load_da rfl 29 (.tmp 32) rfl g (k * 96) rfl q _ hR.out Try.underlying29 rfl (dInfo q) ?_) | (with_reducible refine wpList_store_new rfl 29 (.tmp 10) (.tmp 33) rfl q rfl rfl 29 _ (dInfo q) hza ?_) | (with_reducible refine wpList_load_da rfl 29 (.tmp 8) rfl X2.heap.size 0 rfl p _ HD5.out Try.underlying29 rfl (dInfo p) ?_) | (with_reducible refine wpList_load_da rfl 29 (.tmp 10) rfl wr.heap.size 0 rfl q _ HQ5.out Try.underlying29 rfl (dInfo q) ?_))
        refine (common_any p q _).mono ?_
        rintro e'' w6 ⟨rfl, hb6⟩
        have D6 := D5.keep hb6
        have Z6 := (Z4.keep hal).keep hb6
        have L6 := (L4.keep hal).keep hb6
        have b6 := step_below hb6 (step_below hal hb)
        have HD6 := hide (show w6.heap[X2.heap.size]? = some (.cells (da (shT ds k)) 29 (0, 0)) from D6)
        have hsz6 := hb6.size
        clear D5 D1 D6
        go_wp2_with (with_reducible refine wpList_store_row rfl 29 (.tmp 8) (.tmp 36) rfl X2.heap.size (da (andD p q)) rfl rfl 29 _ HD6.out (by rw [da_size]; exact info29) (by simp only [da_size]) (da_one _) ?_)
        have hS : Below X2.heap.size w6 (w6.setRow X2.heap.size (da (andD p q))) := below_setRow (Below.refl _ _) (Nat.le_refl _)
        go_roundw
        case rel =>
          refine ⟨k + 1, hlt, by go_num, ?_, (setRow_other _ _ _ _ (by omega)).trans Z6, ⟨Nat.lt_of_lt_of_le L6.lt (below_setRow (B := 0) (Below.refl _ _) (Nat.zero_le _)).size, fun j hj => ?_⟩, below_setRow b6 (by have := b2.size; omega)⟩
          · show _ = _
            rw [setRow_heap _ _ _ _ _ _ HD6.out, ← HP.out, ← HQ.out]
            rfl
          · exact fun i v hv => (cell_block (setRow_other _ _ _ _ (by have := L2.lt; omega))).trans (L6.range hj i v hv)
        case measure => simp [intOf]; omega
      · obtain rfl : k = ds.length := by omega
        have HR := hide D1.range
        have R2 : wr.heap[w.heap.size + 1]? = some (.cells (da fun _ => 0) 29 (0, 0)) := Z4
        have HZ := hide R2
        clear R2 Z4 D1
        go_wp2_with (first | (with_reducible refine wpList_load_da rfl 29 (.tmp 8) rfl X2.heap.size 0 rfl (shT ds ds.length) _ HR.out Try.underlying29 rfl (dInfo (shT ds ds.length)) ?_) | (with_reducible refine wpList_store_row rfl 29 (.tmp 4) (.tmp 38) rfl (w.heap.size + 1) (da (shT ds ds.length)) rfl rfl 29 _ HZ.out (by rw [da_size]; exact info29) (by simp only [da_size]) (da_one _) ?_))
        exact bodyPost_ret (v := .tuple #[.agg (da (shT ds ds.length)), .int .i64 0]) (results_dr Try.results39 _ _ (w.heap.size + 1) 29 _ _ (by simp [Act.put]) (by simp [Act.put]) (setRow_heap _ _ _ _ _ _ HZ.out)) rfl ⟨by rw [HY.out, HC.out], below_setRow hb (by omega)⟩
  · have HC := hide (show shC s l ds = cc by simp [shC, ← HCC.out, h0])
    have hne : (cc != 0) = true := by simpa using h0
    have HY := hide (show shD s l ds = fun _ => 0 by simp [shD, HC.out, h0])
    clear hz h0
    have R2 : X2.heap[w.heap.size + 1]? = some (.cells (da fun _ => 0) 29 (0, 0)) := Z2
    have HZ := hide R2
    clear R2 Z2
    go_wp2_with (first | (with_reducible refine wpList_build0 rfl rfl ?_) | (with_reducible refine wpList_store_row rfl 29 (.tmp 4) (.tmp 19) rfl (w.heap.size + 1) (da fun _ => 0) rfl rfl 29 _ HZ.out (by rw [da_size]; exact info29) (by simp only [da_size]) (da_one _) ?_))
    exact bodyPost_ret (v := .tuple #[.agg (da fun _ => 0), .int .i64 cc]) (results_dr Try.results39 _ _ (w.heap.size + 1) 29 _ _ (by simp [Act.put]) (by simp [Act.put]) (setRow_heap _ _ _ _ _ _ HZ.out)) rfl ⟨by rw [HY.out, HC.out], below_setRow b2 (by omega)⟩

end Go.Proofs.Ytncdgjaadlpncaa
