import Derived.Test.YtncdgjaadlpncaaSl
import Derived.Deep.RegionHeld3
namespace Go.Proofs.Ytncdgjaadlpncaa
open Go.RowKit

def dstN (S B k : Nat) : Nat := if k + B < S then k + B else k + B - S
def srcN (S B i : Nat) : Nat := if B ≤ i then i - B else i + S - B
theorem dst_lt {S B k : Nat} (hk : k < S) (hB : B < S) : dstN S B k < S := by unfold dstN; split <;> omega
theorem src_dst {S B k i : Nat} (hk : k < S) (hB : B < S) (hi : i < S) : srcN S B i = k ↔ i = dstN S B k := by
  unfold srcN dstN; split <;> split <;> omega
theorem src_lt {S B i : Nat} (hB : B < S) (hi : i < S) : srcN S B i < S := by unfold srcN; split <;> omega
theorem mod_dst {S B k : Nat} (hk : k < S) (hB : B < S) : (k + B) % S = dstN S B k := by
  unfold dstN
  split
  · exact Nat.mod_eq_of_lt ‹_›
  · rw [Nat.mod_eq_sub_mod (by omega)]; exact Nat.mod_eq_of_lt (by omega)
theorem mod_dst' {S B k : Nat} (hk : k < S) (hB : B < S) : (k + B + S) % S = dstN S B k := by
  rw [Nat.add_mod_right]; exact mod_dst hk hB
/-- the turned drum, its first k steps laid -/
def turT (S B : Nat) (d : Nat → Int) (k : Nat) (i : Nat) : Int := if i < S ∧ srcN S B i < k then d (srcN S B i) else 0
theorem turT_step {S B k : Nat} {d : Nat → Int} (hk : k < S) (hB : B < S) (i : Nat) : (if i = dstN S B k then d k else turT S B d k i) = turT S B d (k + 1) i := by
  unfold turT
  by_cases e : i = dstN S B k
  · have hi : i < S := e ▸ dst_lt hk hB
    have hs := (src_dst hk hB hi).2 e
    rw [if_pos e, hs, if_pos ⟨hi, by omega⟩]
  · rw [if_neg e]
    by_cases hi : i < S
    · have hs : srcN S B i ≠ k := fun h => e ((src_dst hk hB hi).1 h)
      by_cases h2 : srcN S B i < k
      · rw [if_pos ⟨hi, h2⟩, if_pos ⟨hi, by omega⟩]
      · rw [if_neg (fun h => h2 h.2), if_neg (fun h => by have := h.2; omega)]
    · rw [if_neg (fun h => hi h.1), if_neg (fun h => hi h.1)]
theorem turT_zero (S B : Nat) (d : Nat → Int) : turT S B d 0 = fun _ => 0 := by funext i; simp [turT]
def turC (s : Int) (l : List (Int × Int)) (d : Nat → Int) (x : Int) : Int := cod3 (askB s l d) (inB x 0 (s - 1))
def turD (s : Int) (l : List (Int × Int)) (d : Nat → Int) (x : Int) : Nat → Int := if turC s l d x = 0 then turT s.toNat x.toNat d s.toNat else fun _ => 0

set_option maxRecDepth 20000 in
set_option maxHeartbeats 1000000 in
theorem around_any (S y : Nat) (A : Option Addr) (n c : Nat) (w : World) (hS : 2 ≤ S ∧ S ≤ 96) (hy : y ≤ 200) :
    Calls Try.prog 96 #[.agg #[.int .i64 S, .slice A n c], .int .i64 y] w fun e w' => e = .returned (.int .i64 ((y % S : Nat) : Int)) ∧ Below w.heap.size w w' := by
  have hb0 : Below w.heap.size w (w.alloc (.cells #[.int .i64 S, .slice A n c] 77)) := (Below.refl _ _).alloc (Nat.le_refl _) _
  have hne : ((S : Int) == 0) = false := by simp; omega
  go_enter Try.func96, Try.ntmps96
  go_wp2
  go_ret
  exact ⟨ret_int (by rw [← Int.natCast_add, ← Int.natCast_emod, Nat.add_mod_right]), hb0⟩

theorem pl_zero {s x : Int} {l : List (Int × Int)} {d : Nat → Int} (h : askB s l d = true) : plB s l.length x 0 = inB x 0 (s - 1) := by
  have hl := (ask_all h).2.1.1
  have h2 : inB 0 0 ((l.length : Int) - 1) = true := by simp [inB]; omega
  rw [plB, h2, Bool.and_true]
set_option maxRecDepth 20000 in
set_option maxHeartbeats 2000000 in
theorem specTurnDrum_any (s : Int) (A : Option Addr) (c : Nat) (l : List (Int × Int)) (d : Nat → Int) (x : Int) (w : World) (hA : HA w A l) (hn : l.length ≤ 1048576) (hwf : HWF l) (hs : -32768 ≤ s ∧ s ≤ 32767) (hd : DWF d) :
    Calls Try.prog 15 #[.agg #[.int .i16 s, .slice A l.length c], .agg (da d), .int .i64 x] w (DrC (turD s l d x) (turC s l d x) w) := by
  have hz := zeroDrum
  have hb0 : Below w.heap.size w (((w.alloc (.cells #[.int .i16 s, .slice A l.length c] 34)).alloc (.cells (da d) 29)).alloc (.cells za 29)) := (((Below.refl _ _).alloc (Nat.le_refl _) _).alloc (by simp) _).alloc (by simp; omega) _
  have hF : FP (((w.alloc (.cells #[.int .i16 s, .slice A l.length c] 34)).alloc (.cells (da d) 29)).alloc (.cells za 29)) w.heap.size s A l.length c := ⟨by simp [go_sem], by simp [go_sem]⟩
  have hD : Dr (((w.alloc (.cells #[.int .i16 s, .slice A l.length c] 34)).alloc (.cells (da d) 29)).alloc (.cells za 29)) (w.heap.size + 1) 29 d := heap_old' (heap_new' _ _ _ (by simp))
  have hZ : Dr (((w.alloc (.cells #[.int .i16 s, .slice A l.length c] 34)).alloc (.cells (da d) 29)).alloc (.cells za 29)) (w.heap.size + 1 + 1) 29 (fun _ => 0) := by rw [za_eq]; exact heap_new' _ _ _ (by simp)
  go_enter Try.func15, Try.ntmps15
  go_wp2_with fail
  refine (l02Place_any _ _ s A c l d x 0 _ hF hD (hA.below hb0) hn hwf hs hd).mono ?_
  rintro e w1 ⟨rfl, hb1⟩
  have b1 := step_below hb1 hb0
  have D1 := hD.keep hb1
  have F1 := hF.keep hb1
  have Z1 := hZ.keep hb1
  have R1 : w1.heap[w.heap.size + 1 + 1]? = some (.cells (da fun _ => 0) 29 (0, 0)) := Z1
  have HZ := hide R1
  clear R1 hZ
  cases ha : askB s l d
  · simp only [cod3]
    have hcc : turC s l d x = 1 := by simp [turC, ha, cod3]
    have HX := hide hcc
    have HY := hide (show turD s l d x = fun _ => 0 by simp [turD, hcc])
    clear hcc
    clear ha hz
    go_wp2_with (first | (with_reducible refine wpList_build0 rfl rfl ?_) | (with_reducible refine wpList_store_row rfl 29 (.tmp 6) (.tmp 16) rfl (w.heap.size + 1 + 1) (da fun _ => 0) rfl rfl 29 _ HZ.out (by rw [da_size]; exact info29) (by simp only [da_size]) (da_one _) ?_))
    exact bodyPost_ret (v := .tuple #[.agg (da fun _ => 0), .int .i64 1]) (results_dr Try.results15 _ _ (w.heap.size + 1 + 1) 29 _ _ (by simp [Act.put]) (by simp [Act.put]) (setRow_heap _ _ _ _ _ _ HZ.out)) rfl ⟨by rw [HY.out, HX.out], below_setRow b1 (by omega)⟩
  rw [pl_zero ha]
  cases hp : inB x 0 (s - 1)
  · simp only [cod3]
    have hcc : turC s l d x = 2 := by simp [turC, ha, hp, cod3]
    have HX := hide hcc
    have HY := hide (show turD s l d x = fun _ => 0 by simp [turD, hcc])
    clear hcc
    clear ha hp hz
    go_wp2_with (first | (with_reducible refine wpList_build0 rfl rfl ?_) | (with_reducible refine wpList_store_row rfl 29 (.tmp 6) (.tmp 16) rfl (w.heap.size + 1 + 1) (da fun _ => 0) rfl rfl 29 _ HZ.out (by rw [da_size]; exact info29) (by simp only [da_size]) (da_one _) ?_))
    exact bodyPost_ret (v := .tuple #[.agg (da fun _ => 0), .int .i64 2]) (results_dr Try.results15 _ _ (w.heap.size + 1 + 1) 29 _ _ (by simp [Act.put]) (by simp [Act.put]) (setRow_heap _ _ _ _ _ _ HZ.out)) rfl ⟨by rw [HY.out, HX.out], below_setRow b1 (by omega)⟩
  have hfa := ask_all ha
  obtain ⟨S, hSs⟩ : ∃ S : Nat, s = (S : Int) := ⟨s.toNat, by omega⟩
  have hxb : 0 ≤ x ∧ x ≤ s - 1 := by simpa [inB] using hp
  obtain ⟨B, hB⟩ : ∃ B : Nat, x = (B : Int) := ⟨x.toNat, by omega⟩
  have hS2 : 2 ≤ S ∧ S ≤ 96 := by omega
  have hBS : B < S := by omega
  have hSn : s.toNat = S := by omega
  have hBn : x.toNat = B := by omega
  simp only [cod3]
  have hcc : turC s l d x = 0 := by simp [turC, ha, hp, cod3]
  have HX := hide hcc
  have HY := hide (show turD s l d x = turT S B d S by simp [turD, hcc, hSn, hBn])
  clear hcc
  clear ha hp hfa hxb hSn hBn
  subst hSs hB
  have b1x := b1.alloc b1.size (.cells (da fun _ => 0) 29)
  have hal : Below w1.heap.size w1 (w1.alloc (.cells (da fun _ => 0) 29)) := (Below.refl _ _).alloc (Nat.le_refl _) _
  have D1x := D1.keep hal
  have Z1x := Z1.keep hal
  have F1x := F1.keep hal
  have c1 := F1x.1
  have O1x : Dr (w1.alloc (.cells (da fun _ => 0) 29)) w1.heap.size 29 (fun _ => 0) := heap_new' _ _ _ rfl
  have hw1 : w.heap.size + 1 + 1 < w1.heap.size := Z1.lt
  have hzz : za.size = (da fun _ => 0).size := by rw [za_eq]
  go_wp2_with (first | (with_reducible refine wpList_build0 rfl rfl ?_) | (with_reducible refine wpList_store_new rfl 29 (.tmp 9) (.tmp 18) rfl (fun _ => 0) rfl rfl 29 _ (dInfo fun _ => 0) hzz ?_))
  clear hz
  go_loopw [11] (fun i wr => ∃ k : Nat, k ≤ S ∧ i = .int .i64 k ∧ Dr wr (w.heap.size + 1) 29 d ∧ Dr wr (w.heap.size + 1 + 1) 29 (fun _ => 0) ∧ Dr wr w1.heap.size 29 (turT S B d k) ∧ Below w.heap.size w wr)
    (fun i _ => S - (intOf i).toNat)
  case atStart => exact ⟨0, Nat.zero_le _, rfl, D1x, Z1x, by rw [turT_zero]; exact O1x, b1x⟩
  case round =>
    obtain ⟨k, hk, rfl, E1, E2, E3, hb⟩ := hrel
    by_cases hlt : k < S
    · have hk96 : k < 96 := by omega
      have hd1 : Below wr.heap.size wr wr.drew := (Below.refl _ _).drew
      have hmod : ((k : Int) + (B : Int)) % (S : Int) = ((dstN S B k : Nat) : Int) := by rw [← Int.natCast_add, ← Int.natCast_emod, mod_dst hlt hBS]
      have hdl : dstN S B k < 96 := by have := dst_lt hlt hBS; omega
      have hne : ((S : Int) == 0) = false := by simp; omega
      have hS0 : ¬ (S : Int) = 0 := by omega
      have hS1 : ¬ S = 0 := by omega
      have hwr : IntKind.i64.wrap ((k : Int) + (B : Int)) = (k : Int) + (B : Int) := IntWalk.i64_in _ (by omega)
      have hmt : ((k : Int) + (B : Int)).tmod (S : Int) = ((dstN S B k : Nat) : Int) := by rw [Int.tmod_eq_emod_of_nonneg (by omega), hmod]
      have hwd : IntKind.i64.wrap ((dstN S B k : Nat) : Int) = ((dstN S B k : Nat) : Int) := IntWalk.i64_in _ (by omega)
      go_wp2_with fail
      refine wp_region_still_tail 9 (by kernel_rfl) (by kernel_rfl) ?_
      change wpStill _ _ wr.drew (fun a' => wpList _ _ _ _ a' wr.drew) _ _
      simp only [List.take_succ_cons, List.take_zero, List.drop_succ_cons, List.drop_zero]
      have E1d := E1.keep hd1
      have E2d := E2.keep hd1
      have E3d := E3.keep hd1
      have hbd := hb.drew
      clear E1 E2 E3 hb hd1
      generalize wr.drew = wd at *
      have c3 := E1d.cell hk96
      have c4 := E3d.cell hdl
      have f4 := E3d.frozen (dstN S B k)
      have hki : (k : Int) < 96 := by omega
      have hdi : ((dstN S B k : Nat) : Int) < 96 := by omega
      repeat still_step
      refine wpStill_nil ?_
      go_wp2
      go_roundw
      case rel => exact ⟨k + 1, hlt, by go_num, E1d.other (by omega) _, E2d.other (by omega) _, (E3d.set (dstN S B k) (d k)).congr fun i _ => turT_step hlt hBS i, hbd.setCell (p := ⟨_, _, none⟩) (by dsimp only; omega) _⟩
      case measure => simp [intOf]; omega
    · obtain rfl : k = S := by omega
      have R2 : wr.heap[w.heap.size + 1 + 1]? = some (.cells (da fun _ => 0) 29 (0, 0)) := E2
      have HZ := hide R2
      have HR3 := hide E3.range
      clear R2
      go_wp2_with (first | (with_reducible refine wpList_load_da rfl 29 (.tmp 9) rfl w1.heap.size 0 rfl (turT k B d k) _ HR3.out Try.underlying29 rfl (dInfo (turT k B d k)) ?_) | (with_reducible refine wpList_store_row rfl 29 (.tmp 6) (.tmp 36) rfl (w.heap.size + 1 + 1) (da (turT k B d k)) rfl rfl 29 _ HZ.out (by rw [da_size]; exact info29) (by simp only [da_size]) (da_one _) ?_))
      exact bodyPost_ret (v := .tuple #[.agg (da (turT k B d k)), .int .i64 0]) (results_dr Try.results15 _ _ (w.heap.size + 1 + 1) 29 _ _ (by simp [Act.put]) (by simp [Act.put]) (setRow_heap _ _ _ _ _ _ HZ.out)) rfl ⟨by rw [HY.out, HX.out], below_setRow hb (by omega)⟩
end Go.Proofs.Ytncdgjaadlpncaa
