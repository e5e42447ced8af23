import Derived.Test.YtncdgjaadlpncaaTur
namespace Go.Proofs.Ytncdgjaadlpncaa
open Go.RowKit

set_option maxRecDepth 20000 in
set_option maxHeartbeats 2000000 in
theorem turned_any (S B : Nat) (A : Option Addr) (n c : Nat) (d : Nat → Int) (w : World) (hS2 : 2 ≤ S ∧ S ≤ 96) (hBS : B < S) (hd : DWF d) :
    Calls Try.prog 56 #[.agg #[.int .i64 S, .slice A n c], .agg (da d), .int .i64 B] w fun e w' => e = .returned (.agg (da (turT S B d S))) ∧ Below w.heap.size w w' := by
  have hz := zeroDrum
  obtain ⟨X0, hX⟩ : ∃ X, X = (((w.alloc (.cells #[.int .i64 S, .slice A n c] 77)).alloc (.cells (da d) 29)).alloc (.cells za 29)).alloc (.cells za 29) := ⟨_, rfl⟩
  have b0 : Below w.heap.size w X0 := by rw [hX]; exact ((((Below.refl _ _).alloc (Nat.le_refl _) _).alloc (by simp) _).alloc (by simp; omega) _).alloc (by simp; omega) _
  have n1 : X0.cell? ⟨w.heap.size, 0, none⟩ = some (.int .i64 S) := by rw [hX]; simp [go_sem]
  have n2 : X0.cell? ⟨w.heap.size, 1, none⟩ = some (.slice A n c) := by rw [hX]; simp [go_sem]
  have D5 : Dr X0 (w.heap.size + 1) 29 d := by rw [hX]; exact heap_old' (heap_old' (heap_new' _ _ _ (by simp)))
  have Z5 : Dr X0 (w.heap.size + 1 + 1) 29 (fun _ => 0) := by rw [hX, za_eq]; exact heap_old' (heap_new' _ _ _ (by simp))
  have O5 : Dr X0 (w.heap.size + 1 + 1 + 1) 29 (fun _ => 0) := by rw [hX, za_eq]; exact heap_new' _ _ _ (by simp)
  go_enter Try.func56, Try.ntmps56
  go_upto_region 2 with fail
  rw [← hX]
  clear hX hz
  go_wp2_with fail
  go_loopw [8, 11] (fun _ i wr => ∃ k : Nat, k ≤ S ∧ i = .int .i64 k ∧ wr.cell? ⟨w.heap.size, 0, none⟩ = some (.int .i64 S) ∧ wr.cell? ⟨w.heap.size, 1, none⟩ = some (.slice A n c) ∧ Dr wr (w.heap.size + 1) 29 d ∧ Dr wr (w.heap.size + 1 + 1) 29 (fun _ => 0) ∧ Dr wr (w.heap.size + 1 + 1 + 1) 29 (turT S B d k) ∧ Below w.heap.size w wr)
    (fun _ i _ => S - (intOf i).toNat)
  case atStart => exact ⟨0, Nat.zero_le _, rfl, n1, n2, D5, Z5, by rw [turT_zero]; exact O5, b0⟩
  case round =>
    obtain ⟨k, hk, rfl, e1, e2, E1, E2, E3, hb⟩ := hrel
    by_cases hlt : k < S
    · have hk96 : k < 96 := by omega
      have hd1 : Below wr.heap.size wr wr.drew := (Below.refl _ _).drew
      have hdl : dstN S B k < 96 := by have := dst_lt hlt hBS; omega
      have hki : (k : Int) < 96 := by omega
      have hks : (k : Int) < (S : Int) := by omega
      have hdi : ((dstN S B k : Nat) : Int) < 96 := by omega
      have KA : ∀ W, Calls Try.prog 96 #[.agg #[.int .i64 S, .slice A n c], .int .i64 ((k : Int) + (B : Int))] W fun e w' => e = .returned (.int .i64 ((dstN S B k : Nat) : Int)) ∧ Below W.heap.size W w' := fun W => by
        have h := around_any S (k + B) A n c W hS2 (by omega)
        rw [mod_dst hlt hBS, Int.natCast_add] at h
        exact h
      have hwr : IntKind.i64.wrap ((k : Int) + (B : Int)) = (k : Int) + (B : Int) := IntWalk.i64_in _ (by omega)
      have E1d := E1.keep hd1
      have E2d := E2.keep hd1
      have E3d := E3.keep hd1
      have b6 := hb.drew
      have r1 := (hd1.cell (p := ⟨w.heap.size, 0, none⟩) (World.block_lt_of_cell? wr _ e1)).trans e1
      have r2 := (hd1.cell (p := ⟨w.heap.size, 1, none⟩) (World.block_lt_of_cell? wr _ e2)).trans e2
      have r3 := E1d.cell hk96
      go_wp2_with fail
      go_region_held3 (fun w' => w'.cell? ⟨w.heap.size, 0, none⟩ = some (.int .i64 S) ∧ w'.cell? ⟨w.heap.size, 1, none⟩ = some (.slice A n c) ∧ w'.cell? ⟨w.heap.size + 1, k, none⟩ = some (.int .u32 (d k))) (first | with_reducible exact ⟨r1, r2, r3⟩ | with_reducible exact ⟨q1, q2, q3⟩ | with_reducible exact ⟨t1, t2, t3⟩) ((first | (go_at_call 96; with_reducible refine (KA _).mono ?_; rintro e w7 ⟨rfl, hb7⟩; have b7 := step_below hb7 b6; have G1 := E1d.keep hb7; have G2 := E2d.keep hb7; have G3 := E3d.keep hb7; have q1 := (hb7.cell (p := ⟨w.heap.size, 0, none⟩) (World.block_lt_of_cell? _ _ r1)).trans r1; have q2 := (hb7.cell (p := ⟨w.heap.size, 1, none⟩) (World.block_lt_of_cell? _ _ r2)).trans r2; have q3 := G1.cell hk96; have c4 := G3.cell hdl; have f4 := G3.frozen (dstN S B k); have t1 : (w7.setCell ⟨(w.heap.size + 1 + 1 + 1), dstN S B k, none⟩ (.int .u32 (d k))).cell? ⟨w.heap.size, 0, none⟩ = some (.int .i64 S) := (cell_block (heap_setCell_other _ _ _ _ (by dsimp only; omega))).trans q1; have t2 : (w7.setCell ⟨(w.heap.size + 1 + 1 + 1), dstN S B k, none⟩ (.int .u32 (d k))).cell? ⟨w.heap.size, 1, none⟩ = some (.slice A n c) := (cell_block (heap_setCell_other _ _ _ _ (by dsimp only; omega))).trans q2; have t3 : (w7.setCell ⟨(w.heap.size + 1 + 1 + 1), dstN S B k, none⟩ (.int .u32 (d k))).cell? ⟨w.heap.size + 1, k, none⟩ = some (.int .u32 (d k)) := (cell_block (heap_setCell_other _ _ _ _ (by dsimp only; omega))).trans q3)))
      go_wp2
      go_roundw
      case rel => exact ⟨k + 1, hlt, by go_num, t1, t2, G1.other (by omega) _, G2.other (by omega) _, (G3.set (dstN S B k) (d k)).congr fun i _ => turT_step hlt hBS i, b7.setCell (p := ⟨_, _, none⟩) (by dsimp only; omega) _⟩
      case measure => simp [intOf]; omega
    · obtain rfl : k = S := by omega
      have hks : ¬ (k : Int) < (k : Int) := by omega
      have R2 : wr.heap[w.heap.size + 1 + 1]? = some (.cells (da fun _ => 0) 29 (0, 0)) := E2
      have HZ := hide R2
      have HR3 := hide E3.range
      clear R2
      go_wp2_with (first | (with_reducible refine wpList_load_da rfl 29 (.tmp 7) rfl (w.heap.size + 1 + 1 + 1) 0 rfl (turT k B d k) _ HR3.out Try.underlying29 rfl (dInfo (turT k B d k)) ?_) | (with_reducible refine wpList_store_row rfl 29 (.tmp 6) (.tmp 24) rfl (w.heap.size + 1 + 1) (da (turT k B d k)) rfl rfl 29 _ HZ.out (by rw [da_size]; exact info29) (by simp only [da_size]) (da_one _) ?_))
      exact bodyPost_ret (v := .agg (da (turT k B d k))) (results_cell_row Try.results56 _ _ (w.heap.size + 1 + 1) 29 (da (turT k B d k)) (0, 0) _ (by simp [Act.put]) (setRow_heap _ _ _ _ _ _ HZ.out) Try.underlying29 rfl (by rw [da_size]; exact info29)) rfl ⟨rfl, below_setRow hb (by omega)⟩
set_option maxRecDepth 20000 in
set_option maxHeartbeats 2000000 in
theorem implTurnDrum_any (s : Int) (A : Option Addr) (c : Nat) (l : List (Int × Int)) (d : Nat → Int) (x : Int) (w : World) (hA : HA w A l) (hn : l.length ≤ 1048576) (hwf : HWF l) (hs : -32768 ≤ s ∧ s ≤ 32767) (hd : DWF d) :
    Calls Try.prog 18 #[.agg #[.int .i16 s, .slice A l.length c], .agg (da d), .int .i64 x] w (DrC (turD s l d x) (turC s l d x) w) := by
  have hz := zeroDrum
  have hb0 : Below w.heap.size w (((w.alloc (.cells #[.int .i16 s, .slice A l.length c] 34)).alloc (.cells (da d) 29)).alloc (.cells za 29)) := (((Below.refl _ _).alloc (Nat.le_refl _) _).alloc (by simp) _).alloc (by simp; omega) _
  have D0 : Dr (((w.alloc (.cells #[.int .i16 s, .slice A l.length c] 34)).alloc (.cells (da d) 29)).alloc (.cells za 29)) (w.heap.size + 1) 29 d := heap_old' (heap_new' _ _ _ (by simp))
  have Z0 : Dr (((w.alloc (.cells #[.int .i16 s, .slice A l.length c] 34)).alloc (.cells (da d) 29)).alloc (.cells za 29)) (w.heap.size + 1 + 1) 29 (fun _ => 0) := by rw [za_eq]; exact heap_new' _ _ _ (by simp)
  have HR0 := hide D0.range
  go_enter Try.func18, Try.ntmps18
  go_wp2_with (first | (with_reducible refine wpList_load_da rfl 29 (.tmp 4) rfl (w.heap.size + 1) 0 rfl d _ HR0.out Try.underlying29 rfl (dInfo d) ?_) | (with_reducible refine wpList_build1 rfl (.tmp 12) rfl d rfl ?_))
  refine (machine1_any s A c l d _ (hA.below hb0) hn hwf hs hd _ (by simp)).mono ?_
  rintro e w2 ⟨rfl, hb2⟩
  have hx0 : Below (((w.alloc (.cells #[.int .i16 s, .slice A l.length c] 34)).alloc (.cells (da d) 29)).alloc (.cells za 29)).heap.size (((w.alloc (.cells #[.int .i16 s, .slice A l.length c] 34)).alloc (.cells (da d) 29)).alloc (.cells za 29)) ((((w.alloc (.cells #[.int .i16 s, .slice A l.length c] 34)).alloc (.cells (da d) 29)).alloc (.cells za 29)).alloc (.cells (da d) 29)) := (Below.refl _ _).alloc (Nat.le_refl _) _
  have b2 := step_below hb2 (hb0.alloc hb0.size (.cells (da d) 29))
  have hy : Below w2.heap.size w2 (w2.alloc (.cells #[.int .i64 s, .slice A l.length c] 77)) := (Below.refl _ _).alloc (Nat.le_refl _) _
  have M3 : (w2.alloc (.cells #[.int .i64 s, .slice A l.length c] 77)).heap[w2.heap.size]? = some (.cells #[.int .i64 s, .slice A l.length c] 77 (0, 0)) := heap_alloc_new _ _
  have b3 := b2.alloc b2.size (.cells #[.int .i64 s, .slice A l.length c] 77)
  have D3 := ((D0.keep hx0).keep hb2).keep hy
  have Z2 := (Z0.keep hx0).keep hb2
  have hw2 : w.heap.size + 1 + 1 < w2.heap.size := Z2.lt
  have Z3 := Z2.keep hy
  have R3 : (w2.alloc (.cells #[.int .i64 s, .slice A l.length c] 77)).heap[w.heap.size + 1 + 1]? = some (.cells (da fun _ => 0) 29 (0, 0)) := Z3
  have HZ := hide R3
  clear R3
  cases ha : askB s l d
  · 
    have hcc : turC s l d x = 1 := by simp [turC, ha, cod3]
    have HX := hide hcc
    have HY := hide (show turD s l d x = fun _ => 0 by simp [turD, hcc])
    clear hcc
    clear ha hz
    go_wp2_with (first | (with_reducible refine wpList_build0 rfl rfl ?_) | (with_reducible refine wpList_store_row rfl 29 (.tmp 6) (.tmp 19) rfl (w.heap.size + 1 + 1) (da fun _ => 0) rfl rfl 29 _ HZ.out (by rw [da_size]; exact info29) (by simp only [da_size]) (da_one _) ?_))
    exact bodyPost_ret (v := .tuple #[.agg (da fun _ => 0), .int .i64 1]) (results_dr Try.results18 _ _ (w.heap.size + 1 + 1) 29 _ _ (by simp [Act.put]) (by simp [Act.put]) (setRow_heap _ _ _ _ _ _ HZ.out)) rfl ⟨by rw [HY.out, HX.out], below_setRow b3 (by omega)⟩
  have hfa := ask_all ha
  go_wp2_with fail
  refine (hasStep_any s x A l.length c _ hs).mono ?_
  rintro e w3 ⟨rfl, hb3⟩
  have b4 := step_below hb3 b3
  have D4 := D3.keep hb3
  have Z4 := Z3.keep hb3
  have M4 := (hb3.block _ (Array.getElem?_eq_some_iff.1 M3).1).trans M3
  have R4 : w3.heap[w.heap.size + 1 + 1]? = some (.cells (da fun _ => 0) 29 (0, 0)) := Z4
  have HZ := hide R4
  clear R4
  cases hp : inB x 0 (s - 1)
  · 
    have hcc : turC s l d x = 2 := by simp [turC, ha, hp, cod3]
    have HX := hide hcc
    have HY := hide (show turD s l d x = fun _ => 0 by simp [turD, hcc])
    clear hcc
    clear ha hp hz
    go_wp2_with (first | (with_reducible refine wpList_build0 rfl rfl ?_) | (with_reducible refine wpList_store_row rfl 29 (.tmp 6) (.tmp 24) rfl (w.heap.size + 1 + 1) (da fun _ => 0) rfl rfl 29 _ HZ.out (by rw [da_size]; exact info29) (by simp only [da_size]) (da_one _) ?_))
    exact bodyPost_ret (v := .tuple #[.agg (da fun _ => 0), .int .i64 2]) (results_dr Try.results18 _ _ (w.heap.size + 1 + 1) 29 _ _ (by simp [Act.put]) (by simp [Act.put]) (setRow_heap _ _ _ _ _ _ HZ.out)) rfl ⟨by rw [HY.out, HX.out], below_setRow b4 (by omega)⟩
  obtain ⟨S, hSs⟩ : ∃ S : Nat, s = (S : Int) := ⟨s.toNat, by omega⟩
  have hxb : 0 ≤ x ∧ x ≤ s - 1 := by simpa [inB] using hp
  obtain ⟨B, hB⟩ : ∃ B : Nat, x = (B : Int) := ⟨x.toNat, by omega⟩
  have hS2 : 2 ≤ S ∧ S ≤ 96 := by omega
  have hBS : B < S := by omega
  have hSn : s.toNat = S := by omega
  have hBn : x.toNat = B := by omega
  have hcc : turC s l d x = 0 := by simp [turC, ha, hp, cod3]
  have HX := hide hcc
  have HY := hide (show turD s l d x = turT S B d S by simp [turD, hcc, hSn, hBn])
  clear hcc
  clear ha hp hfa hxb hSn hBn
  subst hSs hB
  have m1 := cell_of_row _ _ 0 _ _ _ M4
  have m2 := cell_of_row _ _ 1 _ _ _ M4
  simp at m1 m2
  have HD4 := hide D4.range
  clear hz
  go_wp2_with (with_reducible refine wpList_load_da rfl 29 (.tmp 4) rfl (w.heap.size + 1) 0 rfl d _ HD4.out Try.underlying29 rfl (dInfo d) ?_)
  refine (turned_any S B A l.length c d _ hS2 hBS hd).mono ?_
  rintro e w5 ⟨rfl, hb5⟩
  have b5 := step_below hb5 b4
  have R5 : w5.heap[w.heap.size + 1 + 1]? = some (.cells (da fun _ => 0) 29 (0, 0)) := Z4.keep hb5
  have HZ := hide R5
  clear R5
  go_wp2_with (with_reducible refine wpList_store_row rfl 29 (.tmp 6) (.tmp 28) rfl (w.heap.size + 1 + 1) (da (turT S B d S)) rfl rfl 29 _ HZ.out (by rw [da_size]; exact info29) (by simp only [da_size]) (da_one _) ?_)
  exact bodyPost_ret (v := .tuple #[.agg (da (turT S B d S)), .int .i64 0]) (results_dr Try.results18 _ _ (w.heap.size + 1 + 1) 29 _ _ (by simp [Act.put]) (by simp [Act.put]) (setRow_heap _ _ _ _ _ _ HZ.out)) rfl ⟨by rw [HY.out, HX.out], below_setRow b5 (by omega)⟩
end Go.Proofs.Ytncdgjaadlpncaa
