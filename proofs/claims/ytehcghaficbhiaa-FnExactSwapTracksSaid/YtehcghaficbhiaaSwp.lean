import Derived.Test.YtehcghaficbhiaaWp
import Derived.Test.YtehcghaficbhiaaBit
import Derived.OpenShut
import Derived.Deep.Cut
import Derived.Deep.RegionHeld3
namespace Go.Proofs.Ytehcghaficbhiaa
open Go.RowKit
/-- the word of a step with two tracks turned -/
def swX (x : Int) (a b : Nat) : Int := bits .xor .u32 x (bits .or .u32 (2 ^ a % 4294967296) (2 ^ b % 4294967296))
/-- the drum with two tracks swapped at the first k steps -/
def swD (d : Nat → Int) (a b k : Nat) (i : Nat) : Int := if i < k ∧ pinB d i a ≠ pinB d i b then swX (d i) a b else d i
theorem swD_zero (d : Nat → Int) (a b : Nat) : swD d a b 0 = d := by
  funext i
  simp [swD]
theorem swD_at (d : Nat → Int) (a b k : Nat) : swD d a b k k = d k := by simp [swD]
theorem swD_wf {d : Nat → Int} (hd : DWF d) (a b k : Nat) : DWF (swD d a b k) := by
  intro i hi
  unfold swD
  split
  · exact bounds_u32 (wf_bits .xor .u32 _ _)
  · exact hd i hi
theorem swD_pin {d : Nat → Int} (a b k t : Nat) : pinB (swD d a b k) k t = pinB d k t := by simp [pinB, swD_at]
theorem swD_same {d : Nat → Int} {a b k : Nat} (h : pinB d k a = pinB d k b) : swD d a b (k + 1) = swD d a b k := by
  funext i
  unfold swD
  by_cases e : i = k
  · subst e
    simp [h]
  · have : i < k + 1 ↔ i < k := by omega
    simp only [this]
theorem swD_turn {d : Nat → Int} {a b k : Nat} (h : pinB d k a ≠ pinB d k b) : (fun i => if i = k then swX (d k) a b else swD d a b k i) = swD d a b (k + 1) := by
  funext i
  unfold swD
  by_cases e : i = k
  · subst e
    simp [h]
  · have : i < k + 1 ↔ i < k := by omega
    simp only [if_neg e, this]
set_option maxRecDepth 20000 in
set_option maxHeartbeats 4000000 in
theorem swapped_any (a b : Nat) (d : Nat → Int) (w : World) (ha : a < 24) (hb : b < 24) (hd : DWF d) :
    Calls Try.prog 23 #[.agg (da d), .int .i64 a, .int .i64 b] w fun e w' => e = .returned (.agg (da (swD d a b 96))) ∧ Below w.heap.size w w' := by
  have hz := zeroDrum
  obtain ⟨X, hX⟩ : ∃ X, X = (w.alloc (.cells (da d) 32)).alloc (.cells za 32) := ⟨_, rfl⟩
  have hb0 : Below w.heap.size w X := by rw [hX]; exact ((Below.refl _ _).alloc (Nat.le_refl _) _).alloc (by simp) _
  have P0 : Dr X w.heap.size 32 (swD d a b 0) := by rw [hX, swD_zero]; exact heap_old' (heap_new' _ _ _ rfl)
  have Z0 : Dr X (w.heap.size + 1) 32 (fun _ => 0) := by rw [hX, za_eq]; exact heap_new' _ _ _ (by simp)
  go_enter Try.func23, Try.ntmps23
  go_upto_region 1 with fail
  rw [← hX]
  clear hX hz
  go_wp2_with fail
  go_loopw [8] (fun i wr => ∃ k : Nat, k ≤ 96 ∧ i = .int .i64 k ∧ Dr wr w.heap.size 32 (swD d a b k) ∧ Dr wr (w.heap.size + 1) 32 (fun _ => 0) ∧ Below w.heap.size w wr)
    (fun i _ => 96 - (intOf i).toNat)
  case atStart => exact ⟨0, by omega, rfl, P0, Z0, hb0⟩
  case round =>
    obtain ⟨k, hk, rfl, P, Z, hbw⟩ := hrel
    by_cases hlt : k < 96
    · have hki : (k : Int) < 96 := by omega
      obtain ⟨q, hq⟩ : ∃ q, q = swD d a b k := ⟨_, rfl⟩
      have hqw : DWF q := by rw [hq]; exact swD_wf hd a b k
      have hqk : q k = d k := by rw [hq, swD_at]
      have hpa : pinB q k a = pinB d k a := by rw [hq, swD_pin]
      have hpb : pinB q k b = pinB d k b := by rw [hq, swD_pin]
      rw [← hq] at P
      have HQ := hide hq
      have HQK := hide hqk
      have HL := hide P.later
      clear hq hqk
      by_cases hp : pinB d k a = pinB d k b
      · have HN := hide (swD_same (d := d) (a := a) (b := b) (k := k) hp)
        obtain ⟨v, hv⟩ : ∃ v, v = pinB d k a := ⟨_, rfl⟩
        have H1 : ∀ W', Calls Try.prog 40 #[.agg (da q), .int .i64 k, .int .i64 a] W' fun e w' => e = .returned (.bool v) ∧ Below W'.heap.size W' w' := fun W' => by rw [hv, ← hpa]; exact has_any k a q W' hlt (by omega) hqw
        have H2 : ∀ W', Calls Try.prog 40 #[.agg (da q), .int .i64 k, .int .i64 b] W' fun e w' => e = .returned (.bool v) ∧ Below W'.heap.size W' w' := fun W' => by rw [hv, hp, ← hpb]; exact has_any k b q W' hlt (by omega) hqw
        have hvv : (v != v) = false := by cases v <;> rfl
        clear hv hp hpa hpb
        go_wp2_with fail
        refine wp_region_later (by kernel_rfl) (by kernel_rfl) ?_
        repeat (first | (go_big_quiet_want; with_reducible refine quiet_load_da 32 (.tmp 3) rfl (.pointer (some ⟨w.heap.size, 0, none⟩)) rfl (.agg (da q)) (by rintro _ ⟨p, rfl⟩; exact HL.out p) ?_; go_simp; go_big_quiet_on) | go_big_quiet_step (first | (go_at_call 40; with_reducible exact Later.call (H1 _)) | (go_at_call 40; with_reducible exact Later.call (H2 _))))
        refine wpQuiet_nil ?_
        rintro wz ⟨⟨_, hqz⟩, rfl⟩
        go_wp2_with fail
        go_roundw
        case rel => exact ⟨k + 1, hlt, by go_num, by rw [HN.out, ← HQ.out]; exact P.keep hqz, Z.keep hqz, hbw.trans (hqz.mono hbw.size)⟩
        case measure => simp [intOf]; omega
      · have HN := hide (swD_turn (d := d) (a := a) (b := b) (k := k) hp)
        have hpc : (pinB d k a = true ∧ pinB d k b = false) ∨ (pinB d k a = false ∧ pinB d k b = true) := by
          revert hp
          cases pinB d k a <;> cases pinB d k b <;> simp
        rcases hpc with ⟨hu, hv⟩ | ⟨hu, hv⟩
        · have H1 : ∀ W', Calls Try.prog 40 #[.agg (da q), .int .i64 k, .int .i64 a] W' fun e w' => e = .returned (.bool true) ∧ Below W'.heap.size W' w' := fun W' => by rw [← hu, ← hpa]; exact has_any k a q W' hlt (by omega) hqw
          have H2 : ∀ W', Calls Try.prog 40 #[.agg (da q), .int .i64 k, .int .i64 b] W' fun e w' => e = .returned (.bool false) ∧ Below W'.heap.size W' w' := fun W' => by rw [← hv, ← hpb]; exact has_any k b q W' hlt (by omega) hqw
          clear hv hu hp hpa hpb
          go_wp2_with fail
          refine wp_region_later (by kernel_rfl) (by kernel_rfl) ?_
          repeat (first | (go_big_quiet_want; with_reducible refine quiet_load_da 32 (.tmp 3) rfl (.pointer (some ⟨w.heap.size, 0, none⟩)) rfl (.agg (da q)) (by rintro _ ⟨p, rfl⟩; exact HL.out p) ?_; go_simp; go_big_quiet_on) | go_big_quiet_step (first | (go_at_call 40; with_reducible exact Later.call (H1 _)) | (go_at_call 40; with_reducible exact Later.call (H2 _))))
          refine wpQuiet_nil ?_
          rintro wz ⟨⟨_, hqz⟩, rfl⟩
          have P2 := P.keep hqz
          have Z2 := Z.keep hqz
          have b2 := hbw.trans (hqz.mono hbw.size)
          clear P Z HL H1 H2
          go_wp2_with fail
          have hd0 : Below wz.heap.size wz wz.drew := (Below.refl _ _).drew
          have b3 := b2.drew
          have P3 := P2.keep hd0
          have Z3 := Z2.keep hd0
          refine wp_region_still_tail 10 (by kernel_rfl) (by kernel_rfl) ?_
          change wpStill _ _ wz.drew (fun a' => wpList _ _ _ _ a' wz.drew) _ _
          simp only [List.take_succ_cons, List.take_zero, List.drop_succ_cons, List.drop_zero]
          clear P2 Z2 hd0
          generalize wz.drew = wd at *
          have c1 := P3.cell hlt
          have f1 := P3.frozen k
          repeat still_step
          refine wpStill_nil ?_
          have D1 : Dr (wd.setCell ⟨w.heap.size, k, none⟩ (.int .u32 (swX (q k) a b))) w.heap.size 32 (fun i => if i = k then swX (q k) a b else q i) := P3.set k _
          have D2 : Dr (wd.setCell ⟨w.heap.size, k, none⟩ (.int .u32 (swX (q k) a b))) (w.heap.size + 1) 32 (fun _ => 0) := Z3.other (by omega) _
          have b4 : Below w.heap.size w (wd.setCell ⟨w.heap.size, k, none⟩ (.int .u32 (swX (q k) a b))) := b3.setCell (p := ⟨_, _, none⟩) (by dsimp only; omega) _
          have D1' : Dr (wd.setCell ⟨w.heap.size, k, none⟩ (.int .u32 (swX (q k) a b))) w.heap.size 32 (swD d a b (k + 1)) := by rw [← HN.out, ← HQ.out, ← HQK.out]; exact D1
          unfold swX at D1' D2 b4
          clear D1 b3 P3 Z3
          go_wp2
          go_roundw
          case rel => exact ⟨k + 1, hlt, by go_num, D1', D2, b4⟩
          case measure => simp [intOf]; omega
        · have H1 : ∀ W', Calls Try.prog 40 #[.agg (da q), .int .i64 k, .int .i64 a] W' fun e w' => e = .returned (.bool false) ∧ Below W'.heap.size W' w' := fun W' => by rw [← hu, ← hpa]; exact has_any k a q W' hlt (by omega) hqw
          have H2 : ∀ W', Calls Try.prog 40 #[.agg (da q), .int .i64 k, .int .i64 b] W' fun e w' => e = .returned (.bool true) ∧ Below W'.heap.size W' w' := fun W' => by rw [← hv, ← hpb]; exact has_any k b q W' hlt (by omega) hqw
          clear hv hu hp hpa hpb
          go_wp2_with fail
          refine wp_region_later (by kernel_rfl) (by kernel_rfl) ?_
          repeat (first | (go_big_quiet_want; with_reducible refine quiet_load_da 32 (.tmp 3) rfl (.pointer (some ⟨w.heap.size, 0, none⟩)) rfl (.agg (da q)) (by rintro _ ⟨p, rfl⟩; exact HL.out p) ?_; go_simp; go_big_quiet_on) | go_big_quiet_step (first | (go_at_call 40; with_reducible exact Later.call (H1 _)) | (go_at_call 40; with_reducible exact Later.call (H2 _))))
          refine wpQuiet_nil ?_
          rintro wz ⟨⟨_, hqz⟩, rfl⟩
          have P2 := P.keep hqz
          have Z2 := Z.keep hqz
          have b2 := hbw.trans (hqz.mono hbw.size)
          clear P Z HL H1 H2
          go_wp2_with fail
          have hd0 : Below wz.heap.size wz wz.drew := (Below.refl _ _).drew
          have b3 := b2.drew
          have P3 := P2.keep hd0
          have Z3 := Z2.keep hd0
          refine wp_region_still_tail 10 (by kernel_rfl) (by kernel_rfl) ?_
          change wpStill _ _ wz.drew (fun a' => wpList _ _ _ _ a' wz.drew) _ _
          simp only [List.take_succ_cons, List.take_zero, List.drop_succ_cons, List.drop_zero]
          clear P2 Z2 hd0
          generalize wz.drew = wd at *
          have c1 := P3.cell hlt
          have f1 := P3.frozen k
          repeat still_step
          refine wpStill_nil ?_
          have D1 : Dr (wd.setCell ⟨w.heap.size, k, none⟩ (.int .u32 (swX (q k) a b))) w.heap.size 32 (fun i => if i = k then swX (q k) a b else q i) := P3.set k _
          have D2 : Dr (wd.setCell ⟨w.heap.size, k, none⟩ (.int .u32 (swX (q k) a b))) (w.heap.size + 1) 32 (fun _ => 0) := Z3.other (by omega) _
          have b4 : Below w.heap.size w (wd.setCell ⟨w.heap.size, k, none⟩ (.int .u32 (swX (q k) a b))) := b3.setCell (p := ⟨_, _, none⟩) (by dsimp only; omega) _
          have D1' : Dr (wd.setCell ⟨w.heap.size, k, none⟩ (.int .u32 (swX (q k) a b))) w.heap.size 32 (swD d a b (k + 1)) := by rw [← HN.out, ← HQ.out, ← HQK.out]; exact D1
          unfold swX at D1' D2 b4
          clear D1 b3 P3 Z3
          go_wp2
          go_roundw
          case rel => exact ⟨k + 1, hlt, by go_num, D1', D2, b4⟩
          case measure => simp [intOf]; omega
    · obtain rfl : k = 96 := by omega
      have HR1 := hide P.range
      have HR2 := hide (show wr.heap[w.heap.size + 1]? = some (.cells (da fun _ => 0) 32 (0, 0)) from Z)
      clear P Z
      go_wp2_with (first | (with_reducible refine wpList_load_da rfl 32 (.tmp 3) rfl w.heap.size 0 rfl (swD d a b 96) _ HR1.out Try.underlying32 rfl (dInfo (swD d a b 96)) ?_) | (with_reducible refine wpList_store_row rfl 32 (.tmp 6) (.tmp 31) rfl (w.heap.size + 1) (da (swD d a b 96)) rfl rfl 32 _ HR2.out (by rw [da_size]; exact info32) (by rw [da_size, da_size]) (da_one _) ?_))
      exact bodyPost_ret (v := .agg (da (swD d a b 96))) (results_cell_row Try.results23 _ _ (w.heap.size + 1) 32 (da (swD d a b 96)) (0, 0) _ (by simp [Act.put]) (setRow_heap _ _ _ _ _ _ HR2.out) Try.underlying32 rfl (by rw [da_size]; exact info32)) rfl ⟨rfl, below_setRow hbw (by omega)⟩
end Go.Proofs.Ytehcghaficbhiaa
