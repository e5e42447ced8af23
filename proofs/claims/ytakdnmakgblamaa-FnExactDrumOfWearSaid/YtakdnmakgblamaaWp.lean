import Derived.Test.YtakdnmakgblamaaPtm
import Derived.StillTailTactics
namespace Go.Proofs.Ytakdnmakgblamaa
open Go.RowKit

/-- the drum with one pin turned -/
def togD (d : Nat → Int) (k t : Nat) (i : Nat) : Int := if i = k then bits .xor .u32 (d k) (2 ^ t % 4294967296) else d i

set_option maxRecDepth 20000 in
set_option maxHeartbeats 1000000 in
theorem toggled_any (k t : Nat) (d : Nat → Int) (w : World) (hk : k < 96) (ht : t < 24) (hd : DWF d) :
    Calls Try.prog 61 #[.agg (da d), .int .i64 k, .int .i64 t] w fun e w' => e = .returned (.agg (da (togD d k t))) ∧ Below w.heap.size w w' := by
  have hz := zeroDrum
  have hb0 : Below w.heap.size w ((w.alloc (.cells (da d) 53)).alloc (.cells za 53)) := ((Below.refl _ _).alloc (Nat.le_refl _) _).alloc (by simp) _
  have P0 : Dr ((w.alloc (.cells (da d) 53)).alloc (.cells za 53)) w.heap.size 53 d := heap_old' (heap_new' _ _ _ rfl)
  have Z0 : Dr ((w.alloc (.cells (da d) 53)).alloc (.cells za 53)) (w.heap.size + 1) 53 (fun _ => 0) := by rw [za_eq]; exact heap_new' _ _ _ (by simp)
  go_enter Try.func61, Try.ntmps61
  go_wp2_with fail
  clear hz
  have hd0 : Below ((w.alloc (.cells (da d) 53)).alloc (.cells za 53)).heap.size ((w.alloc (.cells (da d) 53)).alloc (.cells za 53)) ((w.alloc (.cells (da d) 53)).alloc (.cells za 53)).drew := (Below.refl _ _).drew
  have b1 := hb0.drew
  have P1 := P0.keep hd0
  have Z1 := Z0.keep hd0
  refine wp_region_still_tail 7 (by kernel_rfl) (by kernel_rfl) ?_
  change wpStill _ _ ((w.alloc (.cells (da d) 53)).alloc (.cells za 53)).drew (fun a' => wpList _ _ _ _ a' ((w.alloc (.cells (da d) 53)).alloc (.cells za 53)).drew) _ _
  simp only [List.take_succ_cons, List.take_zero, List.drop_succ_cons, List.drop_zero]
  clear hb0 P0 Z0 hd0
  generalize ((w.alloc (.cells (da d) 53)).alloc (.cells za 53)).drew = wd at *
  have c1 := P1.cell hk
  have f1 := P1.frozen k
  have hki : (k : Int) < 96 := by omega
  repeat still_step
  refine wpStill_nil ?_
  have D1 : Dr (wd.setCell ⟨w.heap.size, k, none⟩ (.int .u32 (bits .xor .u32 (d k) (2 ^ t % 4294967296)))) w.heap.size 53 (togD d k t) := P1.set k _
  have D2 : Dr (wd.setCell ⟨w.heap.size, k, none⟩ (.int .u32 (bits .xor .u32 (d k) (2 ^ t % 4294967296)))) (w.heap.size + 1) 53 (fun _ => 0) := Z1.other (by omega) _
  have b2 : Below w.heap.size w (wd.setCell ⟨w.heap.size, k, none⟩ (.int .u32 (bits .xor .u32 (d k) (2 ^ t % 4294967296)))) := b1.setCell (p := ⟨_, _, none⟩) (by dsimp only; omega) _
  have HR1 := hide D1.range
  have R2 : (wd.setCell ⟨w.heap.size, k, none⟩ (.int .u32 (bits .xor .u32 (d k) (2 ^ t % 4294967296)))).heap[w.heap.size + 1]? = some (.cells (da fun _ => 0) 53 (0, 0)) := D2
  have HR2 := hide R2
  clear D1 R2 D2
  go_wp2_with (first | (with_reducible refine wpList_load_da rfl 53 (.tmp 3) rfl w.heap.size 0 rfl (togD d k t) _ HR1.out Try.underlying53 rfl (dInfo (togD d k t)) ?_) | (with_reducible refine wpList_store_row rfl 53 (.tmp 6) (.tmp 14) rfl (w.heap.size + 1) (da (togD d k t)) rfl rfl 53 _ HR2.out (by rw [da_size]; exact info53) (by rw [da_size, da_size]) (da_one _) ?_))
  exact bodyPost_ret (v := .agg (da (togD d k t))) (results_cell_row Try.results61 _ _ (w.heap.size + 1) 53 (da (togD d k t)) (0, 0) _ (by simp [Act.put]) (setRow_heap _ _ _ _ _ _ HR2.out) Try.underlying53 rfl (by rw [da_size]; exact info53)) rfl ⟨rfl, below_setRow b2 (by omega)⟩

theorem pow_nat (t : Nat) (ht : t < 32) : (2 : Int) ^ t % 4294967296 = ((2 ^ t : Nat) : Int) := by
  have hp : (2 : Nat) ^ t < 2 ^ 32 := Nat.pow_lt_pow_right (by decide) ht
  have h2 : ((2 : Int) ^ t) = ((2 ^ t : Nat) : Int) := by push_cast; rfl
  rw [h2]
  generalize (2 ^ t : Nat) = n at hp ⊢
  omega
theorem ofInt_nat (x : Int) (h : 0 ≤ x) : BitVec.ofInt 32 x = BitVec.ofNat 32 x.toNat := by
  obtain ⟨n, rfl⟩ := Int.eq_ofNat_of_zero_le h
  simp
theorem or_xor {d : Nat → Int} {k t : Nat} (h0 : 0 ≤ d k) (ht : t < 32) (h : pinB d k t = false) : bits .or .u32 (d k) (2 ^ t % 4294967296) = bits .xor .u32 (d k) (2 ^ t % 4294967296) := by
  rw [pow_nat t ht]
  have e : BitVec.ofInt 32 (d k) ||| BitVec.ofInt 32 ((2 ^ t : Nat) : Int) = BitVec.ofInt 32 (d k) ^^^ BitVec.ofInt 32 ((2 ^ t : Nat) : Int) := by
    rw [ofInt_nat _ h0, ofInt_nat _ (Int.natCast_nonneg _)]
    apply BitVec.eq_of_getLsbD_eq
    intro i hi
    simp only [BitVec.getLsbD_or, BitVec.getLsbD_xor, BitVec.getLsbD_ofNat, Int.toNat_natCast, Nat.testBit_two_pow]
    by_cases e : t = i
    · subst e
      have hb : (d k).toNat.testBit t = false := by
        rw [Nat.testBit_eq_decide_div_mod_eq]
        simp only [pinB, decide_eq_false_iff_not] at h
        rw [decide_eq_false_iff_not]
        intro h2
        apply h
        obtain ⟨n, hn⟩ := Int.eq_ofNat_of_zero_le h0
        rw [hn] at h2 ⊢
        simp only [Int.toNat_natCast] at h2
        exact_mod_cast h2
      simp [hb]
    · simp [e]
  show IntKind.u32.wrap ((BitVec.ofInt 32 (d k) ||| BitVec.ofInt 32 ((2 ^ t : Nat) : Int)).toNat : Int) = IntKind.u32.wrap ((BitVec.ofInt 32 (d k) ^^^ BitVec.ofInt 32 ((2 ^ t : Nat) : Int)).toNat : Int)
  rw [e]
theorem not_xor {d : Nat → Int} {k t : Nat} (h0 : 0 ≤ d k) (ht : t < 32) (h : pinB d k t = true) : bits .andNot .u32 (d k) (2 ^ t % 4294967296) = bits .xor .u32 (d k) (2 ^ t % 4294967296) := by
  rw [pow_nat t ht]
  have e : BitVec.ofInt 32 (d k) &&& ~~~ BitVec.ofInt 32 ((2 ^ t : Nat) : Int) = BitVec.ofInt 32 (d k) ^^^ BitVec.ofInt 32 ((2 ^ t : Nat) : Int) := by
    rw [ofInt_nat _ h0, ofInt_nat _ (Int.natCast_nonneg _)]
    apply BitVec.eq_of_getLsbD_eq
    intro i hi
    simp only [BitVec.getLsbD_and, BitVec.getLsbD_not, BitVec.getLsbD_xor, BitVec.getLsbD_ofNat, Int.toNat_natCast, Nat.testBit_two_pow]
    by_cases e : t = i
    · subst e
      have hb : (d k).toNat.testBit t = true := by
        rw [Nat.testBit_eq_decide_div_mod_eq]
        simp only [pinB, decide_eq_true_eq] at h
        rw [decide_eq_true_eq]
        obtain ⟨n, hn⟩ := Int.eq_ofNat_of_zero_le h0
        rw [hn] at h ⊢
        simp only [Int.toNat_natCast]
        exact_mod_cast h
      simp [hb]
    · simp [e, hi]
  show IntKind.u32.wrap ((BitVec.ofInt 32 (d k) &&& ~~~ BitVec.ofInt 32 ((2 ^ t : Nat) : Int)).toNat : Int) = IntKind.u32.wrap ((BitVec.ofInt 32 (d k) ^^^ BitVec.ofInt 32 ((2 ^ t : Nat) : Int)).toNat : Int)
  rw [e]
end Go.Proofs.Ytakdnmakgblamaa
