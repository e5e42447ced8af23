import Derived.Test.YtmmninlnpnhboaaGreatDoorGbd
import Derived.Test.YtmmninlnpnhboaaGreatDoorGar
import Derived.Test.YtmmninlnpnhboaaGreatDoorGae
import Derived.Test.YtmmninlnpnhboaaGreatDoorFree
namespace Go.Proofs.YtmmninlnpnhboaaGreatDoor
open Go.RowKit
theorem dfQ_inv {s : Int} {hl t : List (Int × Int)} {L : List Xc} (h : dfQ s hl t L = 0) : frB s hl = true ∧ okB t = true ∧ xsB L = true ∧ L.length = t.length := by
  by_cases h1 : frB s hl = true ∧ okB t = true ∧ xsB L = true
  · by_cases h2 : L.length = t.length
    · exact ⟨h1.1, h1.2.1, h1.2.2, h2⟩
    · rw [dfQ_uneven h1 h2] at h; exact absurd h (by decide)
  · rw [dfQ_no h1] at h; exact absurd h (by decide)
theorem dfC_q {s : Int} {hl t : List (Int × Int)} {L : List Xc} (h : dfQ s hl t L ≠ 0) : dfC s hl t L = dfQ s hl t L ∧ dfD s hl t L = fun _ => 0 := by
  have h1 : dfC s hl t L = dfQ s hl t L := by rw [dfC, if_neg h]
  exact ⟨h1, by rw [dfD, if_neg (by rw [h1]; exact h)]⟩
theorem dfC_four {s : Int} {hl t : List (Int × Int)} {L : List Xc} {k : Nat} (h : dfQ s hl t L = 0) (hf : dfF s.toNat hl t L = some k) : dfC s hl t L = 4 ∧ (dfD s hl t L = fun _ => 0) ∧ fiI s.toNat hl t L = k ∧ fiD s.toNat hl t L = fun _ => 0 := by
  have h1 : dfC s hl t L = 4 := by rw [dfC, if_pos h, hf]; rfl
  exact ⟨h1, by rw [dfD, if_neg (by rw [h1]; decide)], (fi_some hf).2, (fi_some hf).1⟩
theorem dfC_zero {s : Int} {hl t : List (Int × Int)} {L : List Xc} (h : dfQ s hl t L = 0) (hf : dfF s.toNat hl t L = none) : dfC s hl t L = 0 ∧ fiI s.toNat hl t L = -1 ∧ fiD s.toNat hl t L = dfD s hl t L := by
  have h1 : dfC s hl t L = 0 := by rw [dfC, if_pos h, hf]; rfl
  obtain ⟨d, hd⟩ := dfS_ex hf
  exact ⟨h1, (fi_none hd).2, by rw [(fi_none hd).1, dfD, if_pos h1, hd]; rfl⟩
theorem fiD_wf (S : Nat) (hl t : List (Int × Int)) (L : List Xc) : DWF (fiD S hl t L) := by
  unfold fiD
  split
  · exact zero_wfP
  · cases h : dfS S hl t L L.length with
    | none => exact zero_wfP
    | some d => exact dfS_wf h
/-- l07Fit with a frame whose size is an integer -/
theorem l07Fit_int (b : Nat) (s : Int) (A : Option Addr) (c : Nat) (hl : List (Int × Int)) (B : Option Addr) (ct : Nat) (t : List (Int × Int)) (C : Option Addr) (cl : Nat) (L : List Xc) (w : World) (hF : FP w b s A hl.length c) (hA : HA w A hl) (hB : NA w B t) (hC : ChA w C L) (hq : dfQ s hl t L = 0) :
    Calls Tryz.prog 43 #[.pointer (some ⟨b, 0, none⟩), .slice B t.length ct, .slice C L.length cl] w fun e w' => e = .returned (.tuple #[.agg (da (fiD s.toNat hl t L)), .int .i64 (fiI s.toNat hl t L)]) ∧ Below w.heap.size w w' := by
  obtain ⟨h1, h2, h3, h4⟩ := dfQ_inv hq
  obtain ⟨⟨s1, s2⟩, ⟨n1, n2⟩, hG⟩ := frB_all h1
  obtain ⟨S, rfl⟩ : ∃ S : Nat, s = (S : Int) := ⟨s.toNat, by omega⟩
  exact l07Fit_any b S A c hl B ct t C cl L w hF hA (by omega) n2 hG hB h2 hC h4
set_option maxRecDepth 20000 in
set_option maxHeartbeats 4000000 in
theorem l07Drum_any (b : Nat) (s : Int) (A : Option Addr) (c : Nat) (hl : List (Int × Int)) (B : Option Addr) (ct : Nat) (t : List (Int × Int)) (C : Option Addr) (cl : Nat) (L : List Xc) (w : World) (hF : FP w b s A hl.length c) (hA : HA w A hl) (hn : hl.length ≤ 1048576) (hwf : HWF hl) (hs : -32768 ≤ s ∧ s ≤ 32767)
    (hB : NA w B t) (hnt : t.length ≤ 1048576) (hwt : WF t) (hC : ChA w C L) (hnL : L.length ≤ 1048576) (hwL : ChWF L) :
    Calls Tryz.prog 33 #[.pointer (some ⟨b, 0, none⟩), .slice B t.length ct, .slice C L.length cl] w fun e w' => e = .returned (.tuple #[.agg (da (dfD s hl t L)), .int .i64 (dfC s hl t L)]) ∧ Below w.heap.size w w' := by
  have hz := zeroDrum
  have hzz : za.size = (da fun _ => 0).size := by rw [za_eq]
  have KQ := fun W (h0 : FP W b s A hl.length c) (h1 : HA W A hl) (h2 : NA W B t) (h3 : ChA W C L) => l07Asked_any b s A c hl B ct t C cl L W h0 h1 hn hwf hs h2 hnt hwt h3 hnL hwL
  obtain ⟨X, hX⟩ : ∃ X, X = w.alloc (.cells za 33) := ⟨_, rfl⟩
  have b0 : Below w.heap.size w X := by rw [hX]; exact (Below.refl _ _).alloc (Nat.le_refl _) _
  have Z0 : Dr X w.heap.size 33 (fun _ => 0) := by rw [hX, za_eq]; exact heap_alloc_new _ _
  by_cases hq : dfQ s hl t L = 0
  case neg =>
    have HR := hide (dfC_q hq)
    obtain ⟨q, hqe⟩ : ∃ q, q = dfQ s hl t L := ⟨_, rfl⟩
    rw [← hqe] at hq
    have HQ := hide hqe
    have hqn : (q != 0) = true := by simp [hq]
    simp only [← hqe] at KQ
    clear hqe hq
    go_enter Tryz.func33, Tryz.ntmps33
    go_upto_region 1 with fail
    rw [← hX]
    clear hX
    go_wp2_with fail
    refine (KQ X (hF.keep b0) (hA.below b0) (hB.below b0) (hC.below b0)).mono ?_
    rintro e w1 ⟨rfl, hb1⟩
    have b1 := step_below hb1 b0
    have Z1 := Z0.keep hb1
    have HZ := hide (show w1.heap[w.heap.size]? = some (.cells (da fun _ => 0) 33 (0, 0)) from Z1)
    clear KQ Z0 Z1
    go_wp2_with (first | (with_reducible refine wpList_build0 rfl rfl ?_) | (with_reducible refine wpList_store_row rfl 33 (.tmp 6) (.tmp 17) rfl w.heap.size (da fun _ => 0) rfl rfl 33 _ HZ.out (by rw [da_size]; exact info33) (by simp only [da_size]) (da_one _) ?_))
    exact bodyPost_ret (v := .tuple #[.agg (da fun _ => 0), .int .i64 q]) (results_dr Tryz.results33 _ _ w.heap.size 33 _ _ (by simp) (by simp) (setRow_heap _ _ _ _ _ _ HZ.out)) rfl ⟨by rw [HR.out.1, HR.out.2, HQ.out], below_setRow b1 (Nat.le_refl _)⟩
  have KT := fun W (h0 : FP W b s A hl.length c) (h1 : HA W A hl) (h2 : NA W B t) (h3 : ChA W C L) => l07Fit_int b s A c hl B ct t C cl L W h0 h1 h2 h3 hq
  rw [hq] at KQ
  obtain ⟨d, hd⟩ : ∃ d, d = fiD s.toNat hl t L := ⟨_, rfl⟩
  obtain ⟨i, hi⟩ : ∃ i, i = fiI s.toNat hl t L := ⟨_, rfl⟩
  rw [← hd, ← hi] at KT
  have HQ := hide hq
  have HD := hide hd
  have HI := hide hi
  have hzd : za.size = (da d).size := by rw [za_eq, da_size, da_size]
  clear hq hd hi
  go_enter Tryz.func33, Tryz.ntmps33
  go_upto_region 1 with fail
  rw [← hX]
  clear hX
  go_wp2_with fail
  refine (KQ X (hF.keep b0) (hA.below b0) (hB.below b0) (hC.below b0)).mono ?_
  rintro e w1 ⟨rfl, hb1⟩
  have b1 := step_below hb1 b0
  have Z1 := Z0.keep hb1
  clear KQ Z0
  go_wp2_with fail
  refine (KT w1 (hF.keep b1) (hA.below b1) (hB.below b1) (hC.below b1)).mono ?_
  rintro e w2 ⟨rfl, hb2⟩
  have b2 := step_below hb2 b1
  have Z2 := Z1.keep hb2
  clear KT Z1
  go_upto_region 5 with (with_reducible refine wpList_store_new rfl 33 (.tmp 9) (.tmp 24) rfl d rfl rfl 33 _ (dInfo d) hzd ?_)
  obtain ⟨Y, hY⟩ : ∃ Y, Y = w2.alloc (.cells (da d) 33) := ⟨_, rfl⟩
  have hb3 : Below w2.heap.size w2 Y := by rw [hY]; exact (Below.refl _ _).alloc (Nat.le_refl _) _
  have b3 := step_below hb3 b2
  have Z3 := Z2.keep hb3
  obtain ⟨g, hg⟩ : ∃ g, g = w2.heap.size := ⟨_, rfl⟩
  have G3 : Dr Y g 33 d := by rw [hY, hg]; exact heap_alloc_new _ _
  rw [← hY, ← hg]
  clear hY hg Z2
  have HZ := hide (show Y.heap[w.heap.size]? = some (.cells (da fun _ => 0) 33 (0, 0)) from Z3)
  have HG := hide G3.range
  clear Z3 G3
  cases hf : dfF s.toNat hl t L with
  | some k =>
    have hr := dfC_four HQ.out hf
    rw [← HI.out, ← HD.out] at hr
    have HR := hide hr
    have hge : (0 : Int) ≤ i := by rw [hr.2.2.1]; omega
    clear hf hr
    go_wp2_with (first | (with_reducible refine wpList_build0 rfl rfl ?_) | (with_reducible refine wpList_store_row rfl 33 (.tmp 6) (.tmp 28) rfl w.heap.size (da fun _ => 0) rfl rfl 33 _ HZ.out (by rw [da_size]; exact info33) (by simp only [da_size]) (da_one _) ?_))
    exact bodyPost_ret (v := .tuple #[.agg (da fun _ => 0), .int .i64 4]) (results_dr Tryz.results33 _ _ w.heap.size 33 _ _ (by simp) (by simp) (setRow_heap _ _ _ _ _ _ HZ.out)) rfl ⟨by rw [HR.out.1, HR.out.2.1], below_setRow b3 (Nat.le_refl _)⟩
  | none =>
    have hr := dfC_zero HQ.out hf
    rw [← HI.out, ← HD.out] at hr
    have HR := hide hr
    have hge : ¬ (0 : Int) ≤ i := by rw [hr.2.1]; omega
    clear hf hr
    go_wp2_with (first | (with_reducible refine wpList_load_da rfl 33 (.tmp 9) rfl g 0 rfl d _ HG.out Tryz.underlying33 rfl (dInfo d) ?_) | (with_reducible refine wpList_store_row rfl 33 (.tmp 6) (.tmp 29) rfl w.heap.size (da d) rfl rfl 33 _ HZ.out (by rw [da_size]; exact info33) (by simp only [da_size]) (da_one _) ?_))
    exact bodyPost_ret (v := .tuple #[.agg (da d), .int .i64 0]) (results_dr Tryz.results33 _ _ w.heap.size 33 _ _ (by simp) (by simp) (setRow_heap _ _ _ _ _ _ HZ.out)) rfl ⟨by rw [HR.out.1, HR.out.2.2], below_setRow b3 (Nat.le_refl _)⟩
set_option maxRecDepth 20000 in
set_option maxHeartbeats 4000000 in
theorem specDrumFor_any (s : Int) (A : Option Addr) (c : Nat) (hl : List (Int × Int)) (B : Option Addr) (ct : Nat) (t : List (Int × Int)) (C : Option Addr) (cl : Nat) (L : List Xc) (w : World) (hA : HA w A hl) (hn : hl.length ≤ 1048576) (hwf : HWF hl) (hs : -32768 ≤ s ∧ s ≤ 32767)
    (hB : NA w B t) (hnt : t.length ≤ 1048576) (hwt : WF t) (hC : ChA w C L) (hnL : L.length ≤ 1048576) (hwL : ChWF L) :
    Calls Tryz.prog 11 #[.agg #[.int .i16 s, .slice A hl.length c], .slice B t.length ct, .slice C L.length cl] w fun e w' => e = .returned (.tuple #[.agg (da (dfD s hl t L)), .int .i64 (dfC s hl t L)]) ∧ Below w.heap.size w w' := by
  have hz := zeroDrum
  have KD := fun b W (h0 : FP W b s A hl.length c) (h1 : HA W A hl) (h2 : NA W B t) (h3 : ChA W C L) => l07Drum_any b s A c hl B ct t C cl L W h0 h1 hn hwf hs h2 hnt hwt h3 hnL hwL
  obtain ⟨d, hd⟩ : ∃ d, d = dfD s hl t L := ⟨_, rfl⟩
  obtain ⟨i, hi⟩ : ∃ i, i = dfC s hl t L := ⟨_, rfl⟩
  rw [← hd, ← hi] at KD ⊢
  clear hd hi
  obtain ⟨X, hX⟩ : ∃ X, X = (w.alloc (.cells #[.int .i16 s, .slice A hl.length c] 38)).alloc (.cells za 33) := ⟨_, rfl⟩
  have b0 : Below w.heap.size w X := by rw [hX]; exact ((Below.refl _ _).alloc (Nat.le_refl _) _).alloc (by simp) _
  have R1 : X.heap[w.heap.size]? = some (.cells #[.int .i16 s, .slice A hl.length c] 38 (0, 0)) := by rw [hX]; exact heap_old' (heap_new' _ _ _ rfl)
  have Z1 : Dr X (w.heap.size + 1) 33 (fun _ => 0) := by rw [hX, za_eq]; exact heap_new' _ _ _ (by simp)
  have f0 := cell_of_row _ _ 0 _ _ _ R1
  have f1 := cell_of_row _ _ 1 _ _ _ R1
  simp at f0 f1
  go_enter Tryz.func11, Tryz.ntmps11
  go_upto_region 1 with fail
  rw [← hX]
  clear hX R1
  go_wp2_with fail
  refine (KD w.heap.size X ⟨f0, f1⟩ (hA.below b0) (hB.below b0) (hC.below b0)).mono ?_
  rintro e w1 ⟨rfl, hb1⟩
  have b1 := step_below hb1 b0
  have Z2 := Z1.keep hb1
  have HZ := hide (show w1.heap[w.heap.size + 1]? = some (.cells (da fun _ => 0) 33 (0, 0)) from Z2)
  clear KD Z1 Z2 f0 f1
  go_wp2_with (with_reducible refine wpList_store_row rfl 33 (.tmp 6) (.tmp 11) rfl (w.heap.size + 1) (da d) rfl rfl 33 _ HZ.out (by rw [da_size]; exact info33) (by simp only [da_size]) (da_one _) ?_)
  exact bodyPost_ret (v := .tuple #[.agg (da d), .int .i64 i]) (results_dr Tryz.results11 _ _ (w.heap.size + 1) 33 _ _ (by simp) (by simp) (setRow_heap _ _ _ _ _ _ HZ.out)) rfl ⟨rfl, below_setRow b1 (by omega)⟩
end Go.Proofs.YtmmninlnpnhboaaGreatDoor
namespace Go.Proofs.YtmmninlnpnhboaaGreatDoor
open Go.RowKit

theorem wrap32 (n : Int) : IntKind.u32.wrap n = n % 4294967296 := by simp [IntKind.wrap, IntKind.signed, IntKind.bits]
theorem of32 (a : Nat) (ha : a < 4294967296) : (BitVec.ofInt 32 (a : Int)).toNat = a := by
  rw [BitVec.ofInt_natCast, BitVec.toNat_ofNat]; exact Nat.mod_eq_of_lt (by omega)
theorem and_nat (a b : Nat) (ha : a < 4294967296) (hb : b < 4294967296) : bits .and .u32 (a : Int) (b : Int) = ((a &&& b : Nat) : Int) := by
  have hx : a &&& b < 2 ^ 32 := Nat.and_lt_two_pow _ (by omega)
  show IntKind.u32.wrap ((BitVec.ofInt 32 (a : Int) &&& BitVec.ofInt 32 (b : Int)).toNat : Int) = _
  rw [BitVec.toNat_and, of32 a ha, of32 b hb, wrap32]
  omega
theorem or_nat (a b : Nat) (ha : a < 4294967296) (hb : b < 4294967296) : bits .or .u32 (a : Int) (b : Int) = ((a ||| b : Nat) : Int) := by
  have hx : a ||| b < 2 ^ 32 := Nat.or_lt_two_pow (by omega) (by omega)
  show IntKind.u32.wrap ((BitVec.ofInt 32 (a : Int) ||| BitVec.ofInt 32 (b : Int)).toNat : Int) = _
  rw [BitVec.toNat_or, of32 a ha, of32 b hb, wrap32]
  omega
theorem xor_nat (a b : Nat) (ha : a < 4294967296) (hb : b < 4294967296) : bits .xor .u32 (a : Int) (b : Int) = ((a ^^^ b : Nat) : Int) := by
  have hx : a ^^^ b < 2 ^ 32 := Nat.xor_lt_two_pow (by omega) (by omega)
  show IntKind.u32.wrap ((BitVec.ofInt 32 (a : Int) ^^^ BitVec.ofInt 32 (b : Int)).toNat : Int) = _
  rw [BitVec.toNat_xor, of32 a ha, of32 b hb, wrap32]
  omega
theorem pin_bit {d : Nat → Int} {k t : Nat} (h0 : 0 ≤ d k) : pinB d k t = (d k).toNat.testBit t := by
  obtain ⟨n, hn⟩ := Int.eq_ofNat_of_zero_le h0
  rw [Nat.testBit_eq_decide_div_mod_eq, pinB, hn, Int.toNat_natCast]
  apply decide_eq_decide.2
  constructor
  · intro h; exact_mod_cast h
  · intro h; exact_mod_cast h
/-- the bits of all rows ahead of k -/
def orT (d : Nat → Int) : Nat → Nat
  | 0 => 0
  | k + 1 => orT d k ||| (d k).toNat
theorem orT_lt (d : Nat → Int) (hd : DWF d) : ∀ k, k ≤ 96 → orT d k < 4294967296
  | 0, _ => by simp [orT]
  | k + 1, h => by
    have h1 := orT_lt d hd k (by omega)
    have h2 := hd k (by omega)
    have := Nat.or_lt_two_pow (n := 32) (x := orT d k) (y := (d k).toNat) (by omega) (by omega)
    simp only [orT]
    omega
/-- a track has a pin ahead of the step k -/
def useT (d : Nat → Int) (t k : Nat) : Bool := (List.range k).any fun j => pinB d j t
theorem useT_zero (d : Nat → Int) (t : Nat) : useT d t 0 = false := rfl
theorem useT_succ (d : Nat → Int) (t k : Nat) : useT d t (k + 1) = (useT d t k || pinB d k t) := by
  simp [useT, List.range_succ, List.any_append]
theorem useT_hit {d : Nat → Int} {t k : Nat} (hk : k < 96) (h : pinB d k t = true) : useT d t 96 = true := by
  simp only [useT, List.any_eq_true, List.mem_range]
  exact ⟨k, hk, h⟩
theorem orT_bit (d : Nat → Int) (hd : DWF d) (t : Nat) : ∀ k, k ≤ 96 → (orT d k).testBit t = useT d t k
  | 0, _ => by simp [orT, useT]
  | k + 1, h => by
    have h2 := hd k (by omega)
    rw [useT_succ, pin_bit h2.1, ← orT_bit d hd t k (by omega), orT, Nat.testBit_or]
theorem shr_and (x t : Nat) (hx : x < 4294967296) : (bits .and .u32 ((x : Int) / 2 ^ t) 1 == 0) = !x.testBit t := by
  have hb := shr_bounds (x : Int) t (by omega) (by omega)
  rw [and_one32 _ hb.1 hb.2, Nat.testBit_eq_decide_div_mod_eq]
  have e : ((x : Int) / 2 ^ t) = ((x / 2 ^ t : Nat) : Int) := by push_cast; rfl
  rw [e]
  generalize x / 2 ^ t = y
  rcases Nat.mod_two_eq_zero_or_one y with h | h
  · have : (y : Int) % 2 = 0 := by omega
    simp [this, h]
  · have : (y : Int) % 2 = 1 := by omega
    simp [this, h]
theorem and_two (n t : Nat) : n &&& 2 ^ t = if n.testBit t = true then 2 ^ t else 0 := by
  apply Nat.eq_of_testBit_eq
  intro i
  rw [Nat.testBit_and, Nat.testBit_two_pow]
  by_cases e : t = i
  · subst e
    cases h : n.testBit t <;> simp
  · have : decide (t = i) = false := decide_eq_false e
    rw [this, Bool.and_false]
    split
    · rw [Nat.testBit_two_pow, this]
    · simp
theorem and_pow_ne {d : Nat → Int} {k t : Nat} (h0 : 0 ≤ d k) (h1 : d k ≤ 4294967295) (ht : t < 32) : (bits .and .u32 (d k) ((2 : Int) ^ t) != 0) = pinB d k t := by
  rw [show ((2 : Int) ^ t) = ((2 ^ t : Nat) : Int) by push_cast; rfl]
  obtain ⟨n, hn⟩ := Int.eq_ofNat_of_zero_le h0
  have hp : (2 : Nat) ^ t < 2 ^ 32 := Nat.pow_lt_pow_right (by decide) ht
  rw [pin_bit h0, hn, and_nat n (2 ^ t) (by omega) (by omega), Int.toNat_natCast, and_two]
  have hq : 0 < 2 ^ t := Nat.two_pow_pos t
  cases h : n.testBit t
  · simp
  · rw [if_pos rfl]
    simp only [bne_iff_ne, ne_eq]
    omega
def spL (s : Int) (l : List (Int × Int)) (d : Nat → Int) : List Nat := if askB s l d then (List.range l.length).filter fun t => !useT d t 96 else []
def spT (d : Nat → Int) (k : Nat) : List Nat := (List.range k).filter fun t => !useT d t 96
theorem spT_yes {d : Nat → Int} {k : Nat} (h : useT d k 96 = false) : spT d (k + 1) = spT d k ++ [k] := by simp [spT, List.range_succ, List.filter_append, h]
theorem spT_no {d : Nat → Int} {k : Nat} (h : useT d k 96 = true) : spT d (k + 1) = spT d k := by simp [spT, List.range_succ, List.filter_append, h]
theorem spT_len (d : Nat → Int) (k : Nat) : (spT d k).length ≤ k := by simpa [spT] using List.length_filter_le (fun t => !useT d t 96) (List.range k)
theorem spL_len (s : Int) (l : List (Int × Int)) (d : Nat → Int) (hn : l.length ≤ 1048576) : (spL s l d).length ≤ 1048576 := by
  unfold spL
  split
  · exact Nat.le_trans (spT_len d _) hn
  · simp
end Go.Proofs.YtmmninlnpnhboaaGreatDoor
namespace Go.Proofs.YtmmninlnpnhboaaGreatDoor
open Go.RowKit
/-- a slice of numbers of the call's own, and a code -/
def OwnZ (w : World) (zs : List Int) (cc : Int) (e : Ending) (w' : World) : Prop := ∃ (A : Option Addr) (c : Nat), e = .returned (.tuple #[.slice A zs.length c, .int .i64 cc]) ∧ w'.ownsRow w.heap.size 2 1 (.slice A zs.length c) zs.length (icells zs) ∧ Below w.heap.size w w'
end Go.Proofs.YtmmninlnpnhboaaGreatDoor
namespace Go.Proofs.YtmmninlnpnhboaaGreatDoor
open Go.RowKit

/-- the free places of a track, ahead of k -/
def frl (S : Nat) (d : Nat → Int) (r t : Nat) (k : Nat) : List Nat := (List.range k).filter fun i => freeB S d r i t
theorem frl_len (S : Nat) (d : Nat → Int) (r t k : Nat) : (frl S d r t k).length ≤ k := by simpa [frl] using List.length_filter_le (fun i => freeB S d r i t) (List.range k)
theorem frl_yes {S : Nat} {d : Nat → Int} {r t k : Nat} (h : freeB S d r k t = true) : frl S d r t (k + 1) = frl S d r t k ++ [k] := by simp [frl, List.range_succ, List.filter_append, h]
theorem frl_no {S : Nat} {d : Nat → Int} {r t k : Nat} (h : freeB S d r k t = false) : frl S d r t (k + 1) = frl S d r t k := by simp [frl, List.range_succ, List.filter_append, h]
/-- a slice of the call's own and a code come back -/
def OwnP (w : World) (xs : List Nat) (cc : Int) (e : Ending) (w' : World) : Prop := ∃ (A : Option Addr) (c : Nat), e = .returned (.tuple #[.slice A xs.length c, .int .i64 cc]) ∧ w'.ownsRow w.heap.size 2 1 (.slice A xs.length c) xs.length (tcells xs) ∧ Below w.heap.size w w'
def fpC (s : Int) (l : List (Int × Int)) (d : Nat → Int) (x : Int) : Int := cod3 (askB s l d) (inB x 0 ((l.length : Int) - 1))
def fpL (s : Int) (l : List (Int × Int)) (d : Nat → Int) (x : Int) : List Nat := if fpC s l d x = 0 then frl s.toNat d (hRe l x.toNat).toNat x.toNat s.toNat else []
theorem own_empty {w : World} {base : Nat} (h : base ≤ w.heap.size) : (w.alloc (.cells #[] 2)).ownsRow base 2 1 (.slice (some ⟨w.heap.size, 0, none⟩) 0 0) 0 [] :=
  ⟨rfl, Or.inr ⟨w.heap.size, 0, #[], rfl, h, heap_alloc_new _ _, Nat.le_refl _, Nat.zero_le _, rfl, rfl⟩⟩
theorem pl_step {s x : Int} {l : List (Int × Int)} {d : Nat → Int} (h : askB s l d = true) : plB s l.length 0 x = inB x 0 ((l.length : Int) - 1) := by
  have hl := (ask_all h).1
  have h2 : inB 0 0 (s - 1) = true := by simp [inB]; omega
  rw [plB, h2, Bool.true_and]

end Go.Proofs.YtmmninlnpnhboaaGreatDoor
