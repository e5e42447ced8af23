import Derived.Lib.TrailingZeros
import Derived.RangeFuncNested
import Derived.RangeFuncBound
import Derived.RangeFuncCalls
import Derived.RangeFuncLeaves
import Derived.Shelf.Abstract
import Derived.OwnWalkIn
import Derived.TacticsInMore
import Derived.LoopNIn
import Derived.LoopIn
import Derived.Test.YtcepjiglhlmgdaaGreatDoorGbn
namespace Go.Proofs.YtcepjiglhlmgdaaGreatDoor
open Go.RowKit Go.Shelf
attribute [local go_sem] Oper.semAt_some

theorem tz_key (x a : Nat) (hx : x < 4294967296) (hx0 : x ≠ 0) (hlow : x &&& (4294967296 - x) = a) :
    bits BinOp.and IntKind.u32 (x : Int) (-(x : Int) % 4294967296) * 125613361 % 4294967296 / 134217728 = ((a * 125613361 % 4294967296 / 134217728 : Nat) : Int) := by
  have e1 : -(x : Int) % 4294967296 = ((4294967296 - x : Nat) : Int) := by omega
  rw [e1, and_nat x _ hx (by omega), hlow]
  omega
/-- the set bits, in their order -/
def bitsL (x : Nat) : List Nat := (List.range 32).filter fun t => x.testBit t
theorem bitsL_zero : bitsL 0 = [] := by simp [bitsL]
theorem bitsL_mem {x t : Nat} (h : t ∈ bitsL x) : t < 32 ∧ x.testBit t = true := by simpa [bitsL] using h
theorem low_split {x : Nat} (hx : x < 4294967296) (hx0 : x ≠ 0) : ∃ k m, Lib.ctz 32 x = k ∧ k < 32 ∧ x = 2 ^ k * (2 * m + 1) ∧ x &&& (x - 1) = 2 ^ k * (2 * m) := by
  obtain ⟨m, hm, hk⟩ := Lib.ctzFrom_spec 32 x (by omega) hx
  have e : Lib.ctz 32 x = Lib.ctzFrom 32 x := by simp [Lib.ctz, hx0]
  refine ⟨Lib.ctzFrom 32 x, m, e, hk, hm, ?_⟩
  generalize Lib.ctzFrom 32 x = k at hm hk
  subst hm
  have hp : 0 < 2 ^ k := Nat.two_pow_pos k
  have e1 : 2 ^ k * (2 * m + 1) = 2 ^ (k + 1) * m + 2 ^ k := by rw [Nat.pow_succ, Nat.mul_add, Nat.mul_one, Nat.mul_assoc]
  have e2 : 2 ^ k * (2 * m + 1) - 1 = 2 ^ (k + 1) * m + (2 ^ k - 1) := by omega
  have e3 : 2 ^ k * (2 * m) = 2 ^ (k + 1) * m := by rw [Nat.pow_succ, Nat.mul_assoc]
  rw [e2, e1, e3]
  have l1 : 2 ^ k < 2 ^ (k + 1) := Nat.pow_lt_pow_right (by omega) (by omega)
  apply Nat.eq_of_testBit_eq
  intro i
  rw [Nat.testBit_and, Nat.testBit_two_pow_mul_add _ l1, Nat.testBit_two_pow_mul_add _ (by omega : 2 ^ k - 1 < 2 ^ (k + 1)), Nat.testBit_two_pow_mul]
  by_cases hi : i < k + 1
  · rw [if_pos hi, if_pos hi, Nat.testBit_two_pow, Nat.testBit_two_pow_sub_one]
    have : ¬ (k + 1 ≤ i) := by omega
    simp [this]
    omega
  · rw [if_neg hi, if_neg hi]
    have : k + 1 ≤ i := by omega
    simp [this]
theorem bit_split (k m i : Nat) : (2 ^ k * (2 * m + 1)).testBit i = if i < k + 1 then decide (k = i) else m.testBit (i - (k + 1)) := by
  have e1 : 2 ^ k * (2 * m + 1) = 2 ^ (k + 1) * m + 2 ^ k := by rw [Nat.pow_succ, Nat.mul_add, Nat.mul_one, Nat.mul_assoc]
  rw [e1, Nat.testBit_two_pow_mul_add _ (Nat.pow_lt_pow_right (by omega) (by omega))]
  split
  · rw [Nat.testBit_two_pow]
  · rfl
theorem bit_rest (k m i : Nat) : (2 ^ k * (2 * m)).testBit i = if i < k + 1 then false else m.testBit (i - (k + 1)) := by
  have e3 : 2 ^ k * (2 * m) = 2 ^ (k + 1) * m := by rw [Nat.pow_succ, Nat.mul_assoc]
  rw [e3, Nat.testBit_two_pow_mul]
  by_cases hi : i < k + 1
  · rw [if_pos hi]
    have : ¬ (k + 1 ≤ i) := by omega
    simp [this]
  · rw [if_neg hi]
    have : k + 1 ≤ i := by omega
    simp [this]
theorem bitsL_low {x : Nat} (hx : x < 4294967296) (hx0 : x ≠ 0) : bitsL x = Lib.ctz 32 x :: bitsL (x &&& (x - 1)) := by
  obtain ⟨k, m, hk, hk32, h1, h2⟩ := low_split hx hx0
  rw [hk, h2, h1]
  unfold bitsL
  have e : List.range 32 = List.range k ++ k :: (List.range' (k + 1) (32 - (k + 1))) := by
    have h1 := @List.range'_append_1 0 k (1 + (32 - (k + 1)))
    rw [Nat.zero_add, show k + (1 + (32 - (k + 1))) = 32 by omega, Nat.add_comm 1, List.range'_succ] at h1
    rw [List.range_eq_range', List.range_eq_range', ← h1]
  rw [e]
  simp only [List.filter_append, List.filter_cons]
  have f1 : (List.range k).filter (fun t => (2 ^ k * (2 * m + 1)).testBit t) = [] := by
    rw [List.filter_eq_nil_iff]
    intro a ha
    have := List.mem_range.1 ha
    rw [bit_split, if_pos (by omega)]
    simp
    omega
  have f2 : (List.range k).filter (fun t => (2 ^ k * (2 * m)).testBit t) = [] := by
    rw [List.filter_eq_nil_iff]
    intro a ha
    have := List.mem_range.1 ha
    rw [bit_rest, if_pos (by omega)]
    simp
  have g1 : (2 ^ k * (2 * m + 1)).testBit k = true := by rw [bit_split, if_pos (by omega)]; simp
  have g2 : (2 ^ k * (2 * m)).testBit k = false := by rw [bit_rest, if_pos (by omega)]
  rw [f1, f2, g1, g2]
  simp only [if_true, Bool.false_eq_true, if_false, List.nil_append]
  congr 1
  apply List.filter_congr
  intro a ha
  rw [List.mem_range'_1] at ha
  rw [bit_split, bit_rest, if_neg (by omega), if_neg (by omega)]
theorem low_facts {x : Nat} (hx : x < 4294967296) (hx0 : x ≠ 0) : Lib.ctz 32 x < 32 ∧ x.testBit (Lib.ctz 32 x) = true ∧ x &&& (x - 1) < x ∧ ∀ t, (x &&& (x - 1)).testBit t = true → x.testBit t = true := by
  obtain ⟨k, m, hk, hk32, h1, h2⟩ := low_split hx hx0
  refine ⟨by rw [hk]; exact hk32, ?_, ?_, fun t h => ?_⟩
  · rw [hk, h1, bit_split, if_pos (by omega)]; simp
  · rw [h2]
    conv => rhs; rw [h1]
    exact Nat.mul_lt_mul_of_pos_left (by omega) (Nat.two_pow_pos k)
  · rw [Nat.testBit_and, Bool.and_eq_true] at h
    exact h.1
/-- the pins of the first k steps, ordered by the step, then by the track -/
def pinsT (d : Nat → Int) (k : Nat) : List (Nat × Nat) := (List.range k).flatMap fun i => (bitsL (d i).toNat).map fun t => (i, t)
def pinsL (d : Nat → Int) : List (Nat × Nat) := pinsT d 96
theorem pinsT_zero (d : Nat → Int) : pinsT d 0 = [] := rfl
theorem pinsT_succ (d : Nat → Int) (k : Nat) : pinsT d (k + 1) = pinsT d k ++ (bitsL (d k).toNat).map fun t => (k, t) := by
  simp [pinsT, List.range_succ, List.flatMap_append]
theorem bitsL_len (x : Nat) : (bitsL x).length ≤ 32 := by simpa [bitsL] using List.length_filter_le (fun t => x.testBit t) (List.range 32)
theorem pinsT_len (d : Nat → Int) : ∀ k, (pinsT d k).length ≤ k * 32
  | 0 => by simp [pinsT_zero]
  | k + 1 => by
    have h1 := pinsT_len d k
    have h2 := bitsL_len (d k).toNat
    rw [pinsT_succ, List.length_append, List.length_map]
    omega
theorem pinsT_prefix (d : Nat → Int) {k : Nat} (h : k ≤ 96) : pinsT d k <+: pinsL d := by
  obtain ⟨n, hn⟩ : ∃ n, 96 = k + n := ⟨96 - k, by omega⟩
  unfold pinsL pinsT
  rw [hn, List.range_add, List.flatMap_append]
  exact List.prefix_append _ _
end Go.Proofs.YtcepjiglhlmgdaaGreatDoor
namespace Go.Proofs.YtcepjiglhlmgdaaGreatDoor
open Go.RowKit Go.Shelf

theorem about_none {P : Program} {w : World} {ρ : Operand → Value} {o : Oper} (hnc : ∀ c, o.op ≠ .call c) : o.about P w ρ = none := by
  unfold Oper.about
  cases h : o.op <;> first | rfl | exact absurd h (hnc _)
theorem wpListIn_val {F : Fence} {n : Nat} {P : Program} {ops : Array Oper} {rest : List Oper} {op : Oper} {a : Act} {w w' : World} {Q : Exit → Act → World → Prop} (hgd : op.guard = none) (hnd : ∀ c, op.op ≠ .defer c) (hnc : ∀ c, op.op ≠ .call c) (v : Value)
    (hr : (execOp a.eval op).run P w = .ok (.value v) w') (h : wpListIn F n P ops Q rest (a.put op.dst v) w') : wpListIn F n P ops Q (op :: rest) a w :=
  wpListIn_plain hgd fun K hK => by
    refine ⟨fun f hf => ?_, ?_⟩
    · rw [about_none hnc] at hf; cases hf
    · rw [Oper.semAt_eq _ _ _ hnd, hr]
      exact hK _ _ h
theorem wpListIn_skp {F : Fence} {n : Nat} {P : Program} {ops : Array Oper} {rest : List Oper} {op : Oper} {a : Act} {w w' : World} {Q : Exit → Act → World → Prop} (hgd : op.guard = none) (hnd : ∀ c, op.op ≠ .defer c) (hnc : ∀ c, op.op ≠ .call c)
    (hr : (execOp a.eval op).run P w = .ok .skip w') (h : wpListIn F n P ops Q rest (a.put op.dst undef) w') : wpListIn F n P ops Q (op :: rest) a w :=
  wpListIn_plain hgd fun K hK => by
    refine ⟨fun f hf => ?_, ?_⟩
    · rw [about_none hnc] at hf; cases hf
    · rw [Oper.semAt_eq _ _ _ hnd, hr]
      exact hK _ _ h
theorem wpListIn_load_da {F : Fence} {n : Nat} {P : Program} {ops : Array Oper} {rest : List Oper} {op : Oper} {a : Act} {w : World} {Q : Exit → Act → World → Prop} (hgd : op.guard = none) (ty : TypeId) (x : Operand) (ho : op.op = .load ty x)
    (b o : Nat) (hx : a.eval x = .pointer (some ⟨b, o, none⟩)) (q : Nat → Int) (d : TypeDesc) (hc : w.rangeAt b o (dv q))
    (hu : P.underlying ty = some d) (hd : d.isRow = true) (hi : (P.info? ty).map (·.size) = some (dv q).length)
    (h : wpListIn F n P ops Q rest (a.put op.dst (.agg (da q))) w) : wpListIn F n P ops Q (op :: rest) a w :=
  wpListIn_val hgd (by intro c h; rw [ho] at h; cases h) (by intro c h; rw [ho] at h; cases h) (.agg (da q)) (by
    unfold execOp
    simp only [ho, hx, Instr.loadAt, Instr.sureAddr, Sem.run_bind, Sem.run_pure, Result.andThen_ok, run_loadVar_mid w b o ty (dv q) d hc hu hd hi]
    rfl) h
theorem wpListIn_store_dr {F : Fence} {n : Nat} {P : Program} {ops : Array Oper} {rest : List Oper} {op : Oper} {a : Act} {w : World} {Q : Exit → Act → World → Prop} (hgd : op.guard = none) (ty : TypeId) (x y : Operand) (ho : op.op = .store ty x y) (hdst : op.dst = none)
    (g : Nat) (r q : Nat → Int) (hx : a.eval x = .pointer (some ⟨g, 0, none⟩)) (hy : a.eval y = .agg (da q)) (t : TypeId) (hg : Dr w g t r) (hi : (P.info? ty).map (·.size) = some 96)
    (h : wpListIn F n P ops Q rest a (w.setRow g (da q))) : wpListIn F n P ops Q (op :: rest) a w :=
  wpListIn_skp hgd (by intro c h; rw [ho] at h; cases h) (by intro c h; rw [ho] at h; cases h) (by
    unfold execOp
    simp only [ho, hx, hy, Instr.storeAt, Instr.sureAddr, Sem.run_bind, Sem.run_pure, Result.andThen_ok, run_storeVar_row w g t ty (da r) (da q) hg (by rw [da_size]; exact hi) (by rw [da_size, da_size]) (da_one q)]
    rfl) (by rw [hdst]; exact h)
theorem Dr.row {w : World} {g : Nat} {t : TypeId} {r : Nat → Int} (h : Dr w g t r) (q : Nat → Int) : Dr (w.setRow g (da q)) g t q := setRow_heap _ _ _ _ _ _ h
theorem keeps_row {w : World} {g : Nat} {t : TypeId} {r : Nat → Int} (h : Dr w g t r) (q : Nat → Int) : KeepsOthers w (w.setRow g (da q)) :=
  ⟨(below_setRow (B := 0) (Below.refl _ w) (Nat.zero_le _)).size, fun k o hk ho => by
    by_cases e : k = g
    · subst e
      unfold Dr at h
      rw [h] at hk
      cases hk
      cases ho
    · rw [setRow_other _ _ _ _ e]; exact hk⟩
theorem bodyM_ret {F : Fence} {n : Nat} {P : Program} {fn : Func} {R : Ending → World → Prop} {a : Act} {w : World} {v : Value} (hr : (results fn a.tmps).run P w = .ok v w) (hd : a.defers = []) (hR : R (.returned v) w) : bodyPostM F n P fn R .ret a w := by
  show LeavesInM F n P fn a.tmps R a.defers .returning w
  rw [hd]
  exact ⟨v, hr, hR⟩
end Go.Proofs.YtcepjiglhlmgdaaGreatDoor
namespace Go.Proofs.YtcepjiglhlmgdaaGreatDoor
open Go.RowKit Go.Shelf
attribute [local go_sem] Oper.semAt_some

/-- a pin of a drum -/
abbrev PinOf (d : Nat → Int) := { p : Nat × Nat // p.1 < 96 ∧ p.2 < 32 ∧ pinB d p.1 p.2 = true }
theorem bit_pin {d : Nat → Int} {k t : Nat} (hd : DWF d) (hk : k < 96) (h : (d k).toNat.testBit t = true) : pinB d k t = true := by
  rw [pin_bit (hd k hk).1]; exact h
theorem map_snoc {d : Nat → Int} (pre : List (PinOf d)) (x : PinOf d) : (pre ++ [x]).map (·.1) = pre.map (·.1) ++ [x.1] := by simp

end Go.Proofs.YtcepjiglhlmgdaaGreatDoor
