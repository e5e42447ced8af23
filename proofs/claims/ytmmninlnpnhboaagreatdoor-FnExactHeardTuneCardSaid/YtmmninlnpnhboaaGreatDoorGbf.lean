import Derived.Test.YtmmninlnpnhboaaGreatDoorGbe
import Derived.Test.YtmmninlnpnhboaaGreatDoorGam
import Derived.Lib.TrailingZeros
import Derived.RangeFuncNested
import Derived.RangeFuncBound
import Derived.RangeFuncCalls
import Derived.RangeFuncLeaves
import Derived.Shelf.Abstract
import Derived.OwnWalkIn
import Derived.TacticsInMore
import Derived.LoopNIn
import Derived.LoopIn
namespace Go.Proofs.YtmmninlnpnhboaaGreatDoor
open Go.RowKit
theorem OwnP.z {w w' : World} {xs : List Nat} {cc : Int} {e : Ending} (h : OwnP w xs cc e w') : OwnZ w (xs.map fun (x : Nat) => (x : Int)) cc e w' := by
  obtain ⟨A, c, h1, h2, h3⟩ := h
  exact ⟨A, c, by rw [List.length_map]; exact h1, by rw [List.length_map, ← tcells_icells]; exact h2, h3⟩
theorem fpL_len (s : Int) (l : List (Int × Int)) (d : Nat → Int) (x : Int) (hs : -32768 ≤ s ∧ s ≤ 32767) : (fpL s l d x).length ≤ 1048576 := by
  unfold fpL
  split
  · have := frl_len s.toNat d (hRe l x.toNat).toNat x.toNat s.toNat; omega
  · simp
end Go.Proofs.YtmmninlnpnhboaaGreatDoor
namespace Go.Proofs.YtmmninlnpnhboaaGreatDoor
open Go.RowKit Go.Shelf
attribute [local go_sem] Oper.semAt_some

/-- the table of math/bits.TrailingZeros32 lies as its initialiser lays it -/
def TabW (w : World) : Prop := ∀ j, j < 32 → w.cell? ⟨8, j, none⟩ = some (.int .u8 ((Lib.deBruijn32tab.getD j 0 : Nat) : Int))
theorem TabW.keep {w w' : World} (h : TabW w) (hb : Below w.heap.size w w') : TabW w' := fun j hj =>
  (hb.cell (p := ⟨8, j, none⟩) (World.block_lt_of_cell? w _ (h j hj))).trans (h j hj)
theorem TabW.up {w w0 w' : World} (h : TabW w0) (hb : Below w.heap.size w w') (hs : w0.heap.size ≤ w.heap.size) (h0 : TabW w) : TabW w' := h0.keep hb
theorem TabW.lt {w : World} (h : TabW w) : 8 < w.heap.size := World.block_lt_of_cell? w _ (h 0 (by omega))

theorem tz_key (x a : Nat) (hx : x < 4294967296) (hx0 : x ≠ 0) (hlow : x &&& (4294967296 - x) = a) :
    bits BinOp.and IntKind.u32 (x : Int) (-(x : Int) % 4294967296) * 125613361 % 4294967296 / 134217728 = ((a * 125613361 % 4294967296 / 134217728 : Nat) : Int) := by
  have e1 : -(x : Int) % 4294967296 = ((4294967296 - x : Nat) : Int) := by omega
  rw [e1, and_nat x _ hx (by omega), hlow]
  omega
set_option maxHeartbeats 1000000 in
theorem tz_any (x : Nat) (w : World) (hx : x < 4294967296) (hx0 : x ≠ 0) (hT : TabW w) :
    Calls Tryz.prog 114 #[.int .u32 x] w fun e w' => e = .returned (.int .i64 ((Lib.ctz 32 x : Nat) : Int)) ∧ w = w' := by
  obtain ⟨hlow, hk⟩ := Lib.lowest_bit 32 x hx0 hx
  obtain ⟨hi, htab⟩ := Lib.deBruijn32_at _ hk
  have hcell := hT _ hi
  rw [htab] at hcell
  have key := tz_key x _ hx hx0 hlow
  obtain ⟨idx, hidx⟩ : ∃ idx, 2 ^ Lib.ctz 32 x * 125613361 % 4294967296 / 134217728 = idx := ⟨_, rfl⟩
  obtain ⟨k, hkk⟩ : ∃ k, Lib.ctz 32 x = k := ⟨_, rfl⟩
  rw [hidx] at hcell key hi
  rw [hkk] at hcell hk ⊢
  have hne : ((x : Int) == 0) = false := by simp; omega
  clear hlow htab hidx hkk hT hx0
  go_enter Tryz.func114, Tryz.ntmps114
  go_wp2_with (simp only [key])
  go_ret
  exact ⟨rfl, rfl⟩

/-- the set bits, in their order -/
def bitsL (x : Nat) : List Nat := (List.range 32).filter fun t => x.testBit t
theorem bitsL_zero : bitsL 0 = [] := by simp [bitsL]
theorem bitsL_mem {x t : Nat} (h : t ∈ bitsL x) : t < 32 ∧ x.testBit t = true := by simpa [bitsL] using h
theorem low_split {x : Nat} (hx : x < 4294967296) (hx0 : x ≠ 0) : ∃ k m, Lib.ctz 32 x = k ∧ k < 32 ∧ x = 2 ^ k * (2 * m + 1) ∧ x &&& (x - 1) = 2 ^ k * (2 * m) := by
  obtain ⟨m, hm, hk⟩ := Lib.ctzFrom_spec 32 x (by omega) hx
  have e : Lib.ctz 32 x = Lib.ctzFrom 32 x := by simp [Lib.ctz, hx0]
  refine ⟨Lib.ctzFrom 32 x, m, e, hk, hm, ?_⟩
  generalize Lib.ctzFrom 32 x = k at hm hk
  subst hm
  have hp : 0 < 2 ^ k := Nat.two_pow_pos k
  have e1 : 2 ^ k * (2 * m + 1) = 2 ^ (k + 1) * m + 2 ^ k := by rw [Nat.pow_succ, Nat.mul_add, Nat.mul_one, Nat.mul_assoc]
  have e2 : 2 ^ k * (2 * m + 1) - 1 = 2 ^ (k + 1) * m + (2 ^ k - 1) := by omega
  have e3 : 2 ^ k * (2 * m) = 2 ^ (k + 1) * m := by rw [Nat.pow_succ, Nat.mul_assoc]
  rw [e2, e1, e3]
  have l1 : 2 ^ k < 2 ^ (k + 1) := Nat.pow_lt_pow_right (by omega) (by omega)
  apply Nat.eq_of_testBit_eq
  intro i
  rw [Nat.testBit_and, Nat.testBit_two_pow_mul_add _ l1, Nat.testBit_two_pow_mul_add _ (by omega : 2 ^ k - 1 < 2 ^ (k + 1)), Nat.testBit_two_pow_mul]
  by_cases hi : i < k + 1
  · rw [if_pos hi, if_pos hi, Nat.testBit_two_pow, Nat.testBit_two_pow_sub_one]
    have : ¬ (k + 1 ≤ i) := by omega
    simp [this]
    omega
  · rw [if_neg hi, if_neg hi]
    have : k + 1 ≤ i := by omega
    simp [this]
theorem bit_split (k m i : Nat) : (2 ^ k * (2 * m + 1)).testBit i = if i < k + 1 then decide (k = i) else m.testBit (i - (k + 1)) := by
  have e1 : 2 ^ k * (2 * m + 1) = 2 ^ (k + 1) * m + 2 ^ k := by rw [Nat.pow_succ, Nat.mul_add, Nat.mul_one, Nat.mul_assoc]
  rw [e1, Nat.testBit_two_pow_mul_add _ (Nat.pow_lt_pow_right (by omega) (by omega))]
  split
  · rw [Nat.testBit_two_pow]
  · rfl
theorem bit_rest (k m i : Nat) : (2 ^ k * (2 * m)).testBit i = if i < k + 1 then false else m.testBit (i - (k + 1)) := by
  have e3 : 2 ^ k * (2 * m) = 2 ^ (k + 1) * m := by rw [Nat.pow_succ, Nat.mul_assoc]
  rw [e3, Nat.testBit_two_pow_mul]
  by_cases hi : i < k + 1
  · rw [if_pos hi]
    have : ¬ (k + 1 ≤ i) := by omega
    simp [this]
  · rw [if_neg hi]
    have : k + 1 ≤ i := by omega
    simp [this]
theorem bitsL_low {x : Nat} (hx : x < 4294967296) (hx0 : x ≠ 0) : bitsL x = Lib.ctz 32 x :: bitsL (x &&& (x - 1)) := by
  obtain ⟨k, m, hk, hk32, h1, h2⟩ := low_split hx hx0
  rw [hk, h2, h1]
  unfold bitsL
  have e : List.range 32 = List.range k ++ k :: (List.range' (k + 1) (32 - (k + 1))) := by
    have h1 := @List.range'_append_1 0 k (1 + (32 - (k + 1)))
    rw [Nat.zero_add, show k + (1 + (32 - (k + 1))) = 32 by omega, Nat.add_comm 1, List.range'_succ] at h1
    rw [List.range_eq_range', List.range_eq_range', ← h1]
  rw [e]
  simp only [List.filter_append, List.filter_cons]
  have f1 : (List.range k).filter (fun t => (2 ^ k * (2 * m + 1)).testBit t) = [] := by
    rw [List.filter_eq_nil_iff]
    intro a ha
    have := List.mem_range.1 ha
    rw [bit_split, if_pos (by omega)]
    simp
    omega
  have f2 : (List.range k).filter (fun t => (2 ^ k * (2 * m)).testBit t) = [] := by
    rw [List.filter_eq_nil_iff]
    intro a ha
    have := List.mem_range.1 ha
    rw [bit_rest, if_pos (by omega)]
    simp
  have g1 : (2 ^ k * (2 * m + 1)).testBit k = true := by rw [bit_split, if_pos (by omega)]; simp
  have g2 : (2 ^ k * (2 * m)).testBit k = false := by rw [bit_rest, if_pos (by omega)]
  rw [f1, f2, g1, g2]
  simp only [if_true, Bool.false_eq_true, if_false, List.nil_append]
  congr 1
  apply List.filter_congr
  intro a ha
  rw [List.mem_range'_1] at ha
  rw [bit_split, bit_rest, if_neg (by omega), if_neg (by omega)]
theorem low_facts {x : Nat} (hx : x < 4294967296) (hx0 : x ≠ 0) : Lib.ctz 32 x < 32 ∧ x.testBit (Lib.ctz 32 x) = true ∧ x &&& (x - 1) < x ∧ ∀ t, (x &&& (x - 1)).testBit t = true → x.testBit t = true := by
  obtain ⟨k, m, hk, hk32, h1, h2⟩ := low_split hx hx0
  refine ⟨by rw [hk]; exact hk32, ?_, ?_, fun t h => ?_⟩
  · rw [hk, h1, bit_split, if_pos (by omega)]; simp
  · rw [h2]
    conv => rhs; rw [h1]
    exact Nat.mul_lt_mul_of_pos_left (by omega) (Nat.two_pow_pos k)
  · rw [Nat.testBit_and, Bool.and_eq_true] at h
    exact h.1
/-- the pins of the first k steps, ordered by the step, then by the track -/
def pinsT (d : Nat → Int) (k : Nat) : List (Nat × Nat) := (List.range k).flatMap fun i => (bitsL (d i).toNat).map fun t => (i, t)
def pinsL (d : Nat → Int) : List (Nat × Nat) := pinsT d 96
theorem pinsT_zero (d : Nat → Int) : pinsT d 0 = [] := rfl
theorem pinsT_succ (d : Nat → Int) (k : Nat) : pinsT d (k + 1) = pinsT d k ++ (bitsL (d k).toNat).map fun t => (k, t) := by
  simp [pinsT, List.range_succ, List.flatMap_append]
theorem bitsL_len (x : Nat) : (bitsL x).length ≤ 32 := by simpa [bitsL] using List.length_filter_le (fun t => x.testBit t) (List.range 32)
theorem pinsT_len (d : Nat → Int) : ∀ k, (pinsT d k).length ≤ k * 32
  | 0 => by simp [pinsT_zero]
  | k + 1 => by
    have h1 := pinsT_len d k
    have h2 := bitsL_len (d k).toNat
    rw [pinsT_succ, List.length_append, List.length_map]
    omega
theorem pinsT_prefix (d : Nat → Int) {k : Nat} (h : k ≤ 96) : pinsT d k <+: pinsL d := by
  obtain ⟨n, hn⟩ : ∃ n, 96 = k + n := ⟨96 - k, by omega⟩
  unfold pinsL pinsT
  rw [hn, List.range_add, List.flatMap_append]
  exact List.prefix_append _ _
end Go.Proofs.YtmmninlnpnhboaaGreatDoor
namespace Go.Proofs.YtmmninlnpnhboaaGreatDoor
open Go.RowKit Go.Shelf

theorem about_none {P : Program} {w : World} {ρ : Operand → Value} {o : Oper} (hnc : ∀ c, o.op ≠ .call c) : o.about P w ρ = none := by
  unfold Oper.about
  cases h : o.op <;> first | rfl | exact absurd h (hnc _)
theorem wpListIn_val {F : Fence} {n : Nat} {P : Program} {ops : Array Oper} {rest : List Oper} {op : Oper} {a : Act} {w w' : World} {Q : Exit → Act → World → Prop} (hgd : op.guard = none) (hnd : ∀ c, op.op ≠ .defer c) (hnc : ∀ c, op.op ≠ .call c) (v : Value)
    (hr : (execOp a.eval op).run P w = .ok (.value v) w') (h : wpListIn F n P ops Q rest (a.put op.dst v) w') : wpListIn F n P ops Q (op :: rest) a w :=
  wpListIn_plain hgd fun K hK => by
    refine ⟨fun f hf => ?_, ?_⟩
    · rw [about_none hnc] at hf; cases hf
    · rw [Oper.semAt_eq _ _ _ hnd, hr]
      exact hK _ _ h
theorem wpListIn_skp {F : Fence} {n : Nat} {P : Program} {ops : Array Oper} {rest : List Oper} {op : Oper} {a : Act} {w w' : World} {Q : Exit → Act → World → Prop} (hgd : op.guard = none) (hnd : ∀ c, op.op ≠ .defer c) (hnc : ∀ c, op.op ≠ .call c)
    (hr : (execOp a.eval op).run P w = .ok .skip w') (h : wpListIn F n P ops Q rest (a.put op.dst undef) w') : wpListIn F n P ops Q (op :: rest) a w :=
  wpListIn_plain hgd fun K hK => by
    refine ⟨fun f hf => ?_, ?_⟩
    · rw [about_none hnc] at hf; cases hf
    · rw [Oper.semAt_eq _ _ _ hnd, hr]
      exact hK _ _ h
theorem wpListIn_load_da {F : Fence} {n : Nat} {P : Program} {ops : Array Oper} {rest : List Oper} {op : Oper} {a : Act} {w : World} {Q : Exit → Act → World → Prop} (hgd : op.guard = none) (ty : TypeId) (x : Operand) (ho : op.op = .load ty x)
    (b o : Nat) (hx : a.eval x = .pointer (some ⟨b, o, none⟩)) (q : Nat → Int) (d : TypeDesc) (hc : w.rangeAt b o (dv q))
    (hu : P.underlying ty = some d) (hd : d.isRow = true) (hi : (P.info? ty).map (·.size) = some (dv q).length)
    (h : wpListIn F n P ops Q rest (a.put op.dst (.agg (da q))) w) : wpListIn F n P ops Q (op :: rest) a w :=
  wpListIn_val hgd (by intro c h; rw [ho] at h; cases h) (by intro c h; rw [ho] at h; cases h) (.agg (da q)) (by
    unfold execOp
    simp only [ho, hx, Instr.loadAt, Instr.sureAddr, Sem.run_bind, Sem.run_pure, Result.andThen_ok, run_loadVar_mid w b o ty (dv q) d hc hu hd hi]
    rfl) h
theorem wpListIn_store_dr {F : Fence} {n : Nat} {P : Program} {ops : Array Oper} {rest : List Oper} {op : Oper} {a : Act} {w : World} {Q : Exit → Act → World → Prop} (hgd : op.guard = none) (ty : TypeId) (x y : Operand) (ho : op.op = .store ty x y) (hdst : op.dst = none)
    (g : Nat) (r q : Nat → Int) (hx : a.eval x = .pointer (some ⟨g, 0, none⟩)) (hy : a.eval y = .agg (da q)) (t : TypeId) (hg : Dr w g t r) (hi : (P.info? ty).map (·.size) = some 96)
    (h : wpListIn F n P ops Q rest a (w.setRow g (da q))) : wpListIn F n P ops Q (op :: rest) a w :=
  wpListIn_skp hgd (by intro c h; rw [ho] at h; cases h) (by intro c h; rw [ho] at h; cases h) (by
    unfold execOp
    simp only [ho, hx, hy, Instr.storeAt, Instr.sureAddr, Sem.run_bind, Sem.run_pure, Result.andThen_ok, run_storeVar_row w g t ty (da r) (da q) hg (by rw [da_size]; exact hi) (by rw [da_size, da_size]) (da_one q)]
    rfl) (by rw [hdst]; exact h)
theorem Dr.row {w : World} {g : Nat} {t : TypeId} {r : Nat → Int} (h : Dr w g t r) (q : Nat → Int) : Dr (w.setRow g (da q)) g t q := setRow_heap _ _ _ _ _ _ h
theorem keeps_row {w : World} {g : Nat} {t : TypeId} {r : Nat → Int} (h : Dr w g t r) (q : Nat → Int) : KeepsOthers w (w.setRow g (da q)) :=
  ⟨(below_setRow (B := 0) (Below.refl _ w) (Nat.zero_le _)).size, fun k o hk ho => by
    by_cases e : k = g
    · subst e
      unfold Dr at h
      rw [h] at hk
      cases hk
      cases ho
    · rw [setRow_other _ _ _ _ e]; exact hk⟩
theorem bodyM_ret {F : Fence} {n : Nat} {P : Program} {fn : Func} {R : Ending → World → Prop} {a : Act} {w : World} {v : Value} (hr : (results fn a.tmps).run P w = .ok v w) (hd : a.defers = []) (hR : R (.returned v) w) : bodyPostM F n P fn R .ret a w := by
  show LeavesInM F n P fn a.tmps R a.defers .returning w
  rw [hd]
  exact ⟨v, hr, hR⟩
end Go.Proofs.YtmmninlnpnhboaaGreatDoor
namespace Go.Proofs.YtmmninlnpnhboaaGreatDoor
open Go.RowKit Go.Shelf
attribute [local go_sem] Oper.semAt_some

/-- a pin of a drum -/
abbrev PinOf (d : Nat → Int) := { p : Nat × Nat // p.1 < 96 ∧ p.2 < 32 ∧ pinB d p.1 p.2 = true }
theorem bit_pin {d : Nat → Int} {k t : Nat} (hd : DWF d) (hk : k < 96) (h : (d k).toNat.testBit t = true) : pinB d k t = true := by
  rw [pin_bit (hd k hk).1]; exact h
theorem map_snoc {d : Nat → Int} (pre : List (PinOf d)) (x : PinOf d) : (pre ++ [x]).map (·.1) = pre.map (·.1) ++ [x.1] := by simp

theorem pins_call (d : Nat → Int) (w : World) : Calls Tryz.prog 96 #[.agg (da d)] w fun e w' => e = .returned (.func (.func 113) #[] #[.pointer (some ⟨w.heap.size, 0, none⟩)]) ∧ w' = w.alloc (.cells (da d) 33) := by
  go_enter Tryz.func96, Tryz.ntmps96
  go_wp2
  go_ret
  exact ⟨rfl, rfl⟩

set_option maxHeartbeats 2000000 in
set_option maxRecDepth 20000 in
theorem pins_stops (n : Nat) (hn : 2 ≤ n) (Bn : Nat) (d : Nat → Int) (hd : DWF d) (w : World) (hc : Dr w Bn 33 d) (hT : TabW w) :
    SeqStopsK Fence.wide n Tryz.prog 113 #[.pointer (some ⟨Bn, 0, none⟩)] (fun x : PinOf d => #[.int .i64 x.1.1, .int .i64 x.1.2]) (fun A B => TabW A → TabW B) (fun xs => xs.map (·.1) = pinsL d) (fun pre => pre.map (·.1) <+: pinsL d) 4000 w := by
  intro l J Jx W hW hJ hJx hY h0
  have D1 := hc.keep hW
  have T1 := hT.keep hW
  have HR1 := hide D1.range
  have HI := hide (fun k hk => indexD d k hk)
  show CallsIn Fence.wide n Tryz.prog 113 #[.func (.yield l) #[] #[], .pointer (some ⟨Bn, 0, none⟩)] W _
  refine callsIn_of_wp Tryz.func113 rfl trivial ?_ rfl
  simp only [Tryz.ntmps113, List.size_toArray, List.length_cons, List.length_nil, Nat.reduceAdd, Nat.reduceSub, Array.replicate_succ, Array.replicate_zero, List.push_toArray, List.append_toArray, List.nil_append, List.cons_append]
  gi_wp2_with (with_reducible refine wpListIn_load_da rfl 33 (.tmp 1) rfl Bn 0 rfl d _ HR1.out Tryz.underlying33 rfl (dInfo d) ?_)
  gi_loopw [6] (fun i wr => ∃ (k : Nat) (pre : List (PinOf d)), k ≤ 96 ∧ i = .int .i64 k ∧ pre.map (·.1) = pinsT d k ∧ J pre wr ∧ TabW wr) (fun i _ => 96 - (intOf i).toNat)
  case atStart => exact ⟨0, [], by omega, rfl, rfl, h0, T1⟩
  case round =>
    obtain ⟨k, pre, hk, rfl, hpre, hJs, hTs⟩ := hrel
    have HP := hide hpre
    clear hpre
    by_cases hlt : k < 96
    · have hx := HI.out k hlt
      obtain ⟨x, hxe⟩ : ∃ x : Nat, d k = (x : Int) := ⟨(d k).toNat, by have := hd k hlt; omega⟩
      have hxb : x < 4294967296 := by have := hd k hlt; omega
      have HXE := hide hxe
      rw [hxe] at hx
      clear hxe
      have hk1 : (k : Int) < 96 := by omega
      have hk2 : decide ((k : Int) < 96) = true := decide_eq_true hk1
      gi_wp2
      gi_loopw [4] (fun r wq => ∃ (y : Nat) (pre' : List (PinOf d)), r = .int .u32 y ∧ y < 4294967296 ∧ (∀ t, y.testBit t = true → x.testBit t = true) ∧ pre'.map (·.1) ++ (bitsL y).map (fun t => (k, t)) = pinsT d (k + 1) ∧ J pre' wq ∧ TabW wq) (fun r _ => (intOf r).toNat)
      case atStart => exact ⟨x, pre, rfl, hxb, fun _ h => h, by rw [HP.out, pinsT_succ, HXE.out, Int.toNat_natCast], hJs, hTs⟩
      case round =>
        obtain ⟨y, pre', rfl, hy, hsub, hmap, hJ2, hT2⟩ := hrel
        by_cases h0 : y = 0
        · subst h0
          have HM := hide (show pre'.map (·.1) = pinsT d (k + 1) by simpa [bitsL_zero] using hmap)
          clear hmap hJs hTs hsub
          gi_wp2
          go_roundw
          case rel => exact ⟨k + 1, pre', hlt, by go_num, HM.out, hJ2, hT2⟩
          case measure => simp [intOf]; omega
        · obtain ⟨l1, l2, l3, l4⟩ := low_facts hy h0
          have hbl := bitsL_low hy h0
          have hlen : pre'.length < 4000 := by
            have h1 := congrArg List.length hmap
            rw [List.length_append, List.length_map] at h1
            have h2 := pinsT_len d (k + 1)
            omega
          have HTZ := hide (fun W hW => tz_any y W hy h0 hW)
          obtain ⟨t, ht⟩ : ∃ t, Lib.ctz 32 y = t := ⟨_, rfl⟩
          obtain ⟨z, hz⟩ : ∃ z, y - 1 = z := ⟨_, rfl⟩
          obtain ⟨y', hy'⟩ : ∃ y', y &&& (y - 1) = y' := ⟨_, rfl⟩
          rw [ht] at l1 l2 hbl HTZ
          rw [hy'] at l3 l4 hbl
          have hsu : ((y : Int) - 1) % 4294967296 = (z : Int) := by omega
          have han : bits .and .u32 (y : Int) (z : Int) = (y' : Int) := by rw [and_nat y z hy (by omega), ← hz, hy']
          have hpos : 0 < y := by omega
          have hyz : (z : Int) = (y : Int) - 1 := by omega
          rw [hyz] at hsu han
          have hn1 : 1 ≤ n := by omega
          have hpin : pinB d k t = true := bit_pin hd hlt (by rw [HXE.out, Int.toNat_natCast]; exact hsub t l2)
          obtain ⟨fn, tmps, assign, body, hyy, hR⟩ := hY pre' ⟨(k, t), hlt, l1, hpin⟩ _ hJ2 hlen
          dsimp only at hyy
          have HM := hide (show (pre' ++ [(⟨(k, t), hlt, l1, hpin⟩ : PinOf d)]).map (·.1) ++ (bitsL y').map (fun t => (k, t)) = pinsT d (k + 1) by rw [map_snoc, ← hmap, hbl]; simp)
          have HL := hide l4
          have HS := hide hsub
          clear hbl hmap hsub l4 ht hz hy' h0 hJ2 hJs hTs hyz hsu
          gi_wp2_with (refine ⟨trivial, ?_⟩; gi_at_call 114; refine (callsIn_wide.2 (HTZ.out _ hT2)).mono ?_; rintro e w' ⟨rfl, rfl⟩)
          refine hR.mono ?_
          clear hyy hR
          rintro e W2 (⟨rfl, hJ3, hk3⟩ | ⟨rfl, hJx3⟩)
          · have hT3 := hk3 hT2
            gi_wp2
            go_roundw
            case rel => exact ⟨y', _, by go_num, by omega, fun t h => HS.out t (HL.out t h), HM.out, hJ3, hT3⟩
            case measure => simp [intOf]; omega
          · gi_wp2
            refine bodyPost_ret (results_none rfl _ _ _) rfl ?_
            exact ⟨⟨_, rfl⟩, .inr ⟨_, (List.prefix_append _ _).trans (HM.out ▸ pinsT_prefix d (by omega)), hJx3⟩⟩
    · obtain rfl : k = 96 := by omega
      gi_wp2
      go_end0
      exact ⟨⟨_, rfl⟩, .inl ⟨pre, HP.out, hJs⟩⟩
end Go.Proofs.YtmmninlnpnhboaaGreatDoor
