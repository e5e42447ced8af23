import Derived.Test.YtehmkablandefaaGreatDoorGak
import Derived.Test.YtehmkablandefaaGreatDoorGah
import Derived.Deep.CutRange
import Derived.Maps.Own
import Derived.Maps.OwnOps
import Derived.Lib.SliceRun
import Derived.Lib.AppendZeros
import Derived.Deep.RegionHeld3
import Derived.StillTailTactics
namespace Go.Proofs.YtehmkablandefaaGreatDoor
open Go.RowKit

def pinB (d : Nat → Int) (k t : Nat) : Bool := decide (d k / 2 ^ t % 2 = 1)
/-- there are such a step and such a track -/
def plB (s : Int) (n : Nat) (x y : Int) : Bool := inB x 0 (s - 1) && inB y 0 ((n : Int) - 1)
theorem plB_nat {s : Int} {n : Nat} {x y : Int} (h : plB s n x y = true) : ∃ k t : Nat, x = k ∧ y = t ∧ (k : Int) < s ∧ t < n := by
  simp only [plB, inB, Bool.and_eq_true, decide_eq_true_eq] at h
  exact ⟨x.toNat, y.toNat, by omega, by omega, by omega, by omega⟩

theorem shr_bounds (x : Int) (t : Nat) (h0 : 0 ≤ x) (h1 : x ≤ 4294967295) : 0 ≤ x / 2 ^ t ∧ x / 2 ^ t ≤ 4294967295 := by
  have hq : (0 : Int) < 2 ^ t := Int.pow_pos (by decide)
  exact ⟨Int.ediv_nonneg h0 (by omega), Int.le_trans (Int.ediv_le_self _ h0) h1⟩
theorem pin_tmod {d : Nat → Int} {k t : Nat} (h0 : 0 ≤ d k) (h1 : d k ≤ 4294967295) : ((d k / 2 ^ t).tmod 2 == 1) = pinB d k t := by
  rw [Int.tmod_eq_emod_of_nonneg (shr_bounds _ t h0 h1).1]
  rfl
theorem and_one32 (x : Int) (h0 : 0 ≤ x) (h1 : x ≤ 4294967295) : bits .and .u32 x 1 = x % 2 := by
  have h := bits_mask .u32 32 (by decide) wraps_u32 1 (by decide) x h0 (by omega)
  simpa using h
theorem pin_and {d : Nat → Int} {k t : Nat} (h0 : 0 ≤ d k) (h1 : d k ≤ 4294967295) : (bits .and .u32 (d k / 2 ^ t) 1 == 1) = pinB d k t := by
  rw [and_one32 _ (shr_bounds _ t h0 h1).1 (shr_bounds _ t h0 h1).2]
  rfl

theorem l02Pin_any (g k t : Nat) (d : Nat → Int) (w : World) (hD : Dr w g 43 d) (hk : k < 96) (ht : t < 32) (hd : DWF d) :
    Calls Tryz.prog 56 #[.pointer (some ⟨g, 0, none⟩), .int .i64 k, .int .i64 t] w fun e w' => e = .returned (.bool (pinB d k t)) ∧ w = w' := by
  have c1 := hD.cell hk
  obtain ⟨x1, x2⟩ := hd k hk
  have hp := pin_tmod (d := d) (k := k) (t := t) x1 x2
  go_enter Tryz.func56, Tryz.ntmps56
  go_wp2
  go_ret
  exact ⟨rfl, rfl⟩
/-- HasPin's answer -/
def hasB (s : Int) (l : List (Int × Int)) (d : Nat → Int) (x y : Int) : Bool := askB s l d && plB s l.length x y && pinB d x.toNat y.toNat
def hasC (s : Int) (l : List (Int × Int)) (d : Nat → Int) (x y : Int) : Int := cod3 (askB s l d) (plB s l.length x y)
theorem ask_all {s : Int} {l : List (Int × Int)} {d : Nat → Int} (h : askB s l d = true) : (2 ≤ s ∧ s ≤ 96) ∧ (1 ≤ l.length ∧ l.length ≤ 24) ∧ HG s l l.length ∧ drB s l.length d = true := by
  simp only [askB, Bool.and_eq_true] at h
  have := frB_all h.1
  exact ⟨this.1, this.2.1, this.2.2, h.2⟩
end Go.Proofs.YtehmkablandefaaGreatDoor
namespace Go.Proofs.YtehmkablandefaaGreatDoor
open Go.RowKit
def ascW (l : List (Int × Int × Int)) : Bool := (List.range l.length).all fun j => wnAsc l j
def AscW (l : List (Int × Int × Int)) (k : Nat) : Prop := ∀ j, j < k → 0 < j → befW (wnS l (j - 1)) (wnT l (j - 1)) (wnS l j) (wnT l j) = true
theorem ascW_yes (l : List (Int × Int × Int)) (h : AscW l l.length) : ascW l = true := by
  simp only [ascW, wnAsc, List.all_eq_true, List.mem_range]
  intro j hj
  rcases Nat.eq_zero_or_pos j with h0 | h0
  · simp [h0]
  · simp [h j hj h0]
theorem ascW_no (l : List (Int × Int × Int)) (k : Nat) (hk : k < l.length) (h0 : 0 < k) (h : befW (wnS l (k - 1)) (wnT l (k - 1)) (wnS l k) (wnT l k) = false) : ascW l = false := by
  unfold ascW
  rw [List.all_eq_false]
  exact ⟨k, List.mem_range.2 hk, by simp [wnAsc, h]; omega⟩
theorem AscW_succ (l : List (Int × Int × Int)) (k : Nat) (h : AscW l k) (h' : befW (wnS l (k - 1)) (wnT l (k - 1)) (wnS l k) (wnT l k) = true) : AscW l (k + 1) := fun j hj h0 => by
  rcases Nat.lt_or_ge j k with h1 | h1
  · exact h j h1 h0
  · rw [show j = k by omega]; exact h'
def okW (s : Int) (n : Nat) (l : List (Int × Int × Int)) : Bool := (List.range l.length).all fun j => wnOk s n l j
theorem pinsB_split (s : Int) (n : Nat) (l : List (Int × Int × Int)) : pinsB s n l = (ascW l && okW s n l) := by
  rw [Bool.eq_iff_iff]
  simp only [pinsB, ascW, okW, Bool.and_eq_true, List.all_eq_true, List.mem_range]
  exact ⟨fun h => ⟨fun j hj => (h j hj).2, fun j hj => (h j hj).1⟩, fun h j hj => ⟨h.2 j hj, h.1 j hj⟩⟩
end Go.Proofs.YtehmkablandefaaGreatDoor
namespace Go.Proofs.YtehmkablandefaaGreatDoor
open Go.RowKit
def OG (s : Int) (n : Nat) (l : List (Int × Int × Int)) (k : Nat) : Prop := ∀ j, j < k → wnOk s n l j = true
theorem OG_succ {s : Int} {n : Nat} {l : List (Int × Int × Int)} {k : Nat} (h : OG s n l k) (h' : wnOk s n l k = true) : OG s n l (k + 1) := fun j hj => by
  rcases Nat.lt_or_ge j k with h1 | h1
  · exact h j h1
  · rw [show j = k by omega]; exact h'
theorem okW_yes {s : Int} {n : Nat} {l : List (Int × Int × Int)} (h : OG s n l l.length) : okW s n l = true := by simp only [okW, List.all_eq_true, List.mem_range]; exact h
theorem okW_no {s : Int} {n : Nat} {l : List (Int × Int × Int)} {k : Nat} (hk : k < l.length) (h : wnOk s n l k = false) : okW s n l = false := by
  rw [okW, List.all_eq_false]
  exact ⟨k, List.mem_range.2 hk, by simp [h]⟩
theorem szOrd (x y x' y' : Value) : (#[x, y] : Array Value).size = (#[x', y'] : Array Value).size := rfl
theorem oneOrd (P : Option Addr) (n d : Nat) (f : Fn) : (#[.slice P n d, .func f #[] #[]] : Array Value).all (·.oneCell') = true := by simp [Value.oneCell']
theorem wpList_store_newA {P : Program} {ops : Array Oper} {rest : List Oper} {o : Oper} {a : Act} {w : World} {Q : Exit → Act → World → Prop} (hgd : o.guard = none) (ty : TypeId) (x y : Operand) (ho : o.op = .store ty x y)
    (cs : Array Value) (hx : a.eval x = .pointer (some ⟨w.heap.size, 0, none⟩)) (hy : a.eval y = .agg cs)
    (t : TypeId) (old : Array Value) (hi : (P.info? ty).map (·.size) = some cs.size) (hold : old.size = cs.size) (h1 : cs.all (·.oneCell') = true)
    (h : wpList P ops Q rest (a.put o.dst undef) (w.alloc (.cells cs t))) : wpList P ops Q (o :: rest) a (w.alloc (.cells old t)) := by
  refine wpList_store_row hgd ty x y ho w.heap.size cs hx hy t old (heap_alloc_new w _) hi hold h1 ?_
  rw [setRow_alloc]
  exact h
def canB (s : Int) (n : Nat) (l : List (Int × Int × Int)) (z : List Int) : Bool := decide (z.length = n) && (ascW l && okW s n l) && strB z
theorem weB_can (s : Int) (h : List (Int × Int)) (l : List (Int × Int × Int)) (z : List Int) : weB s h l z = (frB s h && canB s h.length l z) := by
  simp only [weB, canB, pinsB_split, Bool.and_assoc]
end Go.Proofs.YtehmkablandefaaGreatDoor
namespace Go.Proofs.YtehmkablandefaaGreatDoor
open Go.RowKit Go.Maps
theorem SZ.cells {w : World} {ad : Addr} {l : List Int} (h : SZ w (some ad) l) : ∀ j u, (icells l)[j]? = some u → w.cell? (ad.add j) = some u := by
  intro j u hu
  have hj : j < (icells l).length := (List.getElem?_eq_some_iff.1 hu).1
  rw [icells_length] at hj
  obtain ⟨b, o, e, _, c0⟩ := h j hj
  obtain rfl : ad = ⟨b, o, none⟩ := Option.some.inj e
  rw [Addr.add_lit, c0, ← hu, icells_get l j hj]
theorem SZ.none {w : World} {l : List Int} (h : SZ w none l) : l = [] := by
  rcases Nat.eq_zero_or_pos l.length with e | e
  · exact List.length_eq_zero_iff.1 e
  · obtain ⟨b, o, h1, _⟩ := h 0 e
    cases h1
theorem icells_one (l : List Int) : ∀ u ∈ icells l, u.oneCell' = true := by
  intro u hu
  simp only [icells, List.mem_map] at hu
  obtain ⟨n, _, rfl⟩ := hu
  rfl
theorem own_shapeZ {w : World} {base : Nat} {e : TypeId} {size n : Nat} {v : Value} {xs : List Value} (h : w.ownsRow base e size v n xs) : ∃ A c, v = .slice A n c := by
  rcases h.2 with ⟨rfl, rfl⟩ | ⟨g, cap, cur, rfl, _⟩
  · exact ⟨_, _, rfl⟩
  · exact ⟨_, _, rfl⟩
/-- append of numbers that lie somewhere to a row of the call's own -/
theorem run_append_z (w : World) (t : TypeId) (ht : Tryz.prog.underlying t = some (.slice 2)) (base : Nat) (i0 : TypeInfo) (hi : Tryz.prog.info? 2 = some i0)
    (hz0 : i0.zero = some (.int .i64 0)) (hz1 : i0.size = 1) (hz2 : i0.bytes = 8) (v : Value) (n : Nat) (xs : List Value) (hown : w.ownsRow base 2 1 v n xs) (ad : Addr) (c : Nat) (l : List Int) (hA : SZ w (some ad) l)
    (hn : n ≤ 4194304) (hl : l.length ≤ 4194304) (hb : base ≤ w.heap.size) :
    ∃ A' c' w', (∀ ty, (Builtin.append_ #[t, t] ty #[v, .slice (some ad) l.length c]).run Tryz.prog w = .ok (.slice A' (n + l.length) c') w') ∧ w'.ownsRow base 2 1 (.slice A' (n + l.length) c') (n + l.length) (xs ++ icells l) ∧ w.grownBy w' v.ownBlock := by
  obtain ⟨Av, cv, rfl⟩ := own_shapeZ hown
  have key : ∀ ty, ∃ v' w', (Builtin.append_ #[t, t] ty #[.slice Av n cv, .slice (some ad) l.length c]).run Tryz.prog w = .ok v' w' ∧ w'.ownsRow base 2 1 v' (n + l.length) (xs ++ icells l) ∧ w.grownBy w' (Value.slice Av n cv).ownBlock ∧ (v' = .slice none 0 0 ↔ Value.slice Av n cv = .slice none 0 0 ∧ l.length = 0) := fun ty =>
    run_append_own w base t ty 2 i0 (.int .i64 0) 1 8 ht hi hz0 hz1 hz2 rfl (by decide) _ n xs hown ad l.length c (icells l) (by rw [icells_length, Nat.mul_one]) (SZ.cells hA) (icells_one l) (by unfold maxLen; omega) (by omega) hb
  obtain ⟨v', w', hr, h2, h3, _⟩ := key 0
  obtain ⟨A', c', rfl⟩ := own_shapeZ h2
  exact ⟨A', c', w', fun ty => hr, h2, h3⟩
/-- numbers of the call's own -/
def OwnI (w : World) (l : List Int) (e : Ending) (w' : World) : Prop := ∃ (C : Option Addr) (q : Nat), e = .returned (.slice C l.length q) ∧ w'.ownsRow w.heap.size 2 1 (.slice C l.length q) l.length (icells l) ∧ Below w.heap.size w w'
theorem own_emptyI {w : World} {base : Nat} (t : TypeId) (size : Nat) (h : base ≤ w.heap.size) : (w.alloc (.cells #[] t)).ownsRow base t size (.slice (some ⟨w.heap.size, 0, none⟩) 0 0) 0 [] :=
  World.ownsRow_made w #[] 0 h (by unfold maxLen; omega) (by simp)
theorem Tryz.laidW : laidOutB Tryz.prog = true := by kernel_rfl
theorem cellsPi : Tryz.prog.cellsOf 2 = 1 := by kernel_rfl
theorem wf64 {x : Int} (h : -9223372036854775808 ≤ x ∧ x ≤ 9223372036854775807) : (Lit.int .i64 x).wf = true := by simp [Lit.wf, IntKind.min, IntKind.max, IntKind.signed, IntKind.bits]; omega
theorem i64_of8 {x : Int} (h : -128 ≤ x ∧ x ≤ 127) : -9223372036854775808 ≤ x ∧ x ≤ 9223372036854775807 := ⟨by omega, by omega⟩
theorem wp_mapUpdate_own {P : Program} {o : Oper} {a : Act} {w : World} {K : Act → World → Prop} {Q : Exit → Act → World → Prop} (m x v : Operand) (t : TypeId) (hop : o.op = Op.mapUpdate t m x v)
    (k e : TypeId) (KK : Keyed P k) (ht : P.underlying t = some (.map k e)) (R : Value → Option (DataW Unit × List MemPlace)) (b n : Nat) (D : DataW Unit)
    (hm : a.eval m = .map (some b)) (hown : w.ownsMap P k R b n D) (hn : n < maxLen) (key val : Value) (kl : Lit) (hx : a.eval x = key) (hv : a.eval v = val) (hkey : keyOf P k key = some kl)
    (d : DataW Unit) (ps : List MemPlace) (hval : R val = some (d, ps))
    (hK : ∀ w', w'.ownsMap P k R b (n + 1) (D.put kl d) → w.grownBy w' (some b) → K (a.put o.dst undef) w') : o.wp P a w K Q := by
  obtain ⟨w', hrun, r1, r2⟩ := hown.update KK ht hn hkey hval
  unfold Oper.wp
  simp [execOp, hop, hm, hx, hv, hrun, Result.andThen]
  exact hK w' r1 r2
end Go.Proofs.YtehmkablandefaaGreatDoor
namespace Go.Proofs.YtehmkablandefaaGreatDoor
open Go.RowKit

/-- how many bits are set -/
def pc (x : Nat) : Nat := if h : x = 0 then 0 else x % 2 + pc (x / 2)
termination_by x
decreasing_by omega
theorem pc_zero : pc 0 = 0 := by unfold pc; simp
theorem pc_step (x : Nat) : pc x = x % 2 + pc (x / 2) := by
  by_cases h : x = 0
  · subst h; simp [pc_zero]
  · conv => lhs; unfold pc
    rw [dif_neg h]
theorem pc_le (x : Nat) : pc x ≤ x := by
  induction x using Nat.strongRecOn with
  | ind x ih =>
    by_cases h : x = 0
    · subst h; simp [pc_zero]
    · rw [pc_step]
      have := ih (x / 2) (by omega)
      omega
theorem pc_byte (a b : Nat) (hb : b < 256) : pc (256 * a + b) = pc a + pc b := by
  have step : ∀ (n m c : Nat), pc (2 * n * m + c) = c % 2 + pc (n * m + c / 2) := by
    intro n m c
    rw [pc_step]
    have h1 : (2 * n * m + c) % 2 = c % 2 := by rw [Nat.mul_assoc]; omega
    have h2 : (2 * n * m + c) / 2 = n * m + c / 2 := by rw [Nat.mul_assoc]; omega
    rw [h1, h2]
  have e : ∀ n c, pc (256 * n + c) = c % 2 + (c / 2 % 2 + (c / 2 / 2 % 2 + (c / 2 / 2 / 2 % 2 + (c / 2 / 2 / 2 / 2 % 2 + (c / 2 / 2 / 2 / 2 / 2 % 2 + (c / 2 / 2 / 2 / 2 / 2 / 2 % 2 + (c / 2 / 2 / 2 / 2 / 2 / 2 / 2 % 2 + pc (n + c / 2 / 2 / 2 / 2 / 2 / 2 / 2 / 2)))))))) := by
    intro n c
    rw [step 128 n c, step 64 n, step 32 n, step 16 n, step 8 n, step 4 n, step 2 n, step 1 n, Nat.one_mul]
  have e0 := e a b
  have e1 := e 0 b
  have hz : b / 2 / 2 / 2 / 2 / 2 / 2 / 2 / 2 = 0 := by omega
  rw [hz] at e0 e1
  rw [Nat.mul_zero, Nat.zero_add, Nat.zero_add, pc_zero] at e1
  rw [Nat.add_zero] at e0
  omega

/-- the bits of a byte -/
def pb (v : Nat) : Nat := v % 2 + (v / 2 % 2 + (v / 4 % 2 + (v / 8 % 2 + (v / 16 % 2 + (v / 32 % 2 + (v / 64 % 2 + v / 128 % 2))))))
theorem pc_pb (v : Nat) (h : v < 256) : pc v = pb v := by
  rw [pc_step v, pc_step (v / 2), pc_step (v / 2 / 2), pc_step (v / 2 / 2 / 2), pc_step (v / 2 / 2 / 2 / 2), pc_step (v / 2 / 2 / 2 / 2 / 2), pc_step (v / 2 / 2 / 2 / 2 / 2 / 2), pc_step (v / 2 / 2 / 2 / 2 / 2 / 2 / 2), show v / 2 / 2 / 2 / 2 / 2 / 2 / 2 / 2 = 0 by omega, pc_zero]
  unfold pb
  omega
theorem pb_le (v : Nat) : pb v ≤ 8 := by unfold pb; omega
def tabL : List Nat := (List.range 256).map pb
theorem tab_get (S : ByteArray) (hS : S.data.toList.map UInt8.toNat = tabL) (v : Nat) (hv : v < 256) : ∃ b, S[v]? = some b ∧ b.toNat = pc v := by
  have hl : S.data.toList.length = 256 := by have := congrArg List.length hS; simpa [tabL] using this
  have h1 : v < S.data.toList.length := by omega
  have h2 : v < S.size := by simpa using h1
  refine ⟨S[v], getElem?_pos S v h2, ?_⟩
  have h3 : (S.data.toList.map UInt8.toNat)[v]? = some (pb v) := by rw [hS]; simp [tabL, hv]
  rw [pc_pb v hv]
  rw [List.getElem?_map, List.getElem?_eq_getElem h1] at h3
  show S.data[v].toNat = pb v
  simpa using h3
theorem quiet_index {P : Program} {o : Oper} {a : Act} {C : World → Prop} {K : Act → Prop} (ty : TypeId) (x y : Operand) (ho : o.op = .index ty x y) (ht : P.underlying ty = some .string)
    (S : ByteArray) (hx : a.eval x = .string S) (v' : Int) (hy : a.eval y = .int .u32 v') (hS : S.data.toList.map UInt8.toNat = tabL) (v : Nat) (hv : v < 256) (hvv : v' = (v : Int))
    (h : K (a.put o.dst (.int .u8 (pc v : Nat)))) : o.quiet P a C K := by
  obtain ⟨b, hb, hbb⟩ := tab_get S hS v hv
  refine ⟨.int .u8 (pc v : Nat), fun w hw => ?_, h⟩
  subst hvv
  unfold Oper.quietAt execOp
  have hrun : (Instr.index ty (.string S) (.int .u32 v)).run P w = .ok (.int .u8 (pc v : Nat)) w := by
    simp [Instr.index, asIntOf, run_underlying ht, hb, hbb]
  simp only [ho, hx, hy, Sem.run_bind, hrun, Result.andThen_ok, Sem.run_pure]
  exact ⟨rfl, rfl⟩

end Go.Proofs.YtehmkablandefaaGreatDoor
namespace Go.Proofs.YtehmkablandefaaGreatDoor
open Go.RowKit

/-- the pins of the first k steps -/
def cntT (d : Nat → Int) : Nat → Nat
  | 0 => 0
  | k + 1 => cntT d k + pc (d k).toNat
theorem cntT_le (d : Nat → Int) (hd : DWF d) : ∀ k, k ≤ 96 → cntT d k ≤ k * 4294967295
  | 0, _ => by simp [cntT]
  | k + 1, h => by
    have h1 := cntT_le d hd k (by omega)
    have h2 := pc_le (d k).toNat
    have h3 := hd k (by omega)
    simp only [cntT]
    omega
def cntI (d : Nat → Int) : Int := (cntT d 96 : Nat)
theorem indexD (d : Nat → Int) (k : Nat) (hk : k < 96) (w : World) : (Instr.index 43 (.agg (da d)) (.int .i64 k)).run Tryz.prog w = .ok (.int .u32 (d k)) w := by
  have h := dv_get d k hk
  simp [Instr.index, asIntOf, run_underlying Tryz.underlying43, go_sem, hk, da, h]
end Go.Proofs.YtehmkablandefaaGreatDoor
namespace Go.Proofs.YtehmkablandefaaGreatDoor
open Go.RowKit

/-- three values come back; what there was is as it was -/
def Trip (x y z : Value) (w : World) (e : Ending) (w' : World) : Prop := e = .returned (.tuple #[x, y, z]) ∧ Below w.heap.size w w'
/-- the pins of p that q has not -/
def mvD (p q : Nat → Int) (i : Nat) : Int := bits .andNot .u32 (p i) (q i)
theorem mv_wf (p q : Nat → Int) : DWF (mvD p q) := fun _ _ => bounds_u32 (wf_bits .andNot .u32 _ _)
def mvI (p q : Nat → Int) : Int := cntI (mvD p q)
def ask2B (s : Int) (l : List (Int × Int)) (a b : Nat → Int) : Bool := frB s l && (drB s l.length a && drB s l.length b)

def mvP (s : Int) (l : List (Int × Int)) (a b p q : Nat → Int) : Int := onlyI (ask2B s l a b) (mvI p q)
theorem machine2_any (s : Int) (A : Option Addr) (c : Nat) (l : List (Int × Int)) (a b : Nat → Int) (w : World) (hA : HA w A l) (hn : l.length ≤ 1048576) (hwf : HWF l) (hs : -32768 ≤ s ∧ s ≤ 32767) (ha : DWF a) (hb : DWF b) (g : Nat) (hg : g = w.heap.size) :
    Calls Tryz.prog 62 #[.agg #[.int .i16 s, .slice A l.length c], .slice (some ⟨g, 0, none⟩) 2 2] (w.alloc (.cells (da a ++ da b) 43)) (Mach s A l.length c (ask2B s l a b) (w.alloc (.cells (da a ++ da b) 43))) := by
  subst hg
  have hb0 : Below w.heap.size w (w.alloc (.cells (da a ++ da b) 43)) := (Below.refl _ _).alloc (Nat.le_refl _) _
  have hd1 : ∀ j, j < [a, b].length → DWF ([a, b].getD j (fun _ => 0)) := by
    intro j hj
    have hj2 : j < 2 := hj
    match j, hj2 with
    | 0, _ => exact ha
    | 1, _ => exact hb
  have h := machineD_any s A c l w.heap.size 2 [a, b] _ (hA.below hb0) hn hwf hs (LD2 w a b) hd1 (by simp)
  have e : (frB s l && drsB s l.length [a, b]) = ask2B s l a b := by simp [drsB, ask2B]
  rw [e] at h
  exact h
end Go.Proofs.YtehmkablandefaaGreatDoor
namespace Go.Proofs.YtehmkablandefaaGreatDoor
open Go.RowKit

/-- the drum with one pin turned -/
def togD (d : Nat → Int) (k t : Nat) (i : Nat) : Int := if i = k then bits .xor .u32 (d k) (2 ^ t % 4294967296) else d i

theorem pow_nat (t : Nat) (ht : t < 32) : (2 : Int) ^ t % 4294967296 = ((2 ^ t : Nat) : Int) := by
  have hp : (2 : Nat) ^ t < 2 ^ 32 := Nat.pow_lt_pow_right (by decide) ht
  have h2 : ((2 : Int) ^ t) = ((2 ^ t : Nat) : Int) := by push_cast; rfl
  rw [h2]
  generalize (2 ^ t : Nat) = n at hp ⊢
  omega
theorem ofInt_nat (x : Int) (h : 0 ≤ x) : BitVec.ofInt 32 x = BitVec.ofNat 32 x.toNat := by
  obtain ⟨n, rfl⟩ := Int.eq_ofNat_of_zero_le h
  simp
theorem or_xor {d : Nat → Int} {k t : Nat} (h0 : 0 ≤ d k) (ht : t < 32) (h : pinB d k t = false) : bits .or .u32 (d k) (2 ^ t % 4294967296) = bits .xor .u32 (d k) (2 ^ t % 4294967296) := by
  rw [pow_nat t ht]
  have e : BitVec.ofInt 32 (d k) ||| BitVec.ofInt 32 ((2 ^ t : Nat) : Int) = BitVec.ofInt 32 (d k) ^^^ BitVec.ofInt 32 ((2 ^ t : Nat) : Int) := by
    rw [ofInt_nat _ h0, ofInt_nat _ (Int.natCast_nonneg _)]
    apply BitVec.eq_of_getLsbD_eq
    intro i hi
    simp only [BitVec.getLsbD_or, BitVec.getLsbD_xor, BitVec.getLsbD_ofNat, Int.toNat_natCast, Nat.testBit_two_pow]
    by_cases e : t = i
    · subst e
      have hb : (d k).toNat.testBit t = false := by
        rw [Nat.testBit_eq_decide_div_mod_eq]
        simp only [pinB, decide_eq_false_iff_not] at h
        rw [decide_eq_false_iff_not]
        intro h2
        apply h
        obtain ⟨n, hn⟩ := Int.eq_ofNat_of_zero_le h0
        rw [hn] at h2 ⊢
        simp only [Int.toNat_natCast] at h2
        exact_mod_cast h2
      simp [hb]
    · simp [e]
  show IntKind.u32.wrap ((BitVec.ofInt 32 (d k) ||| BitVec.ofInt 32 ((2 ^ t : Nat) : Int)).toNat : Int) = IntKind.u32.wrap ((BitVec.ofInt 32 (d k) ^^^ BitVec.ofInt 32 ((2 ^ t : Nat) : Int)).toNat : Int)
  rw [e]
theorem not_xor {d : Nat → Int} {k t : Nat} (h0 : 0 ≤ d k) (ht : t < 32) (h : pinB d k t = true) : bits .andNot .u32 (d k) (2 ^ t % 4294967296) = bits .xor .u32 (d k) (2 ^ t % 4294967296) := by
  rw [pow_nat t ht]
  have e : BitVec.ofInt 32 (d k) &&& ~~~ BitVec.ofInt 32 ((2 ^ t : Nat) : Int) = BitVec.ofInt 32 (d k) ^^^ BitVec.ofInt 32 ((2 ^ t : Nat) : Int) := by
    rw [ofInt_nat _ h0, ofInt_nat _ (Int.natCast_nonneg _)]
    apply BitVec.eq_of_getLsbD_eq
    intro i hi
    simp only [BitVec.getLsbD_and, BitVec.getLsbD_not, BitVec.getLsbD_xor, BitVec.getLsbD_ofNat, Int.toNat_natCast, Nat.testBit_two_pow]
    by_cases e : t = i
    · subst e
      have hb : (d k).toNat.testBit t = true := by
        rw [Nat.testBit_eq_decide_div_mod_eq]
        simp only [pinB, decide_eq_true_eq] at h
        rw [decide_eq_true_eq]
        obtain ⟨n, hn⟩ := Int.eq_ofNat_of_zero_le h0
        rw [hn] at h ⊢
        simp only [Int.toNat_natCast]
        exact_mod_cast h
      simp [hb]
    · simp [e, hi]
  show IntKind.u32.wrap ((BitVec.ofInt 32 (d k) &&& ~~~ BitVec.ofInt 32 ((2 ^ t : Nat) : Int)).toNat : Int) = IntKind.u32.wrap ((BitVec.ofInt 32 (d k) ^^^ BitVec.ofInt 32 ((2 ^ t : Nat) : Int)).toNat : Int)
  rw [e]
end Go.Proofs.YtehmkablandefaaGreatDoor
