import Derived.Test.YtncdgjaadlpncaaDoorGd
import Derived.StillTailTactics
namespace Go.Proofs.YtncdgjaadlpncaaDoor
open Go.RowKit

def pinB (d : Nat → Int) (k t : Nat) : Bool := decide (d k / 2 ^ t % 2 = 1)
/-- there are such a step and such a track -/
def plB (s : Int) (n : Nat) (x y : Int) : Bool := inB x 0 (s - 1) && inB y 0 ((n : Int) - 1)
theorem plB_nat {s : Int} {n : Nat} {x y : Int} (h : plB s n x y = true) : ∃ k t : Nat, x = k ∧ y = t ∧ (k : Int) < s ∧ t < n := by
  simp only [plB, inB, Bool.and_eq_true, decide_eq_true_eq] at h
  exact ⟨x.toNat, y.toNat, by omega, by omega, by omega, by omega⟩

theorem shr_bounds (x : Int) (t : Nat) (h0 : 0 ≤ x) (h1 : x ≤ 4294967295) : 0 ≤ x / 2 ^ t ∧ x / 2 ^ t ≤ 4294967295 := by
  have hq : (0 : Int) < 2 ^ t := Int.pow_pos (by decide)
  exact ⟨Int.ediv_nonneg h0 (by omega), Int.le_trans (Int.ediv_le_self _ h0) h1⟩
theorem pin_tmod {d : Nat → Int} {k t : Nat} (h0 : 0 ≤ d k) (h1 : d k ≤ 4294967295) : ((d k / 2 ^ t).tmod 2 == 1) = pinB d k t := by
  rw [Int.tmod_eq_emod_of_nonneg (shr_bounds _ t h0 h1).1]
  rfl
theorem and_one32 (x : Int) (h0 : 0 ≤ x) (h1 : x ≤ 4294967295) : bits .and .u32 x 1 = x % 2 := by
  have h := bits_mask .u32 32 (by decide) wraps_u32 1 (by decide) x h0 (by omega)
  simpa using h
theorem pin_and {d : Nat → Int} {k t : Nat} (h0 : 0 ≤ d k) (h1 : d k ≤ 4294967295) : (bits .and .u32 (d k / 2 ^ t) 1 == 1) = pinB d k t := by
  rw [and_one32 _ (shr_bounds _ t h0 h1).1 (shr_bounds _ t h0 h1).2]
  rfl

theorem l02Pin_any (g k t : Nat) (d : Nat → Int) (w : World) (hD : Dr w g 31 d) (hk : k < 96) (ht : t < 32) (hd : DWF d) :
    Calls Tryd.prog 72 #[.pointer (some ⟨g, 0, none⟩), .int .i64 k, .int .i64 t] w fun e w' => e = .returned (.bool (pinB d k t)) ∧ w = w' := by
  have c1 := hD.cell hk
  obtain ⟨x1, x2⟩ := hd k hk
  have hp := pin_tmod (d := d) (k := k) (t := t) x1 x2
  go_enter Tryd.func72, Tryd.ntmps72
  go_wp2
  go_ret
  exact ⟨rfl, rfl⟩
theorem has_any (k t : Nat) (d : Nat → Int) (w : World) (hk : k < 96) (ht : t < 32) (hd : DWF d) :
    Calls Tryd.prog 55 #[.agg (da d), .int .i64 k, .int .i64 t] w (Says (pinB d k t) w) := by
  have hb0 : Below w.heap.size w (w.alloc (.cells (da d) 31)) := (Below.refl _ _).alloc (Nat.le_refl _) _
  have hD : Dr (w.alloc (.cells (da d) 31)) w.heap.size 31 d := heap_new' _ _ _ rfl
  have c1 := hD.cell hk
  obtain ⟨x1, x2⟩ := hd k hk
  have hp := pin_and (d := d) (k := k) (t := t) x1 x2
  go_enter Tryd.func55, Tryd.ntmps55
  go_wp2
  go_ret
  exact ⟨rfl, hb0⟩
theorem hasStep_any (s x : Int) (A : Option Addr) (n c : Nat) (w : World) (hs : -32768 ≤ s ∧ s ≤ 32767) :
    Calls Tryd.prog 53 #[.agg #[.int .i64 s, .slice A n c], .int .i64 x] w (Says (inB x 0 (s - 1)) w) := by
  have hb0 : Below w.heap.size w (w.alloc (.cells #[.int .i64 s, .slice A n c] 64)) := (Below.refl _ _).alloc (Nat.le_refl _) _
  obtain ⟨h1, h2⟩ := hs
  go_enter Tryd.func53, Tryd.ntmps53
  go_wp2_with (go_at_call 49; refine (within_any _ _ _ _).mono ?_; rintro e w' ⟨rfl, rfl⟩)
  go_ret
  exact ⟨rfl, hb0⟩
theorem hasTrack_any (s y : Int) (A : Option Addr) (n c : Nat) (w : World) (hn : n ≤ 1048576) :
    Calls Tryd.prog 54 #[.agg #[.int .i64 s, .slice A n c], .int .i64 y] w (Says (inB y 0 ((n : Int) - 1)) w) := by
  have hb0 : Below w.heap.size w (w.alloc (.cells #[.int .i64 s, .slice A n c] 64)) := (Below.refl _ _).alloc (Nat.le_refl _) _
  have HT := fun W => tracks_any A n c hn W
  go_enter Tryd.func54, Tryd.ntmps54
  go_wp2_with (first | (go_at_call 50; with_reducible refine (HT _).mono ?_; rintro e w' ⟨rfl, rfl⟩) | (go_at_call 49; refine (within_any _ _ _ _).mono ?_; rintro e w' ⟨rfl, rfl⟩))
  go_ret
  exact ⟨rfl, hb0⟩

/-- HasPin's answer -/
def hasB (s : Int) (l : List (Int × Int)) (d : Nat → Int) (x y : Int) : Bool := askB s l d && plB s l.length x y && pinB d x.toNat y.toNat
def hasC (s : Int) (l : List (Int × Int)) (d : Nat → Int) (x y : Int) : Int := cod3 (askB s l d) (plB s l.length x y)
theorem ask_all {s : Int} {l : List (Int × Int)} {d : Nat → Int} (h : askB s l d = true) : (2 ≤ s ∧ s ≤ 96) ∧ (1 ≤ l.length ∧ l.length ≤ 24) ∧ HG s l l.length ∧ drB s l.length d = true := by
  simp only [askB, Bool.and_eq_true] at h
  have := frB_all h.1
  exact ⟨this.1, this.2.1, this.2.2, h.2⟩
end Go.Proofs.YtncdgjaadlpncaaDoor
namespace Go.Proofs.YtncdgjaadlpncaaDoor
open Go.RowKit

/-- how many bits are set -/
def pc (x : Nat) : Nat := if h : x = 0 then 0 else x % 2 + pc (x / 2)
termination_by x
decreasing_by omega
theorem pc_zero : pc 0 = 0 := by unfold pc; simp
theorem pc_step (x : Nat) : pc x = x % 2 + pc (x / 2) := by
  by_cases h : x = 0
  · subst h; simp [pc_zero]
  · conv => lhs; unfold pc
    rw [dif_neg h]
theorem pc_le (x : Nat) : pc x ≤ x := by
  induction x using Nat.strongRecOn with
  | ind x ih =>
    by_cases h : x = 0
    · subst h; simp [pc_zero]
    · rw [pc_step]
      have := ih (x / 2) (by omega)
      omega
theorem pc_byte (a b : Nat) (hb : b < 256) : pc (256 * a + b) = pc a + pc b := by
  have step : ∀ (n m c : Nat), pc (2 * n * m + c) = c % 2 + pc (n * m + c / 2) := by
    intro n m c
    rw [pc_step]
    have h1 : (2 * n * m + c) % 2 = c % 2 := by rw [Nat.mul_assoc]; omega
    have h2 : (2 * n * m + c) / 2 = n * m + c / 2 := by rw [Nat.mul_assoc]; omega
    rw [h1, h2]
  have e : ∀ n c, pc (256 * n + c) = c % 2 + (c / 2 % 2 + (c / 2 / 2 % 2 + (c / 2 / 2 / 2 % 2 + (c / 2 / 2 / 2 / 2 % 2 + (c / 2 / 2 / 2 / 2 / 2 % 2 + (c / 2 / 2 / 2 / 2 / 2 / 2 % 2 + (c / 2 / 2 / 2 / 2 / 2 / 2 / 2 % 2 + pc (n + c / 2 / 2 / 2 / 2 / 2 / 2 / 2 / 2)))))))) := by
    intro n c
    rw [step 128 n c, step 64 n, step 32 n, step 16 n, step 8 n, step 4 n, step 2 n, step 1 n, Nat.one_mul]
  have e0 := e a b
  have e1 := e 0 b
  have hz : b / 2 / 2 / 2 / 2 / 2 / 2 / 2 / 2 = 0 := by omega
  rw [hz] at e0 e1
  rw [Nat.mul_zero, Nat.zero_add, Nat.zero_add, pc_zero] at e1
  rw [Nat.add_zero] at e0
  omega

/-- the bits of a byte -/
def pb (v : Nat) : Nat := v % 2 + (v / 2 % 2 + (v / 4 % 2 + (v / 8 % 2 + (v / 16 % 2 + (v / 32 % 2 + (v / 64 % 2 + v / 128 % 2))))))
theorem pc_pb (v : Nat) (h : v < 256) : pc v = pb v := by
  rw [pc_step v, pc_step (v / 2), pc_step (v / 2 / 2), pc_step (v / 2 / 2 / 2), pc_step (v / 2 / 2 / 2 / 2), pc_step (v / 2 / 2 / 2 / 2 / 2), pc_step (v / 2 / 2 / 2 / 2 / 2 / 2), pc_step (v / 2 / 2 / 2 / 2 / 2 / 2 / 2), show v / 2 / 2 / 2 / 2 / 2 / 2 / 2 / 2 = 0 by omega, pc_zero]
  unfold pb
  omega
theorem pb_le (v : Nat) : pb v ≤ 8 := by unfold pb; omega
def tabL : List Nat := (List.range 256).map pb
theorem tab_get (S : ByteArray) (hS : S.data.toList.map UInt8.toNat = tabL) (v : Nat) (hv : v < 256) : ∃ b, S[v]? = some b ∧ b.toNat = pc v := by
  have hl : S.data.toList.length = 256 := by have := congrArg List.length hS; simpa [tabL] using this
  have h1 : v < S.data.toList.length := by omega
  have h2 : v < S.size := by simpa using h1
  refine ⟨S[v], getElem?_pos S v h2, ?_⟩
  have h3 : (S.data.toList.map UInt8.toNat)[v]? = some (pb v) := by rw [hS]; simp [tabL, hv]
  rw [pc_pb v hv]
  rw [List.getElem?_map, List.getElem?_eq_getElem h1] at h3
  show S.data[v].toNat = pb v
  simpa using h3
theorem quiet_index {P : Program} {o : Oper} {a : Act} {C : World → Prop} {K : Act → Prop} (ty : TypeId) (x y : Operand) (ho : o.op = .index ty x y) (ht : P.underlying ty = some .string)
    (S : ByteArray) (hx : a.eval x = .string S) (v' : Int) (hy : a.eval y = .int .u32 v') (hS : S.data.toList.map UInt8.toNat = tabL) (v : Nat) (hv : v < 256) (hvv : v' = (v : Int))
    (h : K (a.put o.dst (.int .u8 (pc v : Nat)))) : o.quiet P a C K := by
  obtain ⟨b, hb, hbb⟩ := tab_get S hS v hv
  refine ⟨.int .u8 (pc v : Nat), fun w hw => ?_, h⟩
  subst hvv
  unfold Oper.quietAt execOp
  have hrun : (Instr.index ty (.string S) (.int .u32 v)).run P w = .ok (.int .u8 (pc v : Nat)) w := by
    simp [Instr.index, asIntOf, run_underlying ht, hb, hbb]
  simp only [ho, hx, hy, Sem.run_bind, hrun, Result.andThen_ok, Sem.run_pure]
  exact ⟨rfl, rfl⟩

end Go.Proofs.YtncdgjaadlpncaaDoor
namespace Go.Proofs.YtncdgjaadlpncaaDoor
open Go.RowKit

/-- the pins of the first k steps -/
def cntT (d : Nat → Int) : Nat → Nat
  | 0 => 0
  | k + 1 => cntT d k + pc (d k).toNat
theorem cntT_le (d : Nat → Int) (hd : DWF d) : ∀ k, k ≤ 96 → cntT d k ≤ k * 4294967295
  | 0, _ => by simp [cntT]
  | k + 1, h => by
    have h1 := cntT_le d hd k (by omega)
    have h2 := pc_le (d k).toNat
    have h3 := hd k (by omega)
    simp only [cntT]
    omega
def cntI (d : Nat → Int) : Int := (cntT d 96 : Nat)
theorem indexD (d : Nat → Int) (k : Nat) (hk : k < 96) (w : World) : (Instr.index 31 (.agg (da d)) (.int .i64 k)).run Tryd.prog w = .ok (.int .u32 (d k)) w := by
  have h := dv_get d k hk
  simp [Instr.index, asIntOf, run_underlying Tryd.underlying31, go_sem, hk, da, h]
end Go.Proofs.YtncdgjaadlpncaaDoor
namespace Go.Proofs.YtncdgjaadlpncaaDoor
open Go.RowKit

/-- three values come back; what there was is as it was -/
def Trip (x y z : Value) (w : World) (e : Ending) (w' : World) : Prop := e = .returned (.tuple #[x, y, z]) ∧ Below w.heap.size w w'
/-- the pins of p that q has not -/
def mvD (p q : Nat → Int) (i : Nat) : Int := bits .andNot .u32 (p i) (q i)
theorem mv_wf (p q : Nat → Int) : DWF (mvD p q) := fun _ _ => bounds_u32 (wf_bits .andNot .u32 _ _)
def mvI (p q : Nat → Int) : Int := cntI (mvD p q)
def ask2B (s : Int) (l : List (Int × Int)) (a b : Nat → Int) : Bool := frB s l && (drB s l.length a && drB s l.length b)

set_option maxRecDepth 20000 in
set_option maxHeartbeats 1000000 in
theorem minus_any (p q : Nat → Int) (w : World) :
    Calls Tryd.prog 38 #[.agg (da p), .agg (da q)] w fun e w' => e = .returned (.agg (da (mvD p q))) ∧ Below w.heap.size w w' := by
  have hz := zeroDrum
  have hb0 : Below w.heap.size w (((w.alloc (.cells (da p) 31)).alloc (.cells (da q) 31)).alloc (.cells za 31)) := (((Below.refl _ _).alloc (Nat.le_refl _) _).alloc (by simp) _).alloc (by simp; omega) _
  have P0 : Dr (((w.alloc (.cells (da p) 31)).alloc (.cells (da q) 31)).alloc (.cells za 31)) w.heap.size 31 p := heap_old' (heap_old' (heap_new' _ _ _ rfl))
  have Q0 : Dr (((w.alloc (.cells (da p) 31)).alloc (.cells (da q) 31)).alloc (.cells za 31)) (w.heap.size + 1) 31 q := heap_old' (heap_new' _ _ _ (by simp))
  have Z0 : Dr (((w.alloc (.cells (da p) 31)).alloc (.cells (da q) 31)).alloc (.cells za 31)) (w.heap.size + 1 + 1) 31 (fun _ => 0) := by rw [za_eq]; exact heap_new' _ _ _ (by simp)
  have HR0 := hide Q0.range
  have HI := hide (fun k hk => indexD q k hk)
  go_enter Tryd.func38, Tryd.ntmps38
  go_wp2_with (with_reducible refine wpList_load_da rfl 31 (.tmp 3) rfl (w.heap.size + 1) 0 rfl q _ HR0.out Tryd.underlying31 rfl (dInfo q) ?_)
  clear hz
  go_loopw [5, 6, 8] (fun _ _ i wr => ∃ k : Nat, k ≤ 96 ∧ i = .int .i64 k ∧ Dr wr w.heap.size 31 (fun i => if i < k then mvD p q i else p i) ∧ Dr wr (w.heap.size + 1 + 1) 31 (fun _ => 0) ∧ Below w.heap.size w wr)
    (fun _ _ i _ => 96 - (intOf i).toNat)
  case atStart => exact ⟨0, Nat.zero_le _, rfl, P0, Z0, hb0⟩
  case round =>
    obtain ⟨k, hk, rfl, D1, D2, hb⟩ := hrel
    by_cases hlt : k < 96
    · have hx := HI.out k hlt
      have c1 : wr.cell? ⟨w.heap.size, k, none⟩ = some (.int .u32 (p k)) := by rw [D1.cell hlt, if_neg (Nat.lt_irrefl k)]
      have f1 := D1.frozen k
      go_wp2
      go_roundw
      case rel =>
        refine ⟨k + 1, hlt, by go_num, (D1.set k _).congr fun i hi => ?_, D2.other (by omega) _, hb.setCell (p := ⟨_, _, none⟩) (by dsimp only; omega) _⟩
        change (if i = k then mvD p q k else _) = _
        by_cases e : i = k
        · subst e; rw [if_pos rfl, if_pos (by omega)]
        · rw [if_neg e]
          by_cases h2 : i < k
          · rw [if_pos h2, if_pos (by omega)]
          · rw [if_neg h2, if_neg (by omega)]
      case measure => simp [intOf]; omega
    · obtain rfl : k = 96 := by omega
      have R3 : Dr wr w.heap.size 31 (mvD p q) := D1.congr fun i hi => by rw [if_pos hi]
      have HR3 := hide R3.range
      have R2 : wr.heap[w.heap.size + 1 + 1]? = some (.cells (da fun _ => 0) 31 (0, 0)) := D2
      have HR2 := hide R2
      clear R3 R2
      go_wp2_with (first | (with_reducible refine wpList_load_da rfl 31 (.tmp 2) rfl w.heap.size 0 rfl (mvD p q) _ HR3.out Tryd.underlying31 rfl (dInfo (mvD p q)) ?_) | (with_reducible refine wpList_store_row rfl 31 (.tmp 4) (.tmp 19) rfl (w.heap.size + 1 + 1) (da (mvD p q)) rfl rfl 31 _ HR2.out (by rw [da_size]; exact info31) (by rw [da_size, da_size]) (da_one _) ?_))
      exact bodyPost_ret (v := .agg (da (mvD p q))) (results_cell_row Tryd.results38 _ _ (w.heap.size + 1 + 1) 31 (da (mvD p q)) (0, 0) _ (by simp [Act.put]) (setRow_heap _ _ _ _ _ _ HR2.out) Tryd.underlying31 rfl (by rw [da_size]; exact info31)) rfl ⟨rfl, below_setRow hb (by omega)⟩

def mvP (s : Int) (l : List (Int × Int)) (a b p q : Nat → Int) : Int := onlyI (ask2B s l a b) (mvI p q)
theorem machine2_any (s : Int) (A : Option Addr) (c : Nat) (l : List (Int × Int)) (a b : Nat → Int) (w : World) (hA : HA w A l) (hn : l.length ≤ 1048576) (hwf : HWF l) (hs : -32768 ≤ s ∧ s ≤ 32767) (ha : DWF a) (hb : DWF b) (g : Nat) (hg : g = w.heap.size) :
    Calls Tryd.prog 30 #[.agg #[.int .i16 s, .slice A l.length c], .slice (some ⟨g, 0, none⟩) 2 2] (w.alloc (.cells (da a ++ da b) 31)) (Mach s A l.length c (ask2B s l a b) (w.alloc (.cells (da a ++ da b) 31))) := by
  subst hg
  have hb0 : Below w.heap.size w (w.alloc (.cells (da a ++ da b) 31)) := (Below.refl _ _).alloc (Nat.le_refl _) _
  have hd1 : ∀ j, j < [a, b].length → DWF ([a, b].getD j (fun _ => 0)) := by
    intro j hj
    have hj2 : j < 2 := hj
    match j, hj2 with
    | 0, _ => exact ha
    | 1, _ => exact hb
  have h := machineD_any s A c l w.heap.size 2 [a, b] _ (hA.below hb0) hn hwf hs (LD2 w a b) hd1 (by simp)
  have e : (frB s l && drsB s l.length [a, b]) = ask2B s l a b := by simp [drsB, ask2B]
  rw [e] at h
  exact h
end Go.Proofs.YtncdgjaadlpncaaDoor
namespace Go.Proofs.YtncdgjaadlpncaaDoor
open Go.RowKit

/-- the drum with one pin turned -/
def togD (d : Nat → Int) (k t : Nat) (i : Nat) : Int := if i = k then bits .xor .u32 (d k) (2 ^ t % 4294967296) else d i

set_option maxRecDepth 20000 in
set_option maxHeartbeats 1000000 in
theorem toggled_any (k t : Nat) (d : Nat → Int) (w : World) (hk : k < 96) (ht : t < 24) (hd : DWF d) :
    Calls Tryd.prog 56 #[.agg (da d), .int .i64 k, .int .i64 t] w fun e w' => e = .returned (.agg (da (togD d k t))) ∧ Below w.heap.size w w' := by
  have hz := zeroDrum
  have hb0 : Below w.heap.size w ((w.alloc (.cells (da d) 31)).alloc (.cells za 31)) := ((Below.refl _ _).alloc (Nat.le_refl _) _).alloc (by simp) _
  have P0 : Dr ((w.alloc (.cells (da d) 31)).alloc (.cells za 31)) w.heap.size 31 d := heap_old' (heap_new' _ _ _ rfl)
  have Z0 : Dr ((w.alloc (.cells (da d) 31)).alloc (.cells za 31)) (w.heap.size + 1) 31 (fun _ => 0) := by rw [za_eq]; exact heap_new' _ _ _ (by simp)
  go_enter Tryd.func56, Tryd.ntmps56
  go_wp2_with fail
  clear hz
  have hd0 : Below ((w.alloc (.cells (da d) 31)).alloc (.cells za 31)).heap.size ((w.alloc (.cells (da d) 31)).alloc (.cells za 31)) ((w.alloc (.cells (da d) 31)).alloc (.cells za 31)).drew := (Below.refl _ _).drew
  have b1 := hb0.drew
  have P1 := P0.keep hd0
  have Z1 := Z0.keep hd0
  refine wp_region_still_tail 7 (by kernel_rfl) (by kernel_rfl) ?_
  change wpStill _ _ ((w.alloc (.cells (da d) 31)).alloc (.cells za 31)).drew (fun a' => wpList _ _ _ _ a' ((w.alloc (.cells (da d) 31)).alloc (.cells za 31)).drew) _ _
  simp only [List.take_succ_cons, List.take_zero, List.drop_succ_cons, List.drop_zero]
  clear hb0 P0 Z0 hd0
  generalize ((w.alloc (.cells (da d) 31)).alloc (.cells za 31)).drew = wd at *
  have c1 := P1.cell hk
  have f1 := P1.frozen k
  have hki : (k : Int) < 96 := by omega
  repeat still_step
  refine wpStill_nil ?_
  have D1 : Dr (wd.setCell ⟨w.heap.size, k, none⟩ (.int .u32 (bits .xor .u32 (d k) (2 ^ t % 4294967296)))) w.heap.size 31 (togD d k t) := P1.set k _
  have D2 : Dr (wd.setCell ⟨w.heap.size, k, none⟩ (.int .u32 (bits .xor .u32 (d k) (2 ^ t % 4294967296)))) (w.heap.size + 1) 31 (fun _ => 0) := Z1.other (by omega) _
  have b2 : Below w.heap.size w (wd.setCell ⟨w.heap.size, k, none⟩ (.int .u32 (bits .xor .u32 (d k) (2 ^ t % 4294967296)))) := b1.setCell (p := ⟨_, _, none⟩) (by dsimp only; omega) _
  have HR1 := hide D1.range
  have R2 : (wd.setCell ⟨w.heap.size, k, none⟩ (.int .u32 (bits .xor .u32 (d k) (2 ^ t % 4294967296)))).heap[w.heap.size + 1]? = some (.cells (da fun _ => 0) 31 (0, 0)) := D2
  have HR2 := hide R2
  clear D1 R2 D2
  go_wp2_with (first | (with_reducible refine wpList_load_da rfl 31 (.tmp 3) rfl w.heap.size 0 rfl (togD d k t) _ HR1.out Tryd.underlying31 rfl (dInfo (togD d k t)) ?_) | (with_reducible refine wpList_store_row rfl 31 (.tmp 6) (.tmp 14) rfl (w.heap.size + 1) (da (togD d k t)) rfl rfl 31 _ HR2.out (by rw [da_size]; exact info31) (by rw [da_size, da_size]) (da_one _) ?_))
  exact bodyPost_ret (v := .agg (da (togD d k t))) (results_cell_row Tryd.results56 _ _ (w.heap.size + 1) 31 (da (togD d k t)) (0, 0) _ (by simp [Act.put]) (setRow_heap _ _ _ _ _ _ HR2.out) Tryd.underlying31 rfl (by rw [da_size]; exact info31)) rfl ⟨rfl, below_setRow b2 (by omega)⟩

theorem pow_nat (t : Nat) (ht : t < 32) : (2 : Int) ^ t % 4294967296 = ((2 ^ t : Nat) : Int) := by
  have hp : (2 : Nat) ^ t < 2 ^ 32 := Nat.pow_lt_pow_right (by decide) ht
  have h2 : ((2 : Int) ^ t) = ((2 ^ t : Nat) : Int) := by push_cast; rfl
  rw [h2]
  generalize (2 ^ t : Nat) = n at hp ⊢
  omega
theorem ofInt_nat (x : Int) (h : 0 ≤ x) : BitVec.ofInt 32 x = BitVec.ofNat 32 x.toNat := by
  obtain ⟨n, rfl⟩ := Int.eq_ofNat_of_zero_le h
  simp
theorem or_xor {d : Nat → Int} {k t : Nat} (h0 : 0 ≤ d k) (ht : t < 32) (h : pinB d k t = false) : bits .or .u32 (d k) (2 ^ t % 4294967296) = bits .xor .u32 (d k) (2 ^ t % 4294967296) := by
  rw [pow_nat t ht]
  have e : BitVec.ofInt 32 (d k) ||| BitVec.ofInt 32 ((2 ^ t : Nat) : Int) = BitVec.ofInt 32 (d k) ^^^ BitVec.ofInt 32 ((2 ^ t : Nat) : Int) := by
    rw [ofInt_nat _ h0, ofInt_nat _ (Int.natCast_nonneg _)]
    apply BitVec.eq_of_getLsbD_eq
    intro i hi
    simp only [BitVec.getLsbD_or, BitVec.getLsbD_xor, BitVec.getLsbD_ofNat, Int.toNat_natCast, Nat.testBit_two_pow]
    by_cases e : t = i
    · subst e
      have hb : (d k).toNat.testBit t = false := by
        rw [Nat.testBit_eq_decide_div_mod_eq]
        simp only [pinB, decide_eq_false_iff_not] at h
        rw [decide_eq_false_iff_not]
        intro h2
        apply h
        obtain ⟨n, hn⟩ := Int.eq_ofNat_of_zero_le h0
        rw [hn] at h2 ⊢
        simp only [Int.toNat_natCast] at h2
        exact_mod_cast h2
      simp [hb]
    · simp [e]
  show IntKind.u32.wrap ((BitVec.ofInt 32 (d k) ||| BitVec.ofInt 32 ((2 ^ t : Nat) : Int)).toNat : Int) = IntKind.u32.wrap ((BitVec.ofInt 32 (d k) ^^^ BitVec.ofInt 32 ((2 ^ t : Nat) : Int)).toNat : Int)
  rw [e]
theorem not_xor {d : Nat → Int} {k t : Nat} (h0 : 0 ≤ d k) (ht : t < 32) (h : pinB d k t = true) : bits .andNot .u32 (d k) (2 ^ t % 4294967296) = bits .xor .u32 (d k) (2 ^ t % 4294967296) := by
  rw [pow_nat t ht]
  have e : BitVec.ofInt 32 (d k) &&& ~~~ BitVec.ofInt 32 ((2 ^ t : Nat) : Int) = BitVec.ofInt 32 (d k) ^^^ BitVec.ofInt 32 ((2 ^ t : Nat) : Int) := by
    rw [ofInt_nat _ h0, ofInt_nat _ (Int.natCast_nonneg _)]
    apply BitVec.eq_of_getLsbD_eq
    intro i hi
    simp only [BitVec.getLsbD_and, BitVec.getLsbD_not, BitVec.getLsbD_xor, BitVec.getLsbD_ofNat, Int.toNat_natCast, Nat.testBit_two_pow]
    by_cases e : t = i
    · subst e
      have hb : (d k).toNat.testBit t = true := by
        rw [Nat.testBit_eq_decide_div_mod_eq]
        simp only [pinB, decide_eq_true_eq] at h
        rw [decide_eq_true_eq]
        obtain ⟨n, hn⟩ := Int.eq_ofNat_of_zero_le h0
        rw [hn] at h ⊢
        simp only [Int.toNat_natCast]
        exact_mod_cast h
      simp [hb]
    · simp [e, hi]
  show IntKind.u32.wrap ((BitVec.ofInt 32 (d k) &&& ~~~ BitVec.ofInt 32 ((2 ^ t : Nat) : Int)).toNat : Int) = IntKind.u32.wrap ((BitVec.ofInt 32 (d k) ^^^ BitVec.ofInt 32 ((2 ^ t : Nat) : Int)).toNat : Int)
  rw [e]
end Go.Proofs.YtncdgjaadlpncaaDoor
namespace Go.Proofs.YtncdgjaadlpncaaDoor
open Go.RowKit

set_option maxRecDepth 100000 in
set_option maxRecDepth 100000 in
theorem built0 : Tryd.prog.built 31 [] = some za := by kernel_rfl
set_option maxRecDepth 100000 in
set_option maxRecDepth 100000 in
theorem wpList_build0 {ops : Array Oper} {rest : List Oper} {o : Oper} {a : Act} {w : World} {Q : Exit → Act → World → Prop} (hg : o.guard = none) (ho : o.op = .build 31 #[])
    (h : wpList Tryd.prog ops Q rest (a.put o.dst (.agg (da fun _ => 0))) w) : wpList Tryd.prog ops Q (o :: rest) a w := by
  have e : (Tryd.prog.built 31 ((#[] : Array (Nat × Operand)).map fun (i, x) => (i, a.eval x)).toList) = some za := by simpa using built0
  refine wpList_build hg 31 #[] ho (by rw [e]; rfl) ?_
  rw [e, ← za_eq] at *
  exact h
theorem results_dr {fn : Func} {p q : Tmp} (h : fn.results = #[.cell p 31, .tmp q]) (tmps : Array Value) (w : World) (g : Nat) (t : TypeId) (r : Nat → Int) (c : Value)
    (hp : tmps.getD p undef = .pointer (some ⟨g, 0, none⟩)) (hq : tmps.getD q undef = c) (hg : w.heap[g]? = some (.cells (da r) t (0, 0))) :
    (results fn tmps).run Tryd.prog w = .ok (.tuple #[.agg (da r), c]) w := by
  have hp' : tmps[p]?.getD undef = .pointer (some ⟨g, 0, none⟩) := by simpa using hp
  have hq' : tmps[q]?.getD undef = c := by simpa using hq
  simp [results, h, hp', hq', asAddr, run_loadVar_row w g t 31 (da r) (0, 0) _ hg Tryd.underlying31 rfl (by rw [da_size]; exact info31)]
/-- a drum and a code come back; what there was is as it was -/
def DrC (r : Nat → Int) (c : Int) (w : World) (e : Ending) (w' : World) : Prop := e = .returned (.tuple #[.agg (da r), .int .i64 c]) ∧ Below w.heap.size w w'
/-- the code: as HasPin's, and ErrState where the pin is what it must not be -/
def wpC (s : Int) (l : List (Int × Int)) (d : Nat → Int) (x y : Int) (bad : Bool) : Int := if askB s l d then (if plB s l.length x y then (if pinB d x.toNat y.toNat = bad then 4 else 0) else 2) else 1
def wpD (s : Int) (l : List (Int × Int)) (d : Nat → Int) (x y : Int) (bad : Bool) : Nat → Int := if wpC s l d x y bad = 0 then togD d x.toNat y.toNat else fun _ => 0

end Go.Proofs.YtncdgjaadlpncaaDoor
namespace Go.Proofs.YtncdgjaadlpncaaDoor
open Go.RowKit

end Go.Proofs.YtncdgjaadlpncaaDoor
