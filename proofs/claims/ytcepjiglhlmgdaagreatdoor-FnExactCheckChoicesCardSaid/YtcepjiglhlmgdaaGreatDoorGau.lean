import Derived.Test.YtcepjiglhlmgdaaGreatDoorGat
import Derived.StillTailTactics
import Derived.Test.YtcepjiglhlmgdaaGreatDoorGan
namespace Go.Proofs.YtcepjiglhlmgdaaGreatDoor
open Go.RowKit

/-- three values come back; what there was is as it was -/
def Trip (x y z : Value) (w : World) (e : Ending) (w' : World) : Prop := e = .returned (.tuple #[x, y, z]) ∧ Below w.heap.size w w'
/-- the pins of p that q has not -/
def mvD (p q : Nat → Int) (i : Nat) : Int := bits .andNot .u32 (p i) (q i)
theorem mv_wf (p q : Nat → Int) : DWF (mvD p q) := fun _ _ => bounds_u32 (wf_bits .andNot .u32 _ _)
def mvI (p q : Nat → Int) : Int := cntI (mvD p q)
def ask2B (s : Int) (l : List (Int × Int)) (a b : Nat → Int) : Bool := frB s l && (drB s l.length a && drB s l.length b)

def mvP (s : Int) (l : List (Int × Int)) (a b p q : Nat → Int) : Int := onlyI (ask2B s l a b) (mvI p q)
theorem machine2_any (s : Int) (A : Option Addr) (c : Nat) (l : List (Int × Int)) (a b : Nat → Int) (w : World) (hA : HA w A l) (hn : l.length ≤ 1048576) (hwf : HWF l) (hs : -32768 ≤ s ∧ s ≤ 32767) (ha : DWF a) (hb : DWF b) (g : Nat) (hg : g = w.heap.size) :
    Calls Tryz.prog 36 #[.agg #[.int .i16 s, .slice A l.length c], .slice (some ⟨g, 0, none⟩) 2 2] (w.alloc (.cells (da a ++ da b) 53)) (Mach s A l.length c (ask2B s l a b) (w.alloc (.cells (da a ++ da b) 53))) := by
  subst hg
  have hb0 : Below w.heap.size w (w.alloc (.cells (da a ++ da b) 53)) := (Below.refl _ _).alloc (Nat.le_refl _) _
  have hd1 : ∀ j, j < [a, b].length → DWF ([a, b].getD j (fun _ => 0)) := by
    intro j hj
    have hj2 : j < 2 := hj
    match j, hj2 with
    | 0, _ => exact ha
    | 1, _ => exact hb
  have h := machineD_any s A c l w.heap.size 2 [a, b] _ (hA.below hb0) hn hwf hs (LD2 w a b) hd1 (by simp)
  have e : (frB s l && drsB s l.length [a, b]) = ask2B s l a b := by simp [drsB, ask2B]
  rw [e] at h
  exact h
end Go.Proofs.YtcepjiglhlmgdaaGreatDoor
namespace Go.Proofs.YtcepjiglhlmgdaaGreatDoor
open Go.RowKit

/-- the drum with one pin turned -/
def togD (d : Nat → Int) (k t : Nat) (i : Nat) : Int := if i = k then bits .xor .u32 (d k) (2 ^ t % 4294967296) else d i

set_option maxRecDepth 20000 in
set_option maxHeartbeats 1000000 in
theorem toggled_any (k t : Nat) (d : Nat → Int) (w : World) (hk : k < 96) (ht : t < 24) (hd : DWF d) :
    Calls Tryz.prog 67 #[.agg (da d), .int .i64 k, .int .i64 t] w fun e w' => e = .returned (.agg (da (togD d k t))) ∧ Below w.heap.size w w' := by
  have hz := zeroDrum
  have hb0 : Below w.heap.size w ((w.alloc (.cells (da d) 53)).alloc (.cells za 53)) := ((Below.refl _ _).alloc (Nat.le_refl _) _).alloc (by simp) _
  have P0 : Dr ((w.alloc (.cells (da d) 53)).alloc (.cells za 53)) w.heap.size 53 d := heap_old' (heap_new' _ _ _ rfl)
  have Z0 : Dr ((w.alloc (.cells (da d) 53)).alloc (.cells za 53)) (w.heap.size + 1) 53 (fun _ => 0) := by rw [za_eq]; exact heap_new' _ _ _ (by simp)
  go_enter Tryz.func67, Tryz.ntmps67
  go_wp2_with fail
  clear hz
  have hd0 : Below ((w.alloc (.cells (da d) 53)).alloc (.cells za 53)).heap.size ((w.alloc (.cells (da d) 53)).alloc (.cells za 53)) ((w.alloc (.cells (da d) 53)).alloc (.cells za 53)).drew := (Below.refl _ _).drew
  have b1 := hb0.drew
  have P1 := P0.keep hd0
  have Z1 := Z0.keep hd0
  refine wp_region_still_tail 7 (by kernel_rfl) (by kernel_rfl) ?_
  change wpStill _ _ ((w.alloc (.cells (da d) 53)).alloc (.cells za 53)).drew (fun a' => wpList _ _ _ _ a' ((w.alloc (.cells (da d) 53)).alloc (.cells za 53)).drew) _ _
  simp only [List.take_succ_cons, List.take_zero, List.drop_succ_cons, List.drop_zero]
  clear hb0 P0 Z0 hd0
  generalize ((w.alloc (.cells (da d) 53)).alloc (.cells za 53)).drew = wd at *
  have c1 := P1.cell hk
  have f1 := P1.frozen k
  have hki : (k : Int) < 96 := by omega
  repeat still_step
  refine wpStill_nil ?_
  have D1 : Dr (wd.setCell ⟨w.heap.size, k, none⟩ (.int .u32 (bits .xor .u32 (d k) (2 ^ t % 4294967296)))) w.heap.size 53 (togD d k t) := P1.set k _
  have D2 : Dr (wd.setCell ⟨w.heap.size, k, none⟩ (.int .u32 (bits .xor .u32 (d k) (2 ^ t % 4294967296)))) (w.heap.size + 1) 53 (fun _ => 0) := Z1.other (by omega) _
  have b2 : Below w.heap.size w (wd.setCell ⟨w.heap.size, k, none⟩ (.int .u32 (bits .xor .u32 (d k) (2 ^ t % 4294967296)))) := b1.setCell (p := ⟨_, _, none⟩) (by dsimp only; omega) _
  have HR1 := hide D1.range
  have R2 : (wd.setCell ⟨w.heap.size, k, none⟩ (.int .u32 (bits .xor .u32 (d k) (2 ^ t % 4294967296)))).heap[w.heap.size + 1]? = some (.cells (da fun _ => 0) 53 (0, 0)) := D2
  have HR2 := hide R2
  clear D1 R2 D2
  go_wp2_with (first | (with_reducible refine wpList_load_da rfl 53 (.tmp 3) rfl w.heap.size 0 rfl (togD d k t) _ HR1.out Tryz.underlying53 rfl (dInfo (togD d k t)) ?_) | (with_reducible refine wpList_store_row rfl 53 (.tmp 6) (.tmp 14) rfl (w.heap.size + 1) (da (togD d k t)) rfl rfl 53 _ HR2.out (by rw [da_size]; exact info53) (by rw [da_size, da_size]) (da_one _) ?_))
  exact bodyPost_ret (v := .agg (da (togD d k t))) (results_cell_row Tryz.results67 _ _ (w.heap.size + 1) 53 (da (togD d k t)) (0, 0) _ (by simp [Act.put]) (setRow_heap _ _ _ _ _ _ HR2.out) Tryz.underlying53 rfl (by rw [da_size]; exact info53)) rfl ⟨rfl, below_setRow b2 (by omega)⟩

theorem pow_nat (t : Nat) (ht : t < 32) : (2 : Int) ^ t % 4294967296 = ((2 ^ t : Nat) : Int) := by
  have hp : (2 : Nat) ^ t < 2 ^ 32 := Nat.pow_lt_pow_right (by decide) ht
  have h2 : ((2 : Int) ^ t) = ((2 ^ t : Nat) : Int) := by push_cast; rfl
  rw [h2]
  generalize (2 ^ t : Nat) = n at hp ⊢
  omega
theorem ofInt_nat (x : Int) (h : 0 ≤ x) : BitVec.ofInt 32 x = BitVec.ofNat 32 x.toNat := by
  obtain ⟨n, rfl⟩ := Int.eq_ofNat_of_zero_le h
  simp
theorem or_xor {d : Nat → Int} {k t : Nat} (h0 : 0 ≤ d k) (ht : t < 32) (h : pinB d k t = false) : bits .or .u32 (d k) (2 ^ t % 4294967296) = bits .xor .u32 (d k) (2 ^ t % 4294967296) := by
  rw [pow_nat t ht]
  have e : BitVec.ofInt 32 (d k) ||| BitVec.ofInt 32 ((2 ^ t : Nat) : Int) = BitVec.ofInt 32 (d k) ^^^ BitVec.ofInt 32 ((2 ^ t : Nat) : Int) := by
    rw [ofInt_nat _ h0, ofInt_nat _ (Int.natCast_nonneg _)]
    apply BitVec.eq_of_getLsbD_eq
    intro i hi
    simp only [BitVec.getLsbD_or, BitVec.getLsbD_xor, BitVec.getLsbD_ofNat, Int.toNat_natCast, Nat.testBit_two_pow]
    by_cases e : t = i
    · subst e
      have hb : (d k).toNat.testBit t = false := by
        rw [Nat.testBit_eq_decide_div_mod_eq]
        simp only [pinB, decide_eq_false_iff_not] at h
        rw [decide_eq_false_iff_not]
        intro h2
        apply h
        obtain ⟨n, hn⟩ := Int.eq_ofNat_of_zero_le h0
        rw [hn] at h2 ⊢
        simp only [Int.toNat_natCast] at h2
        exact_mod_cast h2
      simp [hb]
    · simp [e]
  show IntKind.u32.wrap ((BitVec.ofInt 32 (d k) ||| BitVec.ofInt 32 ((2 ^ t : Nat) : Int)).toNat : Int) = IntKind.u32.wrap ((BitVec.ofInt 32 (d k) ^^^ BitVec.ofInt 32 ((2 ^ t : Nat) : Int)).toNat : Int)
  rw [e]
theorem not_xor {d : Nat → Int} {k t : Nat} (h0 : 0 ≤ d k) (ht : t < 32) (h : pinB d k t = true) : bits .andNot .u32 (d k) (2 ^ t % 4294967296) = bits .xor .u32 (d k) (2 ^ t % 4294967296) := by
  rw [pow_nat t ht]
  have e : BitVec.ofInt 32 (d k) &&& ~~~ BitVec.ofInt 32 ((2 ^ t : Nat) : Int) = BitVec.ofInt 32 (d k) ^^^ BitVec.ofInt 32 ((2 ^ t : Nat) : Int) := by
    rw [ofInt_nat _ h0, ofInt_nat _ (Int.natCast_nonneg _)]
    apply BitVec.eq_of_getLsbD_eq
    intro i hi
    simp only [BitVec.getLsbD_and, BitVec.getLsbD_not, BitVec.getLsbD_xor, BitVec.getLsbD_ofNat, Int.toNat_natCast, Nat.testBit_two_pow]
    by_cases e : t = i
    · subst e
      have hb : (d k).toNat.testBit t = true := by
        rw [Nat.testBit_eq_decide_div_mod_eq]
        simp only [pinB, decide_eq_true_eq] at h
        rw [decide_eq_true_eq]
        obtain ⟨n, hn⟩ := Int.eq_ofNat_of_zero_le h0
        rw [hn] at h ⊢
        simp only [Int.toNat_natCast]
        exact_mod_cast h
      simp [hb]
    · simp [e, hi]
  show IntKind.u32.wrap ((BitVec.ofInt 32 (d k) &&& ~~~ BitVec.ofInt 32 ((2 ^ t : Nat) : Int)).toNat : Int) = IntKind.u32.wrap ((BitVec.ofInt 32 (d k) ^^^ BitVec.ofInt 32 ((2 ^ t : Nat) : Int)).toNat : Int)
  rw [e]
end Go.Proofs.YtcepjiglhlmgdaaGreatDoor
namespace Go.Proofs.YtcepjiglhlmgdaaGreatDoor
open Go.RowKit

set_option maxRecDepth 100000 in
set_option maxRecDepth 100000 in
theorem built0 : Tryz.prog.built 53 [] = some za := by kernel_rfl
set_option maxRecDepth 100000 in
set_option maxRecDepth 100000 in
theorem wpList_build0 {ops : Array Oper} {rest : List Oper} {o : Oper} {a : Act} {w : World} {Q : Exit → Act → World → Prop} (hg : o.guard = none) (ho : o.op = .build 53 #[])
    (h : wpList Tryz.prog ops Q rest (a.put o.dst (.agg (da fun _ => 0))) w) : wpList Tryz.prog ops Q (o :: rest) a w := by
  have e : (Tryz.prog.built 53 ((#[] : Array (Nat × Operand)).map fun (i, x) => (i, a.eval x)).toList) = some za := by simpa using built0
  refine wpList_build hg 53 #[] ho (by rw [e]; rfl) ?_
  rw [e, ← za_eq] at *
  exact h
theorem results_dr {fn : Func} {p q : Tmp} (h : fn.results = #[.cell p 53, .tmp q]) (tmps : Array Value) (w : World) (g : Nat) (t : TypeId) (r : Nat → Int) (c : Value)
    (hp : tmps.getD p undef = .pointer (some ⟨g, 0, none⟩)) (hq : tmps.getD q undef = c) (hg : w.heap[g]? = some (.cells (da r) t (0, 0))) :
    (results fn tmps).run Tryz.prog w = .ok (.tuple #[.agg (da r), c]) w := by
  have hp' : tmps[p]?.getD undef = .pointer (some ⟨g, 0, none⟩) := by simpa using hp
  have hq' : tmps[q]?.getD undef = c := by simpa using hq
  simp [results, h, hp', hq', asAddr, run_loadVar_row w g t 53 (da r) (0, 0) _ hg Tryz.underlying53 rfl (by rw [da_size]; exact info53)]
/-- a drum and a code come back; what there was is as it was -/
def DrC (r : Nat → Int) (c : Int) (w : World) (e : Ending) (w' : World) : Prop := e = .returned (.tuple #[.agg (da r), .int .i64 c]) ∧ Below w.heap.size w w'
/-- the code: as HasPin's, and ErrState where the pin is what it must not be -/
def wpC (s : Int) (l : List (Int × Int)) (d : Nat → Int) (x y : Int) (bad : Bool) : Int := if askB s l d then (if plB s l.length x y then (if pinB d x.toNat y.toNat = bad then 4 else 0) else 2) else 1
def wpD (s : Int) (l : List (Int × Int)) (d : Nat → Int) (x y : Int) (bad : Bool) : Nat → Int := if wpC s l d x y bad = 0 then togD d x.toNat y.toNat else fun _ => 0

end Go.Proofs.YtcepjiglhlmgdaaGreatDoor
namespace Go.Proofs.YtcepjiglhlmgdaaGreatDoor
open Go.RowKit

end Go.Proofs.YtcepjiglhlmgdaaGreatDoor
namespace Go.Proofs.YtcepjiglhlmgdaaGreatDoor
open Go.RowKit
end Go.Proofs.YtcepjiglhlmgdaaGreatDoor
