import Derived.Test.YtcocfnjbgceidaaGai
import Derived.Deep.CutRange
namespace Go.Proofs.Ytcocfnjbgceidaa
open Go.RowKit

theorem wrap32 (n : Int) : IntKind.u32.wrap n = n % 4294967296 := by simp [IntKind.wrap, IntKind.signed, IntKind.bits]
theorem of32 (a : Nat) (ha : a < 4294967296) : (BitVec.ofInt 32 (a : Int)).toNat = a := by
  rw [BitVec.ofInt_natCast, BitVec.toNat_ofNat]; exact Nat.mod_eq_of_lt (by omega)
theorem and_nat (a b : Nat) (ha : a < 4294967296) (hb : b < 4294967296) : bits .and .u32 (a : Int) (b : Int) = ((a &&& b : Nat) : Int) := by
  have hx : a &&& b < 2 ^ 32 := Nat.and_lt_two_pow _ (by omega)
  show IntKind.u32.wrap ((BitVec.ofInt 32 (a : Int) &&& BitVec.ofInt 32 (b : Int)).toNat : Int) = _
  rw [BitVec.toNat_and, of32 a ha, of32 b hb, wrap32]
  omega
theorem or_nat (a b : Nat) (ha : a < 4294967296) (hb : b < 4294967296) : bits .or .u32 (a : Int) (b : Int) = ((a ||| b : Nat) : Int) := by
  have hx : a ||| b < 2 ^ 32 := Nat.or_lt_two_pow (by omega) (by omega)
  show IntKind.u32.wrap ((BitVec.ofInt 32 (a : Int) ||| BitVec.ofInt 32 (b : Int)).toNat : Int) = _
  rw [BitVec.toNat_or, of32 a ha, of32 b hb, wrap32]
  omega
theorem xor_nat (a b : Nat) (ha : a < 4294967296) (hb : b < 4294967296) : bits .xor .u32 (a : Int) (b : Int) = ((a ^^^ b : Nat) : Int) := by
  have hx : a ^^^ b < 2 ^ 32 := Nat.xor_lt_two_pow (by omega) (by omega)
  show IntKind.u32.wrap ((BitVec.ofInt 32 (a : Int) ^^^ BitVec.ofInt 32 (b : Int)).toNat : Int) = _
  rw [BitVec.toNat_xor, of32 a ha, of32 b hb, wrap32]
  omega
theorem pin_bit {d : Nat → Int} {k t : Nat} (h0 : 0 ≤ d k) : pinB d k t = (d k).toNat.testBit t := by
  obtain ⟨n, hn⟩ := Int.eq_ofNat_of_zero_le h0
  rw [Nat.testBit_eq_decide_div_mod_eq, pinB, hn, Int.toNat_natCast]
  apply decide_eq_decide.2
  constructor
  · intro h; exact_mod_cast h
  · intro h; exact_mod_cast h
/-- the bits of all rows ahead of k -/
def orT (d : Nat → Int) : Nat → Nat
  | 0 => 0
  | k + 1 => orT d k ||| (d k).toNat
theorem orT_lt (d : Nat → Int) (hd : DWF d) : ∀ k, k ≤ 96 → orT d k < 4294967296
  | 0, _ => by simp [orT]
  | k + 1, h => by
    have h1 := orT_lt d hd k (by omega)
    have h2 := hd k (by omega)
    have := Nat.or_lt_two_pow (n := 32) (x := orT d k) (y := (d k).toNat) (by omega) (by omega)
    simp only [orT]
    omega
/-- a track has a pin ahead of the step k -/
def useT (d : Nat → Int) (t k : Nat) : Bool := (List.range k).any fun j => pinB d j t
theorem useT_zero (d : Nat → Int) (t : Nat) : useT d t 0 = false := rfl
theorem useT_succ (d : Nat → Int) (t k : Nat) : useT d t (k + 1) = (useT d t k || pinB d k t) := by
  simp [useT, List.range_succ, List.any_append]
theorem useT_hit {d : Nat → Int} {t k : Nat} (hk : k < 96) (h : pinB d k t = true) : useT d t 96 = true := by
  simp only [useT, List.any_eq_true, List.mem_range]
  exact ⟨k, hk, h⟩
theorem orT_bit (d : Nat → Int) (hd : DWF d) (t : Nat) : ∀ k, k ≤ 96 → (orT d k).testBit t = useT d t k
  | 0, _ => by simp [orT, useT]
  | k + 1, h => by
    have h2 := hd k (by omega)
    rw [useT_succ, pin_bit h2.1, ← orT_bit d hd t k (by omega), orT, Nat.testBit_or]
theorem shr_and (x t : Nat) (hx : x < 4294967296) : (bits .and .u32 ((x : Int) / 2 ^ t) 1 == 0) = !x.testBit t := by
  have hb := shr_bounds (x : Int) t (by omega) (by omega)
  rw [and_one32 _ hb.1 hb.2, Nat.testBit_eq_decide_div_mod_eq]
  have e : ((x : Int) / 2 ^ t) = ((x / 2 ^ t : Nat) : Int) := by push_cast; rfl
  rw [e]
  generalize x / 2 ^ t = y
  rcases Nat.mod_two_eq_zero_or_one y with h | h
  · have : (y : Int) % 2 = 0 := by omega
    simp [this, h]
  · have : (y : Int) % 2 = 1 := by omega
    simp [this, h]
theorem and_two (n t : Nat) : n &&& 2 ^ t = if n.testBit t = true then 2 ^ t else 0 := by
  apply Nat.eq_of_testBit_eq
  intro i
  rw [Nat.testBit_and, Nat.testBit_two_pow]
  by_cases e : t = i
  · subst e
    cases h : n.testBit t <;> simp
  · have : decide (t = i) = false := decide_eq_false e
    rw [this, Bool.and_false]
    split
    · rw [Nat.testBit_two_pow, this]
    · simp
theorem and_pow_ne {d : Nat → Int} {k t : Nat} (h0 : 0 ≤ d k) (h1 : d k ≤ 4294967295) (ht : t < 32) : (bits .and .u32 (d k) ((2 : Int) ^ t) != 0) = pinB d k t := by
  rw [show ((2 : Int) ^ t) = ((2 ^ t : Nat) : Int) by push_cast; rfl]
  obtain ⟨n, hn⟩ := Int.eq_ofNat_of_zero_le h0
  have hp : (2 : Nat) ^ t < 2 ^ 32 := Nat.pow_lt_pow_right (by decide) ht
  rw [pin_bit h0, hn, and_nat n (2 ^ t) (by omega) (by omega), Int.toNat_natCast, and_two]
  have hq : 0 < 2 ^ t := Nat.two_pow_pos t
  cases h : n.testBit t
  · simp
  · rw [if_pos rfl]
    simp only [bne_iff_ne, ne_eq]
    omega
def spL (s : Int) (l : List (Int × Int)) (d : Nat → Int) : List Nat := if askB s l d then (List.range l.length).filter fun t => !useT d t 96 else []
def spT (d : Nat → Int) (k : Nat) : List Nat := (List.range k).filter fun t => !useT d t 96
theorem spT_yes {d : Nat → Int} {k : Nat} (h : useT d k 96 = false) : spT d (k + 1) = spT d k ++ [k] := by simp [spT, List.range_succ, List.filter_append, h]
theorem spT_no {d : Nat → Int} {k : Nat} (h : useT d k 96 = true) : spT d (k + 1) = spT d k := by simp [spT, List.range_succ, List.filter_append, h]
theorem spT_len (d : Nat → Int) (k : Nat) : (spT d k).length ≤ k := by simpa [spT] using List.length_filter_le (fun t => !useT d t 96) (List.range k)
theorem spL_len (s : Int) (l : List (Int × Int)) (d : Nat → Int) (hn : l.length ≤ 1048576) : (spL s l d).length ≤ 1048576 := by
  unfold spL
  split
  · exact Nat.le_trans (spT_len d _) hn
  · simp
end Go.Proofs.Ytcocfnjbgceidaa
namespace Go.Proofs.Ytcocfnjbgceidaa
open Go.RowKit

end Go.Proofs.Ytcocfnjbgceidaa
namespace Go.Proofs.Ytcocfnjbgceidaa
open Go.RowKit

set_option maxRecDepth 100000 in
set_option maxRecDepth 100000 in
theorem built0 : Try.prog.built 248 [] = some za := by kernel_rfl
set_option maxRecDepth 100000 in
set_option maxRecDepth 100000 in
theorem wpList_build0 {ops : Array Oper} {rest : List Oper} {o : Oper} {a : Act} {w : World} {Q : Exit → Act → World → Prop} (hg : o.guard = none) (ho : o.op = .build 248 #[])
    (h : wpList Try.prog ops Q rest (a.put o.dst (.agg (da fun _ => 0))) w) : wpList Try.prog ops Q (o :: rest) a w := by
  have e : (Try.prog.built 248 ((#[] : Array (Nat × Operand)).map fun (i, x) => (i, a.eval x)).toList) = some za := by simpa using built0
  refine wpList_build hg 248 #[] ho (by rw [e]; rfl) ?_
  rw [e, ← za_eq] at *
  exact h
theorem results_dr {fn : Func} {p q : Tmp} (h : fn.results = #[.cell p 248, .tmp q]) (tmps : Array Value) (w : World) (g : Nat) (t : TypeId) (r : Nat → Int) (c : Value)
    (hp : tmps.getD p undef = .pointer (some ⟨g, 0, none⟩)) (hq : tmps.getD q undef = c) (hg : w.heap[g]? = some (.cells (da r) t (0, 0))) :
    (results fn tmps).run Try.prog w = .ok (.tuple #[.agg (da r), c]) w := by
  have hp' : tmps[p]?.getD undef = .pointer (some ⟨g, 0, none⟩) := by simpa using hp
  have hq' : tmps[q]?.getD undef = c := by simpa using hq
  simp [results, h, hp', hq', asAddr, run_loadVar_row w g t 248 (da r) (0, 0) _ hg Try.underlying248 rfl (by rw [da_size]; exact info248)]
/-- a drum and a code come back; what there was is as it was -/
def DrC (r : Nat → Int) (c : Int) (w : World) (e : Ending) (w' : World) : Prop := e = .returned (.tuple #[.agg (da r), .int .i64 c]) ∧ Below w.heap.size w w'
/-- the code: as HasPin's, and ErrState where the pin is what it must not be -/
def wpC (s : Int) (l : List (Int × Int)) (d : Nat → Int) (x y : Int) (bad : Bool) : Int := if askB s l d then (if plB s l.length x y then (if pinB d x.toNat y.toNat = bad then 4 else 0) else 2) else 1
def wpD (s : Int) (l : List (Int × Int)) (d : Nat → Int) (x y : Int) (bad : Bool) : Nat → Int := if wpC s l d x y bad = 0 then togD d x.toNat y.toNat else fun _ => 0

end Go.Proofs.Ytcocfnjbgceidaa
namespace Go.Proofs.Ytcocfnjbgceidaa
open Go.RowKit

end Go.Proofs.Ytcocfnjbgceidaa
namespace Go.Proofs.Ytcocfnjbgceidaa
open Go.RowKit
end Go.Proofs.Ytcocfnjbgceidaa
namespace Go.Proofs.Ytcocfnjbgceidaa
open Go.RowKit

section
variable {w0 w1 w2 : World} {s : Int} {A : Option Addr} {n c : Nat} {d : Nat → Int}
theorem range_keep {w w' : World} {b o : Nat} {cs : List Value} (h : w.rangeAt b o cs) (hb : Below w.heap.size w w') : w'.rangeAt b o cs := fun j v hv =>
  (hb.cell (p := ⟨b, o + j, none⟩) (World.block_lt_of_cell? w _ (h j v hv))).trans (h j v hv)
theorem sl_keep (h : w1.cell? ⟨w0.heap.size, 0, none⟩ = some (.int .i16 s) ∧ w1.cell? ⟨w0.heap.size, 1, none⟩ = some (.slice A n c) ∧ w1.rangeAt (w0.heap.size + 1) 0 (dv d) ∧ Below w0.heap.size w0 w1 ∧ w0.heap.size + 2 ≤ w1.heap.size) (hb : Below w1.heap.size w1 w2) :
    w2.cell? ⟨w0.heap.size, 0, none⟩ = some (.int .i16 s) ∧ w2.cell? ⟨w0.heap.size, 1, none⟩ = some (.slice A n c) ∧ w2.rangeAt (w0.heap.size + 1) 0 (dv d) ∧ Below w0.heap.size w0 w2 ∧ w0.heap.size + 2 ≤ w2.heap.size :=
  ⟨(hb.cell (p := ⟨_, _, none⟩) (World.block_lt_of_cell? _ _ h.1)).trans h.1, (hb.cell (p := ⟨_, _, none⟩) (World.block_lt_of_cell? _ _ h.2.1)).trans h.2.1, range_keep h.2.2.1 hb, step_below hb h.2.2.2.1, Nat.le_trans h.2.2.2.2 hb.size⟩
theorem sl_keep' (hb : Below w1.heap.size w1 w2) (h : w1.cell? ⟨w0.heap.size, 0, none⟩ = some (.int .i16 s) ∧ w1.cell? ⟨w0.heap.size, 1, none⟩ = some (.slice A n c) ∧ w1.rangeAt (w0.heap.size + 1) 0 (dv d) ∧ Below w0.heap.size w0 w1 ∧ w0.heap.size + 2 ≤ w1.heap.size) :
    w2.cell? ⟨w0.heap.size, 0, none⟩ = some (.int .i16 s) ∧ w2.cell? ⟨w0.heap.size, 1, none⟩ = some (.slice A n c) ∧ w2.rangeAt (w0.heap.size + 1) 0 (dv d) ∧ Below w0.heap.size w0 w2 ∧ w0.heap.size + 2 ≤ w2.heap.size := sl_keep h hb
theorem al_below (w : World) (o : Obj) : Below w.heap.size w (w.alloc o) := (Below.refl _ _).alloc (Nat.le_refl _) _
theorem sl_alloc {o : Obj} (h : w1.cell? ⟨w0.heap.size, 0, none⟩ = some (.int .i16 s) ∧ w1.cell? ⟨w0.heap.size, 1, none⟩ = some (.slice A n c) ∧ w1.rangeAt (w0.heap.size + 1) 0 (dv d) ∧ Below w0.heap.size w0 w1 ∧ w0.heap.size + 2 ≤ w1.heap.size) :
    (w1.alloc o).cell? ⟨w0.heap.size, 0, none⟩ = some (.int .i16 s) ∧ (w1.alloc o).cell? ⟨w0.heap.size, 1, none⟩ = some (.slice A n c) ∧ (w1.alloc o).rangeAt (w0.heap.size + 1) 0 (dv d) ∧ Below w0.heap.size w0 (w1.alloc o) ∧ w0.heap.size + 2 ≤ (w1.alloc o).heap.size := sl_keep h (al_below _ _)
theorem sl_drewal {o : Obj} (h : w1.cell? ⟨w0.heap.size, 0, none⟩ = some (.int .i16 s) ∧ w1.cell? ⟨w0.heap.size, 1, none⟩ = some (.slice A n c) ∧ w1.rangeAt (w0.heap.size + 1) 0 (dv d) ∧ Below w0.heap.size w0 w1 ∧ w0.heap.size + 2 ≤ w1.heap.size) :
    (w1.alloc o).drew.cell? ⟨w0.heap.size, 0, none⟩ = some (.int .i16 s) ∧ (w1.alloc o).drew.cell? ⟨w0.heap.size, 1, none⟩ = some (.slice A n c) ∧ (w1.alloc o).drew.rangeAt (w0.heap.size + 1) 0 (dv d) ∧ Below w0.heap.size w0 (w1.alloc o).drew ∧ w0.heap.size + 2 ≤ (w1.alloc o).drew.heap.size := sl_keep (sl_alloc h) ((Below.refl _ _).drew)
theorem below_setCells {B g : Nat} {w w' : World} (h : Below B w w') (hg : B ≤ g) (o : Nat) (cs : List Value) : Below B w (w'.setCells g o cs) := by
  induction cs generalizing w' o with
  | nil => exact h
  | cons v r ih => exact ih (h.setCell (p := ⟨g, o, none⟩) hg v) (o + 1)
theorem sl_set {g : Nat} {cs : List Value} (h : w1.cell? ⟨w0.heap.size, 0, none⟩ = some (.int .i16 s) ∧ w1.cell? ⟨w0.heap.size, 1, none⟩ = some (.slice A n c) ∧ w1.rangeAt (w0.heap.size + 1) 0 (dv d) ∧ Below w0.heap.size w0 w1 ∧ w0.heap.size + 2 ≤ w1.heap.size) (hg : w0.heap.size + 2 ≤ g) :
    (w1.setCells g 0 cs).cell? ⟨w0.heap.size, 0, none⟩ = some (.int .i16 s) ∧ (w1.setCells g 0 cs).cell? ⟨w0.heap.size, 1, none⟩ = some (.slice A n c) ∧ (w1.setCells g 0 cs).rangeAt (w0.heap.size + 1) 0 (dv d) ∧ Below w0.heap.size w0 (w1.setCells g 0 cs) ∧ w0.heap.size + 2 ≤ (w1.setCells g 0 cs).heap.size := by
  have hz : w1.heap.size ≤ (w1.setCells g 0 cs).heap.size := (below_setCells (B := 0) (Below.refl _ w1) (Nat.zero_le _) 0 cs).size
  refine ⟨?_, ?_, World.rangeAt_setCells_apart h.2.2.1 g 0 cs (Or.inl (by omega)), below_setCells h.2.2.2.1 (by omega) 0 cs, by have := h.2.2.2.2; omega⟩
  · rw [World.cell?_setCells_out g cs 0 w1 _ (fun h1 _ => absurd h1 (by dsimp only; omega))]; exact h.1
  · rw [World.cell?_setCells_out g cs 0 w1 _ (fun h1 _ => absurd h1 (by dsimp only; omega))]; exact h.2.1
theorem sl_below (h : w1.cell? ⟨w0.heap.size, 0, none⟩ = some (.int .i16 s) ∧ w1.cell? ⟨w0.heap.size, 1, none⟩ = some (.slice A n c) ∧ w1.rangeAt (w0.heap.size + 1) 0 (dv d) ∧ Below w0.heap.size w0 w1 ∧ w0.heap.size + 2 ≤ w1.heap.size) : Below w0.heap.size w0 w1 := h.2.2.2.1
theorem sl_size (h : w1.cell? ⟨w0.heap.size, 0, none⟩ = some (.int .i16 s) ∧ w1.cell? ⟨w0.heap.size, 1, none⟩ = some (.slice A n c) ∧ w1.rangeAt (w0.heap.size + 1) 0 (dv d) ∧ Below w0.heap.size w0 w1 ∧ w0.heap.size + 2 ≤ w1.heap.size) : w0.heap.size + 2 ≤ w1.heap.size := h.2.2.2.2
theorem th_new (w : World) (t : TypeId) : (w.alloc (.cells za t)).there w.heap.size 0 96 := by
  have h : Dr (w.alloc (.cells za t)) w.heap.size t (fun _ => 0) := by rw [za_eq]; exact heap_new' _ _ _ rfl
  intro j hj
  rw [Nat.zero_add, h.cell hj]
  exact ⟨rfl, h.frozen j⟩
theorem th_newd (w : World) (t : TypeId) : ((w.alloc (.cells za t)).drew).there w.heap.size 0 96 := (World.there_drew _ _ _ _).2 (th_new w t)
theorem th_keep {w w' : World} {b o k : Nat} (h : w.there b o k) (hb : Below w.heap.size w w') : w'.there b o k := fun j hj => by
  obtain ⟨h1, h2⟩ := h j hj
  obtain ⟨u, hu⟩ := Option.isSome_iff_exists.1 h1
  have hl := World.block_lt_of_cell? w _ hu
  exact ⟨by rw [(hb.cell (p := ⟨b, o + j, none⟩) hl).trans hu]; rfl, (hb.frozen (p := ⟨b, o + j, none⟩) hl).trans h2⟩
theorem sx_keep {X : World} {b1 b2 : Nat} (h : w1.cell? ⟨b1, 0, none⟩ = some (.int .i16 s) ∧ w1.cell? ⟨b1, 1, none⟩ = some (.slice A n c) ∧ w1.rangeAt b2 0 (dv d) ∧ Below X.heap.size X w1 ∧ X.heap.size ≤ w1.heap.size) (hb : Below w1.heap.size w1 w2) :
    w2.cell? ⟨b1, 0, none⟩ = some (.int .i16 s) ∧ w2.cell? ⟨b1, 1, none⟩ = some (.slice A n c) ∧ w2.rangeAt b2 0 (dv d) ∧ Below X.heap.size X w2 ∧ X.heap.size ≤ w2.heap.size :=
  ⟨(hb.cell (p := ⟨_, _, none⟩) (World.block_lt_of_cell? _ _ h.1)).trans h.1, (hb.cell (p := ⟨_, _, none⟩) (World.block_lt_of_cell? _ _ h.2.1)).trans h.2.1, range_keep h.2.2.1 hb, h.2.2.2.1.trans (hb.mono h.2.2.2.2), Nat.le_trans h.2.2.2.2 hb.size⟩
theorem sx_keep' {X : World} {b1 b2 : Nat} (hb : Below w1.heap.size w1 w2) (h : w1.cell? ⟨b1, 0, none⟩ = some (.int .i16 s) ∧ w1.cell? ⟨b1, 1, none⟩ = some (.slice A n c) ∧ w1.rangeAt b2 0 (dv d) ∧ Below X.heap.size X w1 ∧ X.heap.size ≤ w1.heap.size) :
    w2.cell? ⟨b1, 0, none⟩ = some (.int .i16 s) ∧ w2.cell? ⟨b1, 1, none⟩ = some (.slice A n c) ∧ w2.rangeAt b2 0 (dv d) ∧ Below X.heap.size X w2 ∧ X.heap.size ≤ w2.heap.size := sx_keep h hb
theorem sx_alloc {X : World} {b1 b2 : Nat} {o : Obj} (h : w1.cell? ⟨b1, 0, none⟩ = some (.int .i16 s) ∧ w1.cell? ⟨b1, 1, none⟩ = some (.slice A n c) ∧ w1.rangeAt b2 0 (dv d) ∧ Below X.heap.size X w1 ∧ X.heap.size ≤ w1.heap.size) :
    (w1.alloc o).cell? ⟨b1, 0, none⟩ = some (.int .i16 s) ∧ (w1.alloc o).cell? ⟨b1, 1, none⟩ = some (.slice A n c) ∧ (w1.alloc o).rangeAt b2 0 (dv d) ∧ Below X.heap.size X (w1.alloc o) ∧ X.heap.size ≤ (w1.alloc o).heap.size := sx_keep h (al_below _ _)
theorem sx_drewal {X : World} {b1 b2 : Nat} {o : Obj} (h : w1.cell? ⟨b1, 0, none⟩ = some (.int .i16 s) ∧ w1.cell? ⟨b1, 1, none⟩ = some (.slice A n c) ∧ w1.rangeAt b2 0 (dv d) ∧ Below X.heap.size X w1 ∧ X.heap.size ≤ w1.heap.size) :
    (w1.alloc o).drew.cell? ⟨b1, 0, none⟩ = some (.int .i16 s) ∧ (w1.alloc o).drew.cell? ⟨b1, 1, none⟩ = some (.slice A n c) ∧ (w1.alloc o).drew.rangeAt b2 0 (dv d) ∧ Below X.heap.size X (w1.alloc o).drew ∧ X.heap.size ≤ (w1.alloc o).drew.heap.size := sx_keep (sx_alloc h) ((Below.refl _ _).drew)
theorem sx_set {X : World} {b1 b2 g : Nat} {cs : List Value} (h : w1.cell? ⟨b1, 0, none⟩ = some (.int .i16 s) ∧ w1.cell? ⟨b1, 1, none⟩ = some (.slice A n c) ∧ w1.rangeAt b2 0 (dv d) ∧ Below X.heap.size X w1 ∧ X.heap.size ≤ w1.heap.size) (h1 : b1 < X.heap.size) (h2 : b2 < X.heap.size) (hg : X.heap.size ≤ g) :
    (w1.setCells g 0 cs).cell? ⟨b1, 0, none⟩ = some (.int .i16 s) ∧ (w1.setCells g 0 cs).cell? ⟨b1, 1, none⟩ = some (.slice A n c) ∧ (w1.setCells g 0 cs).rangeAt b2 0 (dv d) ∧ Below X.heap.size X (w1.setCells g 0 cs) ∧ X.heap.size ≤ (w1.setCells g 0 cs).heap.size := by
  have hz : w1.heap.size ≤ (w1.setCells g 0 cs).heap.size := (below_setCells (B := 0) (Below.refl _ w1) (Nat.zero_le _) 0 cs).size
  refine ⟨?_, ?_, World.rangeAt_setCells_apart h.2.2.1 g 0 cs (Or.inl (by omega)), below_setCells h.2.2.2.1 hg 0 cs, by have := h.2.2.2.2; omega⟩
  · rw [World.cell?_setCells_out g cs 0 w1 _ (fun h1 _ => absurd h1 (by dsimp only; omega))]; exact h.1
  · rw [World.cell?_setCells_out g cs 0 w1 _ (fun h1 _ => absurd h1 (by dsimp only; omega))]; exact h.2.1
theorem sx_size {X : World} {b1 b2 : Nat} (h : w1.cell? ⟨b1, 0, none⟩ = some (.int .i16 s) ∧ w1.cell? ⟨b1, 1, none⟩ = some (.slice A n c) ∧ w1.rangeAt b2 0 (dv d) ∧ Below X.heap.size X w1 ∧ X.heap.size ≤ w1.heap.size) : X.heap.size ≤ w1.heap.size := h.2.2.2.2
theorem sx_below {X : World} {b1 b2 : Nat} (h : w1.cell? ⟨b1, 0, none⟩ = some (.int .i16 s) ∧ w1.cell? ⟨b1, 1, none⟩ = some (.slice A n c) ∧ w1.rangeAt b2 0 (dv d) ∧ Below X.heap.size X w1 ∧ X.heap.size ≤ w1.heap.size) : Below X.heap.size X w1 := h.2.2.2.1
theorem range_lt {w : World} {b o : Nat} {v : Value} {cs : List Value} (h : w.rangeAt b o (v :: cs)) : b < w.heap.size := World.block_lt_of_cell? w _ (h 0 v rfl)
theorem dv_lt {w : World} {b : Nat} (h : w.rangeAt b 0 (dv d)) : b < w.heap.size := World.block_lt_of_cell? w _ (h 0 _ (dv_get d 0 (by decide)))
theorem range_below {w w' : World} {b o : Nat} {cs : List Value} (h : w.rangeAt b o cs) (hb : Below w.heap.size w w') : w'.rangeAt b o cs := range_keep h hb
end
end Go.Proofs.Ytcocfnjbgceidaa
