import Derived.Test.YtehmkablandefaaGreatDoorGal
import Derived.Maps.Views
import Derived.Test.YtehmkablandefaaGreatDoorGak
import Derived.Deep.CutRange
import Derived.StillTailTactics
import Derived.Maps.RangeWalk
import Derived.Test.YtehmkablandefaaGreatDoorGai
import Derived.Sort.KeysCollected
import Derived.Sort.OwnSorted
namespace Go.Proofs.YtehmkablandefaaGreatDoor
open Go.RowKit

theorem wrap32 (n : Int) : IntKind.u32.wrap n = n % 4294967296 := by simp [IntKind.wrap, IntKind.signed, IntKind.bits]
theorem of32 (a : Nat) (ha : a < 4294967296) : (BitVec.ofInt 32 (a : Int)).toNat = a := by
  rw [BitVec.ofInt_natCast, BitVec.toNat_ofNat]; exact Nat.mod_eq_of_lt (by omega)
theorem and_nat (a b : Nat) (ha : a < 4294967296) (hb : b < 4294967296) : bits .and .u32 (a : Int) (b : Int) = ((a &&& b : Nat) : Int) := by
  have hx : a &&& b < 2 ^ 32 := Nat.and_lt_two_pow _ (by omega)
  show IntKind.u32.wrap ((BitVec.ofInt 32 (a : Int) &&& BitVec.ofInt 32 (b : Int)).toNat : Int) = _
  rw [BitVec.toNat_and, of32 a ha, of32 b hb, wrap32]
  omega
theorem or_nat (a b : Nat) (ha : a < 4294967296) (hb : b < 4294967296) : bits .or .u32 (a : Int) (b : Int) = ((a ||| b : Nat) : Int) := by
  have hx : a ||| b < 2 ^ 32 := Nat.or_lt_two_pow (by omega) (by omega)
  show IntKind.u32.wrap ((BitVec.ofInt 32 (a : Int) ||| BitVec.ofInt 32 (b : Int)).toNat : Int) = _
  rw [BitVec.toNat_or, of32 a ha, of32 b hb, wrap32]
  omega
theorem xor_nat (a b : Nat) (ha : a < 4294967296) (hb : b < 4294967296) : bits .xor .u32 (a : Int) (b : Int) = ((a ^^^ b : Nat) : Int) := by
  have hx : a ^^^ b < 2 ^ 32 := Nat.xor_lt_two_pow (by omega) (by omega)
  show IntKind.u32.wrap ((BitVec.ofInt 32 (a : Int) ^^^ BitVec.ofInt 32 (b : Int)).toNat : Int) = _
  rw [BitVec.toNat_xor, of32 a ha, of32 b hb, wrap32]
  omega
theorem pin_bit {d : Nat → Int} {k t : Nat} (h0 : 0 ≤ d k) : pinB d k t = (d k).toNat.testBit t := by
  obtain ⟨n, hn⟩ := Int.eq_ofNat_of_zero_le h0
  rw [Nat.testBit_eq_decide_div_mod_eq, pinB, hn, Int.toNat_natCast]
  apply decide_eq_decide.2
  constructor
  · intro h; exact_mod_cast h
  · intro h; exact_mod_cast h
/-- the bits of all rows ahead of k -/
def orT (d : Nat → Int) : Nat → Nat
  | 0 => 0
  | k + 1 => orT d k ||| (d k).toNat
theorem orT_lt (d : Nat → Int) (hd : DWF d) : ∀ k, k ≤ 96 → orT d k < 4294967296
  | 0, _ => by simp [orT]
  | k + 1, h => by
    have h1 := orT_lt d hd k (by omega)
    have h2 := hd k (by omega)
    have := Nat.or_lt_two_pow (n := 32) (x := orT d k) (y := (d k).toNat) (by omega) (by omega)
    simp only [orT]
    omega
/-- a track has a pin ahead of the step k -/
def useT (d : Nat → Int) (t k : Nat) : Bool := (List.range k).any fun j => pinB d j t
theorem useT_zero (d : Nat → Int) (t : Nat) : useT d t 0 = false := rfl
theorem useT_succ (d : Nat → Int) (t k : Nat) : useT d t (k + 1) = (useT d t k || pinB d k t) := by
  simp [useT, List.range_succ, List.any_append]
theorem useT_hit {d : Nat → Int} {t k : Nat} (hk : k < 96) (h : pinB d k t = true) : useT d t 96 = true := by
  simp only [useT, List.any_eq_true, List.mem_range]
  exact ⟨k, hk, h⟩
theorem orT_bit (d : Nat → Int) (hd : DWF d) (t : Nat) : ∀ k, k ≤ 96 → (orT d k).testBit t = useT d t k
  | 0, _ => by simp [orT, useT]
  | k + 1, h => by
    have h2 := hd k (by omega)
    rw [useT_succ, pin_bit h2.1, ← orT_bit d hd t k (by omega), orT, Nat.testBit_or]
theorem shr_and (x t : Nat) (hx : x < 4294967296) : (bits .and .u32 ((x : Int) / 2 ^ t) 1 == 0) = !x.testBit t := by
  have hb := shr_bounds (x : Int) t (by omega) (by omega)
  rw [and_one32 _ hb.1 hb.2, Nat.testBit_eq_decide_div_mod_eq]
  have e : ((x : Int) / 2 ^ t) = ((x / 2 ^ t : Nat) : Int) := by push_cast; rfl
  rw [e]
  generalize x / 2 ^ t = y
  rcases Nat.mod_two_eq_zero_or_one y with h | h
  · have : (y : Int) % 2 = 0 := by omega
    simp [this, h]
  · have : (y : Int) % 2 = 1 := by omega
    simp [this, h]
theorem and_two (n t : Nat) : n &&& 2 ^ t = if n.testBit t = true then 2 ^ t else 0 := by
  apply Nat.eq_of_testBit_eq
  intro i
  rw [Nat.testBit_and, Nat.testBit_two_pow]
  by_cases e : t = i
  · subst e
    cases h : n.testBit t <;> simp
  · have : decide (t = i) = false := decide_eq_false e
    rw [this, Bool.and_false]
    split
    · rw [Nat.testBit_two_pow, this]
    · simp
theorem and_pow_ne {d : Nat → Int} {k t : Nat} (h0 : 0 ≤ d k) (h1 : d k ≤ 4294967295) (ht : t < 32) : (bits .and .u32 (d k) ((2 : Int) ^ t) != 0) = pinB d k t := by
  rw [show ((2 : Int) ^ t) = ((2 ^ t : Nat) : Int) by push_cast; rfl]
  obtain ⟨n, hn⟩ := Int.eq_ofNat_of_zero_le h0
  have hp : (2 : Nat) ^ t < 2 ^ 32 := Nat.pow_lt_pow_right (by decide) ht
  rw [pin_bit h0, hn, and_nat n (2 ^ t) (by omega) (by omega), Int.toNat_natCast, and_two]
  have hq : 0 < 2 ^ t := Nat.two_pow_pos t
  cases h : n.testBit t
  · simp
  · rw [if_pos rfl]
    simp only [bne_iff_ne, ne_eq]
    omega
def spL (s : Int) (l : List (Int × Int)) (d : Nat → Int) : List Nat := if askB s l d then (List.range l.length).filter fun t => !useT d t 96 else []
def spT (d : Nat → Int) (k : Nat) : List Nat := (List.range k).filter fun t => !useT d t 96
theorem spT_yes {d : Nat → Int} {k : Nat} (h : useT d k 96 = false) : spT d (k + 1) = spT d k ++ [k] := by simp [spT, List.range_succ, List.filter_append, h]
theorem spT_no {d : Nat → Int} {k : Nat} (h : useT d k 96 = true) : spT d (k + 1) = spT d k := by simp [spT, List.range_succ, List.filter_append, h]
theorem spT_len (d : Nat → Int) (k : Nat) : (spT d k).length ≤ k := by simpa [spT] using List.length_filter_le (fun t => !useT d t 96) (List.range k)
theorem spL_len (s : Int) (l : List (Int × Int)) (d : Nat → Int) (hn : l.length ≤ 1048576) : (spL s l d).length ≤ 1048576 := by
  unfold spL
  split
  · exact Nat.le_trans (spT_len d _) hn
  · simp
end Go.Proofs.YtehmkablandefaaGreatDoor
namespace Go.Proofs.YtehmkablandefaaGreatDoor
open Go.RowKit Go.Maps
theorem tog_wfW {d : Nat → Int} (hd : DWF d) (k t : Nat) : DWF (togD d k t) := by
  intro i hi
  unfold togD
  split
  · exact bounds_u32 (wf_bits .xor .u32 _ _)
  · exact hd i hi
theorem zero_wfW : DWF (fun _ => 0) := fun _ _ => by show (0 : Int) ≤ 0 ∧ (0 : Int) ≤ 4294967295; omega
theorem zero_pinW (k t : Nat) : pinB (fun _ => 0) k t = false := by simp [pinB]
theorem tog_pinW {d : Nat → Int} (hd : DWF d) {k t k' t' : Nat} (hk' : k' < 96) (ht : t < 32) : pinB (togD d k t) k' t' = (pinB d k' t' ^^ (decide (k' = k) && decide (t' = t))) := by
  rw [pin_bit (tog_wfW hd k t k' hk').1, pin_bit (hd k' hk').1]
  unfold togD
  by_cases e : k' = k
  · subst e
    rw [if_pos rfl]
    obtain ⟨x, hx⟩ := Int.eq_ofNat_of_zero_le (hd k' hk').1
    have hxb : x < 4294967296 := by have := (hd k' hk').2; omega
    have hp : (2 : Nat) ^ t < 2 ^ 32 := Nat.pow_lt_pow_right (by decide) ht
    rw [pow_nat t ht, hx, xor_nat x (2 ^ t) hxb (by omega), Int.toNat_natCast, Int.toNat_natCast, Nat.testBit_xor, Nat.testBit_two_pow]
    simp [eq_comm]
  · rw [if_neg e]
    simp [e]
/-- the drum with one pin put in -/
def orW (d : Nat → Int) (k t : Nat) (i : Nat) : Int := if i = k then bits .or .u32 (d k) (2 ^ t % 4294967296) else d i
theorem or_wfW {d : Nat → Int} (hd : DWF d) (k t : Nat) : DWF (orW d k t) := by
  intro i hi
  unfold orW
  split
  · exact bounds_u32 (wf_bits .or .u32 _ _)
  · exact hd i hi
theorem or_pinW {d : Nat → Int} (hd : DWF d) {k t k' t' : Nat} (hk' : k' < 96) (ht : t < 32) : pinB (orW d k t) k' t' = (pinB d k' t' || (decide (k' = k) && decide (t' = t))) := by
  rw [pin_bit (or_wfW hd k t k' hk').1, pin_bit (hd k' hk').1]
  unfold orW
  by_cases e : k' = k
  · subst e
    rw [if_pos rfl]
    obtain ⟨x, hx⟩ := Int.eq_ofNat_of_zero_le (hd k' hk').1
    have hxb : x < 4294967296 := by have := (hd k' hk').2; omega
    have hp : (2 : Nat) ^ t < 2 ^ 32 := Nat.pow_lt_pow_right (by decide) ht
    rw [pow_nat t ht, hx, or_nat x (2 ^ t) hxb (by omega), Int.toNat_natCast, Int.toNat_natCast, Nat.testBit_or, Nat.testBit_two_pow]
    simp [eq_comm]
  · rw [if_neg e]
    simp [e]
theorem drum_of_pins {p q : Nat → Int} (hp : DWF p) (hq : DWF q) (h : ∀ i, i < 96 → ∀ t, pinB p i t = pinB q i t) : da p = da q := by
  unfold da
  rw [dv_congr fun i hi => ?_]
  have e : (p i).toNat = (q i).toNat := by
    apply Nat.eq_of_testBit_eq
    intro t
    rw [← pin_bit (hp i hi).1, ← pin_bit (hq i hi).1, h i hi t]
  have h1 := (hp i hi).1
  have h2 := (hq i hi).1
  omega
/-- one of the first k pins is there, and S holds of it -/
def atW (l : List (Int × Int × Int)) (S : Nat → Bool) (k i t : Nat) : Bool := (List.range k).any fun j => decide (wnS l j = i ∧ wnT l j = t) && S j
theorem atW_succ (l : List (Int × Int × Int)) (S : Nat → Bool) (k i t : Nat) : atW l S (k + 1) i t = (atW l S k i t || (decide (wnS l k = i ∧ wnT l k = t) && S k)) := by
  simp [atW, List.range_succ]
theorem atW_none (l : List (Int × Int × Int)) (S : Nat → Bool) (k i t : Nat) (h : ∀ j, j < k → S j = false) : atW l S k i t = false := by
  rw [atW, List.any_eq_false]
  intro j hj
  rw [h j (List.mem_range.1 hj)]
  simp
theorem atW_congr (l : List (Int × Int × Int)) {S S' : Nat → Bool} {k i t : Nat} (h : ∀ j, j < k → (wnS l j = i ∧ wnT l j = t) → S j = S' j) : atW l S k i t = atW l S' k i t := by
  unfold atW
  rw [Bool.eq_iff_iff]
  simp only [List.any_eq_true, List.mem_range, Bool.and_eq_true, decide_eq_true_eq]
  constructor
  · rintro ⟨j, hj, hp, hs⟩
    exact ⟨j, hj, hp, by rw [← h j hj hp]; exact hs⟩
  · rintro ⟨j, hj, hp, hs⟩
    exact ⟨j, hj, hp, by rw [h j hj hp]; exact hs⟩
theorem atW_hit (l : List (Int × Int × Int)) {S : Nat → Bool} {k j i t : Nat} (hj : j < k) (hp : wnS l j = i ∧ wnT l j = t) (hs : S j = true) : atW l S k i t = true := by
  simp only [atW, List.any_eq_true, List.mem_range, Bool.and_eq_true, decide_eq_true_eq]
  exact ⟨j, hj, hp, hs⟩
/-- pins lie on a drum -/
def OnD (l : List (Int × Int × Int)) : Prop := ∀ k, k < l.length → (0 ≤ wnS l k ∧ wnS l k < 96) ∧ (0 ≤ wnT l k ∧ wnT l k < 24)
theorem onD_of {s : Int} {h : List (Int × Int)} {l : List (Int × Int × Int)} {z : List Int} (hw : weB s h l z = true) : OnD l := by
  intro k hk
  simp only [weB, Bool.and_eq_true, frB, inB, decide_eq_true_eq] at hw
  obtain ⟨⟨⟨hf, _⟩, hp⟩, _⟩ := hw
  simp only [pinsB, List.all_eq_true, List.mem_range, Bool.and_eq_true, wnOk, plW, inB, decide_eq_true_eq] at hp
  have := (hp k hk).1.1
  omega
/-- the drum of the first k pins -/
def dwD (l : List (Int × Int × Int)) : Nat → Nat → Int
  | 0 => fun _ => 0
  | k + 1 => orW (dwD l k) (wnS l k).toNat (wnT l k).toNat
set_option maxRecDepth 20000 in
theorem dwD_facts {l : List (Int × Int × Int)} (hl : OnD l) : ∀ k, k ≤ l.length → DWF (dwD l k) ∧ ∀ i, i < 96 → ∀ t, pinB (dwD l k) i t = atW l (fun _ => true) k i t
  | 0, _ => ⟨zero_wfW, fun i _ t => by rw [dwD, zero_pinW]; rfl⟩
  | k + 1, hk => by
    obtain ⟨h1, h2⟩ := dwD_facts hl k (by omega)
    obtain ⟨⟨a1, a2⟩, b1, b2⟩ := hl k hk
    refine ⟨or_wfW h1 _ _, fun i hi t => ?_⟩
    rw [dwD, or_pinW h1 hi (by omega), h2 i hi t, atW_succ, Bool.and_true]
    congr 1
    rw [← Bool.decide_and]
    exact decide_eq_decide.2 (by omega)
end Go.Proofs.YtehmkablandefaaGreatDoor
namespace Go.Proofs.YtehmkablandefaaGreatDoor
open Go.RowKit Go.Maps
theorem szW4 (a b c d a' b' c' d' : Value) : (#[a, b, c, d] : Array Value).size = (#[a', b', c', d'] : Array Value).size := rfl
theorem oneW4 (s : Int) (C : Option Addr) (n q : Nat) (M : Option Nat) (D : Option Addr) (m r : Nat) : (#[.int .i64 s, .slice C n q, .map M, .slice D m r] : Array Value).all (·.oneCell') = true := by simp [Value.oneCell']
theorem own_keepM {w w' : World} {base n q M : Nat} {e : TypeId} {size : Nat} {C : Option Addr} {xs : List Value} (h : w.ownsRow base e size (.slice C n q) n xs) (hC : C.isNone ∨ ∃ gz, C = some ⟨gz, 0, none⟩ ∧ M < gz) (hg : w.grownBy w' (some M)) : w'.ownsRow base e size (.slice C n q) n xs := by
  rcases hC with hc | ⟨gz, rfl, hgz⟩
  · cases C with
    | none => exact h.kept hg (Or.inl rfl)
    | some a => cases hc
  · exact h.kept hg (Or.inr (fun e => by have e' : gz = M := by simpa [Value.ownBlock] using e
                                         omega))
theorem own_keepM' {w : World} {base n g : Nat} {e : TypeId} {size : Nat} {v : Value} {xs : List Value} (h : w.ownsRow base e size v n xs) (hb : g < base ∨ True) (cs : Array Value) (hne : v.ownBlock ≠ some g) : (w.setRow g cs).ownsRow base e size v n xs :=
  h.kept (row := some g) ⟨rfl, rfl, rfl, by simp, fun k _ hk => setRow_other _ _ _ _ (fun e => hk (by rw [e]))⟩ (Or.inr hne)
theorem map_keepR {w : World} {M g n : Nat} {D : DataW Unit} {k : TypeId} {R : Value → Option (DataW Unit × List MemPlace)} (h : w.ownsMap Tryz.prog k R M n D) (hne : g ≠ M) (cs : Array Value) : (w.setRow g cs).ownsMap Tryz.prog k R M n D := by
  obtain ⟨es, clock, h1, h2⟩ := h
  exact ⟨es, clock, (setRow_other _ _ _ _ (fun e => hne e.symm)).trans h1, h2⟩
end Go.Proofs.YtehmkablandefaaGreatDoor
namespace Go.Proofs.YtehmkablandefaaGreatDoor
open Go.RowKit

set_option maxRecDepth 100000 in
set_option maxRecDepth 100000 in
theorem built0 : Tryz.prog.built 43 [] = some za := by kernel_rfl
set_option maxRecDepth 100000 in
set_option maxRecDepth 100000 in
theorem wpList_build0 {ops : Array Oper} {rest : List Oper} {o : Oper} {a : Act} {w : World} {Q : Exit → Act → World → Prop} (hg : o.guard = none) (ho : o.op = .build 43 #[])
    (h : wpList Tryz.prog ops Q rest (a.put o.dst (.agg (da fun _ => 0))) w) : wpList Tryz.prog ops Q (o :: rest) a w := by
  have e : (Tryz.prog.built 43 ((#[] : Array (Nat × Operand)).map fun (i, x) => (i, a.eval x)).toList) = some za := by simpa using built0
  refine wpList_build hg 43 #[] ho (by rw [e]; rfl) ?_
  rw [e, ← za_eq] at *
  exact h
theorem results_dr {fn : Func} {p q : Tmp} (h : fn.results = #[.cell p 43, .tmp q]) (tmps : Array Value) (w : World) (g : Nat) (t : TypeId) (r : Nat → Int) (c : Value)
    (hp : tmps.getD p undef = .pointer (some ⟨g, 0, none⟩)) (hq : tmps.getD q undef = c) (hg : w.heap[g]? = some (.cells (da r) t (0, 0))) :
    (results fn tmps).run Tryz.prog w = .ok (.tuple #[.agg (da r), c]) w := by
  have hp' : tmps[p]?.getD undef = .pointer (some ⟨g, 0, none⟩) := by simpa using hp
  have hq' : tmps[q]?.getD undef = c := by simpa using hq
  simp [results, h, hp', hq', asAddr, run_loadVar_row w g t 43 (da r) (0, 0) _ hg Tryz.underlying43 rfl (by rw [da_size]; exact info43)]
/-- a drum and a code come back; what there was is as it was -/
def DrC (r : Nat → Int) (c : Int) (w : World) (e : Ending) (w' : World) : Prop := e = .returned (.tuple #[.agg (da r), .int .i64 c]) ∧ Below w.heap.size w w'
/-- the code: as HasPin's, and ErrState where the pin is what it must not be -/
def wpC (s : Int) (l : List (Int × Int)) (d : Nat → Int) (x y : Int) (bad : Bool) : Int := if askB s l d then (if plB s l.length x y then (if pinB d x.toNat y.toNat = bad then 4 else 0) else 2) else 1
def wpD (s : Int) (l : List (Int × Int)) (d : Nat → Int) (x y : Int) (bad : Bool) : Nat → Int := if wpC s l d x y bad = 0 then togD d x.toNat y.toNat else fun _ => 0

end Go.Proofs.YtehmkablandefaaGreatDoor
namespace Go.Proofs.YtehmkablandefaaGreatDoor
open Go.RowKit Go.Maps
def dwC (s : Int) (h : List (Int × Int)) (l : List (Int × Int × Int)) (z : List Int) : Int := codeI (weB s h l z)
def dwR (s : Int) (h : List (Int × Int)) (l : List (Int × Int × Int)) (z : List Int) : Nat → Int := if weB s h l z then dwD l l.length else fun _ => 0
theorem or_set {l : List (Int × Int × Int)} {k a t : Nat} (ha : wnS l k = a) (ht : wnT l k = t) (i : Nat) : (if i = a then bits .or .u32 (dwD l k a) (2 ^ t % 4294967296) else dwD l k i) = dwD l (k + 1) i := by
  rw [dwD, orW, ha, ht]
  simp
end Go.Proofs.YtehmkablandefaaGreatDoor
namespace Go.Proofs.YtehmkablandefaaGreatDoor
open Go.RowKit Go.Maps
theorem ranges_below {w w' : World} {k : TypeId} {R : Value → Option (DataW Unit × List MemPlace)} {b r n : Nat} {D : DataW Unit} {left : Lit → Bool} {cnt : Nat} (h : w.ranges Tryz.prog k R b r n D left cnt) (hb : Below w.heap.size w w') : w'.ranges Tryz.prog k R b r n D left cnt := by
  obtain ⟨es, clock, since, seen, c0, h1, h2, h3, h4, h5, hr⟩ := h
  exact ⟨es, clock, since, seen, c0, (hb.block _ (Array.getElem?_eq_some_iff.1 h1).1).trans h1, h2, h3, h4, (hb.block _ (Array.getElem?_eq_some_iff.1 h5).1).trans h5, hr⟩
theorem ranges_setRow {w : World} {k : TypeId} {R : Value → Option (DataW Unit × List MemPlace)} {b r n g : Nat} {D : DataW Unit} {left : Lit → Bool} {cnt : Nat} (h : w.ranges Tryz.prog k R b r n D left cnt) (hb : g ≠ b) (hr' : g ≠ r) (cs : Array Value) : (w.setRow g cs).ranges Tryz.prog k R b r n D left cnt := by
  obtain ⟨es, clock, since, seen, c0, h1, h2, h3, h4, h5, hr⟩ := h
  exact ⟨es, clock, since, seen, c0, (setRow_other _ _ _ _ (fun e => hb e.symm)).trans h1, h2, h3, h4, (setRow_other _ _ _ _ (fun e => hr' e.symm)).trans h5, hr⟩
theorem int_invW : ∀ (v : Value) (y : DataW Unit × List MemPlace), plainElem Tryz.prog 2 v = some y → ∃ c : Int, v = .int .i64 c := by
  intro v y hv
  obtain ⟨c, rfl, _⟩ := plainElem_int_inv Tryz.underlying2 hv
  exact ⟨c, rfl⟩
end Go.Proofs.YtehmkablandefaaGreatDoor
namespace Go.Proofs.YtehmkablandefaaGreatDoor
open Go.RowKit Go.Maps
/-- numbers of a list of worn pins -/
def In8 (T : List (Int × Int × Int)) : Prop := ∀ x ∈ T, (-128 ≤ x.1 ∧ x.1 ≤ 127) ∧ (-128 ≤ x.2.1 ∧ x.2.1 ≤ 127)
theorem ascL_nodup {T : List (Int × Int × Int)} (h : AscL T) : T.Nodup := List.Pairwise.imp (fun {a b} hab e => by subst e; simp [befW] at hab) h
theorem ascL_place {T : List (Int × Int × Int)} (hT : AscL T) {a b : Int × Int × Int} (ha : a ∈ T) (hb : b ∈ T) (h1 : a.1 = b.1) (h2 : a.2.1 = b.2.1) : a = b :=
  ascL_same hT ha hb (by rw [cfW_lt, h1, h2]; simp [befW]) (by rw [cfW_lt, h1, h2]; simp [befW])
theorem own_neW {w : World} {base g n : Nat} {e t : TypeId} {size : Nat} {v : Value} {xs : List Value} {cs : Array Value} (h : w.ownsRow base e size v n xs) (z : Bk w g t cs) (ht : t ≠ e) : v.ownBlock ≠ some g := by
  intro hv
  rcases h.2 with ⟨rfl, _⟩ | ⟨g', cap, cur, rfl, hb, hg, _⟩
  · cases hv
  · have hz : w.heap[g]? = some (.cells cs t (0, 0)) := z
    have e1 : g' = g := by simpa [Value.ownBlock] using hv
    subst e1
    rw [hg] at hz
    simp at hz
    exact ht hz.2.symm
theorem cell_threeW (w : World) (u v x : Value) (t : TypeId) : ∀ j y, ([u, v, x] : List Value)[j]? = some y → (w.alloc (.cells #[u, v, x] t)).cell? ((⟨w.heap.size, 0, none⟩ : Addr).add j) = some y := by
  intro j y hy
  have h := (Bk.new w t #[u, v, x] rfl).cell (i := j) (v := y) (by simpa using hy)
  rw [Addr.add_lit, Nat.zero_add]
  exact h
theorem own_setW {w : World} {base g o n : Nat} {e : TypeId} {size : Nat} {v : Value} {xs : List Value} (h : w.ownsRow base e size v n xs) (hne : v.ownBlock ≠ some g) (u : Value) : (w.setCell ⟨g, o, none⟩ u).ownsRow base e size v n xs :=
  h.kept (row := some g) ⟨rfl, rfl, rfl, by simp, fun k _ hk => heap_setCell_other w ⟨g, o, none⟩ k u (fun e => hk (by rw [e]))⟩ (Or.inr hne)
theorem ranges_setCell {w : World} {k : TypeId} {R : Value → Option (DataW Unit × List MemPlace)} {b r n g o : Nat} {D : DataW Unit} {left : Lit → Bool} {cnt : Nat} (h : w.ranges Tryz.prog k R b r n D left cnt) (hb : g ≠ b) (hr' : g ≠ r) (u : Value) : (w.setCell ⟨g, o, none⟩ u).ranges Tryz.prog k R b r n D left cnt := by
  obtain ⟨es, clock, since, seen, c0, h1, h2, h3, h4, h5, hr⟩ := h
  exact ⟨es, clock, since, seen, c0, (heap_setCell_other w ⟨g, o, none⟩ b u (fun e => hb e.symm)).trans h1, h2, h3, h4, (heap_setCell_other w ⟨g, o, none⟩ r u (fun e => hr' e.symm)).trans h5, hr⟩
theorem w8_wrap {x : Int} (h : -128 ≤ x ∧ x ≤ 127) : IntKind.i8.wrap x = x := by simp [IntKind.wrap, IntKind.bits, IntKind.signed]; omega
end Go.Proofs.YtehmkablandefaaGreatDoor
