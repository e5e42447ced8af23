import Derived.Test.YtcepjiglhlmgdaaGreatDoorFre
import Derived.Test.YtcepjiglhlmgdaaGreatDoorGak
import Derived.ProofKit
import Derived.Deep.SlicePairs
import Derived.OpenShut
import Derived.Maps.Own
import Derived.Maps.OwnOps
import Derived.Laws.BitsLemmas
namespace Go.Proofs.YtcepjiglhlmgdaaGreatDoor
open Go.ChangeShapes Go.WideShapes Go.ChangeAt Go.RowKit Go.Deep Go.Proofs.YtcepjiglhlmgdaaGreatDoor

theorem Tryz.cells90 : Tryz.prog.cellsOf 90 = 2 := by kernel_rfl
theorem Tryz.cells25 : Tryz.prog.cellsOf 25 = 2 := by kernel_rfl
theorem Tryz.cells23 : Tryz.prog.cellsOf 23 = 1 := by kernel_rfl

theorem hams_of {H : Type} {enc : TypeId × Value → H} {W : World} {base : Nat} {spare : Nat → Bool} {held : Bool} {fuel : Nat} {y : Value} {x : DataW H × List MemPlace}
    (h : DataW.trod enc Tryz.prog W base spare held fuel 23 [y] = some x) :
    ∃ (A : Option Addr) (cap : Nat) (l : List (Int × Int)), y = .slice A l.length cap ∧ l.length ≤ maxLen ∧ HA W A l ∧ HWF l := by
  rcases open_slice_pairs Tryz.underlying23 Tryz.underlying90 Tryz.cells90 rfl rfl Tryz.cells57 Tryz.cells57 h with ⟨hcs, _⟩ | ⟨a, len, cap, m, n, V0, V1, D0, D1, P0, P1, hcs, _, hl, hm, hmm, _, hi⟩
  · simp at hcs
    subst hcs
    exact ⟨none, 0, [], rfl, by decide, fun k hk => absurd hk (by simp), fun k hk => absurd hk (by simp)⟩
  · simp at hcs
    subst hcs
    have hlm : len ≤ m := by rw [hmm]; split <;> omega
    have each : ∀ i, i < len → ∃ a0 p0 : Int, V0 i = .int .i8 a0 ∧ V1 i = .int .i8 p0 ∧ (-128 ≤ a0 ∧ a0 ≤ 127) ∧ (-128 ≤ p0 ∧ p0 ≤ 127) := by
      intro i hilt
      obtain ⟨_, _, g0, g1⟩ := hi i (by omega)
      obtain ⟨a0, e0, _, w0⟩ := DataW.trod_int Tryz.underlying57 g0
      obtain ⟨p0, e1, _, w1⟩ := DataW.trod_int Tryz.underlying57 g1
      simp only [List.cons.injEq, and_true] at e0 e1
      exact ⟨a0, p0, e0, e1, bounds_i8 w0, bounds_i8 w1⟩
    refine ⟨some a, cap, (List.range len).map fun i => (intOf (V0 i), intOf (V1 i)), by simp, by simp; omega, ?_, ?_⟩
    · intro k hk
      have hk' : k < len := by simpa using hk
      obtain ⟨a0, p0, e0, e1, _⟩ := each k hk'
      obtain ⟨c0, c1, _⟩ := hi k (by omega)
      obtain ⟨z0, _, _⟩ := hi 0 (by omega)
      obtain ⟨b, off, spot⟩ := a
      have hspot : spot = none := by simpa [Addr.add] using World.cell?_spot z0
      subst hspot
      have hlt := World.block_lt_of_cell? W _ z0
      refine ⟨b, off, rfl, by simpa [Addr.add] using hlt, ?_, ?_⟩
      · rw [Addr.add_lit] at c0
        rw [c0, e0]; simp [hPi, List.getD, hk', e0, intOf]
      · rw [Addr.add_lit] at c1
        rw [← Nat.add_assoc] at c1
        rw [c1, e1]; simp [hRe, List.getD, hk', e1, intOf]
    · intro k hk
      have hk' : k < len := by simpa using hk
      obtain ⟨a0, p0, e0, e1, b0, b1⟩ := each k hk'
      simp [hPi, hRe, List.getD, hk', e0, e1, intOf]
      exact ⟨b0, b1⟩

set_option maxRecDepth 100000 in
theorem frame_of {H : Type} {enc : TypeId × Value → H} {W : World} {base b0 : Nat} {r : Reach} {spare : Nat → Bool} {held : Bool} {fuel : Nat} {v : Value} {x : DataW H × List MemPlace}
    (hv : Value.okWide Tryz.prog W r b0 25 v) (h : DataW.trod enc Tryz.prog W base spare held fuel 25 v.cells.toList = some x) :
    ∃ (s : Int) (A : Option Addr) (cap : Nat) (l : List (Int × Int)), v = .agg #[.int .i16 s, .slice A l.length cap] ∧ l.length ≤ maxLen ∧ HA W A l ∧ HWF l ∧ (-32768 ≤ s ∧ s ≤ 32767) := by
  obtain ⟨cs, rfl, hcs⟩ := okWide_struct Tryz.underlying25 hv
  rw [Tryz.cells25] at hcs
  obtain ⟨y0, y1, n, _, _, h0, h1⟩ := trod_struct2 Tryz.underlying25 h
  obtain ⟨a, b, hab⟩ : ∃ a b, cs = #[a, b] := by
    obtain ⟨ls⟩ := cs
    match ls, hcs with
    | [a, b], _ => exact ⟨a, b, rfl⟩
  subst hab
  simp only [Value.cells, List.drop_zero, Tryz.cells22, Tryz.cells23] at h0 h1
  obtain ⟨s, e0, _, w0⟩ := DataW.trod_int Tryz.underlying22 h0
  obtain ⟨A, cap, l, rfl, hl, hA, hwf⟩ := hams_of h1
  simp at e0
  subst e0
  exact ⟨s, A, cap, l, rfl, hl, hA, hwf, bounds_i16 w0⟩
end Go.Proofs.YtcepjiglhlmgdaaGreatDoor
namespace Go.Proofs.YtcepjiglhlmgdaaGreatDoor
open Go.RowKit Go.Maps

theorem keyTypeD : Tryz.prog.keyType 53 = true := by kernel_rfl
theorem rowD : (53 : TypeId) < Tryz.prog.types.size := of_decide_eq_true (by kernel_rfl)
theorem lawD : Keyed Tryz.prog 53 := Keyed.of_law (deep_law_laid Tryz.laidOut (m := 2) (by omega) rowD (by kernel_rfl) (by kernel_rfl))
theorem cellsD : Tryz.prog.cellsOf 53 = 96 := by kernel_rfl
theorem cellsU : Tryz.prog.cellsOf 51 = 1 := by kernel_rfl
theorem dv_take (d : Nat → Int) (i : Nat) (h : i < 96) : ((dv d).drop (i * 1)).take 1 = [.int .u32 (d i)] := by
  rw [Nat.mul_one]
  apply List.ext_getElem?
  intro j
  cases j with
  | zero => simp [dv_get d i h]
  | succ j => simp [dv_length]; omega
theorem typesD : ∃ d, Tryz.prog.types.size + 1 = d + 1 + 1 := ⟨Tryz.prog.types.size - 1, by have h : (53 : Nat) < Tryz.prog.types.size := rowD; omega⟩
theorem keyLits_drum (q : Nat → Int) (hq : DWF q) (d : Nat) : ∃ L, Tryz.prog.keyLits (d + 1 + 1) 53 (dv q) = some L := by
  have h1 : ∀ i ∈ List.range 96, Tryz.prog.keyLits (d + 1) 51 (((dv q).drop (i * Tryz.prog.cellsOf 51)).take (Tryz.prog.cellsOf 51)) = some [.int .u32 (q i)] := by
    intro i hi
    have hi' : i < 96 := List.mem_range.1 hi
    obtain ⟨a, b⟩ := hq i hi'
    rw [cellsU, dv_take q i hi']
    have hw : (Lit.int .u32 (q i)).wf = true := by simp [Lit.wf, IntKind.min, IntKind.max, IntKind.signed, IntKind.bits]; omega
    simp [Program.keyLits, Tryz.underlying51, hw]
  refine ⟨((List.range 96).map fun i => [.int .u32 (q i)]).flatten, ?_⟩
  unfold Program.keyLits
  rw [Tryz.underlying53]
  simp only [dv_length, cellsD, if_true]
  rw [mapM_all _ (fun i => [Lit.int .u32 (q i)]) _ h1]
  rfl
theorem key_drum (q : Nat → Int) (hq : DWF q) : ∃ s, keyOf Tryz.prog 53 (.agg (da q)) = some (.string s) := by
  obtain ⟨d, hd⟩ := typesD
  have hf : (Value.agg (da q)).formed Tryz.prog 53 = true := by simp [Value.formed, Tryz.underlying53, cellsD, da_size]
  obtain ⟨L, hL⟩ := keyLits_drum q hq d
  refine ⟨keyBytes L, ?_⟩
  unfold keyOf
  rw [hd, Tryz.underlying53]
  simp only [keyTypeD, hf, Bool.and_self, if_true, Value.cells]
  rw [show (da q).toList = dv q from rfl, hL]
  rfl
theorem da_inj {p q : Nat → Int} (h : da p = da q) (i : Nat) (hi : i < 96) : p i = q i := by
  have h1 := dv_get p i hi
  have h2 := dv_get q i hi
  rw [show dv p = dv q from congrArg Array.toList h] at h1
  rw [h1] at h2
  simpa using h2
def sameD (p q : Nat → Int) : Bool := (List.range 96).all fun i => decide (p i = q i)
theorem sameD_iff (p q : Nat → Int) : sameD p q = true ↔ da p = da q := by
  simp only [sameD, List.all_eq_true, List.mem_range, decide_eq_true_eq]
  exact ⟨fun h => by unfold da; rw [dv_congr h], fun h i hi => da_inj h i hi⟩
theorem eqDr (p q : Nat → Int) (hp : DWF p) (hq : DWF q) (w : World) : (Op.equalIn 10000 53 (.agg (da p)) (.agg (da q))).run Tryz.prog w = .ok (sameD p q) w := by
  obtain ⟨s, hs⟩ := key_drum p hp
  obtain ⟨t, ht⟩ := key_drum q hq
  obtain ⟨r, hr, hiff⟩ := run_equal_deep (P := Tryz.prog) w (m := 2) (by omega) (k := 53) (by kernel_rfl) (by kernel_rfl) hs ht
  have e : r = sameD p q := by
    rw [Bool.eq_iff_iff, hiff, sameD_iff]
    constructor
    · intro h
      rw [h] at hs
      have := lawD.inj hs ht
      simp only [Value.agg.injEq] at this
      exact this
    · intro h
      rw [h, ht] at hs
      exact (Option.some.inj hs).symm
  rw [← e]
  exact hr
end Go.Proofs.YtcepjiglhlmgdaaGreatDoor
namespace Go.Proofs.YtcepjiglhlmgdaaGreatDoor
open Go.RowKit Go.Maps

theorem wraps_u32 (n : Int) (h₀ : 0 ≤ n) (h₁ : n < 2 ^ 32) : IntKind.u32.wrap n = n := by
  simp only [IntKind.wrap, IntKind.signed, IntKind.bits]
  simp
  omega
theorem keptI_eq (n : Nat) (hn : n ≤ 24) (x : Int) (h0 : 0 ≤ x) (h1 : x ≤ 4294967295) : keptI n x = x % 2 ^ n := by
  have hp : (2 : Int) ^ n ≤ 2 ^ 24 := by
    have := Nat.pow_le_pow_right (n := 2) (by decide) hn
    exact_mod_cast this
  have hq : (0 : Int) < 2 ^ n := Int.pow_pos (by decide)
  have e : ((2 : Int) ^ n - 1) % 4294967296 = 2 ^ n - 1 := Int.emod_eq_of_lt (by omega) (by omega)
  rw [keptI, e]
  exact bits_mask .u32 32 (by decide) wraps_u32 n (by omega) x h0 (by omega)
theorem keptI_same (n : Nat) (hn : n ≤ 24) (x : Int) (h0 : 0 ≤ x) (h1 : x ≤ 4294967295) : (x = keptI n x) ↔ x / 2 ^ n = 0 := by
  have hq : (0 : Int) < 2 ^ n := Int.pow_pos (by decide)
  rw [keptI_eq n hn x h0 h1]
  have := Int.emod_add_mul_ediv x (2 ^ n)
  constructor
  · intro h
    rw [← h] at this
    have h2 : 2 ^ n * (x / 2 ^ n) = 0 := by omega
    rcases Int.mul_eq_zero.1 h2 with h3 | h3
    · omega
    · exact h3
  · intro h
    rw [h] at this
    simp at this
    exact this.symm
theorem kept_drB (s : Int) (n : Nat) (hn : n ≤ 24) (d : Nat → Int) (hd : DWF d) : sameD d (keptD s n d) = drB s n d := by
  rw [Bool.eq_iff_iff]
  simp only [sameD, drB, List.all_eq_true, List.mem_range, decide_eq_true_eq]
  refine forall_congr' fun i => forall_congr' fun hi => ?_
  obtain ⟨a, b⟩ := hd i hi
  simp only [keptD, stepB, Bool.and_eq_true, Bool.or_eq_true, decide_eq_true_eq]
  by_cases h : (i : Int) < s
  · rw [if_pos h, keptI_same n hn _ a b]
    exact ⟨fun h1 => ⟨h1, Or.inl h⟩, fun h1 => h1.1⟩
  · rw [if_neg h]
    exact ⟨fun h1 => ⟨by rw [h1]; simp, Or.inr h1⟩, fun h1 => by rcases h1.2 with h2 | h2 <;> first | exact absurd h2 h | exact h2⟩
theorem kept_wf (s : Int) (n : Nat) (hn : n ≤ 24) (d : Nat → Int) (hd : DWF d) : DWF (keptD s n d) := by
  intro i hi
  obtain ⟨a, b⟩ := hd i hi
  have hq : (0 : Int) < 2 ^ n := Int.pow_pos (by decide)
  unfold keptD
  split
  · rw [keptI_eq n hn _ a b]
    have h1 := Int.emod_nonneg (d i) (b := 2 ^ n) (by omega)
    have h2 : d i % 2 ^ n ≤ d i := by
      have := Int.emod_add_mul_ediv (d i) (2 ^ n)
      have h3 : 0 ≤ d i / 2 ^ n := Int.ediv_nonneg a (by omega)
      have h4 : 0 ≤ 2 ^ n * (d i / 2 ^ n) := Int.mul_nonneg (by omega) h3
      omega
    omega
  · omega
end Go.Proofs.YtcepjiglhlmgdaaGreatDoor
