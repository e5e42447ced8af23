import Derived.Test.YtheoopbgbglmdaaDoorGbg
import Derived.Test.YtheoopbgbglmdaaDoorErl
import Derived.Test.YtheoopbgbglmdaaDoorGax
import Derived.Test.YtheoopbgbglmdaaDoorGba
import Derived.Test.YtheoopbgbglmdaaDoorGar
import Derived.Test.YtheoopbgbglmdaaDoorGao
namespace Go.Proofs.YtheoopbgbglmdaaDoor
open Go.RowKit

/-- the drum behind the first k places, each of which must have (b) or not have a pin -/
def amF (zs : List Int) (b : Bool) (d : Nat → Int) : Nat → Option (Nat → Int)
  | 0 => some d
  | k + 1 => match amF zs b d k with
    | none => none
    | some q => if pinB q (zAt zs (k * 2)).toNat (zAt zs (k * 2 + 1)).toNat = b then some (togD q (zAt zs (k * 2)).toNat (zAt zs (k * 2 + 1)).toNat) else none
theorem amF_succ {zs : List Int} {b : Bool} {d q : Nat → Int} {k : Nat} (h : amF zs b d k = some q) : amF zs b d (k + 1) = if pinB q (zAt zs (k * 2)).toNat (zAt zs (k * 2 + 1)).toNat = b then some (togD q (zAt zs (k * 2)).toNat (zAt zs (k * 2 + 1)).toNat) else none := by
  simp only [amF, h]
theorem amF_none {zs : List Int} {b : Bool} {d : Nat → Int} {k : Nat} (h : amF zs b d k = none) : ∀ n, k ≤ n → amF zs b d n = none
  | 0, hn => by
    obtain rfl : k = 0 := by omega
    exact h
  | n + 1, hn => by
    by_cases e : k = n + 1
    · rw [← e]; exact h
    · have := amF_none h n (by omega)
      simp only [amF, this]
theorem amF_wf {zs : List Int} {b : Bool} {d : Nat → Int} (hd : DWF d) : ∀ {k : Nat} {q : Nat → Int}, amF zs b d k = some q → DWF q
  | 0, q, h => by
    simp only [amF, Option.some.injEq] at h
    rw [← h]; exact hd
  | k + 1, q, h => by
    cases hk : amF zs b d k with
    | none => simp only [amF, hk] at h; cases h
    | some q' =>
      rw [amF_succ hk] at h
      split at h
      · simp only [Option.some.injEq] at h
        rw [← h]
        exact tog_wf (amF_wf hd hk) _ _
      · cases h
/-- what toggledAll hands back -/
def TgA (p : Nat → Addr) (r : Option (Nat → Int)) (w : World) (e : Ending) (w' : World) : Prop := (match r with | some q => e = .returned (.tuple #[.agg (da q), .nilIface]) | none => e = .returned (.tuple #[.agg (da fun _ => 0), erV (p 3)])) ∧ Below w.heap.size w w'

end Go.Proofs.YtheoopbgbglmdaaDoor
namespace Go.Proofs.YtheoopbgbglmdaaDoor
open Go.RowKit

theorem own_nil' {w : World} {base : Nat} : w.ownsRow base 2 1 (.slice none 0 0) 0 [] := ⟨rfl, Or.inl ⟨rfl, rfl⟩⟩

end Go.Proofs.YtheoopbgbglmdaaDoor
namespace Go.Proofs.YtheoopbgbglmdaaDoor
open Go.RowKit

/-- the drum and the code of ApplyMoves -/
def amX (s : Int) (l : List (Int × Int)) (d : Nat → Int) (zs1 : List Int) (n1 : Nat) (zs2 : List Int) (n2 : Nat) : (Nat → Int) × Int :=
  if askB s l d then (if thB s l.length zs1 n1 && thB s l.length zs2 n2 then (match amF zs1 true d n1 with | none => (fun _ => 0, 4) | some q => match amF zs2 false q n2 with | none => (fun _ => 0, 4) | some r => (r, 0)) else (fun _ => 0, 2)) else (fun _ => 0, 1)
theorem amX_none {s : Int} {l : List (Int × Int)} {d : Nat → Int} {zs1 zs2 : List Int} {n1 n2 : Nat} (ha : askB s l d = true) (h1 : thB s l.length zs1 n1 = true) (h2 : thB s l.length zs2 n2 = true) (hq : amF zs1 true d n1 = none) : amX s l d zs1 n1 zs2 n2 = (fun _ => 0, 4) := by
  simp [amX, ha, h1, h2, hq]
theorem amX_none2 {s : Int} {l : List (Int × Int)} {d q : Nat → Int} {zs1 zs2 : List Int} {n1 n2 : Nat} (ha : askB s l d = true) (h1 : thB s l.length zs1 n1 = true) (h2 : thB s l.length zs2 n2 = true) (hq : amF zs1 true d n1 = some q) (hr : amF zs2 false q n2 = none) : amX s l d zs1 n1 zs2 n2 = (fun _ => 0, 4) := by
  simp [amX, ha, h1, h2, hq, hr]
theorem amX_some {s : Int} {l : List (Int × Int)} {d q r : Nat → Int} {zs1 zs2 : List Int} {n1 n2 : Nat} (ha : askB s l d = true) (h1 : thB s l.length zs1 n1 = true) (h2 : thB s l.length zs2 n2 = true) (hq : amF zs1 true d n1 = some q) (hr : amF zs2 false q n2 = some r) : amX s l d zs1 n1 zs2 n2 = (r, 0) := by
  simp [amX, ha, h1, h2, hq, hr]
theorem thB_all {s : Int} {m n : Nat} {zs : List Int} (h : thB s m zs n = true) : ∀ k, k < n → plB s m (zAt zs (k * 2)) (zAt zs (k * 2 + 1)) = true := by
  simp only [thB, List.all_eq_true, List.mem_range] at h
  exact h
theorem pow_mod (t : Nat) (ht : t < 32) : (2 : Int) ^ t % 4294967296 = (2 : Int) ^ t := (pow_nat t ht).trans (by push_cast; rfl)
theorem and_pow_eq {d : Nat → Int} {k t : Nat} (h0 : 0 ≤ d k) (h1 : d k ≤ 4294967295) (ht : t < 32) : (bits .and .u32 (d k) ((2 : Int) ^ t) == 0) = !pinB d k t := by
  rw [← and_pow_ne h0 h1 ht]
  simp [bne]

end Go.Proofs.YtheoopbgbglmdaaDoor
namespace Go.Proofs.YtheoopbgbglmdaaDoor
open Go.RowKit

end Go.Proofs.YtheoopbgbglmdaaDoor
namespace Go.Proofs.YtheoopbgbglmdaaDoor
open Go.RowKit

/-- a slice's address, at whatever offset, under which pairs of numbers lie -/
def SO (w : World) (A : Option Addr) (n : Nat) (zs : List Int) : Prop := ∀ k, k < n → ∃ b o, A = some ⟨b, o, none⟩ ∧ b < w.heap.size ∧ w.cell? ⟨b, o + k * 2, none⟩ = some (.int .i64 (zAt zs (k * 2))) ∧ w.cell? ⟨b, o + k * 2 + 1, none⟩ = some (.int .i64 (zAt zs (k * 2 + 1)))
theorem SO.below {w w' : World} {A : Option Addr} {n : Nat} {zs : List Int} (h : SO w A n zs) (hb : Below w.heap.size w w') : SO w' A n zs := fun k hk => by
  obtain ⟨b, o, h1, h2, h3, h4⟩ := h k hk
  exact ⟨b, o, h1, Nat.lt_of_lt_of_le h2 hb.size, (hb.cell (p := ⟨b, _, none⟩) h2).trans h3, (hb.cell (p := ⟨b, _, none⟩) h2).trans h4⟩
def zup (zs : List Int) (k : Nat) : List Int := (List.range zs.length).map fun i => if i < k then zAt zs i else 0
theorem zup_length (zs : List Int) (k : Nat) : (zup zs k).length = zs.length := by simp [zup]
theorem zup_all (zs : List Int) : zup zs zs.length = zs := by
  apply List.ext_getElem?
  intro i
  by_cases h : i < zs.length
  · simp [zup, zAt, h]
  · rw [List.getElem?_eq_none (by rw [zup_length]; omega), List.getElem?_eq_none (by omega)]
theorem zup_set (zs : List Int) (k : Nat) (h : k < zs.length) : (zup zs k).set k (zAt zs k) = zup zs (k + 1) := by
  apply List.ext_getElem?
  intro i
  rw [List.getElem?_set, zup_length]
  by_cases e : k = i
  · subst e
    simp [zup, h]
  · rw [if_neg e]
    by_cases hi : i < zs.length
    · have : (i < k) ↔ (i < k + 1) := by omega
      simp [zup, hi, this]
    · rw [List.getElem?_eq_none (by rw [zup_length]; omega), List.getElem?_eq_none (by rw [zup_length]; omega)]
theorem zup_zero (zs : List Int) (n : Nat) (h : zs.length = n * 2) : icells (zup zs 0) = (madeCells #[.int .i64 0, .int .i64 0] (n * 2)).toList := by
  apply List.ext_getElem?
  intro j
  by_cases hj : j < n * 2
  · have hm : j % 2 = 0 ∨ j % 2 = 1 := by omega
    rcases hm with hm | hm <;> simp [icells, zup, madeCells, h, hj, hm]
  · rw [List.getElem?_eq_none (by rw [icells_length, zup_length]; omega), List.getElem?_eq_none (by simp [madeCells]; omega)]

end Go.Proofs.YtheoopbgbglmdaaDoor
namespace Go.Proofs.YtheoopbgbglmdaaDoor
open Go.ChangeShapes Go.WideShapes Go.ChangeAt Go.RowKit Go.Deep Go.Proofs.YtheoopbgbglmdaaDoor
theorem cellsL : Tryd.prog.cellsOf 107 = 96 := by kernel_rfl
set_option maxRecDepth 100000 in
theorem drum_of {H : Type} {enc : TypeId × Value → H} {W : World} {base b0 : Nat} {r : Reach} {spare : Nat → Bool} {held : Bool} {fuel : Nat} {v : Value} {x : DataW H × List MemPlace}
    (hv : Value.okWide Tryd.prog W r b0 107 v) (h : DataW.trod enc Tryd.prog W base spare held fuel 107 v.cells.toList = some x) :
    ∃ q : Nat → Int, v = .agg (da q) ∧ DWF q := by
  have hv' := hv
  simp only [Value.okWide, Tryd.underlying107] at hv'
  obtain ⟨cs, rfl, hcs, _⟩ := hv'
  rw [cellsL] at hcs
  obtain ⟨xs, m, _, _, _, hl, hel⟩ := DataW.trod_array Tryd.underlying107 h
  have each : ∀ i, i < 96 → ∃ z : Int, cs[i]? = some (.int .u32 z) ∧ (Lit.int .u32 z).wf = true := by
    intro i hi
    have hE := hel i hi
    rw [cellsU, Nat.mul_one, List.getElem?_eq_getElem (by omega)] at hE
    obtain ⟨z, e1, _, hw⟩ := DataW.trod_int Tryd.underlying106 hE
    refine ⟨z, ?_, hw⟩
    have e2 : (((Value.agg cs).cells.toList.drop i).take 1)[0]? = some (.int .u32 z) := by rw [e1]; rfl
    simpa [Value.cells] using e2
  refine ⟨fun i => intOf (cs[i]?.getD undef), ?_, ?_⟩
  · congr 1
    apply Array.ext_getElem?
    intro i
    by_cases hi : i < 96
    · obtain ⟨z, hz, _⟩ := each i hi
      have := dv_get (fun i => intOf (cs[i]?.getD undef)) i hi
      rw [hz]
      simp only [da, List.getElem?_toArray]
      rw [this, hz]
      rfl
    · rw [Array.getElem?_eq_none (by omega), Array.getElem?_eq_none (by rw [da_size]; omega)]
  · intro i hi
    obtain ⟨z, hz, hw⟩ := each i hi
    simp only [hz, Option.getD_some, intOf]
    exact bounds_u32 hw
end Go.Proofs.YtheoopbgbglmdaaDoor
namespace Go.Proofs.YtheoopbgbglmdaaDoor
open Go.ChangeShapes Go.WideShapes Go.ChangeAt Go.RowKit Go.Deep
/-- the seven errors lie somewhere -/
def ErrW (w : World) : Prop := ∃ p, ErrP p w
theorem ErrW.keep {w w' : World} (h : ErrW w) (hb : Below w.heap.size w w') : ErrW w' := let ⟨p, hp⟩ := h; ⟨p, hp.keep hb⟩
theorem cellsI : Tryd.prog.cellsOf 2 = 1 := by kernel_rfl
end Go.Proofs.YtheoopbgbglmdaaDoor
