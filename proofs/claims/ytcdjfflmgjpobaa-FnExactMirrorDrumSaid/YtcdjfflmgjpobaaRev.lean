import Derived.Ground.SlgnProg
import Derived.Shelf.SlicesE.Reverse
import Derived.Test.YtcdjfflmgjpobaaTui
namespace Go.Proofs.Ytcdjfflmgjpobaa
open Go.RowKit Go.Shelf

/-- slices.Reverse' facts at this program, for the contract of whatever element type -/
def revRen : Go.Shelf.Ren := ⟨fun | 35 => 29 | n => n, fun | 22 => 62 | 23 => 26 | 3 => 3 | 4 => 4 | 0 => 0 | n => n, fun | n => n⟩
theorem revLays : Go.Proofs.SlLaysE.n35 Try.prog revRen := {
  mixed := by kernel_rfl
  f35 := ⟨Try.f29.name, by decide, Try.func29.trans (congrArg some (by kernel_rfl))⟩
  t0 := Try.underlying0
  a0 := Try.isAgg0
  z0 := Try.sizeOf0
  v0 := Try.zeroValue0
  t3 := Try.underlying3
  a3 := Try.isAgg3
  z3 := Try.sizeOf3
  v3 := Try.zeroValue3
  t4 := Try.underlying4
  a4 := Try.isAgg4
  z4 := Try.sizeOf4
  v4 := Try.zeroValue4
  t22 := Try.underlying62
  a22 := Try.isAgg62
  z22 := Try.sizeOf62
  v22 := Try.zeroValue62
  a23 := Try.isAgg26
  z23 := Try.sizeOf26 }
/-- the first S rows the other way round -/
def revD (S : Nat) (d : Nat → Int) (i : Nat) : Int := if i < S then d (S - 1 - i) else d i
def rowsS (S : Nat) (d : Nat → Int) : List Int := (List.range S).map d
theorem rows_len (S : Nat) (d : Nat → Int) : (rowsS S d).length = S := by simp [rowsS]
theorem rows_get {S i : Nat} (d : Nat → Int) (h : i < S) : (rowsS S d)[i]? = some (d i) := by simp [rowsS, h]
theorem rows_rev {S i : Nat} (d : Nat → Int) (h : i < S) : (rowsS S d).reverse[i]? = some (d (S - 1 - i)) := by
  rw [List.getElem?_reverse (by rw [rows_len]; exact h), rows_len]
  exact rows_get d (by omega)
theorem below_putRow {B g : Nat} {α : Type} [Inhabited α] {w w' : World} {enc : α → Value} {n o : Nat} {a : Array α} (h : Below B w w') (hg : B ≤ g) : Below B w (Sort.putRow enc (Sort.ahead w' n) g o a) :=
  h.trans ⟨rfl, rfl, rfl, by simp [Sort.putRow, Sort.mapBlock], fun k hk => by
    simp only [Sort.putRow, Sort.mapBlock, Sort.heap_ahead, Array.getElem?_modify]
    rw [if_neg (by omega)]⟩
theorem heap_putRow {g k : Nat} {α : Type} [Inhabited α] {w : World} {enc : α → Value} {n o : Nat} {a : Array α} (h : k ≠ g) : (Sort.putRow enc (Sort.ahead w n) g o a).heap[k]? = w.heap[k]? := by
  simp only [Sort.putRow, Sort.mapBlock, Sort.heap_ahead, Array.getElem?_modify]
  rw [if_neg (fun e => h e.symm)]
theorem put_rev (S : Nat) (d : Nat → Int) (hS : S ≤ 96) : Sort.putCells (Value.int .u32) 0 (rowsS S d).reverse.toArray (da d) = da (revD S d) := by
  apply Array.ext_getElem?
  intro i
  simp only [Sort.putCells, Array.getElem?_mapIdx]
  by_cases hi : i < 96
  · have e1 : (da d)[i]? = some (.int .u32 (d i)) := by simpa [da] using dv_get d i hi
    have e2 : (da (revD S d))[i]? = some (.int .u32 (revD S d i)) := by simpa [da] using dv_get (revD S d) i hi
    rw [e1, e2, Option.map_some]
    by_cases h : i < S
    · rw [if_pos ⟨Nat.zero_le _, by simp [rows_len]; exact h⟩]
      have h2 := rows_rev d h
      have h3 : ((rowsS S d).reverse.toArray)[i - 0]! = d (S - 1 - i) := by
        simp only [Nat.sub_zero]
        rw [getElem!_def]
        simp only [List.getElem?_toArray, h2]
      rw [h3, revD, if_pos h]
    · rw [if_neg (fun h' => h (by have := h'.2; simp [rows_len] at this; exact this)), revD, if_neg h]
  · have e1 : (da d)[i]? = none := Array.getElem?_eq_none (by rw [da_size]; omega)
    have e2 : (da (revD S d))[i]? = none := Array.getElem?_eq_none (by rw [da_size]; omega)
    rw [e1, e2]; rfl
/-- what slices.Reverse leaves of a drum's first rows -/
def RevP (g S : Nat) (d : Nat → Int) (w : World) (e : Ending) (w' : World) : Prop := e = .returned (.tuple #[]) ∧ Dr w' g 29 (revD S d) ∧ (∀ k, k ≠ g → w'.heap[k]? = w.heap[k]?) ∧ ∀ B w0, Below B w0 w → B ≤ g → Below B w0 w'
theorem reverse_any (g S c : Nat) (d : Nat → Int) (w : World) (hD : Dr w g 29 d) (hS : S ≤ 96) :
    Calls Try.prog 29 #[.slice (some ⟨g, 0, none⟩) S c] w (RevP g S d w) := by
  have hH : Sort.Holds (Value.int .u32) w g 0 (rowsS S d).toArray := by
    intro j hj
    have hj' : j < S := by simpa [rows_len] using hj
    have h2 := rows_get d hj'
    have h3 : ((rowsS S d).toArray)[j]! = d j := by
      rw [getElem!_def]
      simp only [List.getElem?_toArray, h2]
    rw [Nat.zero_add, h3]
    exact ⟨hD.cell (by omega), hD.frozen j⟩
  have h := AnyE.slices_Reverse (P := Try.prog) (ρ := revRen) revLays (Value.int .u32) (fun _ => rfl) g 0 c (rowsS S d) w hH (by rw [rows_len]; omega)
  rw [rows_len] at h
  refine Calls.mono h fun e w' ⟨he, n, hw⟩ => ?_
  subst hw
  refine ⟨he, ?_, fun k hk => heap_putRow hk, fun B w0 hb hg => below_putRow hb hg⟩
  have hd := hD
  unfold Dr at hd ⊢
  simp only [Sort.putRow, Sort.mapBlock, Sort.heap_ahead, Array.getElem?_modify, if_true, hd, Option.map_some, Sort.onCells]
  rw [put_rev S d hS]
end Go.Proofs.Ytcdjfflmgjpobaa
