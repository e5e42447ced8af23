import Derived.Test.YtmmninlnpnhboaaGreatDoorGbs
import Derived.Test.YtmmninlnpnhboaaGreatDoorGbr
import Derived.Test.YtmmninlnpnhboaaGreatDoorGan
import Derived.Test.YtmmninlnpnhboaaGreatDoorGak
import Derived.Test.YtmmninlnpnhboaaGreatDoorDr7
import Derived.Test.YtmmninlnpnhboaaGreatDoorAch
import Derived.IntWalk
import Derived.Test.YtmmninlnpnhboaaGreatDoorGbb
import Derived.Test.YtmmninlnpnhboaaGreatDoorGaf
import Derived.Deep.RegionHeld3
import Derived.Deep.CutRange
namespace Go.Proofs.YtmmninlnpnhboaaGreatDoor
open Go.RowKit

/-- a slice's address, at whatever offset, under which pairs of numbers lie -/
def SO (w : World) (A : Option Addr) (n : Nat) (zs : List Int) : Prop := ∀ k, k < n → ∃ b o, A = some ⟨b, o, none⟩ ∧ b < w.heap.size ∧ w.cell? ⟨b, o + k * 2, none⟩ = some (.int .i64 (zAt zs (k * 2))) ∧ w.cell? ⟨b, o + k * 2 + 1, none⟩ = some (.int .i64 (zAt zs (k * 2 + 1)))
theorem SO.below {w w' : World} {A : Option Addr} {n : Nat} {zs : List Int} (h : SO w A n zs) (hb : Below w.heap.size w w') : SO w' A n zs := fun k hk => by
  obtain ⟨b, o, h1, h2, h3, h4⟩ := h k hk
  exact ⟨b, o, h1, Nat.lt_of_lt_of_le h2 hb.size, (hb.cell (p := ⟨b, _, none⟩) h2).trans h3, (hb.cell (p := ⟨b, _, none⟩) h2).trans h4⟩
def zup (zs : List Int) (k : Nat) : List Int := (List.range zs.length).map fun i => if i < k then zAt zs i else 0
theorem zup_length (zs : List Int) (k : Nat) : (zup zs k).length = zs.length := by simp [zup]
theorem zup_all (zs : List Int) : zup zs zs.length = zs := by
  apply List.ext_getElem?
  intro i
  by_cases h : i < zs.length
  · simp [zup, zAt, h]
  · rw [List.getElem?_eq_none (by rw [zup_length]; omega), List.getElem?_eq_none (by omega)]
theorem zup_set (zs : List Int) (k : Nat) (h : k < zs.length) : (zup zs k).set k (zAt zs k) = zup zs (k + 1) := by
  apply List.ext_getElem?
  intro i
  rw [List.getElem?_set, zup_length]
  by_cases e : k = i
  · subst e
    simp [zup, h]
  · rw [if_neg e]
    by_cases hi : i < zs.length
    · have : (i < k) ↔ (i < k + 1) := by omega
      simp [zup, hi, this]
    · rw [List.getElem?_eq_none (by rw [zup_length]; omega), List.getElem?_eq_none (by rw [zup_length]; omega)]
theorem zup_zero (zs : List Int) (n : Nat) (h : zs.length = n * 2) : icells (zup zs 0) = (madeCells #[.int .i64 0, .int .i64 0] (n * 2)).toList := by
  apply List.ext_getElem?
  intro j
  by_cases hj : j < n * 2
  · have hm : j % 2 = 0 ∨ j % 2 = 1 := by omega
    rcases hm with hm | hm <;> simp [icells, zup, madeCells, h, hj, hm]
  · rw [List.getElem?_eq_none (by rw [icells_length, zup_length]; omega), List.getElem?_eq_none (by simp [madeCells]; omega)]

end Go.Proofs.YtmmninlnpnhboaaGreatDoor
namespace Go.Proofs.YtmmninlnpnhboaaGreatDoor
open Go.ChangeShapes Go.WideShapes Go.ChangeAt Go.RowKit Go.Deep Go.Proofs.YtmmninlnpnhboaaGreatDoor
theorem cellsL : Tryz.prog.cellsOf 32 = 96 := by kernel_rfl
set_option maxRecDepth 100000 in
theorem drum_of {H : Type} {enc : TypeId × Value → H} {W : World} {base b0 : Nat} {r : Reach} {spare : Nat → Bool} {held : Bool} {fuel : Nat} {v : Value} {x : DataW H × List MemPlace}
    (hv : Value.okWide Tryz.prog W r b0 32 v) (h : DataW.trod enc Tryz.prog W base spare held fuel 32 v.cells.toList = some x) :
    ∃ q : Nat → Int, v = .agg (da q) ∧ DWF q := by
  have hv' := hv
  simp only [Value.okWide, Tryz.underlying32] at hv'
  obtain ⟨cs, rfl, hcs, _⟩ := hv'
  rw [cellsL] at hcs
  obtain ⟨xs, m, _, _, _, hl, hel⟩ := DataW.trod_array Tryz.underlying32 h
  have each : ∀ i, i < 96 → ∃ z : Int, cs[i]? = some (.int .u32 z) ∧ (Lit.int .u32 z).wf = true := by
    intro i hi
    have hE := hel i hi
    rw [cellsU, Nat.mul_one, List.getElem?_eq_getElem (by omega)] at hE
    obtain ⟨z, e1, _, hw⟩ := DataW.trod_int Tryz.underlying31 hE
    refine ⟨z, ?_, hw⟩
    have e2 : (((Value.agg cs).cells.toList.drop i).take 1)[0]? = some (.int .u32 z) := by rw [e1]; rfl
    simpa [Value.cells] using e2
  refine ⟨fun i => intOf (cs[i]?.getD undef), ?_, ?_⟩
  · congr 1
    apply Array.ext_getElem?
    intro i
    by_cases hi : i < 96
    · obtain ⟨z, hz, _⟩ := each i hi
      have := dv_get (fun i => intOf (cs[i]?.getD undef)) i hi
      rw [hz]
      simp only [da, List.getElem?_toArray]
      rw [this, hz]
      rfl
    · rw [Array.getElem?_eq_none (by omega), Array.getElem?_eq_none (by rw [da_size]; omega)]
  · intro i hi
    obtain ⟨z, hz, hw⟩ := each i hi
    simp only [hz, Option.getD_some, intOf]
    exact bounds_u32 hw
end Go.Proofs.YtmmninlnpnhboaaGreatDoor
namespace Go.Proofs.YtmmninlnpnhboaaGreatDoor
open Go.ChangeShapes Go.WideShapes Go.ChangeAt Go.RowKit Go.Deep
/-- the seven errors lie somewhere -/
def ErrW (w : World) : Prop := ∃ p, ErrP p w
theorem ErrW.keep {w w' : World} (h : ErrW w) (hb : Below w.heap.size w w') : ErrW w' := let ⟨p, hp⟩ := h; ⟨p, hp.keep hb⟩
theorem cellsI : Tryz.prog.cellsOf 2 = 1 := by kernel_rfl
end Go.Proofs.YtmmninlnpnhboaaGreatDoor
namespace Go.Proofs.YtmmninlnpnhboaaGreatDoor
open Go.RowKit
theorem implDrumFor_e (s : Int) (A : Option Addr) (c : Nat) (hl : List (Int × Int)) (B : Option Addr) (ct : Nat) (t : List (Int × Int)) (C : Option Addr) (cl : Nat) (L : List Xc) (w : World) (hA : HA w A hl) (hn : hl.length ≤ 1048576) (hwf : HWF hl) (hs : -32768 ≤ s ∧ s ≤ 32767)
    (hB : NA w B t) (hnt : t.length ≤ 1048576) (hwt : WF t) (hC : ChA w C L) (hnL : L.length ≤ 1048576) (hwL : ChWF L) (hE : ErrW w) :
    Calls Tryz.prog 15 #[.agg #[.int .i16 s, .slice A hl.length c], .slice B t.length ct, .slice C L.length cl] w fun e w' => e = .returned (.tuple #[.agg (da (dfD s hl t L)), .int .i64 (dfC s hl t L)]) ∧ Below w.heap.size w w' :=
  let ⟨p, hp⟩ := hE
  implDrumFor_any p s A c hl B ct t C cl L w hA hn hwf hs hB hnt hwt hC hnL hwL hp
end Go.Proofs.YtmmninlnpnhboaaGreatDoor
namespace Go.Proofs.YtmmninlnpnhboaaGreatDoor
open Go.RowKit
end Go.Proofs.YtmmninlnpnhboaaGreatDoor
namespace Go.Proofs.YtmmninlnpnhboaaGreatDoor
open Go.RowKit
def coAt (a o s : Int) (k : Nat) : Int := if k = 0 then a else if k = 1 then o else s
def CoG (a o s : Int) (k : Nat) : Prop := ∀ j, j < k → inB (coAt a o s j) 0 1000 = true
theorem coG_all {a o s : Int} (h : CoG a o s 3) : coB a o s = true := by
  have h0 := h 0 (by omega)
  have h1 := h 1 (by omega)
  have h2 := h 2 (by omega)
  simp [coAt] at h0 h1 h2
  simp [coB, h0, h1, h2]
theorem coG_no {a o s : Int} {k : Nat} (hk : k < 3) (h : inB (coAt a o s k) 0 1000 = false) : coB a o s = false := by
  have : k = 0 ∨ k = 1 ∨ k = 2 := by omega
  rcases this with rfl | rfl | rfl <;> simp [coAt] at h <;> simp [coB, h]
theorem coAt_wf {a o s : Int} (h : CoWF a o s) (k : Nat) : -32768 ≤ coAt a o s k ∧ coAt a o s k ≤ 32767 := by
  unfold coAt
  split
  · exact h.1
  · split
    · exact h.2.1
    · exact h.2.2
end Go.Proofs.YtmmninlnpnhboaaGreatDoor
namespace Go.Proofs.YtmmninlnpnhboaaGreatDoor
open Go.RowKit
def coSum (a o s : Int) (l : List Xc) : Nat → Int
  | 0 => 0
  | k + 1 => coSum a o s l k + coX a o s (chA l k) (chL l k) (chO l k)
def cocC (a o s : Int) (l : List Xc) : Int := if coB a o s && xsB l then (if 120 < l.length then 3 else 0) else 1
def cocV (a o s : Int) (l : List Xc) : Int := if cocC a o s l = 0 then coSum a o s l l.length else 0
theorem xsB_at {l : List Xc} (h : xsB l = true) {k : Nat} (hk : k < l.length) : xcB (chA l k) (chL l k) (chO l k) (chT l k) = true := by
  have := List.all_eq_true.1 h l[k] (List.getElem_mem hk)
  rwa [ch_eta l k hk] at this
theorem coSum_bound {a o s : Int} {l : List Xc} (hc : coB a o s = true) (hx : xsB l = true) : ∀ k, k ≤ l.length → 0 ≤ coSum a o s l k ∧ coSum a o s l k ≤ 4000 * (k : Int)
  | 0, _ => by simp [coSum]
  | k + 1, hk => by
    have h1 := coSum_bound hc hx k (by omega)
    have h2 := coX_bound hc (xsB_at hx (show k < l.length by omega))
    rw [coSum]
    omega
end Go.Proofs.YtmmninlnpnhboaaGreatDoor
