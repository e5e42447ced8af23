import Derived.Test.YtfoofggaieniaaaDoorGab
namespace Go.Proofs.YtfoofggaieniaaaDoor
open Go.RowKit

def mnI (s : Int) : Int := if 20 < s then 20 else s
def hamB (s p r : Int) : Bool := inB p 0 47 && inB r 1 (mnI s)
def frB (s : Int) (l : List (Int × Int)) : Bool := inB s 2 96 && inB l.length 1 24 && (List.range l.length).all fun j => hamB s (hPi l j) (hRe l j)
def HWF (l : List (Int × Int)) : Prop := ∀ k, k < l.length → (-128 ≤ hPi l k ∧ hPi l k ≤ 127) ∧ (-128 ≤ hRe l k ∧ hRe l k ≤ 127)
/-- the hammers ahead of k are in range -/
def HG (s : Int) (l : List (Int × Int)) (k : Nat) : Prop := ∀ j, j < k → hamB s (hPi l j) (hRe l j) = true
theorem HG_succ {s : Int} {l : List (Int × Int)} {k : Nat} (h : HG s l k) (h' : hamB s (hPi l k) (hRe l k) = true) : HG s l (k + 1) := fun j hj => by
  rcases Nat.lt_or_ge j k with h1 | h1
  · exact h j h1
  · rw [show j = k by omega]; exact h'
theorem frB_yes {s : Int} {l : List (Int × Int)} (h1 : inB s 2 96 = true) (h2 : inB l.length 1 24 = true) (h : HG s l l.length) : frB s l = true := by
  have : (List.range l.length).all (fun j => hamB s (hPi l j) (hRe l j)) = true := by simp only [List.all_eq_true, List.mem_range]; exact h
  simp [frB, h1, h2, this]
theorem frB_no {s : Int} {l : List (Int × Int)} {k : Nat} (hk : k < l.length) (h : hamB s (hPi l k) (hRe l k) = false) : frB s l = false := by
  have : (List.range l.length).all (fun j => hamB s (hPi l j) (hRe l j)) = false := by
    rw [List.all_eq_false]
    exact ⟨k, List.mem_range.2 hk, by simp [h]⟩
  simp [frB, this]
theorem frB_all {s : Int} {l : List (Int × Int)} (h : frB s l = true) : (2 ≤ s ∧ s ≤ 96) ∧ (1 ≤ l.length ∧ l.length ≤ 24) ∧ HG s l l.length := by
  simp only [frB, inB, Bool.and_eq_true, decide_eq_true_eq, List.all_eq_true, List.mem_range] at h
  exact ⟨h.1.1, by omega, h.2⟩

/-- block b holds a frame -/
def FP (w : World) (b : Nat) (s : Int) (A : Option Addr) (n c : Nat) : Prop := w.cell? ⟨b, 0, none⟩ = some (.int .i16 s) ∧ w.cell? ⟨b, 1, none⟩ = some (.slice A n c)
theorem FP.lt {w : World} {b : Nat} {s : Int} {A : Option Addr} {n c : Nat} (h : FP w b s A n c) : b < w.heap.size := World.block_lt_of_cell? w _ h.1
theorem FP.keep {w w' : World} {b : Nat} {s : Int} {A : Option Addr} {n c : Nat} (h : FP w b s A n c) (hb : Below w.heap.size w w') : FP w' b s A n c := ⟨(hb.cell (p := ⟨b, _, none⟩) h.lt).trans h.1, (hb.cell (p := ⟨b, _, none⟩) h.lt).trans h.2⟩


end Go.Proofs.YtfoofggaieniaaaDoor
namespace Go.Proofs.YtfoofggaieniaaaDoor
open Go.RowKit

def hamsB (s : Int) (l : List (Int × Int)) : Bool := (List.range l.length).all fun j => hamB s (hPi l j) (hRe l j)
theorem hamsB_yes {s : Int} {l : List (Int × Int)} (h : HG s l l.length) : hamsB s l = true := by simp only [hamsB, List.all_eq_true, List.mem_range]; exact h
theorem hamsB_no {s : Int} {l : List (Int × Int)} {k : Nat} (hk : k < l.length) (h : hamB s (hPi l k) (hRe l k) = false) : hamsB s l = false := by
  rw [hamsB, List.all_eq_false]
  exact ⟨k, List.mem_range.2 hk, by simp [h]⟩
theorem mnI_le {s : Int} (h : s ≤ 20) : mnI s = s := by unfold mnI; omega
theorem mnI_gt {s : Int} (h : 20 ≤ s) : mnI s = 20 := by unfold mnI; omega

/-- a machine and a bool come back -/
def Mach (s : Int) (A : Option Addr) (n c : Nat) (ok : Bool) (w : World) (e : Ending) (w' : World) : Prop := e = .returned (.tuple #[.agg #[.int .i64 s, .slice A n c], .bool ok]) ∧ Below w.heap.size w w'
theorem frB_hams {s : Int} {l : List (Int × Int)} (h1 : inB s 2 96 = true) (h2 : inB l.length 1 24 = true) : frB s l = hamsB s l := by simp [frB, h1, h2, hamsB]

end Go.Proofs.YtfoofggaieniaaaDoor
namespace Go.Proofs.YtfoofggaieniaaaDoor
open Go.RowKit

theorem hsame_of (l m : List (Int × Int)) (hl : l.length = m.length) (h : ∀ k, k < l.length → hPi l k = hPi m k ∧ hRe l k = hRe m k) : sameB l m = true := by
  refine decide_eq_true (List.ext_getElem hl fun k h1 h2 => ?_)
  have := h k h1
  simp only [hPi, hRe, List.getD, List.getElem?_eq_getElem h1, List.getElem?_eq_getElem h2, Option.getD_some] at this
  exact Prod.ext this.1 this.2
theorem hsame_not (l m : List (Int × Int)) (k : Nat) (h : ¬ (hPi l k = hPi m k ∧ hRe l k = hRe m k)) : sameB l m = false := by
  refine decide_eq_false fun e => h ?_
  rw [e]
  exact ⟨rfl, rfl⟩

end Go.Proofs.YtfoofggaieniaaaDoor
