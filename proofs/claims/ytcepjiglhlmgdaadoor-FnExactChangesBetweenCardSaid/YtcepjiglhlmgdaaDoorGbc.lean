import Derived.Test.YtcepjiglhlmgdaaDoorBase
import Derived.OrdersIn
import Derived.RangeFuncCalls
import Derived.Deep.Quiet
import Derived.Test.YtcepjiglhlmgdaaDoorGbb
import Derived.WalkMore
namespace Go.Proofs.YtcepjiglhlmgdaaDoor
open Go.RowKit

/-- a region without a defer statement -/
def noDef (ops : Array Oper) : Bool := ops.all fun o => match o.op with | .defer _ => false | _ => true
theorem noDef_at {ops : Array Oper} (h : noDef ops = true) {i : Nat} {o : Oper} (hi : ops[i]? = some o) : ∀ c, o.op ≠ .defer c := by
  intro c hc
  have h1 := (Array.all_eq_true_iff_forall_mem.1 h) o (Array.mem_of_getElem? hi)
  simp [hc] at h1
theorem upon_in {r n : Nat} {P : Program} {o : Oper} {a : Act} {K K' : Act → World → Prop} {Q : Exit → Act → World → Prop} {x : Result Next} (hK : ∀ a w, K a w → K' a w) (h : o.upon P a K Q x) : o.uponIn (Fence.wide.inRound r) n P a K' Q x := by
  cases x with
  | ok x w' =>
    cases x <;> simp only [Oper.upon, Oper.uponIn] at h ⊢ <;>
      first
        | exact hK _ _ h
        | exact ⟨fun e => (by cases e), CallsIn.inRound r (callsIn_wide.2 (h.mono fun e w'' he => by cases e <;> first | exact hK _ _ he | exact he))⟩
        | exact ⟨fun e => (by cases e), fun c cs _ => let ⟨v, w'', q, s⟩ := h c cs; ⟨v, w'', hK _ _ q, stepsIn_wide.2 s⟩⟩
        | exact h.elim
  | halt x w' => cases x <;> simp only [Oper.upon, Oper.uponIn] at h ⊢ <;> exact h
section
variable {r n : Nat} {P : Program} {ops : Array Oper} {Q : Exit → Act → World → Prop}
theorem wpOp_in (hnd : noDef ops = true) (hQ : ¬ LetsOut Q) {i : Nat} {a : Act} {w : World} {K K' : Act → World → Prop} (hK : ∀ a w, K a w → K' a w) (h : wpOp P ops Q i K a w) : wpOpIn (Fence.wide.inRound r) n P ops Q i K' a w := by
  unfold wpOp at h
  unfold wpOpIn
  cases hi : ops[i]? with
  | none => simp only [hi] at h ⊢; exact hK _ _ h
  | some o =>
    simp only [hi] at h ⊢
    by_cases hw : Region.wanted o (yielded ops a.tmps) = true
    · simp only [hw, if_true] at h ⊢
      rcases h with h | h
      · refine ⟨fun _ _ => trivial, ?_⟩
        rw [Oper.semAt_eq _ _ _ (noDef_at hnd hi)]
        exact upon_in hK h
      · exact absurd h.2 hQ
    · simp only [hw, Bool.false_eq_true, if_false] at h ⊢
      exact ⟨fun _ _ => trivial, hK _ _ h⟩
theorem wpAny_in (hnd : noDef ops = true) (hQ : ¬ LetsOut Q) {md : Region.Mode} : ∀ (fuel : Nat) (listed : Array Bool) (a : Act) (w : World), wpAny P md ops Q fuel listed a w → wpAnyIn (Fence.wide.inRound r) n P md ops Q fuel listed a w
  | 0, _, _, _, h => h
  | fuel + 1, listed, a, w, h => ⟨h.1, fun i hi => wpOp_in hnd hQ (fun a w => wpAny_in hnd hQ fuel _ a w) (h.2 i hi)⟩
theorem wpIn_region_quiet {C : World → Prop} {id : Nat} {a : Act} {w : World} (hm : P.follows .mixedOrders = true) (hB : Region.lexB .any ops = true) (hnd : noDef ops = true) (hQ : ¬ LetsOut Q) (hC : C { w with drawn := w.drawn + 1 })
    (h : wpQuiet P ops C (fun a' => ∀ w', C w' → Q .normal a' w') ops.toList a) : (Code.region id ops true).wpIn (Fence.wide.inRound r) n P Q a w := by
  simp only [Region.lexB, Bool.and_eq_true] at hB
  refine wpIn_region_any hm (wpAny_in hnd hQ _ _ _ _ (wpAny_of_quiet (Q := fun a' => ∀ w', C w' → Q .normal a' w') (fun _ w' hw' h => h w' hw') _ _ _ _ hC ?_))
  have := wpAnyQ_lex (C := C) (md := .any) hB.1 ops.toList 0 (Array.replicate ops.size false) a (by simp) (by simpa using hB.2) h
  simpa using this
end
theorem wpIn_region_later {r n : Nat} {P : Program} {id : Nat} {Q : Exit → Act → World → Prop} {a : Act} {w : World} {l : List Oper} (hm : P.follows .mixedOrders = true) (hB : Region.lexB .any l.toArray = true) (hnd : noDef l.toArray = true) (hQ : ¬ LetsOut Q)
    (h : wpQuiet P l.toArray (fun w' => ∃ p : Later w, w' = p.w) (fun a' => ∀ w', (∃ p : Later w, w' = p.w) → Q .normal a' w') l a) : (Code.region id l.toArray true).wpIn (Fence.wide.inRound r) n P Q a w :=
  wpIn_region_quiet (C := fun w' => ∃ p : Later w, w' = p.w) hm hB hnd hQ ⟨⟨w.drew, (Below.refl _ _).drew⟩, rfl⟩ (by simpa using h)
end Go.Proofs.YtcepjiglhlmgdaaDoor
namespace Go.Proofs.YtcepjiglhlmgdaaDoor
open Go.RowKit Go.Shelf
attribute [local go_sem] Oper.semAt_some

theorem cells_own' {B b : Nat} {W W' : World} {row : Option Nat} {cs : Array Value} {t : TypeId} {fr : Nat × Nat} (h : W.heap[b]? = some (.cells cs t fr)) (hg : W.grownBy W' row) (hr : ∀ r, row = some r → B ≤ r ∧ ∃ o : Obj, W.heap[r]? = some o ∧ o.isCells = false) : W'.heap[b]? = some (.cells cs t fr) := by
  refine (hg.block b (Array.getElem?_eq_some_iff.1 h).1 ?_).trans h
  intro e
  obtain ⟨_, o, ho, hc⟩ := hr b e.symm
  rw [h] at ho
  cases ho
  cases hc
theorem keeps_below {W W' : World} (hb : Below W.heap.size W W') : KeepsOthers W W' := ⟨hb.size, fun k _ hk _ => (hb.block k (Array.getElem?_eq_some_iff.1 hk).1).trans hk⟩

end Go.Proofs.YtcepjiglhlmgdaaDoor
namespace Go.Proofs.YtcepjiglhlmgdaaDoor
open Go.RowKit

/-- how many steps behind a pin the next one of its track comes -/
def nxN (S : Nat) (d : Nat → Int) (k t : Nat) : Nat := ((List.range S).find? fun j => decide (1 ≤ j) && pinB d ((k + j) % S) t).getD S
theorem nx_hit {S : Nat} {d : Nat → Int} {k t g : Nat} (hg : 1 ≤ g) (hS : g < S) (h0 : nextB S d k t g = false) (h : pinB d ((k + g) % S) t = true) : nxN S d k t = g := by
  have : (List.range S).find? (fun j => decide (1 ≤ j) && pinB d ((k + j) % S) t) = some g := by
    rw [List.find?_range_eq_some]
    refine ⟨by simp [hg, h], by simpa using hS, fun j hj => ?_⟩
    have h1 : ∀ j, j < g → (decide (1 ≤ j) && pinB d ((k + j) % S) t) = false := by
      intro j hj
      simp only [nextB, List.any_eq_false, List.mem_range] at h0
      simpa using h0 j hj
    rw [h1 j hj]; rfl
  rw [nxN, this]; rfl
theorem nx_end {S : Nat} {d : Nat → Int} {k t : Nat} (h0 : nextB S d k t S = false) : nxN S d k t = S := by
  have : (List.range S).find? (fun j => decide (1 ≤ j) && pinB d ((k + j) % S) t) = none := by
    rw [List.find?_eq_none]
    intro j hj
    simp only [nextB, List.any_eq_false] at h0
    exact h0 j hj
  rw [nxN, this]; rfl
theorem nx_le (S : Nat) (d : Nat → Int) (k t : Nat) : nxN S d k t ≤ S := by
  unfold nxN
  cases h : (List.range S).find? fun j => decide (1 ≤ j) && pinB d ((k + j) % S) t with
  | none => simp
  | some i =>
    have := List.mem_range.1 (List.mem_of_find?_eq_some h)
    simp; omega
theorem nx_lt {S : Nat} {d : Nat → Int} {k t R : Nat} (hR : R ≤ S) : decide (nxN S d k t < R) = nextB S d k t R := by
  unfold nxN
  cases h : (List.range S).find? fun j => decide (1 ≤ j) && pinB d ((k + j) % S) t with
  | none =>
    rw [List.find?_eq_none] at h
    have h1 : nextB S d k t R = false := by
      simp only [nextB, List.any_eq_false, List.mem_range]
      intro j hj
      exact h j (List.mem_range.2 (by omega))
    rw [h1]
    simp; omega
  | some i =>
    have h2 := h
    rw [List.find?_range_eq_some] at h
    obtain ⟨hp, hi, hmin⟩ := h
    simp only [Option.getD_some]
    by_cases hiR : i < R
    · have : nextB S d k t R = true := by
        simp only [nextB, List.any_eq_true, List.mem_range]
        exact ⟨i, hiR, hp⟩
      rw [this]; simpa using hiR
    · have : nextB S d k t R = false := by
        simp only [nextB, List.any_eq_false, List.mem_range]
        intro j hj
        have h3 := hmin j (by omega)
        intro e
        rw [e] at h3
        cases h3
      rw [this]; simpa using hiR

end Go.Proofs.YtcepjiglhlmgdaaDoor
