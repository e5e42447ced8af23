import Derived.Test.YtheoopbgbglmdaaDoorBase
import Derived.Test.YtheoopbgbglmdaaDoorProg
import Derived.Maps.OwnOps
import Derived.Test.YtheoopbgbglmdaaDoorQrf
import Derived.IntWalk
namespace Go.Proofs.YtheoopbgbglmdaaDoor
open Go.RowKit
/-- a bool comes back; what there was is as it was -/
def Says (b : Bool) (w : World) (e : Ending) (w' : World) : Prop := e = .returned (.bool b) ∧ Below w.heap.size w w'
def inB (n l m : Int) : Bool := decide (l ≤ n ∧ n ≤ m)
theorem l00In_any (n l m : Int) (w : World) :
    Calls Tryd.prog 38 #[.int .i64 n, .int .i64 l, .int .i64 m] w fun e w' => e = .returned (.bool (inB n l m)) ∧ w = w' := by
  go_enter Tryd.func38, Tryd.ntmps38
  go_wp2
  all_goals go_ret
  all_goals exact ⟨ret_bool (by simp [inB] <;> omega), rfl⟩
theorem within_any (n l m : Int) (w : World) :
    Calls Tryd.prog 42 #[.int .i64 n, .int .i64 l, .int .i64 m] w fun e w' => e = .returned (.bool (inB n l m)) ∧ w = w' := by
  go_enter Tryd.func42, Tryd.ntmps42
  go_wp2
  all_goals go_ret
  all_goals exact ⟨ret_bool (by simp [inB] <;> omega), rfl⟩
def sameB (l m : List (Int × Int)) : Bool := decide (l = m)
/-- two values come back; what there was is as it was -/
def Pair (x y : Value) (w : World) (e : Ending) (w' : World) : Prop := e = .returned (.tuple #[x, y]) ∧ Below w.heap.size w w'
def codeI (b : Bool) : Int := if b then 0 else 1
/-- a number where the bool says yes, and 0 -/
def onlyI (b : Bool) (x : Int) : Int := if b then x else 0
theorem ret2 {x x' y y' : Value} (h1 : x = x') (h2 : y = y') : Ending.returned (.tuple #[x, y]) = .returned (.tuple #[x', y']) := by rw [h1, h2]
set_option maxRecDepth 20000 in
theorem bool_inv {v : Value} {z : DataW Unit × List MemPlace} (h : plainElem Tryd.prog 4 v = some z) : ∃ x, v = .bool x ∧ z = (.lit (.bool x), []) := by
  unfold plainElem at h
  rw [Tryd.underlying4] at h
  cases v <;> simp at h
  exact ⟨_, rfl, h.symm⟩
theorem info28 : (Tryd.prog.info? 28).map (fun i => (i.zero, i.size, i.bytes)) = some (some (.agg #[.int .i16 0, .int .i8 0]), 2, 4) := by kernel_rfl
theorem info2 : (Tryd.prog.info? 2).map (fun i => (i.zero, i.size, i.bytes)) = some (some (.int .i64 0), 1, 8) := by kernel_rfl
theorem sameB_refl (l : List (Int × Int)) : sameB l l = true := decide_eq_true rfl
theorem mapM_all {α β : Type} (f : α → Option β) (g : α → β) : ∀ l : List α, (∀ x ∈ l, f x = some (g x)) → l.mapM f = some (l.map g)
  | [], _ => rfl
  | a :: l, h => by
    rw [List.mapM_cons, h a (by simp), mapM_all f g l fun x hx => h x (by simp [hx])]
    rfl
theorem grown_refl (w : World) (row : Option Nat) : w.grownBy w row := ⟨rfl, rfl, rfl, Nat.le_refl _, fun _ _ _ => rfl⟩
theorem grown_set {w w' : World} {g i : Nat} {v : Value} (h : w.grownBy w' (some g)) : w.grownBy (w'.setCell ⟨g, i, none⟩ v) (some g) :=
  h.trans ⟨rfl, rfl, rfl, by simp, fun j _ hne => heap_setCell_other w' ⟨g, i, none⟩ j v (fun e => hne (by rw [e]))⟩
end Go.Proofs.YtheoopbgbglmdaaDoor
namespace Go.Proofs.YtheoopbgbglmdaaDoor
open Go.RowKit Go.Shelf
attribute [local go_sem] Oper.semAt_some
/-- the numbers in the order 0, 1, -1, 2, -2, .. -/
def owQ (t : Nat) : Int := if t % 2 = 1 then ((t / 2 + 1 : Nat) : Int) else -((t / 2 : Nat) : Int)
def owS (t : Nat) : List Int := (List.range t).map owQ
theorem owS_succ (t : Nat) : owS (t + 1) = owS t ++ [owQ t] := by simp [owS, List.range_succ]
theorem owS_pre {t u : Nat} (h : t ≤ u) : owS t <+: owS u := by
  refine ⟨((List.range (u - t)).map (t + ·)).map owQ, ?_⟩
  unfold owS
  rw [← List.map_append, ← List.range_add, show t + (u - t) = u by omega]
theorem owQ_odd (s : Nat) : owQ (2 * s + 1) = s + 1 := by unfold owQ; rw [if_pos (by omega)]; omega
theorem owQ_even (s : Nat) : owQ (2 * s + 2) = -(s + 1) := by unfold owQ; rw [if_neg (by omega)]; omega
theorem owS_two (s : Nat) : owS (2 * (s + 1) + 1) = owS (2 * s + 1) ++ [(s : Int) + 1] ++ [-((s : Int) + 1)] := by
  rw [show 2 * (s + 1) + 1 = 2 * s + 1 + 1 + 1 by omega, owS_succ (2 * s + 1 + 1), owS_succ (2 * s + 1), owQ_odd, owQ_even]
set_option maxHeartbeats 2000000 in
set_option maxRecDepth 20000 in
theorem outward_q (m Bn : Nat) (w : World) (hm : m ≤ 100) (hc : w.heap[Bn]? = some (.cells #[.int .i64 m] 2 (0, 0))) :
    SeqQ Tryd.prog 62 #[.pointer (some ⟨Bn, 0, none⟩)] (fun x : Int => #[.int .i64 x]) (owS (2 * m + 1)) w := by
  intro n l T J W hW hJ hY h0
  have hB : Bn < w.heap.size := (Array.getElem?_eq_some_iff.1 hc).1
  have hc1 := (hW.block Bn hB).trans hc
  have hBW : Bn < W.heap.size := Nat.lt_of_lt_of_le hB hW.size
  have hd1 : W.cell? ⟨Bn, 0, none⟩ = some (.int .i64 m) := by rw [cell_of_row W Bn 0 _ _ _ hc1]; rfl
  show CallsIn Fence.wide n Tryd.prog 62 #[.func (.yield l) #[] #[], .pointer (some ⟨Bn, 0, none⟩)] W _
  refine callsIn_of_wp Tryd.func62 rfl trivial ?_ rfl
  simp only [Tryd.ntmps62, List.size_toArray, List.length_cons, List.length_nil, Nat.reduceAdd, Nat.reduceSub, Array.replicate_succ, Array.replicate_zero, List.push_toArray, List.append_toArray, List.nil_append, List.cons_append]
  have hp0 : [] ++ [(0 : Int)] <+: owS (2 * m + 1) := owS_pre (t := 1) (by omega)
  obtain ⟨fn, tmps, assign, body, hy, hR⟩ := hY (n - 1) [] 0 W hp0 h0 (Below.refl _ _)
  gi_wp2
  refine ⟨(fun h => by simp [Fence.wide] at h), hR.mono ?_⟩
  clear hy hR
  rintro e W1 (⟨rfl, hT1, hk1⟩ | ⟨rfl, hJ1, _⟩)
  · gi_wp2
    gi_loopw [3] (fun i wr => ∃ s : Nat, s ≤ m ∧ i = .int .i64 (s + 1) ∧ T (owS (2 * s + 1)) ∧ Below W.heap.size W wr) (fun i _ => m + 1 - (intOf i).toNat)
    case atStart => exact ⟨0, by omega, rfl, hT1, hk1⟩
    case round =>
      obtain ⟨s, hs, rfl, hTs, hbs⟩ := hrel
      have hd3 := (hbs.cell (p := ⟨Bn, 0, none⟩) hBW).trans hd1
      by_cases hlt : s < m
      · have hz : (s : Int) + 1 ≤ (m : Int) := by omega
        have hz1 : decide ((s : Int) + 1 ≤ (m : Int)) = true := decide_eq_true hz
        have hp1 : owS (2 * s + 1) ++ [(s : Int) + 1] <+: owS (2 * m + 1) := by rw [← owQ_odd, ← owS_succ]; exact owS_pre (by omega)
        have hp2 : owS (2 * s + 1) ++ [(s : Int) + 1] ++ [-((s : Int) + 1)] <+: owS (2 * m + 1) := by rw [← owS_two]; exact owS_pre (by omega)
        obtain ⟨fn, tmps, assign, body, hy, hR⟩ := hY (n - 1) _ _ wr hp1 hTs hbs
        gi_wp2
        refine ⟨(fun h => by simp [Fence.wide] at h), hR.mono ?_⟩
        clear hy hR
        rintro e W2 (⟨rfl, hT2, hk2⟩ | ⟨rfl, hJ2, _⟩)
        · have b2 := hbs.trans (hk2.mono hbs.size)
          obtain ⟨fn, tmps, assign, body, hy, hR⟩ := hY (n - 1) _ _ W2 hp2 hT2 b2
          have hneg : IntKind.i64.wrap (-((s : Int) + 1)) = -((s : Int) + 1) := IntWalk.i64_in _ (by omega)
          gi_wp2
          refine ⟨(fun h => by simp [Fence.wide] at h), hR.mono ?_⟩
          clear hy hR
          rintro e W3 (⟨rfl, hT3, hk3⟩ | ⟨rfl, hJ3, _⟩)
          · gi_wp2
            go_roundw
            case rel => exact ⟨s + 1, hlt, by go_num, by rw [owS_two]; exact hT3, b2.trans (hk3.mono b2.size)⟩
            case measure => simp [intOf]; omega
          · gi_wp2
            refine bodyPost_ret (results_none rfl _ _ _) rfl ?_
            exact ⟨⟨_, rfl⟩, .inr ⟨_, hp2, hJ3⟩⟩
        · gi_wp2
          refine ⟨fun _ h => (by cases h), ?_⟩
          gi_wp2
          refine bodyPost_ret (results_none rfl _ _ _) rfl ?_
          exact ⟨⟨_, rfl⟩, .inr ⟨_, hp1, hJ2⟩⟩
      · obtain rfl : s = m := by omega
        gi_wp2
        go_end0
        exact ⟨⟨_, rfl⟩, .inl ⟨hTs, hbs⟩⟩
  · gi_wp2
    refine bodyPost_ret (results_none rfl _ _ _) rfl ?_
    exact ⟨⟨_, rfl⟩, .inr ⟨_, hp0, hJ1⟩⟩
theorem outward_make (m : Nat) (_hm : m ≤ 100) (w : World) : Calls Tryd.prog 59 #[.int .i64 m] w fun e w' => e = .returned (.func (.func 62) #[] #[.pointer (some ⟨w.heap.size, 0, none⟩)]) ∧ w' = w.alloc (.cells #[.int .i64 m] 2) := by
  go_enter Tryd.func59, Tryd.ntmps59
  go_wp2
  go_ret
  exact ⟨rfl, rfl⟩
end Go.Proofs.YtheoopbgbglmdaaDoor
