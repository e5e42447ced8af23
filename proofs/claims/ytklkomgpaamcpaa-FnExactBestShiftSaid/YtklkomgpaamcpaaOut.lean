import Derived.RangeFuncNested
import Derived.RangeFuncBound
import Derived.RangeFuncCalls
import Derived.RangeFuncLeaves
import Derived.Shelf.Abstract
import Derived.OwnWalkIn
import Derived.TacticsInMore
import Derived.LoopNIn
import Derived.LoopIn
import Derived.Test.YtklkomgpaamcpaaBsSpec
namespace Go.Proofs.Ytklkomgpaamcpaa
open Go.RowKit Go.Shelf
attribute [local go_sem] Oper.semAt_some

def ords (t : Nat) : List Int := (List.range t).map ord
theorem ords_succ (t : Nat) : ords (t + 1) = ords t ++ [ord t] := by simp [ords, List.range_succ]
abbrev Sh := { x : Int // -200 ≤ x ∧ x ≤ 200 }
theorem ords_prefix {t : Nat} (h : t ≤ 401) : ords t <+: ords 401 := by
  refine ⟨((List.range (401 - t)).map (t + ·)).map ord, ?_⟩
  unfold ords
  rw [← List.map_append, ← List.range_add, show t + (401 - t) = 401 by omega]
theorem ords_len (t : Nat) : (ords t).length = t := by simp [ords]
theorem ord_odd (s : Nat) : ord (2 * s + 1) = s + 1 := by unfold ord; rw [if_pos (by omega)]; omega
theorem ord_even (s : Nat) : ord (2 * s + 2) = -(s + 1) := by unfold ord; rw [if_neg (by omega)]; omega


theorem ords_two (s : Nat) : ords (2 * (s + 1) + 1) = ords (2 * s + 1) ++ [(s : Int) + 1] ++ [-((s : Int) + 1)] := by
  rw [show 2 * (s + 1) + 1 = 2 * s + 1 + 1 + 1 by omega, ords_succ (2 * s + 1 + 1), ords_succ (2 * s + 1), ord_odd, ord_even]

def bstL (f : Int → Nat) (xs : List Int) : Int × Nat := xs.foldl (fun st x => if st.2 < f x then (x, f x) else st) (0, 0)
theorem bstL_snoc (f : Int → Nat) (xs : List Int) (x : Int) : bstL f (xs ++ [x]) = if (bstL f xs).2 < f x then (x, f x) else bstL f xs := by unfold bstL; rw [List.foldl_append]; rfl
theorem bstL_ords (f : Int → Nat) : ∀ t, bstL f (ords t) = bst f t
  | 0 => rfl
  | t + 1 => by rw [ords_succ, bstL_snoc, bstL_ords f t, bst_succ]

set_option maxHeartbeats 2000000 in
set_option maxRecDepth 20000 in
theorem outward_stops (F : Fence) (n : Nat) (hF : F.fn 56) (hro : F.round = none) (hn : 1 ≤ n) (Bn : Nat) (w : World) (hc : w.heap[Bn]? = some (.cells #[.int .i64 200] 2 (0, 0))) :
    SeqStopsK F n Try.prog 56 #[.pointer (some ⟨Bn, 0, none⟩)] (fun x : Sh => #[.int .i64 x.1]) (fun A B => B.heap[Bn]? = A.heap[Bn]?) (fun xs => xs.map (·.1) = ords 401) (fun _ => True) 401 w := by
  intro l J Jx W hW hJ hJx hY h0
  have hB : Bn < w.heap.size := (Array.getElem?_eq_some_iff.1 hc).1
  have hc1 := (hW.block Bn hB).trans hc
  have hd1 : W.cell? ⟨Bn, 0, none⟩ = some (.int .i64 200) := by rw [cell_of_row W Bn 0 _ _ _ hc1]; rfl
  show CallsIn F n Try.prog 56 #[.func (.yield l) #[] #[], .pointer (some ⟨Bn, 0, none⟩)] W _
  refine callsIn_of_wp Try.func56 rfl hF ?_ hro
  simp only [Try.ntmps56, List.size_toArray, List.length_cons, List.length_nil, Nat.reduceAdd, Nat.reduceSub, Array.replicate_succ, Array.replicate_zero, List.push_toArray, List.append_toArray, List.nil_append, List.cons_append]
  obtain ⟨fn, tmps, assign, body, hy, hR⟩ := hY [] ⟨0, by omega⟩ W h0 (by simp)
  gi_wp2
  refine hR.mono ?_
  clear hy hR
  rintro e W1 (⟨rfl, hJ1, hk1⟩ | ⟨rfl, hJx1⟩)
  · have hc2 := hk1.trans hc1
    gi_wp2
    gi_loopw [3] (fun i wr => ∃ (s : Nat) (pre : List Sh), s ≤ 200 ∧ i = .int .i64 (s + 1) ∧ pre.map (·.1) = ords (2 * s + 1) ∧ J pre wr ∧ wr.heap[Bn]? = some (.cells #[.int .i64 200] 2 (0, 0))) (fun i _ => 201 - (intOf i).toNat)
    case atStart => exact ⟨0, _, by omega, rfl, rfl, hJ1, hc2⟩
    case round =>
      obtain ⟨s, pre, hs, rfl, hpre, hJs, hbs⟩ := hrel
      have hlen : pre.length = 2 * s + 1 := by rw [← List.length_map (f := fun x : Sh => x.1), hpre, ords_len]
      have hd3 : wr.cell? ⟨Bn, 0, none⟩ = some (.int .i64 200) := by rw [cell_of_row wr Bn 0 _ _ _ hbs]; rfl
      by_cases hlt : s < 200
      · have hz : (s : Int) + 1 ≤ 200 := by omega
        have hz1 : decide ((s : Int) + 1 ≤ 200) = true := decide_eq_true hz
        obtain ⟨fn, tmps, assign, body, hy, hR⟩ := hY pre ⟨(s : Int) + 1, by omega⟩ wr hJs (by omega)
        have HP := hide hpre
        clear hJs hpre
        gi_wp2
        refine hR.mono ?_
        clear hy hR
        rintro e W2 (⟨rfl, hJ2, hk2⟩ | ⟨rfl, hJx2⟩)
        · obtain ⟨fn, tmps, assign, body, hy, hR⟩ := hY _ ⟨-((s : Int) + 1), by omega⟩ W2 hJ2 (by simp; omega)
          have hneg : IntKind.i64.wrap (-((s : Int) + 1)) = -((s : Int) + 1) := IntWalk.i64_in _ (by omega)
          gi_wp2
          refine hR.mono ?_
          clear hy hR
          rintro e W3 (⟨rfl, hJ3, hk3⟩ | ⟨rfl, hJx3⟩)
          · gi_wp2
            go_roundw
            case rel => exact ⟨s + 1, _, hlt, by go_num, by rw [List.map_append, List.map_append, HP.out, ords_two]; rfl, hJ3, hk3.trans (hk2.trans hbs)⟩
            case measure => simp [intOf]; omega
          · gi_wp2
            refine bodyPost_ret (results_none rfl _ _ _) rfl ?_
            exact ⟨⟨_, rfl⟩, .inr ⟨_, trivial, hJx3⟩⟩
        · gi_wp2
          refine ⟨fun _ h => (by cases h), ?_⟩
          gi_wp2
          refine bodyPost_ret (results_none rfl _ _ _) rfl ?_
          exact ⟨⟨_, rfl⟩, .inr ⟨_, trivial, hJx2⟩⟩
      · obtain rfl : s = 200 := by omega
        gi_wp2
        go_end0
        exact ⟨⟨_, rfl⟩, .inl ⟨_, hpre, hJs⟩⟩
  · gi_wp2
    refine bodyPost_ret (results_none rfl _ _ _) rfl ?_
    exact ⟨⟨_, rfl⟩, .inr ⟨_, trivial, hJx1⟩⟩
end Go.Proofs.Ytklkomgpaamcpaa
