import Derived.RangeFuncNested
import Derived.RangeFuncBound
import Derived.RangeFuncCalls
import Derived.RangeFuncLeaves
import Derived.Shelf.Abstract
import Derived.OwnWalkIn
import Derived.TacticsInMore
import Derived.LoopNIn
import Derived.LoopIn
import Derived.Test.YtghkcfghkbihcaaValid
namespace Go.Proofs.Ytghkcfghkbihcaa
open Go.RowKit Go.Shelf
attribute [local go_sem] Oper.semAt_some

/-- the numbers in the order 0, 1, -1, 2, -2, .. -/
def orw (t : Nat) : Int := if t % 2 = 1 then ((t / 2 + 1 : Nat) : Int) else -((t / 2 : Nat) : Int)
def orws (t : Nat) : List Int := (List.range t).map orw
theorem orws_succ (t : Nat) : orws (t + 1) = orws t ++ [orw t] := by simp [orws, List.range_succ]
abbrev ShB := { x : Int // -48 ≤ x ∧ x ≤ 48 }
theorem orws_prefix {t : Nat} (h : t ≤ 97) : orws t <+: orws 97 := by
  refine ⟨((List.range (97 - t)).map (t + ·)).map orw, ?_⟩
  unfold orws
  rw [← List.map_append, ← List.range_add, show t + (97 - t) = 97 by omega]
theorem orws_len (t : Nat) : (orws t).length = t := by simp [orws]
theorem orw_odd (s : Nat) : orw (2 * s + 1) = s + 1 := by unfold orw; rw [if_pos (by omega)]; omega
theorem orw_even (s : Nat) : orw (2 * s + 2) = -(s + 1) := by unfold orw; rw [if_neg (by omega)]; omega


theorem orws_two (s : Nat) : orws (2 * (s + 1) + 1) = orws (2 * s + 1) ++ [(s : Int) + 1] ++ [-((s : Int) + 1)] := by
  rw [show 2 * (s + 1) + 1 = 2 * s + 1 + 1 + 1 by omega, orws_succ (2 * s + 1 + 1), orws_succ (2 * s + 1), orw_odd, orw_even]

set_option maxHeartbeats 2000000 in
set_option maxRecDepth 20000 in
theorem outwardB_stops (F : Fence) (n : Nat) (hF : F.fn 33) (hro : F.round = none) (hn : 1 ≤ n) (Bn : Nat) (w : World) (hc : w.heap[Bn]? = some (.cells #[.int .i64 48] 2 (0, 0))) :
    SeqStopsK F n Try.prog 33 #[.pointer (some ⟨Bn, 0, none⟩)] (fun x : ShB => #[.int .i64 x.1]) (fun A B => B.heap[Bn]? = A.heap[Bn]?) (fun xs => xs.map (·.1) = orws 97) (fun ys => ys.map (·.1) <+: orws 97) 97 w := by
  intro l J Jx W hW hJ hJx hY h0
  have hB : Bn < w.heap.size := (Array.getElem?_eq_some_iff.1 hc).1
  have hc1 := (hW.block Bn hB).trans hc
  have hd1 : W.cell? ⟨Bn, 0, none⟩ = some (.int .i64 48) := by rw [cell_of_row W Bn 0 _ _ _ hc1]; rfl
  show CallsIn F n Try.prog 33 #[.func (.yield l) #[] #[], .pointer (some ⟨Bn, 0, none⟩)] W _
  refine callsIn_of_wp Try.func33 rfl hF ?_ hro
  simp only [Try.ntmps33, List.size_toArray, List.length_cons, List.length_nil, Nat.reduceAdd, Nat.reduceSub, Array.replicate_succ, Array.replicate_zero, List.push_toArray, List.append_toArray, List.nil_append, List.cons_append]
  obtain ⟨fn, tmps, assign, body, hy, hR⟩ := hY [] ⟨0, by omega⟩ W h0 (by simp)
  gi_wp2
  refine hR.mono ?_
  clear hy hR
  rintro e W1 (⟨rfl, hJ1, hk1⟩ | ⟨rfl, hJx1⟩)
  · have hc2 := hk1.trans hc1
    gi_wp2
    gi_loopw [3] (fun i wr => ∃ (s : Nat) (pre : List ShB), s ≤ 48 ∧ i = .int .i64 (s + 1) ∧ pre.map (·.1) = orws (2 * s + 1) ∧ J pre wr ∧ wr.heap[Bn]? = some (.cells #[.int .i64 48] 2 (0, 0))) (fun i _ => 49 - (intOf i).toNat)
    case atStart => exact ⟨0, _, by omega, rfl, rfl, hJ1, hc2⟩
    case round =>
      obtain ⟨s, pre, hs, rfl, hpre, hJs, hbs⟩ := hrel
      have hlen : pre.length = 2 * s + 1 := by rw [← List.length_map (f := fun x : ShB => x.1), hpre, orws_len]
      have hd3 : wr.cell? ⟨Bn, 0, none⟩ = some (.int .i64 48) := by rw [cell_of_row wr Bn 0 _ _ _ hbs]; rfl
      by_cases hlt : s < 48
      · have hz : (s : Int) + 1 ≤ 48 := by omega
        have hz1 : decide ((s : Int) + 1 ≤ 48) = true := decide_eq_true hz
        obtain ⟨fn, tmps, assign, body, hy, hR⟩ := hY pre ⟨(s : Int) + 1, by omega⟩ wr hJs (by omega)
        have HP := hide hpre
        clear hJs hpre
        gi_wp2
        refine hR.mono ?_
        clear hy hR
        rintro e W2 (⟨rfl, hJ2, hk2⟩ | ⟨rfl, hJx2⟩)
        · obtain ⟨fn, tmps, assign, body, hy, hR⟩ := hY _ ⟨-((s : Int) + 1), by omega⟩ W2 hJ2 (by simp; omega)
          have hneg : IntKind.i64.wrap (-((s : Int) + 1)) = -((s : Int) + 1) := IntWalk.i64_in _ (by omega)
          gi_wp2
          refine hR.mono ?_
          clear hy hR
          rintro e W3 (⟨rfl, hJ3, hk3⟩ | ⟨rfl, hJx3⟩)
          · gi_wp2
            go_roundw
            case rel => exact ⟨s + 1, _, hlt, by go_num, by rw [List.map_append, List.map_append, HP.out, orws_two]; rfl, hJ3, hk3.trans (hk2.trans hbs)⟩
            case measure => simp [intOf]; omega
          · gi_wp2
            refine bodyPost_ret (results_none rfl _ _ _) rfl ?_
            exact ⟨⟨_, rfl⟩, .inr ⟨_, (by show List.map (fun x : ShB => x.1) _ <+: _; rw [List.map_append, List.map_append, HP.out]; have h := orws_prefix (t := 2 * (s + 1) + 1) (by omega); rw [orws_two] at h; exact h), hJx3⟩⟩
        · gi_wp2
          refine ⟨fun _ h => (by cases h), ?_⟩
          gi_wp2
          refine bodyPost_ret (results_none rfl _ _ _) rfl ?_
          exact ⟨⟨_, rfl⟩, .inr ⟨_, (by show List.map (fun x : ShB => x.1) _ <+: _; rw [List.map_append, HP.out]; have h := orws_prefix (t := 2 * s + 1 + 1) (by omega); rw [orws_succ, orw_odd] at h; exact h), hJx2⟩⟩
      · obtain rfl : s = 48 := by omega
        gi_wp2
        go_end0
        exact ⟨⟨_, rfl⟩, .inl ⟨_, hpre, hJs⟩⟩
  · gi_wp2
    refine bodyPost_ret (results_none rfl _ _ _) rfl ?_
    exact ⟨⟨_, rfl⟩, .inr ⟨_, (by show List.map (fun x : ShB => x.1) _ <+: _; exact orws_prefix (t := 1) (by omega)), hJx1⟩⟩

theorem outwardB_call (w : World) : Calls Try.prog 19 #[.int .i64 48] w fun e w' => e = .returned (.func (.func 33) #[] #[.pointer (some ⟨w.heap.size, 0, none⟩)]) ∧ w' = w.alloc (.cells #[.int .i64 48] 2) := by
  go_enter Try.func19, Try.ntmps19
  go_wp2
  go_ret
  exact ⟨rfl, rfl⟩
end Go.Proofs.Ytghkcfghkbihcaa
