import Derived.Test.YtcepjiglhlmgdaaGreatDoorQrf
import Derived.Test.YtcepjiglhlmgdaaGreatDoorGaa
import Derived.IntWalk
namespace Go.Proofs.YtcepjiglhlmgdaaGreatDoor
open Go.RowKit Go.Shelf
attribute [local go_sem] Oper.semAt_some
/-- the numbers in the order 0, 1, -1, 2, -2, .. -/
def owQ (t : Nat) : Int := if t % 2 = 1 then ((t / 2 + 1 : Nat) : Int) else -((t / 2 : Nat) : Int)
def owS (t : Nat) : List Int := (List.range t).map owQ
theorem owS_succ (t : Nat) : owS (t + 1) = owS t ++ [owQ t] := by simp [owS, List.range_succ]
theorem owS_pre {t u : Nat} (h : t ≤ u) : owS t <+: owS u := by
  refine ⟨((List.range (u - t)).map (t + ·)).map owQ, ?_⟩
  unfold owS
  rw [← List.map_append, ← List.range_add, show t + (u - t) = u by omega]
theorem owQ_odd (s : Nat) : owQ (2 * s + 1) = s + 1 := by unfold owQ; rw [if_pos (by omega)]; omega
theorem owQ_even (s : Nat) : owQ (2 * s + 2) = -(s + 1) := by unfold owQ; rw [if_neg (by omega)]; omega
theorem owS_two (s : Nat) : owS (2 * (s + 1) + 1) = owS (2 * s + 1) ++ [(s : Int) + 1] ++ [-((s : Int) + 1)] := by
  rw [show 2 * (s + 1) + 1 = 2 * s + 1 + 1 + 1 by omega, owS_succ (2 * s + 1 + 1), owS_succ (2 * s + 1), owQ_odd, owQ_even]
set_option maxHeartbeats 2000000 in
set_option maxRecDepth 20000 in
theorem outward_q (m Bn : Nat) (w : World) (hm : m ≤ 100) (hc : w.heap[Bn]? = some (.cells #[.int .i64 m] 2 (0, 0))) :
    SeqQ Tryz.prog 91 #[.pointer (some ⟨Bn, 0, none⟩)] (fun x : Int => #[.int .i64 x]) (owS (2 * m + 1)) w := by
  intro n l T J W hW hJ hY h0
  have hB : Bn < w.heap.size := (Array.getElem?_eq_some_iff.1 hc).1
  have hc1 := (hW.block Bn hB).trans hc
  have hBW : Bn < W.heap.size := Nat.lt_of_lt_of_le hB hW.size
  have hd1 : W.cell? ⟨Bn, 0, none⟩ = some (.int .i64 m) := by rw [cell_of_row W Bn 0 _ _ _ hc1]; rfl
  show CallsIn Fence.wide n Tryz.prog 91 #[.func (.yield l) #[] #[], .pointer (some ⟨Bn, 0, none⟩)] W _
  refine callsIn_of_wp Tryz.func91 rfl trivial ?_ rfl
  simp only [Tryz.ntmps91, List.size_toArray, List.length_cons, List.length_nil, Nat.reduceAdd, Nat.reduceSub, Array.replicate_succ, Array.replicate_zero, List.push_toArray, List.append_toArray, List.nil_append, List.cons_append]
  have hp0 : [] ++ [(0 : Int)] <+: owS (2 * m + 1) := owS_pre (t := 1) (by omega)
  obtain ⟨fn, tmps, assign, body, hy, hR⟩ := hY (n - 1) [] 0 W hp0 h0 (Below.refl _ _)
  gi_wp2
  refine ⟨(fun h => by simp [Fence.wide] at h), hR.mono ?_⟩
  clear hy hR
  rintro e W1 (⟨rfl, hT1, hk1⟩ | ⟨rfl, hJ1, _⟩)
  · gi_wp2
    gi_loopw [3] (fun i wr => ∃ s : Nat, s ≤ m ∧ i = .int .i64 (s + 1) ∧ T (owS (2 * s + 1)) ∧ Below W.heap.size W wr) (fun i _ => m + 1 - (intOf i).toNat)
    case atStart => exact ⟨0, by omega, rfl, hT1, hk1⟩
    case round =>
      obtain ⟨s, hs, rfl, hTs, hbs⟩ := hrel
      have hd3 := (hbs.cell (p := ⟨Bn, 0, none⟩) hBW).trans hd1
      by_cases hlt : s < m
      · have hz : (s : Int) + 1 ≤ (m : Int) := by omega
        have hz1 : decide ((s : Int) + 1 ≤ (m : Int)) = true := decide_eq_true hz
        have hp1 : owS (2 * s + 1) ++ [(s : Int) + 1] <+: owS (2 * m + 1) := by rw [← owQ_odd, ← owS_succ]; exact owS_pre (by omega)
        have hp2 : owS (2 * s + 1) ++ [(s : Int) + 1] ++ [-((s : Int) + 1)] <+: owS (2 * m + 1) := by rw [← owS_two]; exact owS_pre (by omega)
        obtain ⟨fn, tmps, assign, body, hy, hR⟩ := hY (n - 1) _ _ wr hp1 hTs hbs
        gi_wp2
        refine ⟨(fun h => by simp [Fence.wide] at h), hR.mono ?_⟩
        clear hy hR
        rintro e W2 (⟨rfl, hT2, hk2⟩ | ⟨rfl, hJ2, _⟩)
        · have b2 := hbs.trans (hk2.mono hbs.size)
          obtain ⟨fn, tmps, assign, body, hy, hR⟩ := hY (n - 1) _ _ W2 hp2 hT2 b2
          have hneg : IntKind.i64.wrap (-((s : Int) + 1)) = -((s : Int) + 1) := IntWalk.i64_in _ (by omega)
          gi_wp2
          refine ⟨(fun h => by simp [Fence.wide] at h), hR.mono ?_⟩
          clear hy hR
          rintro e W3 (⟨rfl, hT3, hk3⟩ | ⟨rfl, hJ3, _⟩)
          · gi_wp2
            go_roundw
            case rel => exact ⟨s + 1, hlt, by go_num, by rw [owS_two]; exact hT3, b2.trans (hk3.mono b2.size)⟩
            case measure => simp [intOf]; omega
          · gi_wp2
            refine bodyPost_ret (results_none rfl _ _ _) rfl ?_
            exact ⟨⟨_, rfl⟩, .inr ⟨_, hp2, hJ3⟩⟩
        · gi_wp2
          refine ⟨fun _ h => (by cases h), ?_⟩
          gi_wp2
          refine bodyPost_ret (results_none rfl _ _ _) rfl ?_
          exact ⟨⟨_, rfl⟩, .inr ⟨_, hp1, hJ2⟩⟩
      · obtain rfl : s = m := by omega
        gi_wp2
        go_end0
        exact ⟨⟨_, rfl⟩, .inl ⟨hTs, hbs⟩⟩
  · gi_wp2
    refine bodyPost_ret (results_none rfl _ _ _) rfl ?_
    exact ⟨⟨_, rfl⟩, .inr ⟨_, hp0, hJ1⟩⟩
theorem outward_make (m : Nat) (_hm : m ≤ 100) (w : World) : Calls Tryz.prog 88 #[.int .i64 m] w fun e w' => e = .returned (.func (.func 91) #[] #[.pointer (some ⟨w.heap.size, 0, none⟩)]) ∧ w' = w.alloc (.cells #[.int .i64 m] 2) := by
  go_enter Tryz.func88, Tryz.ntmps88
  go_wp2
  go_ret
  exact ⟨rfl, rfl⟩
end Go.Proofs.YtcepjiglhlmgdaaGreatDoor
