import Derived.Test.YtmjpecneaenlpaaDoorCti
namespace Go.Proofs.YtmjpecneaenlpaaDoor
open Go.RowKit
theorem join_snoc (xs : List (List UInt8)) (x : List UInt8) (h : xs ≠ []) : Lib.join (xs ++ [x]) [32] = Lib.join xs [32] ++ 32 :: x := by
  cases xs with
  | nil => exact absurd rfl h
  | cons y r => simp [Lib.join_cons, Lib.joinTail]
theorem csJ_succ (l : List (Int × Int × Bool)) (k : Nat) : csJ l (k + 1) = csJ l k ++ ((if k = 0 then [] else [32]) ++ (csX l k).data.toList) := by
  by_cases hk : k = 0
  · subst hk
    simp [csJ, csP, Lib.join_one, Lib.join_nil]
  · rw [if_neg hk]
    have h : (csP l k).map (·.data.toList) ≠ [] := fun h => hk (by simpa [csP] using h)
    simp only [csJ, csP_succ, List.map_append, List.map_cons, List.map_nil, join_snoc _ _ h]
    rfl
set_option maxRecDepth 20000 in
set_option maxHeartbeats 4000000 in
theorem l05Plain_any (A : Option Addr) (c : Nat) (l : List (Int × Int × Bool)) (w : World) (hA : CgA w A l) (hn : l.length ≤ 1048576) (hwf : CgWF l) :
    Calls Tryd.prog 47 #[.slice A l.length c] w fun e w' => e = .returned (.bool (decide (l.length ≤ 2400 ∧ csA l = true))) ∧ Below w.heap.size w w' := by
  go_enter Tryd.func47, Tryd.ntmps47
  go_wp2_with fail
  go_loopw [3] (fun i wr => ∃ k : Nat, k ≤ l.length ∧ i = .int .i64 k ∧ (∀ j, j < k → cxB (cgS l j) (cgT l j) = true) ∧ wr = w)
    (fun i _ => l.length - (intOf i).toNat)
  case atStart => exact ⟨0, Nat.zero_le _, rfl, fun j hj => absurd hj (Nat.not_lt_zero _), rfl⟩
  case round =>
    obtain ⟨k, hk, rfl, hG, rfl⟩ := hrel
    by_cases hlt : k < l.length
    · obtain ⟨b, o, rfl, hbb, c1, c2, c3⟩ := hA k hlt
      obtain ⟨wS, wT⟩ := hwf k hlt
      have hki : (k : Int) < (l.length : Int) := by omega
      have HG := hide hG
      have HN := hide (csA_no hlt)
      have HY := hide (show cxB (cgS l k) (cgT l k) = true → ∀ j, j < k + 1 → cxB (cgS l j) (cgT l j) = true from fun h j hj => by
        rcases Nat.lt_succ_iff_lt_or_eq.1 hj with h' | rfl
        · exact HG.out j h'
        · exact h)
      clear hG c3
      obtain ⟨x, hx⟩ : ∃ x, cgS l k = x := ⟨_, rfl⟩
      obtain ⟨y, hy⟩ : ∃ y, cgT l k = y := ⟨_, rfl⟩
      rw [hx] at c1 wS HN HY
      rw [hy] at c2 wT HN HY
      clear hx hy
      have wa : IntKind.i64.wrap x = x := IntWalk.i64_in _ (by omega)
      have wp : IntKind.i64.wrap y = y := IntWalk.i64_in _ (by omega)
      cases h1 : inB x 0 95
      · have K1 : ∀ W, Calls Tryd.prog 61 #[.int .i64 x, .int .i64 0, .int .i64 95] W fun e w' => e = .returned (.bool false) ∧ W = w' := fun W => by rw [← h1]; exact l00In_any x 0 95 W
        have HV := hide (show decide (l.length ≤ 2400 ∧ csA l = true) = false by simp [HN.out (by simp [cxB, h1])])
        clear h1
        go_wp2_with (go_at_call 61; with_reducible refine (K1 _).mono ?_; rintro e w' ⟨rfl, rfl⟩)
        go_ret
        exact ⟨by rw [HV.out]; rfl, Below.refl _ _⟩
      · have K1 : ∀ W, Calls Tryd.prog 61 #[.int .i64 x, .int .i64 0, .int .i64 95] W fun e w' => e = .returned (.bool true) ∧ W = w' := fun W => by rw [← h1]; exact l00In_any x 0 95 W
        cases h2 : inB y 0 23
        · have K2 : ∀ W, Calls Tryd.prog 61 #[.int .i64 y, .int .i64 0, .int .i64 23] W fun e w' => e = .returned (.bool false) ∧ W = w' := fun W => by rw [← h2]; exact l00In_any y 0 23 W
          have HV := hide (show decide (l.length ≤ 2400 ∧ csA l = true) = false by simp [HN.out (by simp [cxB, h2])])
          clear h1 h2
          go_wp2_with (first | (go_at_call 61; with_reducible refine (K1 _).mono ?_; rintro e w' ⟨rfl, rfl⟩) | (go_at_call 61; with_reducible refine (K2 _).mono ?_; rintro e w' ⟨rfl, rfl⟩))
          go_ret
          exact ⟨by rw [HV.out]; rfl, Below.refl _ _⟩
        · have K2 : ∀ W, Calls Tryd.prog 61 #[.int .i64 y, .int .i64 0, .int .i64 23] W fun e w' => e = .returned (.bool true) ∧ W = w' := fun W => by rw [← h2]; exact l00In_any y 0 23 W
          have HV := hide (HY.out (by simp [cxB, h1, h2]))
          clear h1 h2
          go_wp2_with (first | (go_at_call 61; with_reducible refine (K1 _).mono ?_; rintro e w' ⟨rfl, rfl⟩) | (go_at_call 61; with_reducible refine (K2 _).mono ?_; rintro e w' ⟨rfl, rfl⟩))
          go_roundw
          case rel => exact ⟨k + 1, hlt, by go_num, HV.out, trivial⟩
          case measure => simp [intOf]; omega
    · obtain rfl : k = l.length := by omega
      have hcs := csA_all hG
      have HV := hide (show decide (l.length ≤ 2400 ∧ csA l = true) = decide ((l.length : Int) ≤ 2400) by rw [hcs]; simp; omega)
      clear hG hcs
      go_wp2
      all_goals go_ret
      all_goals exact ⟨by rw [HV.out]; rfl, Below.refl _ _⟩
end Go.Proofs.YtmjpecneaenlpaaDoor
namespace Go.Proofs.YtmjpecneaenlpaaDoor
open Go.RowKit
theorem csA_of {l : List (Int × Int × Bool)} (h : csA l = true) : ∀ j, j < l.length → cxB (cgS l j) (cgT l j) = true := by
  simpa [csA] using h
end Go.Proofs.YtmjpecneaenlpaaDoor
