import Derived.Test.YtcdjfflmgjpobaaDoorClp
namespace Go.Proofs.YtcdjfflmgjpobaaDoor
open Go.RowKit

/-- places as a list of numbers, two a place -/
def flatP (ps : List (Nat × Nat)) : List Int := ps.flatMap fun p => [(p.1 : Int), (p.2 : Int)]
theorem flatP_len (ps : List (Nat × Nat)) : (flatP ps).length = ps.length * 2 := by
  induction ps with
  | nil => rfl
  | cons p ps ih => simp only [flatP, List.flatMap_cons, List.length_append, List.length_cons, List.length_nil] at ih ⊢; omega
theorem acells_flat (ps : List (Nat × Nat)) : acells ps = icells (flatP ps) := by
  induction ps with
  | nil => rfl
  | cons p ps ih =>
    simp only [acells, flatP, icells, List.flatMap_cons, List.map_append] at ih ⊢
    rw [ih]
    rfl
/-- a slice's address under which pairs of numbers lie, in blocks below B -/
def SA (w : World) (B : Nat) (A : Option Addr) (n : Nat) (zs : List Int) : Prop := ∀ k, k < n → ∃ b, A = some ⟨b, 0, none⟩ ∧ b < B ∧ w.cell? ⟨b, k * 2, none⟩ = some (.int .i64 (zAt zs (k * 2))) ∧ w.cell? ⟨b, k * 2 + 1, none⟩ = some (.int .i64 (zAt zs (k * 2 + 1)))
theorem SA.below {w w' : World} {B n : Nat} {A : Option Addr} {zs : List Int} (h : SA w B A n zs) (hb : Below B w w') : SA w' B A n zs := fun k hk => by
  obtain ⟨b, h1, h2, h3, h4⟩ := h k hk
  exact ⟨b, h1, h2, (hb.cell (p := ⟨b, _, none⟩) h2).trans h3, (hb.cell (p := ⟨b, _, none⟩) h2).trans h4⟩
theorem SA.up {w : World} {B B' n : Nat} {A : Option Addr} {zs : List Int} (h : SA w B A n zs) (hB : B ≤ B') : SA w B' A n zs := fun k hk => by
  obtain ⟨b, h1, h2, h3⟩ := h k hk
  exact ⟨b, h1, by omega, h3⟩
theorem SA.of_own {w : World} {base n : Nat} {A : Option Addr} {c : Nat} {zs : List Int} (hz : zs.length = n * 2) (h : w.ownsRow base 89 2 (.slice A n c) n (icells zs)) : SA w w.heap.size A n zs := by
  intro k hk
  rcases h.2 with ⟨h', h0⟩ | ⟨g, cap, cur, h', hb, hg, _⟩
  · omega
  · simp only [Value.slice.injEq, true_and] at h'
    obtain ⟨rfl, rfl⟩ := h'
    refine ⟨g, rfl, (Array.getElem?_eq_some_iff.1 hg).1, ?_, ?_⟩
    · rw [h.cellAt (k * 2) (by omega), icells_get zs (k * 2) (by omega)]
    · rw [h.cellAt (k * 2 + 1) (by omega), icells_get zs (k * 2 + 1) (by omega)]

set_option maxHeartbeats 1000000 in
theorem eqInt64A2_any (x y : Int) (w : World) :
    Calls Tryd.prog 57 #[.agg #[.int .i64 x, .int .i64 y], .agg #[.int .i64 x, .int .i64 y]] w (Says true w) := by
  obtain ⟨X, hX⟩ : ∃ X, (w.alloc (.cells #[.int .i64 x, .int .i64 y] 89)).alloc (.cells #[.int .i64 x, .int .i64 y] 89) = X := ⟨_, rfl⟩
  have hb0 : Below w.heap.size w X := by rw [← hX]; exact ((Below.refl _ _).alloc (Nat.le_refl _) _).alloc (by simp) _
  have R1 : X.heap[w.heap.size]? = some (.cells #[.int .i64 x, .int .i64 y] 89 (0, 0)) := by rw [← hX]; exact heap_old' (heap_new' _ _ _ rfl)
  have R2 : X.heap[w.heap.size + 1]? = some (.cells #[.int .i64 x, .int .i64 y] 89 (0, 0)) := by rw [← hX]; exact heap_new' _ _ _ (by simp)
  have hXs : X.heap.size = w.heap.size + 2 := by rw [← hX]; simp
  have HXX := hide hX
  clear hX
  go_enter Tryd.func57, Tryd.ntmps57
  go_wp2_with fail
  rw [HXX.out]
  go_loopw [5] (fun i wr => ∃ k : Nat, k ≤ 2 ∧ i = .int .i64 k ∧ Below X.heap.size X wr)
    (fun i _ => 2 - (intOf i).toNat)
  case atStart => exact ⟨0, Nat.zero_le _, rfl, Below.refl _ _⟩
  case round =>
    obtain ⟨k, hk, rfl, hb⟩ := hrel
    by_cases hlt : k < 2
    · obtain ⟨z, hz⟩ : ∃ z : Int, X.cell? ⟨w.heap.size, k, none⟩ = some (.int .i64 z) ∧ X.cell? ⟨w.heap.size + 1, k, none⟩ = some (.int .i64 z) := by
        rw [cell_of_row _ _ _ _ _ _ R1, cell_of_row _ _ _ _ _ _ R2]
        match k, hlt with
        | 0, _ => exact ⟨x, rfl, rfl⟩
        | 1, _ => exact ⟨y, rfl, rfl⟩
      have d1 := Later.cell ((hb.cell (p := ⟨w.heap.size, k, none⟩) (by dsimp only; omega)).trans hz.1)
      have d2 := Later.cell ((hb.cell (p := ⟨w.heap.size + 1, k, none⟩) (by dsimp only; omega)).trans hz.2)
      have hne : (z != z) = false := by simp
      have hki : (k : Int) < 2 := by omega
      have hsz := hb.size
      clear hz
      go_wp2_with fail
      refine wp_region_later (by kernel_rfl) (by kernel_rfl) ?_
      repeat (go_big_quiet_step (fail))
      refine wpQuiet_nil ?_
      rintro wz ⟨⟨_, hq⟩, rfl⟩
      go_wp2
      go_roundw
      case rel => exact ⟨k + 1, hlt, by go_num, hb.trans (hq.mono hsz)⟩
      case measure => simp [intOf]; omega
    · obtain rfl : k = 2 := by omega
      go_wp2
      go_ret
      exact ⟨rfl, step_below hb hb0⟩

set_option maxHeartbeats 1000000 in
theorem eqInt64A2S_any (A C : Option Addr) (c d n : Nat) (zs : List Int) (B : Nat) (w : World) (hA : SA w B A n zs) (hC : SA w B C n zs) (hB : B ≤ w.heap.size) (hn : n ≤ 1048576) :
    Calls Tryd.prog 27 #[.slice A n c, .slice C n d] w (Says true w) := by
  have H1 : ((n : Int) != (n : Int)) = false := by simp
  have H2 : (n != n) = false := by simp
  go_enter Tryd.func27, Tryd.ntmps27
  go_wp2_with fail
  go_loopw [5] (fun i wr => ∃ k : Nat, k ≤ n ∧ i = .int .i64 k ∧ Below w.heap.size w wr)
    (fun i _ => n - (intOf i).toNat)
  case atStart => exact ⟨0, Nat.zero_le _, rfl, Below.refl _ _⟩
  case round =>
    obtain ⟨k, hk, rfl, hb⟩ := hrel
    by_cases hlt : k < n
    · obtain ⟨b, rfl, hb1, c1, c2⟩ := hA k hlt
      obtain ⟨b', rfl, hb2, c3, c4⟩ := hC k hlt
      have d1 := Later.cell ((hb.cell (p := ⟨b, _, none⟩) (by dsimp only; omega)).trans c1)
      have d2 := Later.cell ((hb.cell (p := ⟨b, _, none⟩) (by dsimp only; omega)).trans c2)
      have d3 := Later.cell ((hb.cell (p := ⟨b', _, none⟩) (by dsimp only; omega)).trans c3)
      have d4 := Later.cell ((hb.cell (p := ⟨b', _, none⟩) (by dsimp only; omega)).trans c4)
      have hsz := hb.size
      obtain ⟨z1, hz1⟩ : ∃ z1, zAt zs (k * 2) = z1 := ⟨_, rfl⟩
      obtain ⟨z2, hz2⟩ : ∃ z2, zAt zs (k * 2 + 1) = z2 := ⟨_, rfl⟩
      rw [hz1] at d1 d3
      rw [hz2] at d2 d4
      clear c1 c2 c3 c4 hA hC hz1 hz2
      go_wp2_with fail
      refine wp_region_later (by kernel_rfl) (by kernel_rfl) ?_
      repeat (go_big_quiet_step ((go_at_call 57; with_reducible exact Later.call (eqInt64A2_any z1 z2 _))))
      refine wpQuiet_nil ?_
      rintro wz ⟨⟨_, hq⟩, rfl⟩
      go_wp2
      go_roundw
      case rel => exact ⟨k + 1, hlt, by go_num, hb.trans (hq.mono hsz)⟩
      case measure => simp [intOf]; omega
    · obtain rfl : k = n := by omega
      go_wp2
      go_ret
      exact ⟨rfl, hb⟩

set_option maxHeartbeats 1000000 in
theorem markInt64A2S_any (A : Option Addr) (c n : Nat) (zs : List Int) (m0 : Nat) (base : Nat) (w : World) (hz : zs.length = n * 2) (h : w.ownsRow base 89 2 (.slice A n c) n (icells zs)) (hn : n ≤ 1048576) (hbase : base ≤ w.heap.size) :
    Calls Tryd.prog 28 #[.slice A n c, .int .i64 1] w fun e w' => e = .returned (.int .i64 (2 * (n : Int) + 1)) ∧ w'.ownsRow base 89 2 (.slice A n c) n (icells (mks (n * 2))) ∧ Below base w w' := by
  go_enter Tryd.func28, Tryd.ntmps28
  go_wp2_with fail
  go_loopw [1, 5] (fun m i wr => ∃ k : Nat, k ≤ n ∧ i = .int .i64 k ∧ m = .int .i64 (2 * (k : Int) + 1) ∧ wr.ownsRow base 89 2 (.slice A n c) n (icells (mkTo zs (k * 2))) ∧ Below base w wr)
    (fun _ i _ => n - (intOf i).toNat)
  case atStart => exact ⟨0, Nat.zero_le _, rfl, rfl, by rw [Nat.zero_mul, mkTo_zero]; exact h, Below.refl _ _⟩
  case round =>
    obtain ⟨k, hk, rfl, rfl, hown, hb⟩ := hrel
    by_cases hlt : k < n
    · have hk1 : (k : Int) < (n : Int) := by omega
      have hk2 : decide ((k : Int) < (n : Int)) = true := decide_eq_true hk1
      go_wp2_with fail
      go_loopw [1, 6] (fun m i wq => ∃ j : Nat, j ≤ 2 ∧ i = .int .i64 j ∧ m = .int .i64 (2 * (k : Int) + 1 + (j : Int)) ∧ wq.ownsRow base 89 2 (.slice A n c) n (icells (mkTo zs (k * 2 + j))) ∧ Below base w wq)
        (fun _ i _ => 2 - (intOf i).toNat)
      case atStart => exact ⟨0, Nat.zero_le _, rfl, by simp, hown, hb⟩
      case round =>
        obtain ⟨j, hj, rfl, rfl, hown2, hb2⟩ := hrel
        by_cases hlt2 : j < 2
        · rcases hown2.2 with ⟨h', h0⟩ | ⟨g, cap, cur, h', hgb, hg, _⟩
          · omega
          · simp only [Value.slice.injEq, true_and] at h'
            obtain ⟨rfl, rfl⟩ := h'
            have f1 := (hown2.cellAt (k * 2 + j) (by omega)).trans (icells_get _ (k * 2 + j) (by rw [mkTo_length _ _ (by omega)]; omega))
            have f2 := hown2.frozenAt (k * 2 + j)
            have hji : (j : Int) < 2 := by omega
            have hwv : IntKind.i64.wrap (2 * (k : Int) + 1 + (j : Int) + 1) = 2 * (k : Int) + 1 + (j : Int) + 1 := IntWalk.i64_in _ (by omega)
            have hset := mkTo_set zs (k * 2 + j) (by omega)
            rw [show (((k * 2 + j : Nat) : Int) + 1) = 2 * (k : Int) + 1 + (j : Int) by omega] at hset
            have HS := hide hset
            clear hg h hown hset
            go_wp2
            go_roundw
            case rel => exact ⟨j + 1, hlt2, by go_num, by go_num, by rw [← Nat.add_assoc, ← HS.out, ← icells_set]; exact (hown2.stored (k * 2 + j) _).1, hb2.setCell (p := ⟨g, _, none⟩) hgb _⟩
            case measure => simp [intOf]; omega
        · obtain rfl : j = 2 := by omega
          go_wp2
          go_roundw
          case rel => exact ⟨k + 1, hlt, by go_num, by go_num, by rw [show (k + 1) * 2 = k * 2 + 2 by omega]; exact hown2, hb2⟩
          case measure => simp [intOf]; omega
    · obtain rfl : k = n := by omega
      go_wp2
      go_ret
      exact ⟨rfl, by rw [← hz, mkTo_all, hz] at hown; exact hown, hb⟩

theorem heldInt64A2S_any (A : Option Addr) (c n : Nat) (B : Nat) (w : World) (hA : SA w B A n (mks (n * 2))) (hn : n ≤ 1048576) :
    Calls Tryd.prog 29 #[.slice A n c, .int .i64 1] w fun e w' => e = .returned (.int .i64 (2 * (n : Int) + 1)) ∧ w = w' := by
  go_enter Tryd.func29, Tryd.ntmps29
  go_wp2_with fail
  go_loop [1, 5] (fun m i => ∃ k : Nat, k ≤ n ∧ i = .int .i64 k ∧ m = .int .i64 (2 * (k : Int) + 1))
    (fun _ i => n - (intOf i).toNat)
  case atStart => exact ⟨0, Nat.zero_le _, rfl, rfl⟩
  case round =>
    obtain ⟨k, hk, rfl, rfl⟩ := hrel
    by_cases hlt : k < n
    · obtain ⟨b, rfl, hb1, c1, c2⟩ := hA k hlt
      rw [mks_at (n * 2) (k * 2) (by omega)] at c1
      rw [mks_at (n * 2) (k * 2 + 1) (by omega)] at c2
      have hk1 : (k : Int) < (n : Int) := by omega
      have hk2 : decide ((k : Int) < (n : Int)) = true := decide_eq_true hk1
      go_wp2_with fail
      go_loop [1, 6] (fun m i => ∃ j : Nat, j ≤ 2 ∧ i = .int .i64 j ∧ m = .int .i64 (2 * (k : Int) + 1 + (j : Int)))
        (fun _ i => 2 - (intOf i).toNat)
      case atStart => exact ⟨0, Nat.zero_le _, rfl, by simp⟩
      case round =>
        obtain ⟨j, hj, rfl, rfl⟩ := hrel
        by_cases hlt2 : j < 2
        · have c3 : w.cell? ⟨b, k * 2 + j, none⟩ = some (.int .i64 (2 * (k : Int) + 1 + (j : Int))) := by
            match j, hlt2 with
            | 0, _ => rw [Nat.add_zero, c1]; congr 2; omega
            | 1, _ => rw [c2]; congr 2; omega
          have hne : ((2 * (k : Int) + 1 + (j : Int)) != (2 * (k : Int) + 1 + (j : Int))) = false := by simp
          have hji : (j : Int) < 2 := by omega
          have hwv : IntKind.i64.wrap (2 * (k : Int) + 1 + (j : Int) + 1) = 2 * (k : Int) + 1 + (j : Int) + 1 := IntWalk.i64_in _ (by omega)
          go_wp2
          go_round
          case rel => exact ⟨j + 1, hlt2, by go_num, by go_num⟩
          case measure => simp [intOf]; omega
        · obtain rfl : j = 2 := by omega
          go_wp2
          go_round
          case rel => exact ⟨k + 1, hlt, by go_num, by go_num⟩
          case measure => simp [intOf]; omega
    · obtain rfl : k = n := by omega
      go_wp2
      go_ret
      exact ⟨rfl, rfl⟩
end Go.Proofs.YtcdjfflmgjpobaaDoor
