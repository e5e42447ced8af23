import Derived.Test.YtncdgjaadlpncaaDoorClp
namespace Go.Proofs.YtncdgjaadlpncaaDoor
open Go.RowKit

/-- places as a list of numbers, two a place -/
def flatP (ps : List (Nat × Nat)) : List Int := ps.flatMap fun p => [(p.1 : Int), (p.2 : Int)]
theorem flatP_len (ps : List (Nat × Nat)) : (flatP ps).length = ps.length * 2 := by
  induction ps with
  | nil => rfl
  | cons p ps ih => simp only [flatP, List.flatMap_cons, List.length_append, List.length_cons, List.length_nil] at ih ⊢; omega
theorem acells_flat (ps : List (Nat × Nat)) : acells ps = icells (flatP ps) := by
  induction ps with
  | nil => rfl
  | cons p ps ih =>
    simp only [acells, flatP, icells, List.flatMap_cons, List.map_append] at ih ⊢
    rw [ih]
    rfl
/-- a slice's address under which pairs of numbers lie, in blocks below B -/
def SA (w : World) (B : Nat) (A : Option Addr) (n : Nat) (zs : List Int) : Prop := ∀ k, k < n → ∃ b, A = some ⟨b, 0, none⟩ ∧ b < B ∧ w.cell? ⟨b, k * 2, none⟩ = some (.int .i64 (zAt zs (k * 2))) ∧ w.cell? ⟨b, k * 2 + 1, none⟩ = some (.int .i64 (zAt zs (k * 2 + 1)))
theorem SA.below {w w' : World} {B n : Nat} {A : Option Addr} {zs : List Int} (h : SA w B A n zs) (hb : Below B w w') : SA w' B A n zs := fun k hk => by
  obtain ⟨b, h1, h2, h3, h4⟩ := h k hk
  exact ⟨b, h1, h2, (hb.cell (p := ⟨b, _, none⟩) h2).trans h3, (hb.cell (p := ⟨b, _, none⟩) h2).trans h4⟩
theorem SA.up {w : World} {B B' n : Nat} {A : Option Addr} {zs : List Int} (h : SA w B A n zs) (hB : B ≤ B') : SA w B' A n zs := fun k hk => by
  obtain ⟨b, h1, h2, h3⟩ := h k hk
  exact ⟨b, h1, by omega, h3⟩
theorem SA.of_own {w : World} {base n : Nat} {A : Option Addr} {c : Nat} {zs : List Int} (hz : zs.length = n * 2) (h : w.ownsRow base 59 2 (.slice A n c) n (icells zs)) : SA w w.heap.size A n zs := by
  intro k hk
  rcases h.2 with ⟨h', h0⟩ | ⟨g, cap, cur, h', hb, hg, _⟩
  · omega
  · simp only [Value.slice.injEq, true_and] at h'
    obtain ⟨rfl, rfl⟩ := h'
    refine ⟨g, rfl, (Array.getElem?_eq_some_iff.1 hg).1, ?_, ?_⟩
    · rw [h.cellAt (k * 2) (by omega), icells_get zs (k * 2) (by omega)]
    · rw [h.cellAt (k * 2 + 1) (by omega), icells_get zs (k * 2 + 1) (by omega)]

set_option maxHeartbeats 1000000 in
theorem eqInt64A2_any (x y : Int) (w : World) :
    Calls Tryd.prog 35 #[.agg #[.int .i64 x, .int .i64 y], .agg #[.int .i64 x, .int .i64 y]] w (Says true w) := by
  obtain ⟨X, hX⟩ : ∃ X, (w.alloc (.cells #[.int .i64 x, .int .i64 y] 59)).alloc (.cells #[.int .i64 x, .int .i64 y] 59) = X := ⟨_, rfl⟩
  have hb0 : Below w.heap.size w X := by rw [← hX]; exact ((Below.refl _ _).alloc (Nat.le_refl _) _).alloc (by simp) _
  have R1 : X.heap[w.heap.size]? = some (.cells #[.int .i64 x, .int .i64 y] 59 (0, 0)) := by rw [← hX]; exact heap_old' (heap_new' _ _ _ rfl)
  have R2 : X.heap[w.heap.size + 1]? = some (.cells #[.int .i64 x, .int .i64 y] 59 (0, 0)) := by rw [← hX]; exact heap_new' _ _ _ (by simp)
  have hXs : X.heap.size = w.heap.size + 2 := by rw [← hX]; simp
  have HXX := hide hX
  clear hX
  go_enter Tryd.func35, Tryd.ntmps35
  go_wp2_with fail
  rw [HXX.out]
  go_loopw [5] (fun i wr => ∃ k : Nat, k ≤ 2 ∧ i = .int .i64 k ∧ Below X.heap.size X wr)
    (fun i _ => 2 - (intOf i).toNat)
  case atStart => exact ⟨0, Nat.zero_le _, rfl, Below.refl _ _⟩
  case round =>
    obtain ⟨k, hk, rfl, hb⟩ := hrel
    by_cases hlt : k < 2
    · obtain ⟨z, hz⟩ : ∃ z : Int, X.cell? ⟨w.heap.size, k, none⟩ = some (.int .i64 z) ∧ X.cell? ⟨w.heap.size + 1, k, none⟩ = some (.int .i64 z) := by
        rw [cell_of_row _ _ _ _ _ _ R1, cell_of_row _ _ _ _ _ _ R2]
        match k, hlt with
        | 0, _ => exact ⟨x, rfl, rfl⟩
        | 1, _ => exact ⟨y, rfl, rfl⟩
      have d1 := Later.cell ((hb.cell (p := ⟨w.heap.size, k, none⟩) (by dsimp only; omega)).trans hz.1)
      have d2 := Later.cell ((hb.cell (p := ⟨w.heap.size + 1, k, none⟩) (by dsimp only; omega)).trans hz.2)
      have hne : (z != z) = false := by simp
      have hki : (k : Int) < 2 := by omega
      have hsz := hb.size
      clear hz
      go_wp2_with fail
      refine wp_region_later (by kernel_rfl) (by kernel_rfl) ?_
      repeat (go_big_quiet_step (fail))
      refine wpQuiet_nil ?_
      rintro wz ⟨⟨_, hq⟩, rfl⟩
      go_wp2
      go_roundw
      case rel => exact ⟨k + 1, hlt, by go_num, hb.trans (hq.mono hsz)⟩
      case measure => simp [intOf]; omega
    · obtain rfl : k = 2 := by omega
      go_wp2
      go_ret
      exact ⟨rfl, step_below hb hb0⟩

set_option maxHeartbeats 1000000 in
theorem eqInt64A2S_any (A C : Option Addr) (c d n : Nat) (zs : List Int) (B : Nat) (w : World) (hA : SA w B A n zs) (hC : SA w B C n zs) (hB : B ≤ w.heap.size) (hn : n ≤ 1048576) :
    Calls Tryd.prog 15 #[.slice A n c, .slice C n d] w (Says true w) := by
  have H1 : ((n : Int) != (n : Int)) = false := by simp
  have H2 : (n != n) = false := by simp
  go_enter Tryd.func15, Tryd.ntmps15
  go_wp2_with fail
  go_loopw [5] (fun i wr => ∃ k : Nat, k ≤ n ∧ i = .int .i64 k ∧ Below w.heap.size w wr)
    (fun i _ => n - (intOf i).toNat)
  case atStart => exact ⟨0, Nat.zero_le _, rfl, Below.refl _ _⟩
  case round =>
    obtain ⟨k, hk, rfl, hb⟩ := hrel
    by_cases hlt : k < n
    · obtain ⟨b, rfl, hb1, c1, c2⟩ := hA k hlt
      obtain ⟨b', rfl, hb2, c3, c4⟩ := hC k hlt
      have d1 := Later.cell ((hb.cell (p := ⟨b, _, none⟩) (by dsimp only; omega)).trans c1)
      have d2 := Later.cell ((hb.cell (p := ⟨b, _, none⟩) (by dsimp only; omega)).trans c2)
      have d3 := Later.cell ((hb.cell (p := ⟨b', _, none⟩) (by dsimp only; omega)).trans c3)
      have d4 := Later.cell ((hb.cell (p := ⟨b', _, none⟩) (by dsimp only; omega)).trans c4)
      have hsz := hb.size
      obtain ⟨z1, hz1⟩ : ∃ z1, zAt zs (k * 2) = z1 := ⟨_, rfl⟩
      obtain ⟨z2, hz2⟩ : ∃ z2, zAt zs (k * 2 + 1) = z2 := ⟨_, rfl⟩
      rw [hz1] at d1 d3
      rw [hz2] at d2 d4
      clear c1 c2 c3 c4 hA hC hz1 hz2
      go_wp2_with fail
      refine wp_region_later (by kernel_rfl) (by kernel_rfl) ?_
      repeat (go_big_quiet_step ((go_at_call 35; with_reducible exact Later.call (eqInt64A2_any z1 z2 _))))
      refine wpQuiet_nil ?_
      rintro wz ⟨⟨_, hq⟩, rfl⟩
      go_wp2
      go_roundw
      case rel => exact ⟨k + 1, hlt, by go_num, hb.trans (hq.mono hsz)⟩
      case measure => simp [intOf]; omega
    · obtain rfl : k = n := by omega
      go_wp2
      go_ret
      exact ⟨rfl, hb⟩

end Go.Proofs.YtncdgjaadlpncaaDoor
