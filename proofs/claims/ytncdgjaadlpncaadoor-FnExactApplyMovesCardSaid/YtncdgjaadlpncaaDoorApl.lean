import Derived.Test.YtncdgjaadlpncaaDoorApi
import Derived.Test.YtncdgjaadlpncaaDoorA2s
namespace Go.Proofs.YtncdgjaadlpncaaDoor
open Go.RowKit

/-- a slice's address, at whatever offset, under which pairs of numbers lie -/
def SO (w : World) (A : Option Addr) (n : Nat) (zs : List Int) : Prop := ∀ k, k < n → ∃ b o, A = some ⟨b, o, none⟩ ∧ b < w.heap.size ∧ w.cell? ⟨b, o + k * 2, none⟩ = some (.int .i64 (zAt zs (k * 2))) ∧ w.cell? ⟨b, o + k * 2 + 1, none⟩ = some (.int .i64 (zAt zs (k * 2 + 1)))
theorem SO.below {w w' : World} {A : Option Addr} {n : Nat} {zs : List Int} (h : SO w A n zs) (hb : Below w.heap.size w w') : SO w' A n zs := fun k hk => by
  obtain ⟨b, o, h1, h2, h3, h4⟩ := h k hk
  exact ⟨b, o, h1, Nat.lt_of_lt_of_le h2 hb.size, (hb.cell (p := ⟨b, _, none⟩) h2).trans h3, (hb.cell (p := ⟨b, _, none⟩) h2).trans h4⟩
def zup (zs : List Int) (k : Nat) : List Int := (List.range zs.length).map fun i => if i < k then zAt zs i else 0
theorem zup_length (zs : List Int) (k : Nat) : (zup zs k).length = zs.length := by simp [zup]
theorem zup_all (zs : List Int) : zup zs zs.length = zs := by
  apply List.ext_getElem?
  intro i
  by_cases h : i < zs.length
  · simp [zup, zAt, h]
  · rw [List.getElem?_eq_none (by rw [zup_length]; omega), List.getElem?_eq_none (by omega)]
theorem zup_set (zs : List Int) (k : Nat) (h : k < zs.length) : (zup zs k).set k (zAt zs k) = zup zs (k + 1) := by
  apply List.ext_getElem?
  intro i
  rw [List.getElem?_set, zup_length]
  by_cases e : k = i
  · subst e
    simp [zup, h]
  · rw [if_neg e]
    by_cases hi : i < zs.length
    · have : (i < k) ↔ (i < k + 1) := by omega
      simp [zup, hi, this]
    · rw [List.getElem?_eq_none (by rw [zup_length]; omega), List.getElem?_eq_none (by rw [zup_length]; omega)]
theorem zup_zero (zs : List Int) (n : Nat) (h : zs.length = n * 2) : icells (zup zs 0) = (madeCells #[.int .i64 0, .int .i64 0] (n * 2)).toList := by
  apply List.ext_getElem?
  intro j
  by_cases hj : j < n * 2
  · have hm : j % 2 = 0 ∨ j % 2 = 1 := by omega
    rcases hm with hm | hm <;> simp [icells, zup, madeCells, h, hj, hm]
  · rw [List.getElem?_eq_none (by rw [icells_length, zup_length]; omega), List.getElem?_eq_none (by simp [madeCells]; omega)]

theorem szInt64A2S_small (A : Option Addr) (n c : Nat) (l : Int) (h0 : 0 ≤ l) (h1 : l ≤ 1048576) (hn : n ≤ maxLen) (hs : (n : Int) ≤ l) (w : World) :
    Calls Tryd.prog 7 #[.slice A n c, .int .i64 l] w fun e w' => e = .returned (.int .i64 (l - n)) ∧ w = w' := by
  unfold maxLen at hn
  go_enter Tryd.func7, Tryd.ntmps7
  go_wp2
  all_goals go_ret
  all_goals exact ⟨ret_int (by omega), rfl⟩
theorem szInt64A2S_big (A : Option Addr) (n c : Nat) (l : Int) (h0 : 0 ≤ l) (h1 : l ≤ 1048576) (hn : n ≤ maxLen) (hs : l < (n : Int)) (w : World) :
    Calls Tryd.prog 7 #[.slice A n c, .int .i64 l] w fun e w' => e = .returned (.int .i64 (-1)) ∧ w = w' := by
  unfold maxLen at hn
  go_enter Tryd.func7, Tryd.ntmps7
  go_wp2
  all_goals go_ret
  all_goals exact ⟨ret_int (by omega), rfl⟩
set_option maxRecDepth 20000 in
set_option maxHeartbeats 2000000 in
theorem toInt64A2_any (x y : Int) (w : World) :
    Calls Tryd.prog 29 #[.agg #[.int .i64 x, .int .i64 y]] w fun e w' => e = .returned (.agg #[.int .i64 x, .int .i64 y]) ∧ Below w.heap.size w w' := by
  obtain ⟨X, hX⟩ : ∃ X, ((w.alloc (.cells #[.int .i64 x, .int .i64 y] 59)).alloc (.cells #[.int .i64 0, .int .i64 0] 59)).alloc (.cells #[.int .i64 0, .int .i64 0] 59) = X := ⟨_, rfl⟩
  have hb0 : Below w.heap.size w X := by rw [← hX]; exact (((Below.refl _ _).alloc (Nat.le_refl _) _).alloc (by simp) _).alloc (by simp; omega) _
  have R1 : X.heap[w.heap.size]? = some (.cells #[.int .i64 x, .int .i64 y] 59 (0, 0)) := by rw [← hX]; exact heap_old' (heap_old' (heap_new' _ _ _ rfl))
  have R2 : X.heap[w.heap.size + 1]? = some (.cells #[.int .i64 0, .int .i64 0] 59 (0, 0)) := by rw [← hX]; exact heap_old' (heap_new' _ _ _ (by simp))
  have R3 : X.heap[w.heap.size + 1 + 1]? = some (.cells #[.int .i64 0, .int .i64 0] 59 (0, 0)) := by rw [← hX]; exact heap_new' _ _ _ (by simp)
  have HXX := hide hX
  clear hX
  go_enter Tryd.func29, Tryd.ntmps29
  go_wp2_with fail
  rw [HXX.out]
  go_loopw [4] (fun i wr => ∃ (k : Nat) (u v : Int), k ≤ 2 ∧ i = .int .i64 k ∧ (0 < k → u = x) ∧ (1 < k → v = y) ∧ wr.heap[w.heap.size]? = some (.cells #[.int .i64 x, .int .i64 y] 59 (0, 0)) ∧ wr.heap[w.heap.size + 1]? = some (.cells #[.int .i64 0, .int .i64 0] 59 (0, 0)) ∧ wr.heap[w.heap.size + 1 + 1]? = some (.cells #[.int .i64 u, .int .i64 v] 59 (0, 0)) ∧ Below w.heap.size w wr)
    (fun i _ => 2 - (intOf i).toNat)
  case atStart => exact ⟨0, 0, 0, Nat.zero_le _, rfl, fun h => by omega, fun h => by omega, R1, R2, R3, hb0⟩
  case round =>
    obtain ⟨k, u, v, hk, rfl, hu, hv, r1, r2, r3, hb⟩ := hrel
    have hc := hk
    rcases (by omega : k = 0 ∨ k = 1 ∨ k = 2) with rfl | rfl | rfl
    · have c1 : wr.cell? ⟨w.heap.size, 0, none⟩ = some (.int .i64 x) := by rw [cell_of_row _ _ _ _ _ _ r1]; rfl
      have c2 : wr.cell? ⟨w.heap.size + 1 + 1, 0, none⟩ = some (.int .i64 u) := by rw [cell_of_row _ _ _ _ _ _ r3]; rfl
      have c3 : wr.frozen? ⟨w.heap.size + 1 + 1, 0, none⟩ = false := by simp [World.frozen?, r3]
      go_wp2
      go_roundw
      case rel => exact ⟨1, x, v, by omega, rfl, fun _ => rfl, fun h => by omega, (heap_setCell_other _ _ _ _ (by dsimp only; omega)).trans r1, (heap_setCell_other _ _ _ _ (by dsimp only; omega)).trans r2, by simp [World.setCell, Array.getElem?_modify, r3], hb.setCell (p := ⟨_, _, none⟩) (by dsimp only; omega) _⟩
      case measure => simp [intOf]
    · have c1 : wr.cell? ⟨w.heap.size, 1, none⟩ = some (.int .i64 y) := by rw [cell_of_row _ _ _ _ _ _ r1]; rfl
      have c2 : wr.cell? ⟨w.heap.size + 1 + 1, 1, none⟩ = some (.int .i64 v) := by rw [cell_of_row _ _ _ _ _ _ r3]; rfl
      have c3 : wr.frozen? ⟨w.heap.size + 1 + 1, 1, none⟩ = false := by simp [World.frozen?, r3]
      have hu' := hu (by omega)
      subst hu'
      go_wp2
      go_roundw
      case rel => exact ⟨2, u, y, by omega, rfl, fun _ => rfl, fun _ => rfl, (heap_setCell_other _ _ _ _ (by dsimp only; omega)).trans r1, (heap_setCell_other _ _ _ _ (by dsimp only; omega)).trans r2, by simp [World.setCell, Array.getElem?_modify, r3], hb.setCell (p := ⟨_, _, none⟩) (by dsimp only; omega) _⟩
      case measure => simp [intOf]
    · have hu' := hu (by omega)
      have hv' := hv (by omega)
      subst hu' hv'
      have c1 : wr.cell? ⟨w.heap.size + 1 + 1, 0, none⟩ = some (.int .i64 u) := by rw [cell_of_row _ _ _ _ _ _ r3]; rfl
      have c2 : wr.cell? ⟨w.heap.size + 1 + 1, 1, none⟩ = some (.int .i64 v) := by rw [cell_of_row _ _ _ _ _ _ r3]; rfl
      have d1 : wr.cell? ⟨w.heap.size + 1, 0, none⟩ = some (.int .i64 0) := by rw [cell_of_row _ _ _ _ _ _ r2]; rfl
      have d2 : wr.cell? ⟨w.heap.size + 1, 1, none⟩ = some (.int .i64 0) := by rw [cell_of_row _ _ _ _ _ _ r2]; rfl
      have f1 : wr.frozen? ⟨w.heap.size + 1, 0, none⟩ = false := by simp [World.frozen?, r2]
      have f2 : wr.frozen? ⟨w.heap.size + 1, 1, none⟩ = false := by simp [World.frozen?, r2]
      have HRW := hide (show ((wr.setCell ⟨w.heap.size + 1, 0, none⟩ (.int .i64 u)).setCell ⟨w.heap.size + 1, 1, none⟩ (.int .i64 v)).heap[w.heap.size + 1]? = some (.cells #[.int .i64 u, .int .i64 v] 59 (0, 0)) by simp [World.setCell, Array.getElem?_modify, r2])
      have hi2 : (Tryd.prog.info? 59).map (·.size) = some 2 := by kernel_rfl
      have HI := hide hi2
      clear r1 r2 r3 hi2 R1 R2 R3
      go_wp2_with fail
      exact bodyPost_ret (v := .agg #[.int .i64 u, .int .i64 v]) (results_cell_row Tryd.results29 _ _ (w.heap.size + 1) 59 #[.int .i64 u, .int .i64 v] (0, 0) _ (by simp) HRW.out Tryd.underlying59 rfl HI.out) rfl ⟨rfl, (hb.setCell (p := ⟨_, _, none⟩) (by dsimp only; omega) _).setCell (p := ⟨_, _, none⟩) (by dsimp only; omega) _⟩

set_option maxRecDepth 20000 in
set_option maxHeartbeats 2000000 in
theorem toInt64A2S_any (A : Option Addr) (n c : Nat) (zs : List Int) (w : World) (hA : SO w A n zs) (hz : zs.length = n * 2) (hn : n ≤ 1048576) :
    Calls Tryd.prog 11 #[.slice A n c] w fun e w' => e = .returned (.slice (some ⟨w.heap.size, 0, none⟩) n n) ∧ w'.ownsRow w.heap.size 59 2 (.slice (some ⟨w.heap.size, 0, none⟩) n n) n (icells zs) ∧ Below w.heap.size w w' := by
  obtain ⟨i0, hi, hz0, hz1, hz2⟩ := info_parts info59
  go_enter Tryd.func11, Tryd.ntmps11
  go_wp2_with (at_make; refine wpList_make_full _ rfl _ _ 28 rfl w.heap.size 59 i0 _ 2 Tryd.underlying28 hi hz0 hz1 _ _ _ _ n rfl rfl (by omega) (by omega) (by rw [hz2]; omega) (by unfold maxLen; omega) (by simp) ?_; intro w1 hown1 hgrow1)
  have hb0 : Below w.heap.size w w1 := (Below.refl _ _).grown hgrow1 (Nat.le_refl _) (fun j e => by cases e)
  clear hgrow1
  go_loopw [4] (fun i wr => ∃ k : Nat, k ≤ n ∧ i = .int .i64 k ∧ wr.ownsRow w.heap.size 59 2 (.slice (some ⟨w.heap.size, 0, none⟩) n n) n (icells (zup zs (k * 2))) ∧ Below w.heap.size w wr)
    (fun i _ => n - (intOf i).toNat)
  case atStart =>
    refine ⟨0, Nat.zero_le _, rfl, ?_, hb0⟩
    rw [Nat.zero_mul, zup_zero zs n hz]
    exact hown1
  case round =>
    obtain ⟨k, hk, rfl, hown, hb⟩ := hrel
    by_cases hlt : k < n
    · obtain ⟨b, o, rfl, hbb, c1, c2⟩ := hA k hlt
      have d1 := (hb.cell (p := ⟨b, o + k * 2, none⟩) hbb).trans c1
      have d2 := (hb.cell (p := ⟨b, o + k * 2 + 1, none⟩) hbb).trans c2
      have hs := hb.size
      have HU := hide (show ((zup zs (k * 2)).set (k * 2) (zAt zs (k * 2))).set (k * 2 + 1) (zAt zs (k * 2 + 1)) = zup zs ((k + 1) * 2) by rw [zup_set zs (k * 2) (by omega), zup_set zs (k * 2 + 1) (by omega), show (k + 1) * 2 = k * 2 + 1 + 1 by omega])
      obtain ⟨x, hx⟩ : ∃ x, zAt zs (k * 2) = x := ⟨_, rfl⟩
      obtain ⟨y, hy⟩ : ∃ y, zAt zs (k * 2 + 1) = y := ⟨_, rfl⟩
      rw [hx] at d1 HU
      rw [hy] at d2 HU
      have hzl := zup_length zs (k * 2)
      have hki : (k : Int) < (n : Int) := by omega
      clear c1 c2 hA hown1 hb0 hx hy
      go_wp2_with (go_at_call 29; refine (toInt64A2_any _ _ _).mono ?_; rintro e w2 ⟨rfl, hb2⟩; have own2 := own_keep hown hb2; have f1 := (own2.cellAt (k * 2) (by omega)).trans (icells_get _ (k * 2) (by omega)); have f2 := (own2.cellAt (k * 2 + 1) (by omega)).trans (icells_get _ (k * 2 + 1) (by omega)); have f3 := own2.frozenAt (k * 2); have f4 := own2.frozenAt (k * 2 + 1))
      go_roundw
      case rel => exact ⟨k + 1, hlt, by go_num, by rw [← HU.out, ← icells_set, ← icells_set]; exact ((own2.stored (k * 2) _).1.stored (k * 2 + 1) _).1, ((hb.trans (hb2.mono hs)).setCell (p := ⟨w.heap.size, _, none⟩) (Nat.le_refl _) _).setCell (p := ⟨w.heap.size, _, none⟩) (Nat.le_refl _) _⟩
      case measure => simp [intOf]; omega
    · obtain rfl : k = n := by omega
      go_wp2
      go_ret
      exact ⟨rfl, by rw [← hz, zup_all] at hown; exact hown, hb⟩
end Go.Proofs.YtncdgjaadlpncaaDoor
