import Derived.Test.YtncdgjaadlpncaaDoorPlc
import Derived.Test.YtncdgjaadlpncaaDoorCod
namespace Go.Proofs.YtncdgjaadlpncaaDoor
open Go.RowKit

/-- the first n places lie on the drum -/
def thB (s : Int) (m : Nat) (zs : List Int) (n : Nat) : Bool := (List.range n).all fun k => plB s m (zAt zs (k * 2)) (zAt zs (k * 2 + 1))
theorem thB_yes {s : Int} {m n : Nat} {zs : List Int} (h : ∀ k, k < n → plB s m (zAt zs (k * 2)) (zAt zs (k * 2 + 1)) = true) : thB s m zs n = true := by
  simp only [thB, List.all_eq_true, List.mem_range]
  exact h
theorem thB_no {s : Int} {m n k : Nat} {zs : List Int} (hk : k < n) (h : plB s m (zAt zs (k * 2)) (zAt zs (k * 2 + 1)) = false) : thB s m zs n = false := by
  rw [thB, List.all_eq_false]
  exact ⟨k, List.mem_range.2 hk, by simp [h]⟩
theorem all_succ {p : Nat → Bool} {k : Nat} (h : ∀ j, j < k → p j = true) (h' : p k = true) : ∀ j, j < k + 1 → p j = true := fun j hj => by
  rcases Nat.lt_or_ge j k with h1 | h1
  · exact h j h1
  · rw [show j = k by omega]; exact h'

set_option maxRecDepth 20000 in
set_option maxHeartbeats 2000000 in
theorem l03There_any (b : Nat) (s : Int) (A' : Option Addr) (m c' : Nat) (A : Option Addr) (n c : Nat) (zs : List Int) (B : Nat) (w : World) (hF : FP w b s A' m c') (hA : SA w B A n zs) (hB : B ≤ w.heap.size) (hn : n ≤ 1048576) (hm : m ≤ 1048576) (hs : -32768 ≤ s ∧ s ≤ 32767) :
    Calls Tryd.prog 26 #[.pointer (some ⟨b, 0, none⟩), .slice A n c] w (Says (thB s m zs n) w) := by
  obtain ⟨hs1, hs2⟩ := hs
  have hw1 : IntKind.i64.wrap (s - 1) = s - 1 := IntWalk.i64_in _ (by omega)
  have hw0 : IntKind.i64.wrap s = s := IntWalk.i64_in _ (by omega)
  have hw2 : IntKind.i64.wrap ((m : Int) - 1) = (m : Int) - 1 := IntWalk.i64_in _ (by omega)
  go_enter Tryd.func26, Tryd.ntmps26
  go_wp2_with fail
  go_loopw [5] (fun i wr => ∃ k : Nat, k ≤ n ∧ i = .int .i64 k ∧ (∀ j, j < k → plB s m (zAt zs (j * 2)) (zAt zs (j * 2 + 1)) = true) ∧ Below w.heap.size w wr)
    (fun i _ => n - (intOf i).toNat)
  case atStart => exact ⟨0, Nat.zero_le _, rfl, fun j hj => by omega, Below.refl _ _⟩
  case round =>
    obtain ⟨k, hk, rfl, hall, hb⟩ := hrel
    by_cases hlt : k < n
    · obtain ⟨g, rfl, hg, c1, c2⟩ := hA k hlt
      have F1 := hF.keep hb
      have d1 := Later.cell ((hb.cell (p := ⟨g, _, none⟩) (by dsimp only; omega)).trans c1)
      have d2 := Later.cell ((hb.cell (p := ⟨g, _, none⟩) (by dsimp only; omega)).trans c2)
      have e1 := Later.cell F1.1
      have e2 := Later.cell F1.2
      have hki : (k : Int) < (n : Int) := by omega
      have hsz := hb.size
      have HNo := hide (thB_no (s := s) (m := m) (zs := zs) hlt)
      have HYes := hide (all_succ (p := fun j => plB s m (zAt zs (j * 2)) (zAt zs (j * 2 + 1))) hall)
      obtain ⟨x, hx⟩ : ∃ x, zAt zs (k * 2) = x := ⟨_, rfl⟩
      obtain ⟨y, hy⟩ : ∃ y, zAt zs (k * 2 + 1) = y := ⟨_, rfl⟩
      simp only [hx, hy] at HNo HYes
      rw [hx] at d1
      rw [hy] at d2
      clear c1 c2 hA hall hx hy
      cases h1 : inB x 0 (s - 1)
      · have K1 : ∀ W, Calls Tryd.prog 47 #[.int .i64 x, .int .i64 0, .int .i64 (s - 1)] W fun e w' => e = .returned (.bool false) ∧ W = w' := fun W => by rw [← h1]; exact l00In_any x 0 (s - 1) W
        have HX := hide (HNo.out (by simp [plB, h1]))
        clear h1 HNo HYes
        go_wp2_with fail
        refine wp_region_later (by kernel_rfl) (by kernel_rfl) ?_
        repeat (go_big_quiet_step ((go_at_call 47; with_reducible exact Later.same (K1 _))))
        refine wpQuiet_nil ?_
        rintro wz ⟨⟨_, hq⟩, rfl⟩
        go_wp2
        go_ret
        exact ⟨by rw [HX.out]; rfl, hb.trans (hq.mono hsz)⟩
      have K1 : ∀ W, Calls Tryd.prog 47 #[.int .i64 x, .int .i64 0, .int .i64 (s - 1)] W fun e w' => e = .returned (.bool true) ∧ W = w' := fun W => by rw [← h1]; exact l00In_any x 0 (s - 1) W
      cases h2 : inB y 0 ((m : Int) - 1)
      · have K2 : ∀ W, Calls Tryd.prog 47 #[.int .i64 y, .int .i64 0, .int .i64 ((m : Int) - 1)] W fun e w' => e = .returned (.bool false) ∧ W = w' := fun W => by rw [← h2]; exact l00In_any y 0 ((m : Int) - 1) W
        have HX := hide (HNo.out (by simp [plB, h1, h2]))
        clear h1 h2 HNo HYes
        go_wp2_with fail
        refine wp_region_later (by kernel_rfl) (by kernel_rfl) ?_
        repeat (go_big_quiet_step (first | (go_at_call 47; with_reducible exact Later.same (K1 _)) | (go_at_call 47; with_reducible exact Later.same (K2 _))))
        refine wpQuiet_nil ?_
        rintro wz ⟨⟨_, hq⟩, rfl⟩
        go_wp2
        go_ret
        exact ⟨by rw [HX.out]; rfl, hb.trans (hq.mono hsz)⟩
      · have K2 : ∀ W, Calls Tryd.prog 47 #[.int .i64 y, .int .i64 0, .int .i64 ((m : Int) - 1)] W fun e w' => e = .returned (.bool true) ∧ W = w' := fun W => by rw [← h2]; exact l00In_any y 0 ((m : Int) - 1) W
        have HX := hide (HYes.out (by simp [plB, h1, h2]))
        clear h1 h2 HNo HYes
        go_wp2_with fail
        refine wp_region_later (by kernel_rfl) (by kernel_rfl) ?_
        repeat (go_big_quiet_step (first | (go_at_call 47; with_reducible exact Later.same (K1 _)) | (go_at_call 47; with_reducible exact Later.same (K2 _))))
        refine wpQuiet_nil ?_
        rintro wz ⟨⟨_, hq⟩, rfl⟩
        go_wp2
        go_roundw
        case rel => exact ⟨k + 1, hlt, by go_num, HX.out, hb.trans (hq.mono hsz)⟩
        case measure => simp [intOf]; omega
    · obtain rfl : k = n := by omega
      have HX := hide (thB_yes hall)
      clear hall
      go_wp2
      go_ret
      exact ⟨by rw [HX.out]; rfl, hb⟩

set_option maxRecDepth 20000 in
set_option maxHeartbeats 2000000 in
theorem hasPlaces_any (s : Int) (A' : Option Addr) (m c' : Nat) (A : Option Addr) (n c : Nat) (zs : List Int) (B : Nat) (w : World) (hA : SA w B A n zs) (hB : B ≤ w.heap.size) (hn : n ≤ 1048576) (hm : m ≤ 1048576) (hs : -32768 ≤ s ∧ s ≤ 32767) :
    Calls Tryd.prog 31 #[.agg #[.int .i64 s, .slice A' m c'], .slice A n c] w (Says (thB s m zs n) w) := by
  have hal : Below w.heap.size w (w.alloc (.cells #[.int .i64 s, .slice A' m c'] 64)) := (Below.refl _ _).alloc (Nat.le_refl _) _
  have M0 : (w.alloc (.cells #[.int .i64 s, .slice A' m c'] 64)).cell? ⟨w.heap.size, 0, none⟩ = some (.int .i64 s) ∧ (w.alloc (.cells #[.int .i64 s, .slice A' m c'] 64)).cell? ⟨w.heap.size, 1, none⟩ = some (.slice A' m c') := ⟨by simp [go_sem], by simp [go_sem]⟩
  have hs0 : w.heap.size < (w.alloc (.cells #[.int .i64 s, .slice A' m c'] 64)).heap.size := by simp
  go_enter Tryd.func31, Tryd.ntmps31
  go_wp2_with fail
  obtain ⟨X, hX⟩ : ∃ X, w.alloc (.cells #[.int .i64 s, .slice A' m c'] 64) = X := ⟨_, rfl⟩
  have HXX := hide hX
  rw [hX] at M0 hal hs0
  clear hX
  rw [HXX.out]
  go_loopw [9] (fun i wr => ∃ k : Nat, k ≤ n ∧ i = .int .i64 k ∧ (∀ j, j < k → plB s m (zAt zs (j * 2)) (zAt zs (j * 2 + 1)) = true) ∧ Below X.heap.size X wr)
    (fun i _ => n - (intOf i).toNat)
  case atStart => exact ⟨0, Nat.zero_le _, rfl, fun j hj => by omega, Below.refl _ _⟩
  case round =>
    obtain ⟨k, hk, rfl, hall, hb⟩ := hrel
    by_cases hlt : k < n
    · obtain ⟨g, rfl, hg, c1, c2⟩ := hA k hlt
      have hbw : Below w.heap.size w wr := step_below hb hal
      have d1 := (hbw.cell (p := ⟨g, _, none⟩) (by dsimp only; omega)).trans c1
      have d2 := (hbw.cell (p := ⟨g, _, none⟩) (by dsimp only; omega)).trans c2
      have hki : (k : Int) < (n : Int) := by omega
      have hsz := hb.size
      have HNo := hide (thB_no (s := s) (m := m) (zs := zs) hlt)
      have HYes := hide (all_succ (p := fun j => plB s m (zAt zs (j * 2)) (zAt zs (j * 2 + 1))) hall)
      obtain ⟨x, hx⟩ : ∃ x, zAt zs (k * 2) = x := ⟨_, rfl⟩
      obtain ⟨y, hy⟩ : ∃ y, zAt zs (k * 2 + 1) = y := ⟨_, rfl⟩
      simp only [hx, hy] at HNo HYes
      rw [hx] at d1
      rw [hy] at d2
      clear c1 c2 hall hx hy
      have hy1 : Below wr.heap.size wr (wr.alloc (.cells #[.int .i64 x, .int .i64 y] 59)) := (Below.refl _ _).alloc (Nat.le_refl _) _
      have hb4 := hb.alloc hb.size (.cells #[.int .i64 x, .int .i64 y] 59)
      have e1 := (hb4.cell (p := ⟨w.heap.size, 0, none⟩) hs0).trans M0.1
      have e2 := (hb4.cell (p := ⟨w.heap.size, 1, none⟩) hs0).trans M0.2
      have f1 : (wr.alloc (.cells #[.int .i64 x, .int .i64 y] 59)).cell? ⟨wr.heap.size, 0, none⟩ = some (.int .i64 x) := by simp [go_sem]
      have f2 : (wr.alloc (.cells #[.int .i64 x, .int .i64 y] 59)).cell? ⟨wr.heap.size, 1, none⟩ = some (.int .i64 y) := by simp [go_sem]
      have hwx := hb.size
      cases h1 : inB x 0 (s - 1)
      · have K1 : ∀ W, Calls Tryd.prog 53 #[.agg #[.int .i64 s, .slice A' m c'], .int .i64 x] W (Says false W) := fun W => by rw [← h1]; exact hasStep_any s x A' m c' W hs
        have HX := hide (HNo.out (by simp [plB, h1]))
        clear h1 HNo HYes
        go_wp2_with (go_at_call 53; refine (K1 _).mono ?_; rintro e w5 ⟨rfl, hb5⟩)
        go_ret
        exact ⟨by rw [HX.out]; rfl, step_below (step_below hb5 hb4) hal⟩
      have K1 : ∀ W, Calls Tryd.prog 53 #[.agg #[.int .i64 s, .slice A' m c'], .int .i64 x] W (Says true W) := fun W => by rw [← h1]; exact hasStep_any s x A' m c' W hs
      cases h2 : inB y 0 ((m : Int) - 1)
      · have K2 : ∀ W, Calls Tryd.prog 54 #[.agg #[.int .i64 s, .slice A' m c'], .int .i64 y] W (Says false W) := fun W => by rw [← h2]; exact hasTrack_any s y A' m c' W hm
        have HX := hide (HNo.out (by simp [plB, h1, h2]))
        clear h1 h2 HNo HYes
        go_wp2_with fail
        refine (K1 _).mono ?_
        rintro e w5 ⟨rfl, hb5⟩
        have hb6 := step_below hb5 hb4
        have p1 := (hb6.cell (p := ⟨w.heap.size, 0, none⟩) hs0).trans M0.1
        have p2 := (hb6.cell (p := ⟨w.heap.size, 1, none⟩) hs0).trans M0.2
        have p3 := (hb5.cell (p := ⟨wr.heap.size, 1, none⟩) (by simp)).trans f2
        go_wp2_with (go_at_call 54; refine (K2 _).mono ?_; rintro e w7 ⟨rfl, hb7⟩)
        go_ret
        exact ⟨by rw [HX.out]; rfl, step_below (step_below hb7 hb6) hal⟩
      · have K2 : ∀ W, Calls Tryd.prog 54 #[.agg #[.int .i64 s, .slice A' m c'], .int .i64 y] W (Says true W) := fun W => by rw [← h2]; exact hasTrack_any s y A' m c' W hm
        have HX := hide (HYes.out (by simp [plB, h1, h2]))
        clear h1 h2 HNo HYes
        go_wp2_with fail
        refine (K1 _).mono ?_
        rintro e w5 ⟨rfl, hb5⟩
        have hb6 := step_below hb5 hb4
        have p1 := (hb6.cell (p := ⟨w.heap.size, 0, none⟩) hs0).trans M0.1
        have p2 := (hb6.cell (p := ⟨w.heap.size, 1, none⟩) hs0).trans M0.2
        have p3 := (hb5.cell (p := ⟨wr.heap.size, 1, none⟩) (by simp)).trans f2
        go_wp2_with fail
        refine (K2 _).mono ?_
        rintro e w7 ⟨rfl, hb7⟩
        go_wp2
        go_roundw
        case rel => exact ⟨k + 1, hlt, by go_num, HX.out, step_below hb7 hb6⟩
        case measure => simp [intOf]; omega
    · obtain rfl : k = n := by omega
      have HX := hide (thB_yes hall)
      clear hall
      go_wp2
      go_ret
      exact ⟨by rw [HX.out]; rfl, step_below hb hal⟩
end Go.Proofs.YtncdgjaadlpncaaDoor
