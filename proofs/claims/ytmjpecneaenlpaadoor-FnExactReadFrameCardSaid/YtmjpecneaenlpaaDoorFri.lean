import Derived.Test.YtmjpecneaenlpaaDoorFrs
namespace Go.Proofs.YtmjpecneaenlpaaDoor
open Go.RowKit

def hamsB (s : Int) (l : List (Int × Int)) : Bool := (List.range l.length).all fun j => hamB s (hPi l j) (hRe l j)
theorem hamsB_yes {s : Int} {l : List (Int × Int)} (h : HG s l l.length) : hamsB s l = true := by simp only [hamsB, List.all_eq_true, List.mem_range]; exact h
theorem hamsB_no {s : Int} {l : List (Int × Int)} {k : Nat} (hk : k < l.length) (h : hamB s (hPi l k) (hRe l k) = false) : hamsB s l = false := by
  rw [hamsB, List.all_eq_false]
  exact ⟨k, List.mem_range.2 hk, by simp [h]⟩
theorem mnI_le {s : Int} (h : s ≤ 20) : mnI s = s := by unfold mnI; omega
theorem mnI_gt {s : Int} (h : 20 ≤ s) : mnI s = 20 := by unfold mnI; omega

theorem tracks_any (A : Option Addr) (n c : Nat) (_hn : n ≤ 1048576) (w : World) :
    Calls Tryd.prog 92 #[.slice A n c] w fun e w' => e = .returned (.int .i64 n) ∧ w = w' := by
  go_enter Tryd.func92, Tryd.ntmps92
  go_wp2
  go_ret
  exact ⟨rfl, rfl⟩

set_option maxHeartbeats 1000000 in
theorem areValid_any (s : Int) (A : Option Addr) (c : Nat) (l : List (Int × Int)) (w : World) (hA : HA w A l) (hn : l.length ≤ 1048576) (hwf : HWF l) (hs : -32768 ≤ s ∧ s ≤ 32767) :
    Calls Tryd.prog 93 #[.slice A l.length c, .int .i64 s] w (Says (hamsB s l) w) := by
  obtain ⟨hs1, hs2⟩ := hs
  go_enter Tryd.func93, Tryd.ntmps93
  go_wp2_with fail
  go_loopw [9] (fun i wr => ∃ k : Nat, k ≤ l.length ∧ i = .int .i64 k ∧ HG s l k ∧ Below w.heap.size w wr)
    (fun i _ => l.length - (intOf i).toNat)
  case atStart => exact ⟨0, Nat.zero_le _, rfl, fun j hj => absurd hj (Nat.not_lt_zero _), Below.refl _ _⟩
  case round =>
    obtain ⟨k, hk, rfl, hG, hb⟩ := hrel
    have HG' := hide hG
    clear hG
    by_cases hlt : k < l.length
    · obtain ⟨b', o, rfl, hbb, c1, c2⟩ := hA k hlt
      have d1 := (hb.cell (p := ⟨b', o + k * 2, none⟩) hbb).trans c1
      have d2 := (hb.cell (p := ⟨b', o + k * 2 + 1, none⟩) hbb).trans c2
      obtain ⟨⟨p1, p2⟩, r1, r2⟩ := hwf k hlt
      have hbx := hb.alloc hb.size (.cells #[.int .i8 (hPi l k), .int .i8 (hRe l k)] 62)
      clear c1 c2 hA
      cases x1 : inB (hPi l k) 0 47
      · have HX := hide (show hamB s (hPi l k) (hRe l k) = false by simp [hamB, x1])
        have K1 : ∀ W, Calls Tryd.prog 83 #[.int .i64 (hPi l k), .int .i64 0, .int .i64 47] W fun e w' => e = .returned (.bool false) ∧ W = w' := fun W => by rw [← x1]; exact within_any _ _ _ W
        clear x1
        go_wp2_with (go_at_call 83; with_reducible refine (K1 _).mono ?_; rintro e w' ⟨rfl, rfl⟩)
        go_ret
        exact ⟨ret_bool (hamsB_no hlt HX.out).symm, hbx⟩
      · cases x2 : inB (hRe l k) 1 (mnI s)
        · have HX := hide (show hamB s (hPi l k) (hRe l k) = false by simp [hamB, x2])
          have K1 : ∀ W, Calls Tryd.prog 83 #[.int .i64 (hPi l k), .int .i64 0, .int .i64 47] W fun e w' => e = .returned (.bool true) ∧ W = w' := fun W => by rw [← x1]; exact within_any _ _ _ W
          have K2 : ∀ W, Calls Tryd.prog 83 #[.int .i64 (hRe l k), .int .i64 1, .int .i64 (mnI s)] W fun e w' => e = .returned (.bool false) ∧ W = w' := fun W => by rw [← x2]; exact within_any _ _ _ W
          have K2a : s ≤ 20 → ∀ W, Calls Tryd.prog 83 #[.int .i64 (hRe l k), .int .i64 1, .int .i64 s] W fun e w' => e = .returned (.bool false) ∧ W = w' := fun h => by rw [mnI_le h] at K2; exact K2
          have K2b : 20 ≤ s → ∀ W, Calls Tryd.prog 83 #[.int .i64 (hRe l k), .int .i64 1, .int .i64 20] W fun e w' => e = .returned (.bool false) ∧ W = w' := fun h => by rw [mnI_gt h] at K2; exact K2
          clear x1 x2 K2
          go_wp2_with (first | (go_at_call 83; with_reducible refine (K1 _).mono ?_; rintro e w' ⟨rfl, rfl⟩) | (go_at_call 83; with_reducible refine (K2a (by omega) _).mono ?_; rintro e w' ⟨rfl, rfl⟩) | (go_at_call 83; with_reducible refine (K2b (by omega) _).mono ?_; rintro e w' ⟨rfl, rfl⟩))
          all_goals go_ret
          all_goals exact ⟨ret_bool (hamsB_no hlt HX.out).symm, hbx⟩
        · have HX := hide (show hamB s (hPi l k) (hRe l k) = true by simp [hamB, x1, x2])
          have K1 : ∀ W, Calls Tryd.prog 83 #[.int .i64 (hPi l k), .int .i64 0, .int .i64 47] W fun e w' => e = .returned (.bool true) ∧ W = w' := fun W => by rw [← x1]; exact within_any _ _ _ W
          have K2 : ∀ W, Calls Tryd.prog 83 #[.int .i64 (hRe l k), .int .i64 1, .int .i64 (mnI s)] W fun e w' => e = .returned (.bool true) ∧ W = w' := fun W => by rw [← x2]; exact within_any _ _ _ W
          have K2a : s ≤ 20 → ∀ W, Calls Tryd.prog 83 #[.int .i64 (hRe l k), .int .i64 1, .int .i64 s] W fun e w' => e = .returned (.bool true) ∧ W = w' := fun h => by rw [mnI_le h] at K2; exact K2
          have K2b : 20 ≤ s → ∀ W, Calls Tryd.prog 83 #[.int .i64 (hRe l k), .int .i64 1, .int .i64 20] W fun e w' => e = .returned (.bool true) ∧ W = w' := fun h => by rw [mnI_gt h] at K2; exact K2
          clear x1 x2 K2
          go_wp2_with (first | (go_at_call 83; with_reducible refine (K1 _).mono ?_; rintro e w' ⟨rfl, rfl⟩) | (go_at_call 83; with_reducible refine (K2a (by omega) _).mono ?_; rintro e w' ⟨rfl, rfl⟩) | (go_at_call 83; with_reducible refine (K2b (by omega) _).mono ?_; rintro e w' ⟨rfl, rfl⟩))
          · go_roundw
            case rel => exact ⟨k + 1, hlt, by go_num, HG_succ HG'.out HX.out, hbx⟩
            case measure => simp [intOf]; omega
          · go_roundw
            case rel => exact ⟨k + 1, hlt, by go_num, HG_succ HG'.out HX.out, hbx⟩
            case measure => simp [intOf]; omega
    · obtain rfl : k = l.length := by omega
      go_wp2
      go_ret
      exact ⟨ret_bool (hamsB_yes HG'.out).symm, hb⟩

/-- a machine and a bool come back -/
def Mach (s : Int) (A : Option Addr) (n c : Nat) (ok : Bool) (w : World) (e : Ending) (w' : World) : Prop := e = .returned (.tuple #[.agg #[.int .i64 s, .slice A n c], .bool ok]) ∧ Below w.heap.size w w'
theorem frB_hams {s : Int} {l : List (Int × Int)} (h1 : inB s 2 96 = true) (h2 : inB l.length 1 24 = true) : frB s l = hamsB s l := by simp [frB, h1, h2, hamsB]

theorem fits_nil (m : Value) (s : Int) (A : Option Addr) (n c : Nat) (hm : m = .agg #[.int .i64 s, .slice A n c]) (w : World) :
    Calls Tryd.prog 94 #[m, .slice none 0 0] w (Says true w) := by
  subst hm
  have hmm := @run_makeMap Tryd.prog
  go_enter Tryd.func94, Tryd.ntmps94
  go_wp2_with fail
  clear hmm
  have hb0 : Below w.heap.size w ((w.alloc (.cells #[.int .i64 s, .slice A n c] 102)).alloc (.map #[] 0)) := ((Below.refl _ _).alloc (Nat.le_refl _) _).alloc (by simp) _
  go_loopw [11] (fun i wr => i = .int .i64 0 ∧ Below w.heap.size w wr) (fun _ _ => 0)
  case atStart => exact ⟨rfl, hb0⟩
  case round =>
    obtain ⟨rfl, hb⟩ := hrel
    go_wp2
    go_ret
    exact ⟨rfl, hb⟩

set_option maxHeartbeats 1000000 in
theorem machineFor_any (s : Int) (A : Option Addr) (c : Nat) (l : List (Int × Int)) (Dv : Value) (fb : Bool) (w : World) (hA : HA w A l) (hn : l.length ≤ 1048576) (hwf : HWF l) (hs : -32768 ≤ s ∧ s ≤ 32767)
    (hfits : frB s l = true → ∀ W, Below w.heap.size w W → Calls Tryd.prog 94 #[.agg #[.int .i64 s, .slice A l.length c], Dv] W (Says fb W)) :
    Calls Tryd.prog 65 #[.agg #[.int .i16 s, .slice A l.length c], Dv] w (Mach s A l.length c (frB s l && fb) w) := by
  have hs' := hs
  obtain ⟨hs1, hs2⟩ := hs'
  have hW0 : Below w.heap.size w (((w.alloc (.cells #[.int .i16 s, .slice A l.length c] 32)).alloc (.cells #[.int .i64 0, .slice none 0 0] 102)).alloc (.cells #[.int .i64 s, .slice A l.length c] 102)) := (((Below.refl _ _).alloc (Nat.le_refl _) _).alloc (by simp) _).alloc (by simp; omega) _
  have HT := fun W => tracks_any A l.length c hn W
  cases h1 : inB s 2 96
  · have HX := hide (show frB s l = false by simp [frB, h1])
    have K1 : ∀ W, Calls Tryd.prog 83 #[.int .i64 s, .int .i64 2, .int .i64 96] W fun e w' => e = .returned (.bool false) ∧ W = w' := fun W => by rw [← h1]; exact within_any _ _ _ W
    clear h1 hfits
    go_enter Tryd.func65, Tryd.ntmps65
    go_wp2_with (go_at_call 83; with_reducible refine (K1 _).mono ?_; rintro e w' ⟨rfl, rfl⟩)
    exact bodyPost_ret (v := .tuple #[.agg #[.int .i64 s, .slice A l.length c], .bool false]) (by simp [results, Tryd.results65, go_sem]) rfl ⟨by rw [HX.out]; rfl, (((Below.refl _ _).alloc (Nat.le_refl _) _).alloc (by simp) _).alloc (by simp; omega) _⟩
  cases h2 : inB l.length 1 24
  · have HX := hide (show frB s l = false by simp [frB, h2])
    have K1 : ∀ W, Calls Tryd.prog 83 #[.int .i64 s, .int .i64 2, .int .i64 96] W fun e w' => e = .returned (.bool true) ∧ W = w' := fun W => by rw [← h1]; exact within_any _ _ _ W
    have K2 : ∀ W, Calls Tryd.prog 83 #[.int .i64 l.length, .int .i64 1, .int .i64 24] W fun e w' => e = .returned (.bool false) ∧ W = w' := fun W => by rw [← h2]; exact within_any _ _ _ W
    clear h1 h2 hfits
    go_enter Tryd.func65, Tryd.ntmps65
    go_wp2_with (first | (go_at_call 83; with_reducible refine (K1 _).mono ?_; rintro e w' ⟨rfl, rfl⟩) | (go_at_call 83; with_reducible refine (K2 _).mono ?_; rintro e w' ⟨rfl, rfl⟩) | (go_at_call 92; with_reducible refine (HT _).mono ?_; rintro e w' ⟨rfl, rfl⟩))
    exact bodyPost_ret (v := .tuple #[.agg #[.int .i64 s, .slice A l.length c], .bool false]) (by simp [results, Tryd.results65, go_sem]) rfl ⟨by rw [HX.out]; rfl, (((Below.refl _ _).alloc (Nat.le_refl _) _).alloc (by simp) _).alloc (by simp; omega) _⟩
  have HE := hide (frB_hams h1 h2)
  have K1 : ∀ W, Calls Tryd.prog 83 #[.int .i64 s, .int .i64 2, .int .i64 96] W fun e w' => e = .returned (.bool true) ∧ W = w' := fun W => by rw [← h1]; exact within_any _ _ _ W
  have K2 : ∀ W, Calls Tryd.prog 83 #[.int .i64 l.length, .int .i64 1, .int .i64 24] W fun e w' => e = .returned (.bool true) ∧ W = w' := fun W => by rw [← h2]; exact within_any _ _ _ W
  clear h1 h2
  go_enter Tryd.func65, Tryd.ntmps65
  go_wp2_with (first | (go_at_call 83; with_reducible refine (K1 _).mono ?_; rintro e w' ⟨rfl, rfl⟩) | (go_at_call 83; with_reducible refine (K2 _).mono ?_; rintro e w' ⟨rfl, rfl⟩) | (go_at_call 92; with_reducible refine (HT _).mono ?_; rintro e w' ⟨rfl, rfl⟩))
  refine (areValid_any s A c l _ (hA.below hW0) hn hwf hs).mono ?_
  rintro e w2 ⟨rfl, hb2⟩
  have hbw := hW0.trans (hb2.mono hW0.size)
  have r6 : w2.heap[w.heap.size + 1 + 1]? = some (.cells #[.int .i64 s, .slice A l.length c] 102 (0, 0)) := (hb2.block _ (by simp)).trans (heap_new' _ _ _ (by simp))
  have r4 : w2.heap[w.heap.size + 1]? = some (.cells #[.int .i64 0, .slice none 0 0] 102 (0, 0)) := (hb2.block _ (by simp)).trans (heap_old' (heap_new' _ _ _ (by simp)))
  have c1 := cell_of_row _ _ 0 _ _ _ r6
  have c2 := cell_of_row _ _ 1 _ _ _ r6
  have c3 := cell_of_row _ _ 0 _ _ _ r4
  have c4 := cell_of_row _ _ 1 _ _ _ r4
  have f2 := frozen_of_row _ _ 0 _ _ r4
  have f3 := frozen_of_row _ _ 1 _ _ r4
  simp at c1 c2 c3 c4
  cases h3 : hamsB s l
  · have HX := hide (show frB s l = false by rw [HE.out, h3])
    clear h3 hfits
    go_wp2
    exact bodyPost_ret (v := .tuple #[.agg #[.int .i64 s, .slice A l.length c], .bool false]) (by simp [results, Tryd.results65, go_sem, c3, c4]) rfl ⟨by rw [HX.out]; rfl, (hbw.setCell (p := ⟨_, _, none⟩) (by dsimp only; omega) _).setCell (p := ⟨_, _, none⟩) (by dsimp only; omega) _⟩
  · have HX := hide (show frB s l = true by rw [HE.out, h3])
    clear h3
    go_wp2_with fail
    refine (hfits HX.out _ hbw).mono ?_
    rintro e w3 ⟨rfl, hb3⟩
    have k1 := (hb3.cell (p := ⟨_, _, none⟩) (World.block_lt_of_cell? w2 _ c1)).trans c1
    have k2 := (hb3.cell (p := ⟨_, _, none⟩) (World.block_lt_of_cell? w2 _ c2)).trans c2
    have k3 := (hb3.cell (p := ⟨_, _, none⟩) (World.block_lt_of_cell? w2 _ c3)).trans c3
    have k4 := (hb3.cell (p := ⟨_, _, none⟩) (World.block_lt_of_cell? w2 _ c4)).trans c4
    have r4' := (hb3.block _ (World.block_lt_of_cell? w2 _ c3)).trans r4
    have f2 := frozen_of_row _ _ 0 _ _ r4'
    have f3 := frozen_of_row _ _ 1 _ _ r4'
    clear c1 c2 c3 c4
    go_wp2
    exact bodyPost_ret (v := .tuple #[.agg #[.int .i64 s, .slice A l.length c], .bool fb]) (by simp [results, Tryd.results65, go_sem, k3, k4]) rfl ⟨by rw [HX.out]; rfl, ((hbw.trans (hb3.mono hbw.size)).setCell (p := ⟨_, _, none⟩) (by dsimp only; omega) _).setCell (p := ⟨_, _, none⟩) (by dsimp only; omega) _⟩
end Go.Proofs.YtmjpecneaenlpaaDoor
