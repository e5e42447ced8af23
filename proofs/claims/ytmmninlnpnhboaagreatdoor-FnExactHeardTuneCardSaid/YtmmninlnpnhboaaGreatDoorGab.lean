import Derived.Test.YtmmninlnpnhboaaGreatDoorGaa
import Derived.Test.YtmmninlnpnhboaaGreatDoorProg
namespace Go.Proofs.YtmmninlnpnhboaaGreatDoor
open Go.RowKit
theorem info95 : (Tryz.prog.info? 95).map (fun i => (i.zero, i.size, i.bytes)) = some (some (.agg #[.int .i8 0, .int .i8 0]), 2, 2) := by kernel_rfl

theorem toHammer_any (a p : Int) (w : World) :
    Calls Tryz.prog 48 #[.agg #[.int .i8 a, .int .i8 p]] w fun e w' => e = .returned (.agg #[.int .i8 a, .int .i8 p]) ∧ Below w.heap.size w w' := by
  go_enter Tryz.func48, Tryz.ntmps48
  go_wp2
  refine bodyPost_ret (v := .agg #[.int .i8 a, .int .i8 p]) (by simp [results, Tryz.results48, go_sem]) rfl ⟨rfl, ?_⟩
  repeat (first | exact Below.refl _ _ | refine Below.alloc ?_ (by simp <;> omega) _ | refine Below.setCell ?_ (by simp) _)

/-- what toHammerS leaves -/
def MadeH (w : World) (l : List (Int × Int)) (e : Ending) (w' : World) : Prop :=
  e = .returned (.slice (some ⟨w.heap.size, 0, none⟩) l.length l.length) ∧ w'.ownsRow w.heap.size 95 2 (.slice (some ⟨w.heap.size, 0, none⟩) l.length l.length) l.length (hcells l) ∧ Below w.heap.size w w'

set_option maxHeartbeats 400000 in
theorem toHammerS_any (A : Option Addr) (c : Nat) (l : List (Int × Int)) (w : World) (hA : HA w A l) (hn : l.length ≤ 1048576) :
    Calls Tryz.prog 34 #[.slice A l.length c] w (MadeH w l) := by
  obtain ⟨i0, hi, hz0, hz1, hz2⟩ := info_parts info95
  go_enter Tryz.func34, Tryz.ntmps34
  go_wp2_with (at_make; refine wpList_make_full _ rfl _ _ 36 rfl w.heap.size 95 i0 _ 2 Tryz.underlying36 hi hz0 hz1 _ _ _ _ l.length rfl rfl (by omega) (by omega) (by rw [hz2]; omega) (by unfold maxLen; omega) (by simp) ?_; intro w1 hown1 hgrow1)
  have hb0 : Below w.heap.size w w1 := (Below.refl _ _).grown hgrow1 (Nat.le_refl _) (fun j e => by cases e)
  clear hgrow1
  go_loopw [4] (fun i wr => ∃ k : Nat, k ≤ l.length ∧ i = .int .i64 k ∧ wr.ownsRow w.heap.size 95 2 (.slice (some ⟨w.heap.size, 0, none⟩) l.length l.length) l.length (hcells (hupto l k)) ∧ Below w.heap.size w wr)
    (fun i _ => l.length - (intOf i).toNat)
  case atStart =>
    refine ⟨0, Nat.zero_le _, rfl, ?_, hb0⟩
    rw [hupto_zero, hcells_replicate]
    exact hown1
  case round =>
    obtain ⟨k, hk, rfl, hown, hb⟩ := hrel
    by_cases hlt : k < l.length
    · obtain ⟨b, o, rfl, hbb, c1, c2⟩ := hA k hlt
      have d1 := (hb.cell (p := ⟨b, o + k * 2, none⟩) hbb).trans c1
      have d2 := (hb.cell (p := ⟨b, o + k * 2 + 1, none⟩) hbb).trans c2
      have hs := hb.size
      clear c1 c2 hA hown1 hb0
      go_wp2_with (go_at_call 48; refine (toHammer_any _ _ _).mono ?_; rintro e w2 ⟨rfl, hb2⟩; have own2 := own_keep hown hb2; have f1 := (own2.cellAt (k * 2) (by omega)).trans (hcells_even _ k (by rw [hupto_length _ _ hk]; exact hlt)); have f2 := (own2.cellAt (k * 2 + 1) (by omega)).trans (hcells_odd _ k (by rw [hupto_length _ _ hk]; exact hlt)); have f3 := own2.frozenAt (k * 2); have f4 := own2.frozenAt (k * 2 + 1); have hs2 := hb2.size)
      go_roundw
      case rel => exact ⟨k + 1, hlt, by go_num, hupto_set l k hlt ▸ hown_set2 own2 k _ _, ((hb.trans (hb2.mono hs)).setCell (p := ⟨w.heap.size, _, none⟩) (Nat.le_refl _) _).setCell (p := ⟨w.heap.size, _, none⟩) (Nat.le_refl _) _⟩
      case measure => simp [intOf]; omega
    · obtain rfl : k = l.length := by omega
      go_wp2
      go_ret
      exact ⟨rfl, by rw [hupto_all] at hown; exact hown, hb⟩

theorem heap_new' (w : World) (o : Obj) (k : Nat) (h : k = w.heap.size) : (w.alloc o).heap[k]? = some o := by subst h; exact heap_alloc_new w o
theorem heap_old' {w : World} {o x : Obj} {k : Nat} (h : w.heap[k]? = some x) : (w.alloc o).heap[k]? = some x := by
  rw [heap_alloc_old w o (Array.getElem?_eq_some_iff.1 h).1]; exact h

theorem own_other {w w' : World} {base g c : Nat} {e : TypeId} {size n : Nat} {xs : List Value} (h : w.ownsRow base e size (.slice (some ⟨g, 0, none⟩) n c) n xs) (hg : w'.heap[g]? = w.heap[g]?) : w'.ownsRow base e size (.slice (some ⟨g, 0, none⟩) n c) n xs := by
  refine ⟨h.1, ?_⟩
  rcases h.2 with h' | ⟨g', cap, cur, h1, h2, h3, r⟩
  · exact Or.inl h'
  · obtain ⟨rfl, rfl⟩ : g = g' ∧ c = cap := by simpa using h1
    exact Or.inr ⟨g, c, cur, h1, h2, hg.trans h3, r⟩

/-- what toFrame leaves: a frame whose hammers lie under an address of its own -/
def MadeF (w : World) (s : Int) (l : List (Int × Int)) (e : Ending) (w' : World) : Prop :=
  ∃ g, e = .returned (.agg #[.int .i16 s, .slice (some ⟨g, 0, none⟩) l.length l.length]) ∧ w.heap.size ≤ g ∧ w'.ownsRow g 95 2 (.slice (some ⟨g, 0, none⟩) l.length l.length) l.length (hcells l) ∧ Below w.heap.size w w'
theorem toFrame_any (s : Int) (A : Option Addr) (c : Nat) (l : List (Int × Int)) (w : World) (hA : HA w A l) (hn : l.length ≤ 1048576) :
    Calls Tryz.prog 12 #[.agg #[.int .i16 s, .slice A l.length c]] w (MadeF w s l) := by
  go_enter Tryz.func12, Tryz.ntmps12
  have hW0 : Below w.heap.size w (((w.alloc (.cells #[.int .i16 s, .slice A l.length c] 25)).alloc (.cells #[.int .i16 0, .slice none 0 0] 38)).alloc (.cells #[.int .i16 s, .slice none 0 0] 38)) := (((Below.refl _ _).alloc (Nat.le_refl _) _).alloc (by simp) _).alloc (by simp; omega) _
  go_wp2_with fail
  refine (toHammerS_any A c l _ (hA.below hW0) hn).mono ?_
  rintro e w2 ⟨rfl, own, hb⟩
  have r1 : w2.heap[w.heap.size + 1 + 1]? = some (.cells #[.int .i16 s, .slice none 0 0] 38 (0, 0)) := (hb.block _ (by simp)).trans (heap_new' _ _ _ (by simp))
  have r2 : w2.heap[w.heap.size + 1]? = some (.cells #[.int .i16 0, .slice none 0 0] 38 (0, 0)) := (hb.block _ (by simp)).trans (heap_old' (heap_new' _ _ _ (by simp)))
  have c1 := cell_of_row _ _ 0 _ _ _ r1
  have c2 := cell_of_row _ _ 1 _ _ _ r1
  have c3 := cell_of_row _ _ 0 _ _ _ r2
  have c4 := cell_of_row _ _ 1 _ _ _ r2
  have f1 := frozen_of_row _ _ 1 _ _ r1
  have f2 := frozen_of_row _ _ 0 _ _ r2
  have f3 := frozen_of_row _ _ 1 _ _ r2
  simp at c1 c2 c3 c4
  go_wp2
  refine bodyPost_ret (v := .agg #[.int .i16 s, .slice (some ⟨w.heap.size + 1 + 1 + 1, 0, none⟩) l.length l.length]) (by simp [results, Tryz.results12, go_sem, c3, c4]) rfl ⟨w.heap.size + 1 + 1 + 1, rfl, by omega, ?_, ?_⟩
  · simp only [World.size_alloc] at own
    exact own_other own (by rw [heap_setCell_other _ _ _ _ (by dsimp only; omega), heap_setCell_other _ _ _ _ (by dsimp only; omega), heap_setCell_other _ _ _ _ (by dsimp only; omega)])
  · exact (((hW0.trans (hb.mono hW0.size)).setCell (p := ⟨_, _, none⟩) (by dsimp only; omega) _).setCell (p := ⟨_, _, none⟩) (by dsimp only; omega) _).setCell (p := ⟨_, _, none⟩) (by dsimp only; omega) _
end Go.Proofs.YtmmninlnpnhboaaGreatDoor
namespace Go.Proofs.YtmmninlnpnhboaaGreatDoor
open Go.RowKit

def mnI (s : Int) : Int := if 20 < s then 20 else s
def hamB (s p r : Int) : Bool := inB p 0 47 && inB r 1 (mnI s)
def frB (s : Int) (l : List (Int × Int)) : Bool := inB s 2 96 && inB l.length 1 24 && (List.range l.length).all fun j => hamB s (hPi l j) (hRe l j)
def HWF (l : List (Int × Int)) : Prop := ∀ k, k < l.length → (-128 ≤ hPi l k ∧ hPi l k ≤ 127) ∧ (-128 ≤ hRe l k ∧ hRe l k ≤ 127)
/-- the hammers ahead of k are in range -/
def HG (s : Int) (l : List (Int × Int)) (k : Nat) : Prop := ∀ j, j < k → hamB s (hPi l j) (hRe l j) = true
theorem HG_succ {s : Int} {l : List (Int × Int)} {k : Nat} (h : HG s l k) (h' : hamB s (hPi l k) (hRe l k) = true) : HG s l (k + 1) := fun j hj => by
  rcases Nat.lt_or_ge j k with h1 | h1
  · exact h j h1
  · rw [show j = k by omega]; exact h'
theorem frB_yes {s : Int} {l : List (Int × Int)} (h1 : inB s 2 96 = true) (h2 : inB l.length 1 24 = true) (h : HG s l l.length) : frB s l = true := by
  have : (List.range l.length).all (fun j => hamB s (hPi l j) (hRe l j)) = true := by simp only [List.all_eq_true, List.mem_range]; exact h
  simp [frB, h1, h2, this]
theorem frB_no {s : Int} {l : List (Int × Int)} {k : Nat} (hk : k < l.length) (h : hamB s (hPi l k) (hRe l k) = false) : frB s l = false := by
  have : (List.range l.length).all (fun j => hamB s (hPi l j) (hRe l j)) = false := by
    rw [List.all_eq_false]
    exact ⟨k, List.mem_range.2 hk, by simp [h]⟩
  simp [frB, this]
theorem frB_all {s : Int} {l : List (Int × Int)} (h : frB s l = true) : (2 ≤ s ∧ s ≤ 96) ∧ (1 ≤ l.length ∧ l.length ≤ 24) ∧ HG s l l.length := by
  simp only [frB, inB, Bool.and_eq_true, decide_eq_true_eq, List.all_eq_true, List.mem_range] at h
  exact ⟨h.1.1, by omega, h.2⟩

theorem l00Min_any (s : Int) (w : World) :
    Calls Tryz.prog 86 #[.int .i64 20, .int .i64 s] w fun e w' => e = .returned (.int .i64 (mnI s)) ∧ w = w' := by
  go_enter Tryz.func86, Tryz.ntmps86
  go_wp2
  all_goals go_ret
  all_goals exact ⟨ret_int (by simp [mnI] <;> omega), rfl⟩

/-- block b holds a frame -/
def FP (w : World) (b : Nat) (s : Int) (A : Option Addr) (n c : Nat) : Prop := w.cell? ⟨b, 0, none⟩ = some (.int .i16 s) ∧ w.cell? ⟨b, 1, none⟩ = some (.slice A n c)
theorem FP.lt {w : World} {b : Nat} {s : Int} {A : Option Addr} {n c : Nat} (h : FP w b s A n c) : b < w.heap.size := World.block_lt_of_cell? w _ h.1
theorem FP.keep {w w' : World} {b : Nat} {s : Int} {A : Option Addr} {n c : Nat} (h : FP w b s A n c) (hb : Below w.heap.size w w') : FP w' b s A n c := ⟨(hb.cell (p := ⟨b, _, none⟩) h.lt).trans h.1, (hb.cell (p := ⟨b, _, none⟩) h.lt).trans h.2⟩


set_option maxHeartbeats 1000000 in
theorem l02Frame_any (b : Nat) (s : Int) (A : Option Addr) (c : Nat) (l : List (Int × Int)) (w : World) (hF : FP w b s A l.length c) (hA : HA w A l) (hn : l.length ≤ 1048576) (hwf : HWF l) (hs : -32768 ≤ s ∧ s ≤ 32767) :
    Calls Tryz.prog 56 #[.pointer (some ⟨b, 0, none⟩)] w (Says (frB s l) w) := by
  have hbl := hF.lt
  obtain ⟨g1, g2⟩ := hF
  obtain ⟨hs1, hs2⟩ := hs
  cases h1 : inB s 2 96
  · go_enter Tryz.func56, Tryz.ntmps56
    go_wp2_with (go_at_call 85; refine (l00In_any _ _ _ _).mono ?_; rintro e w' ⟨rfl, rfl⟩; try rw [h1])
    go_ret
    exact ⟨ret_bool (by simp [frB, h1]), Below.refl _ _⟩
  cases h2 : inB l.length 1 24
  · go_enter Tryz.func56, Tryz.ntmps56
    go_wp2_with (go_at_call 85; refine (l00In_any _ _ _ _).mono ?_; rintro e w' ⟨rfl, rfl⟩; first | rw [h1] | rw [h2])
    go_ret
    exact ⟨ret_bool (by simp [frB, h2]), Below.refl _ _⟩
  have H1 := hide h1
  have H2 := hide h2
  go_enter Tryz.func56, Tryz.ntmps56
  go_wp2_with (go_at_call 85; refine (l00In_any _ _ _ _).mono ?_; rintro e w' ⟨rfl, rfl⟩; first | rw [h1] | rw [h2])
  clear h1 h2
  go_loopw [3] (fun i wr => ∃ k : Nat, k ≤ l.length ∧ i = .int .i64 k ∧ HG s l k ∧ Below w.heap.size w wr)
    (fun i _ => l.length - (intOf i).toNat)
  case atStart => exact ⟨0, Nat.zero_le _, rfl, fun j hj => absurd hj (Nat.not_lt_zero _), Below.refl _ _⟩
  case round =>
    obtain ⟨k, hk, rfl, hG, hb⟩ := hrel
    have HG' := hide hG
    clear hG
    have e1 := (hb.cell (p := ⟨b, 0, none⟩) hbl).trans g1
    have e2 := (hb.cell (p := ⟨b, 1, none⟩) hbl).trans g2
    by_cases hlt : k < l.length
    · obtain ⟨b', o, rfl, hbb, c1, c2⟩ := hA k hlt
      have d1 := (hb.cell (p := ⟨b', o + k * 2, none⟩) hbb).trans c1
      have d2 := (hb.cell (p := ⟨b', o + k * 2 + 1, none⟩) hbb).trans c2
      have hsz := hb.size
      obtain ⟨⟨p1, p2⟩, r1, r2⟩ := hwf k hlt
      have hbx := hb.alloc hsz (.cells #[.int .i8 (hPi l k), .int .i8 (hRe l k)] 95)
      have q0 := Later.cell (w := wr.alloc (.cells #[.int .i8 (hPi l k), .int .i8 (hRe l k)] 95)) (((Below.refl _ _).alloc (Nat.le_refl _) _ : Below wr.heap.size wr _).cell (p := ⟨b, 0, none⟩) (by have : (⟨b, 0, none⟩ : Addr).block = b := rfl; omega) |>.trans e1)
      have q1 := Later.cell (w := wr.alloc (.cells #[.int .i8 (hPi l k), .int .i8 (hRe l k)] 95)) (a := ⟨wr.heap.size, 0, none⟩) (v := .int .i8 (hPi l k)) (by simp [go_sem])
      have q2 := Later.cell (w := wr.alloc (.cells #[.int .i8 (hPi l k), .int .i8 (hRe l k)] 95)) (a := ⟨wr.heap.size, 1, none⟩) (v := .int .i8 (hRe l k)) (by simp [go_sem])
      clear c1 c2 hA
      cases x1 : inB (hPi l k) 0 47
      · have HX := hide (show hamB s (hPi l k) (hRe l k) = false by simp [hamB, x1])
        have K1 : ∀ W, Calls Tryz.prog 85 #[.int .i64 (hPi l k), .int .i64 0, .int .i64 47] W fun e w' => e = .returned (.bool false) ∧ W = w' := fun W => by rw [← x1]; exact l00In_any _ _ _ W
        clear x1
        go_wp2_with fail
        refine wp_region_later (by kernel_rfl) (by kernel_rfl) ?_
        repeat (go_big_quiet_step ((go_at_call 85; with_reducible exact Later.same (K1 _))))
        refine wpQuiet_nil ?_
        rintro _ ⟨⟨wq, hq⟩, rfl⟩
        go_wp2
        go_ret
        exact ⟨ret_bool (frB_no hlt HX.out).symm, hbx.trans (hq.mono hbx.size)⟩
      · cases x2 : inB (hRe l k) 1 (mnI s)
        · have HX := hide (show hamB s (hPi l k) (hRe l k) = false by simp [hamB, x2])
          have K1 : ∀ W, Calls Tryz.prog 85 #[.int .i64 (hPi l k), .int .i64 0, .int .i64 47] W fun e w' => e = .returned (.bool true) ∧ W = w' := fun W => by rw [← x1]; exact l00In_any _ _ _ W
          have K2 : ∀ W, Calls Tryz.prog 85 #[.int .i64 (hRe l k), .int .i64 1, .int .i64 (mnI s)] W fun e w' => e = .returned (.bool false) ∧ W = w' := fun W => by rw [← x2]; exact l00In_any _ _ _ W
          clear x1 x2
          go_wp2_with fail
          refine wp_region_later (by kernel_rfl) (by kernel_rfl) ?_
          repeat (go_big_quiet_step (first | (go_at_call 85; with_reducible exact Later.same (K1 _)) | (go_at_call 85; with_reducible exact Later.same (K2 _)) | (go_at_call 86; with_reducible exact Later.same (l00Min_any s _))))
          refine wpQuiet_nil ?_
          rintro _ ⟨⟨wq, hq⟩, rfl⟩
          go_wp2
          go_ret
          exact ⟨ret_bool (frB_no hlt HX.out).symm, hbx.trans (hq.mono hbx.size)⟩
        · have HX := hide (show hamB s (hPi l k) (hRe l k) = true by simp [hamB, x1, x2])
          have K1 : ∀ W, Calls Tryz.prog 85 #[.int .i64 (hPi l k), .int .i64 0, .int .i64 47] W fun e w' => e = .returned (.bool true) ∧ W = w' := fun W => by rw [← x1]; exact l00In_any _ _ _ W
          have K2 : ∀ W, Calls Tryz.prog 85 #[.int .i64 (hRe l k), .int .i64 1, .int .i64 (mnI s)] W fun e w' => e = .returned (.bool true) ∧ W = w' := fun W => by rw [← x2]; exact l00In_any _ _ _ W
          clear x1 x2
          go_wp2_with fail
          refine wp_region_later (by kernel_rfl) (by kernel_rfl) ?_
          repeat (go_big_quiet_step (first | (go_at_call 85; with_reducible exact Later.same (K1 _)) | (go_at_call 85; with_reducible exact Later.same (K2 _)) | (go_at_call 86; with_reducible exact Later.same (l00Min_any s _))))
          refine wpQuiet_nil ?_
          rintro _ ⟨⟨wq, hq⟩, rfl⟩
          go_wp2
          go_roundw
          case rel => exact ⟨k + 1, hlt, by go_num, HG_succ HG'.out HX.out, hbx.trans (hq.mono hbx.size)⟩
          case measure => simp [intOf]; omega
    · obtain rfl : k = l.length := by omega
      go_wp2
      go_ret
      exact ⟨ret_bool (frB_yes H1.out H2.out HG'.out).symm, hb⟩
end Go.Proofs.YtmmninlnpnhboaaGreatDoor
