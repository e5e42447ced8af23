import Derived.Test.YtcepjiglhlmgdaaDoorDrm
import Derived.Test.YtcepjiglhlmgdaaDoorGah
namespace Go.Proofs.YtcepjiglhlmgdaaDoor
open Go.RowKit

/-- the pins of a step are where there may be pins -/
def stepB (s : Int) (n : Nat) (d : Nat → Int) (k : Nat) : Bool := decide (d k / 2 ^ n = 0) && (decide ((k : Int) < s) || decide (d k = 0))
def drB (s : Int) (n : Nat) (d : Nat → Int) : Bool := (List.range 96).all (stepB s n d)
def DG (s : Int) (n : Nat) (d : Nat → Int) (k : Nat) : Prop := ∀ j, j < k → stepB s n d j = true
theorem DG_succ {s : Int} {n : Nat} {d : Nat → Int} {k : Nat} (h : DG s n d k) (h' : stepB s n d k = true) : DG s n d (k + 1) := fun j hj => by
  rcases Nat.lt_or_ge j k with h1 | h1
  · exact h j h1
  · rw [show j = k by omega]; exact h'
theorem drB_yes {s : Int} {n : Nat} {d : Nat → Int} (h : DG s n d 96) : drB s n d = true := by simp only [drB, List.all_eq_true, List.mem_range]; exact h
theorem drB_no {s : Int} {n : Nat} {d : Nat → Int} {k : Nat} (hk : k < 96) (h : stepB s n d k = false) : drB s n d = false := by
  rw [drB, List.all_eq_false]
  exact ⟨k, List.mem_range.2 hk, by simp [h]⟩
theorem drB_all {s : Int} {n : Nat} {d : Nat → Int} (h : drB s n d = true) : DG s n d 96 := fun j hj => by
  simp only [drB, List.all_eq_true, List.mem_range] at h
  exact h j hj
def DWF (d : Nat → Int) : Prop := ∀ i, i < 96 → 0 ≤ d i ∧ d i ≤ 4294967295

set_option maxRecDepth 20000 in
set_option maxHeartbeats 1000000 in
theorem l02Drum_at (b g o : Nat) (s : Int) (A : Option Addr) (n c : Nat) (d : Nat → Int) (w : World) (hF : FP w b s A n c) (hgl : g < w.heap.size) (hR : w.rangeAt g o (dv d)) (hn : n ≤ 24) (hs : 2 ≤ s ∧ s ≤ 96) (hd : DWF d) :
    Calls Tryd.prog 58 #[.pointer (some ⟨b, 0, none⟩), .pointer (some ⟨g, o, none⟩)] w (Says (drB s n d) w) := by
  have hbl := hF.lt
  obtain ⟨g1, g2⟩ := hF
  obtain ⟨hs1, hs2⟩ := hs
  go_enter Tryd.func58, Tryd.ntmps58
  go_wp2_with fail
  go_loopw [5] (fun i wr => ∃ k : Nat, k ≤ 96 ∧ i = .int .i64 k ∧ DG s n d k ∧ Below w.heap.size w wr)
    (fun i _ => 96 - (intOf i).toNat)
  case atStart => exact ⟨0, Nat.zero_le _, rfl, fun j hj => absurd hj (Nat.not_lt_zero _), Below.refl _ _⟩
  case round =>
    obtain ⟨k, hk, rfl, hG, hb⟩ := hrel
    have HGG := hide hG
    clear hG
    by_cases hlt : k < 96
    · have e1 := Later.cell ((hb.cell (p := ⟨b, 0, none⟩) hbl).trans g1)
      have e2 := Later.cell ((hb.cell (p := ⟨b, 1, none⟩) hbl).trans g2)
      have c1 := Later.cell ((hb.cell (p := ⟨g, o + k, none⟩) hgl).trans (hR k _ (dv_get d k hlt)))
      have hsz := hb.size
      obtain ⟨x1, x2⟩ := hd k hlt
      by_cases h1 : d k / 2 ^ n = 0
      · have b1 : (d k / 2 ^ n != 0) = false := by simp [h1]
        by_cases h2 : (k : Int) < s
        · have b2 : decide (s ≤ (k : Int)) = false := by simp; omega
          have HX := hide (show stepB s n d k = true by simp [stepB, h1, h2])
          clear h1 h2
          go_wp2_with fail
          refine wp_region_later (by kernel_rfl) (by kernel_rfl) ?_
          repeat (go_big_quiet_step (fail))
          refine wpQuiet_nil ?_
          rintro _ ⟨⟨wq, hq⟩, rfl⟩
          go_wp2
          go_roundw
          case rel => exact ⟨k + 1, hlt, by go_num, DG_succ HGG.out HX.out, hb.trans (hq.mono hsz)⟩
          case measure => simp [intOf]; omega
        · have b2 : decide (s ≤ (k : Int)) = true := by simp; omega
          by_cases h3 : d k = 0
          · have b3 : (d k != 0) = false := by simp [h3]
            have HX := hide (show stepB s n d k = true by simp [stepB, h3])
            clear h1 h2 h3
            go_wp2_with fail
            refine wp_region_later (by kernel_rfl) (by kernel_rfl) ?_
            repeat (go_big_quiet_step (fail))
            refine wpQuiet_nil ?_
            rintro _ ⟨⟨wq, hq⟩, rfl⟩
            go_wp2
            go_roundw
            case rel => exact ⟨k + 1, hlt, by go_num, DG_succ HGG.out HX.out, hb.trans (hq.mono hsz)⟩
            case measure => simp [intOf]; omega
          · have b3 : (d k != 0) = true := by simp [h3]
            have HX := hide (show stepB s n d k = false by simp [stepB, h2, h3])
            clear h1 h2 h3
            go_wp2_with fail
            refine wp_region_later (by kernel_rfl) (by kernel_rfl) ?_
            repeat (go_big_quiet_step (fail))
            refine wpQuiet_nil ?_
            rintro _ ⟨⟨wq, hq⟩, rfl⟩
            go_wp2
            go_ret
            exact ⟨ret_bool (drB_no hlt HX.out).symm, hb.trans (hq.mono hsz)⟩
      · have b1 : (d k / 2 ^ n != 0) = true := by simp [h1]
        have HX := hide (show stepB s n d k = false by simp [stepB, h1])
        clear h1
        go_wp2_with fail
        refine wp_region_later (by kernel_rfl) (by kernel_rfl) ?_
        repeat (go_big_quiet_step (fail))
        refine wpQuiet_nil ?_
        rintro _ ⟨⟨wq, hq⟩, rfl⟩
        go_wp2
        go_ret
        exact ⟨ret_bool (drB_no hlt HX.out).symm, hb.trans (hq.mono hsz)⟩
    · obtain rfl : k = 96 := by omega
      go_wp2
      go_ret
      exact ⟨ret_bool (drB_yes HGG.out).symm, hb⟩

theorem Dr.range0 {w : World} {g : Nat} {t : TypeId} {d : Nat → Int} (h : Dr w g t d) : w.rangeAt g 0 (dv d) := by
  intro i v hv
  have hi : i < 96 := by
    rcases Nat.lt_or_ge i 96 with h | h
    · exact h
    · rw [List.getElem?_eq_none (by rw [dv_length]; exact h)] at hv; cases hv
  rw [dv_get _ i hi] at hv
  rw [Nat.zero_add, h.cell hi]
  exact hv
theorem l02Drum_any (b g : Nat) (s : Int) (A : Option Addr) (n c : Nat) (d : Nat → Int) (w : World) (hF : FP w b s A n c) (hD : Dr w g 49 d) (hn : n ≤ 24) (hs : 2 ≤ s ∧ s ≤ 96) (hd : DWF d) :
    Calls Tryd.prog 58 #[.pointer (some ⟨b, 0, none⟩), .pointer (some ⟨g, 0, none⟩)] w (Says (drB s n d) w) :=
  l02Drum_at b g 0 s A n c d w hF hD.lt hD.range0 hn hs hd

/-- a number comes back -/
def SaysI (x : Int) (w : World) (e : Ending) (w' : World) : Prop := e = .returned (.int .i64 x) ∧ Below w.heap.size w w'
/-- the frame is valid, and the drum for it -/
def askB (s : Int) (l : List (Int × Int)) (d : Nat → Int) : Bool := frB s l && drB s l.length d
end Go.Proofs.YtcepjiglhlmgdaaDoor
