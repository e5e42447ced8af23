import Derived.Test.YtbneonmnjpiggaaDoorQti
import Derived.Laws.Strings
namespace Go.Proofs.YtbneonmnjpiggaaDoor
open Go.RowKit
/-- the quarter that a text says, from the k-th on, and the code -/
def rqI (T : ByteArray) : Nat → Nat → Int × Int
  | 0, _ => (0, 5)
  | n + 1, k => if qtV (k : Int) = T then ((k : Int), 0) else rqI T n (k + 1)
def rqV (T : ByteArray) : Int × Int := rqI T 48 0
theorem rqI_yes {T : ByteArray} {m : Nat} (hm : m < 48) (h : qtV (m : Int) = T) : rqI T (48 - m) m = ((m : Int), 0) := by
  obtain ⟨n, hn⟩ : ∃ n, 48 - m = n + 1 := ⟨47 - m, by omega⟩
  rw [hn, rqI, if_pos h]
theorem rqI_no {T : ByteArray} {m : Nat} (hm : m < 48) (h : qtV (m : Int) ≠ T) : rqI T (48 - m) m = rqI T (48 - (m + 1)) (m + 1) := by
  obtain ⟨n, hn⟩ : ∃ n, 48 - m = n + 1 := ⟨47 - m, by omega⟩
  rw [hn, rqI, if_neg h, show 48 - (m + 1) = n by omega]
set_option maxRecDepth 20000 in
set_option maxHeartbeats 4000000 in
theorem specReadQuarter_any (T : ByteArray) (w : World) :
    Calls Tryd.prog 7 #[.string T] w fun e w' => e = .returned (.tuple #[.int .i64 (rqV T).1, .int .i64 (rqV T).2]) ∧ Below w.heap.size w w' := by
  obtain ⟨R, hR⟩ : ∃ R, R = rqV T := ⟨_, rfl⟩
  rw [← hR]
  have hR0 : R = rqI T (48 - 0) 0 := hR
  clear hR
  go_enter Tryd.func7, Tryd.ntmps7
  go_wp2_with fail
  go_loopw [4] (fun i wr => ∃ m : Nat, m ≤ 48 ∧ i = .int .i64 m ∧ R = rqI T (48 - m) m ∧ Below w.heap.size w wr)
    (fun i _ => 48 - (intOf i).toNat)
  case atStart => exact ⟨0, Nat.zero_le _, rfl, hR0, Below.refl _ _⟩
  case round =>
    obtain ⟨m, hm, rfl, hRm, hb⟩ := hrel
    by_cases hlt : m < 48
    · have KQ := specQuarterText_any m wr
      obtain ⟨z, hz⟩ : ∃ z, z = qtV (m : Int) := ⟨_, rfl⟩
      rw [← hz] at KQ
      by_cases he : z = T
      · have hF := hide (hRm.trans (rqI_yes hlt (hz ▸ he)))
        subst he
        have he' : (z.toList == z.toList) = true := by simp
        clear hz hRm hR0
        go_wp2_with (go_at_call 5; refine KQ.mono ?_; rintro e w2 ⟨rfl, hb2⟩)
        go_ret2
        exact ⟨by rw [hF.out]; rfl, step_below hb2 hb⟩
      · have hF := hRm.trans (rqI_no hlt (hz ▸ he))
        have hF := hide hF
        have he' : (z.toList == T.toList) = false := by rw [ByteArray.toList_eq, ByteArray.toList_eq]; exact beq_eq_false_iff_ne.2 fun h => he (ByteArray.ext (Array.toList_inj.1 h))
        clear hz hRm hR0
        go_wp2_with (go_at_call 5; refine KQ.mono ?_; rintro e w2 ⟨rfl, hb2⟩)
        go_roundw
        case rel => exact ⟨m + 1, hlt, by go_num, hF.out, step_below hb2 hb⟩
        case measure => simp [intOf]; omega
    · obtain rfl : m = 48 := by omega
      have hF : R = (0, 5) := hRm
      have hF := hide hF
      clear hRm hR0
      go_wp2
      go_ret2
      exact ⟨by rw [hF.out]; rfl, hb⟩
set_option maxRecDepth 20000 in
set_option maxHeartbeats 4000000 in
theorem implReadQuarter_any (T : ByteArray) (w : World) (hT : MinW w) :
    Calls Tryd.prog 8 #[.string T] w fun e w' => e = .returned (.tuple #[.int .i64 (rqV T).1, .int .i64 (rqV T).2]) ∧ Below w.heap.size w w' := by
  obtain ⟨R, hR⟩ : ∃ R, R = rqV T := ⟨_, rfl⟩
  rw [← hR]
  have hR0 : R = rqI T (48 - 0) 0 := hR
  clear hR
  go_enter Tryd.func8, Tryd.ntmps8
  go_wp2_with fail
  go_loopw [4, 5] (fun _ i wr => ∃ m : Nat, m ≤ 48 ∧ i = .int .i64 m ∧ R = rqI T (48 - m) m ∧ Below w.heap.size w wr)
    (fun _ i _ => 48 - (intOf i).toNat)
  case atStart => exact ⟨0, Nat.zero_le _, rfl, hR0, Below.refl _ _⟩
  case round =>
    obtain ⟨m, hm, rfl, hRm, hb⟩ := hrel
    by_cases hlt : m < 48
    · have KQ := implQuarterText_any m wr (hT.below hb)
      obtain ⟨z, hz⟩ : ∃ z, z = qtV (m : Int) := ⟨_, rfl⟩
      rw [← hz] at KQ
      by_cases he : z = T
      · have hF := hide (hRm.trans (rqI_yes hlt (hz ▸ he)))
        subst he
        have he' : (z.toList == z.toList) = true := by simp
        clear hz hRm hR0
        go_wp2_with (go_at_call 6; refine KQ.mono ?_; rintro e w2 ⟨rfl, hb2⟩)
        go_ret2
        exact ⟨by rw [hF.out]; rfl, step_below hb2 hb⟩
      · have hF := hRm.trans (rqI_no hlt (hz ▸ he))
        have hF := hide hF
        have he' : (z.toList == T.toList) = false := by rw [ByteArray.toList_eq, ByteArray.toList_eq]; exact beq_eq_false_iff_ne.2 fun h => he (ByteArray.ext (Array.toList_inj.1 h))
        clear hz hRm hR0
        go_wp2_with (go_at_call 6; refine KQ.mono ?_; rintro e w2 ⟨rfl, hb2⟩)
        go_roundw
        case rel => exact ⟨m + 1, hlt, by go_num, hF.out, step_below hb2 hb⟩
        case measure => simp [intOf]; omega
    · obtain rfl : m = 48 := by omega
      have hF : R = (0, 5) := hRm
      have hF := hide hF
      clear hRm hR0
      go_wp2
      go_ret2
      exact ⟨by rw [hF.out]; rfl, hb⟩
end Go.Proofs.YtbneonmnjpiggaaDoor
