import Derived.Test.YtmjpecneaenlpaaDoorRsm
import Derived.Test.YtmjpecneaenlpaaDoorGas
import Derived.Laws.Strings
import Derived.Laws.Strings3
namespace Go.Proofs.YtmjpecneaenlpaaDoor
open Go.RowKit
/-- the pitch with a name, or -1 -/
def pnI (b : List UInt8) : Int := match pnF b with
  | some p => (p : Int)
  | none => -1
set_option maxRecDepth 20000 in
set_option maxHeartbeats 4000000 in
theorem l01Pitch_any (b : ByteArray) (w : World) :
    Calls Tryd.prog 29 #[.string b] w fun e w' => e = .returned (.int .i64 (pnI b.data.toList)) ∧ Below w.heap.size w w' := by
  go_enter Tryd.func29, Tryd.ntmps29
  go_wp2_with fail
  go_loopw [3] (fun i wr => ∃ m : Nat, m ≤ 48 ∧ i = .int .i64 m ∧ (∀ j, j < m → pnQ j ≠ b.data.toList) ∧ Below w.heap.size w wr)
    (fun i _ => 48 - (intOf i).toNat)
  case atStart => exact ⟨0, Nat.zero_le _, rfl, fun j hj => absurd hj (Nat.not_lt_zero _), Below.refl _ _⟩
  case round =>
    obtain ⟨m, hm, rfl, hno, hb⟩ := hrel
    by_cases hlt : m < 48
    · have KQ := l01Name_in (m : Int) ⟨by omega, by omega⟩ wr
      have hz0 : (pnV (m : Int)).data.toList = pnQ m := pnV_Q ⟨by omega, by omega⟩
      obtain ⟨z, hz⟩ : ∃ z, z = pnV (m : Int) := ⟨_, rfl⟩
      rw [← hz] at KQ hz0
      have hlti : (m : Int) < 48 := by omega
      by_cases he : z = b
      · have hF := hide (show pnI b.data.toList = (m : Int) by unfold pnI; rw [pn_first hlt hno (by rw [← hz0, he])])
        subst he
        have he' : (z.toList == z.toList) = true := by simp
        clear hz hz0 hno
        go_wp2_with (go_at_call 51; refine KQ.mono ?_; rintro e w2 ⟨rfl, hb2⟩)
        go_ret
        exact ⟨by rw [hF.out]; rfl, step_below hb2 hb⟩
      · have hne : pnQ m ≠ b.data.toList := fun h => he (ByteArray.ext (Array.toList_inj.1 (by rw [hz0, h])))
        have HN := hide (show ∀ j, j < m + 1 → pnQ j ≠ b.data.toList from fun j hj => by
          rcases Nat.lt_or_ge j m with h | h
          · exact hno j h
          · obtain rfl : j = m := by omega
            exact hne)
        have he' : (z.toList == b.toList) = false := by rw [ByteArray.toList_eq, ByteArray.toList_eq]; exact beq_eq_false_iff_ne.2 fun h => he (ByteArray.ext (Array.toList_inj.1 h))
        clear hz hz0 hno hne
        go_wp2_with (go_at_call 51; refine KQ.mono ?_; rintro e w2 ⟨rfl, hb2⟩)
        go_roundw
        case rel => exact ⟨m + 1, hlt, by go_num, HN.out, step_below hb2 hb⟩
        case measure => simp [intOf]; omega
    · obtain rfl : m = 48 := by omega
      have hF := hide (show pnI b.data.toList = -1 by unfold pnI; rw [pn_none hno])
      clear hno
      go_wp2
      go_ret
      exact ⟨by rw [hF.out]; rfl, hb⟩
end Go.Proofs.YtmjpecneaenlpaaDoor
