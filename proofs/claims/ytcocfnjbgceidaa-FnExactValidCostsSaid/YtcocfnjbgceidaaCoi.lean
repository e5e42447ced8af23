import Derived.Test.YtcocfnjbgceidaaCos
namespace Go.Proofs.Ytcocfnjbgceidaa
open Go.RowKit
def coAt (a o s : Int) (k : Nat) : Int := if k = 0 then a else if k = 1 then o else s
def CoG (a o s : Int) (k : Nat) : Prop := ∀ j, j < k → inB (coAt a o s j) 0 1000 = true
theorem coG_all {a o s : Int} (h : CoG a o s 3) : coB a o s = true := by
  have h0 := h 0 (by omega)
  have h1 := h 1 (by omega)
  have h2 := h 2 (by omega)
  simp [coAt] at h0 h1 h2
  simp [coB, h0, h1, h2]
theorem coG_no {a o s : Int} {k : Nat} (hk : k < 3) (h : inB (coAt a o s k) 0 1000 = false) : coB a o s = false := by
  have : k = 0 ∨ k = 1 ∨ k = 2 := by omega
  rcases this with rfl | rfl | rfl <;> simp [coAt] at h <;> simp [coB, h]
theorem index3 (a o s : Int) (k : Nat) (hk : k < 3) (w : World) : (Instr.index 98 (.agg #[.int .i16 a, .int .i16 o, .int .i16 s]) (.int .i64 k)).run Try.prog w = .ok (.int .i16 (coAt a o s k)) w := by
  have h3 : k = 0 ∨ k = 1 ∨ k = 2 := by omega
  rcases h3 with rfl | rfl | rfl <;> simp [Instr.index, asIntOf, run_underlying Try.underlying98, go_sem, coAt]
theorem coAt_wf {a o s : Int} (h : CoWF a o s) (k : Nat) : -32768 ≤ coAt a o s k ∧ coAt a o s k ≤ 32767 := by
  unfold coAt
  split
  · exact h.1
  · split
    · exact h.2.1
    · exact h.2.2
set_option maxRecDepth 20000 in
set_option maxHeartbeats 1000000 in
theorem implValidCosts_any (a o s : Int) (w : World) (hw : CoWF a o s) :
    Calls Try.prog 13 #[.agg #[.int .i16 a, .int .i16 o, .int .i16 s]] w (Says (coB a o s) w) := by
  have hb0 : Below w.heap.size w (w.alloc (.cells #[.int .i16 a, .int .i16 o, .int .i16 s] 26)) := (Below.refl _ _).alloc (Nat.le_refl _) _
  have hw' := hw
  obtain ⟨⟨_, _⟩, ⟨_, _⟩, ⟨_, _⟩⟩ := hw'
  go_enter Try.func13, Try.ntmps13
  go_wp2_with fail
  go_loopw [4, 12] (fun _ i wr => ∃ k : Nat, k ≤ 3 ∧ i = .int .i64 k ∧ CoG a o s k ∧ Below w.heap.size w wr)
    (fun _ i _ => 3 - (intOf i).toNat)
  case atStart => exact ⟨0, by omega, rfl, fun j hj => absurd hj (Nat.not_lt_zero _), hb0⟩
  case round =>
    obtain ⟨k, hk, rfl, hG, hb⟩ := hrel
    have HG := hide hG
    clear hG
    by_cases hlt : k < 3
    · have KW := fun W => within_any (coAt a o s k) 0 1000 W
      have hix := fun W => index3 a o s k hlt W
      obtain ⟨hz1, hz2⟩ := coAt_wf hw k
      have hki : (k : Int) < 3 := by omega
      cases hi : inB (coAt a o s k) 0 1000
      · have HX := hide (coG_no hlt hi)
        rw [hi] at KW
        clear hi
        generalize coAt a o s k = y at *
        go_wp2_with fail
        refine (KW _).mono ?_
        rintro e w' ⟨rfl, rfl⟩
        go_wp2
        go_ret
        exact ⟨ret_bool HX.out.symm, hb⟩
      · have HGS : Hid (CoG a o s (k + 1)) := hide (fun j hj => by
          rcases Nat.lt_or_ge j k with h | h
          · exact HG.out j h
          · obtain rfl : j = k := by omega
            exact hi)
        rw [hi] at KW
        clear hi
        generalize coAt a o s k = y at *
        go_wp2_with fail
        refine (KW _).mono ?_
        rintro e w' ⟨rfl, rfl⟩
        go_wp2
        go_roundw
        case rel => exact ⟨k + 1, hlt, by go_num, HGS.out, hb⟩
        case measure => simp [intOf]; omega
    · obtain rfl : k = 3 := by omega
      have HX := hide (coG_all HG.out)
      go_wp2
      go_ret
      exact ⟨ret_bool HX.out.symm, hb⟩
end Go.Proofs.Ytcocfnjbgceidaa
