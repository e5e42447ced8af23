import Derived.Test.YtmjpecneaenlpaaDoorGax
import Derived.Test.YtmjpecneaenlpaaDoorGas
import Derived.Test.YtmjpecneaenlpaaDoorTti
import Derived.Shelf.Strconv.ErrVarParseInt
namespace Go.Proofs.YtmjpecneaenlpaaDoor
open Go.RowKit
/-- the program's packages' variables that reading reads -/
def ErW (w : World) : Prop := (∃ tp p, w.var? Tryd.prog "strconv.ErrSyntax" = some #[.iface tp p]) ∧ ∃ tp p, w.var? Tryd.prog "strconv.ErrRange" = some #[.iface tp p]
set_option maxRecDepth 20000 in
set_option maxHeartbeats 4000000 in
theorem pitchNamed_any (b : ByteArray) (w : World) (hT : StpW w) :
    Calls Tryd.prog 56 #[.string b] w fun e w' => e = .returned (.tuple #[.int .i8 ((pnF b.data.toList).getD 0 : Nat), .bool (pnF b.data.toList).isSome]) ∧ w = w' := by
  go_enter Tryd.func56, Tryd.ntmps56
  go_wp2_with fail
  go_loopw [5] (fun i wr => ∃ m : Nat, m ≤ 48 ∧ i = .int .i8 m ∧ (∀ j, j < m → pnQ j ≠ b.data.toList) ∧ w = wr)
    (fun i _ => 48 - (intOf i).toNat)
  case atStart => exact ⟨0, Nat.zero_le _, rfl, fun j hj => absurd hj (Nat.not_lt_zero _), rfl⟩
  case round =>
    obtain ⟨m, hm, rfl, hno, rfl⟩ := hrel
    by_cases hlt : m < 48
    · have hwm : IntKind.i64.wrap (m : Int) = (m : Int) := IntWalk.i64_in _ (by omega)
      have hwm2 : IntKind.i8.wrap ((m : Int) + 1) = ((m + 1 : Nat) : Int) := by simp [IntKind.wrap, IntKind.signed, IntKind.bits]; omega
      have KQ := implPitchName_any (m : Int) w hT
      have hz0 : (pnV (m : Int)).data.toList = pnQ m := pnV_Q ⟨by omega, by omega⟩
      obtain ⟨z, hz⟩ : ∃ z, z = pnV (m : Int) := ⟨_, rfl⟩
      rw [← hz] at KQ hz0
      have hlti : (m : Int) < 48 := by omega
      by_cases he : z = b
      · have hF := hide (pn_first hlt hno (by rw [← hz0, he]))
        subst he
        have he' : (z.toList == z.toList) = true := by simp
        clear hz hz0 hno
        go_wp2_with (go_at_call 59; refine KQ.mono ?_; rintro e w2 ⟨rfl, rfl⟩)
        go_ret2
        exact ⟨by rw [hF.out]; rfl, rfl⟩
      · have hne : pnQ m ≠ b.data.toList := fun h => he (ByteArray.ext (Array.toList_inj.1 (by rw [hz0, h])))
        have HN := hide (show ∀ j, j < m + 1 → pnQ j ≠ b.data.toList from fun j hj => by
          rcases Nat.lt_or_ge j m with h | h
          · exact hno j h
          · obtain rfl : j = m := by omega
            exact hne)
        have he' : (z.toList == b.toList) = false := by rw [ByteArray.toList_eq, ByteArray.toList_eq]; exact beq_eq_false_iff_ne.2 fun h => he (ByteArray.ext (Array.toList_inj.1 h))
        clear hz hz0 hno hne
        go_wp2_with (go_at_call 59; refine KQ.mono ?_; rintro e w2 ⟨rfl, rfl⟩)
        go_roundw
        case rel => exact ⟨m + 1, hlt, rfl, HN.out, trivial⟩
        case measure => simp [intOf]; omega
    · obtain rfl : m = 48 := by omega
      have hF := hide (pn_none hno)
      clear hno
      go_wp2_with fail
      go_ret2
      exact ⟨by rw [hF.out]; rfl, rfl⟩
theorem var_below {w w' : World} {n : String} {cs : Array Value} (hv : w.var? Tryd.prog n = some cs) (hb : Below w.heap.size w w') : w'.var? Tryd.prog n = some cs := by
  unfold World.var? at hv ⊢
  cases hg : Tryd.prog.globalNamed n with
  | none => rw [hg] at hv; cases hv
  | some g =>
    rw [hg] at hv
    simp only [Option.bind_some] at hv ⊢
    rw [hb.block g ?_]
    · exact hv
    · rcases Nat.lt_or_ge g w.heap.size with h | h
      · exact h
      · rw [Array.getElem?_eq_none h] at hv
        cases hv
theorem ErW.below {w w' : World} (h : ErW w) (hb : Below w.heap.size w w') : ErW w' := by
  obtain ⟨⟨t1, p1, e1⟩, t2, p2, e2⟩ := h
  exact ⟨⟨t1, p1, var_below e1 hb⟩, t2, p2, var_below e2 hb⟩
theorem ErW.keep {w w' : World} (h : ErW w) (hb : Below w.heap.size w w') : ErW w' := h.below hb
/-- a text read as a number of 16 bits: the value where it goes, nil or not -/
theorem parse16_any (s : ByteArray) (w : World) (hs : s.size ≤ 1048576) (hE : ErW w) :
    Calls Tryd.prog 36 #[.string s, .int .i64 10, .int .i64 16] w fun e w' => Below w.heap.size w w' ∧ ((∃ v, Lib.parseIntB 16 s.data.toList = .ok v ∧ -32768 ≤ v ∧ v ≤ 32767 ∧ e = .returned (.tuple #[.int .i64 v, .nilIface])) ∨ ((∀ v, Lib.parseIntB 16 s.data.toList ≠ .ok v) ∧ ∃ (x : Int) (tp : TypeId) (p : Value), e = .returned (.tuple #[.int .i64 x, .iface tp p]))) := by
  obtain ⟨⟨t1, p1, e1⟩, t2, p2, e2⟩ := hE
  match h : Lib.parseIntB 16 s.data.toList with
  | .ok v =>
    refine (Tryd.strconv_ParseInt_10_at16_ok s (by omega) v h w).mono ?_
    rintro e w' ⟨rfl, hw⟩
    refine ⟨?_, .inl ⟨v, rfl, ?_, ?_, rfl⟩⟩
    · rcases hw with rfl | ⟨t, rfl⟩
      · exact Below.refl _ _
      · exact Lib.bytesWorld_below _ _ _
    all_goals
      have h2 := Lib.parseIntB_bounds h
      have h3 : (2 : Nat) ^ (16 - 1) = 32768 := rfl
      rw [h3] at h2
      omega
  | .syntax =>
    refine (Tryd.strconv_ParseInt_10_at16_syntax_var s (by omega) h t1 p1 w e1).mono ?_
    rintro e w' ⟨N, rfl, h1, h2, h3⟩
    exact ⟨h3, .inr ⟨fun v => by simp, _, _, _, rfl⟩⟩
  | .range =>
    refine (Tryd.strconv_ParseInt_10_at16_range_var s (by omega) h t2 p2 w e2).mono ?_
    rintro e w' ⟨N, rfl, h1, h2, h3⟩
    exact ⟨h3, .inr ⟨fun v => by simp, _, _, _, rfl⟩⟩
end Go.Proofs.YtmjpecneaenlpaaDoor
