import Derived.Test.YtmjpecneaenlpaaDoorRti
import Derived.Test.YtmjpecneaenlpaaDoorGba
namespace Go.Proofs.YtmjpecneaenlpaaDoor
open Go.RowKit
theorem infoNtR : (Tryd.prog.info? 54).map (·.size) = some 2 := by kernel_rfl
theorem infoNote2R (a b : Value) : (Tryd.prog.info? 54).map (·.size) = some (#[a, b] : Array Value).size := by kernel_rfl
theorem szNote2R (a b c d : Value) : (#[a, b] : Array Value).size = (#[c, d] : Array Value).size := rfl
theorem oneNote2R (a b : Int) : (#[.int .i16 a, .int .i8 b] : Array Value).all (·.oneCell') = true := by simp [Value.oneCell']
theorem results_n2R {fn : Func} {p q : Tmp} (h : fn.results = #[.cell p 54, .tmp q]) (tmps : Array Value) (w : World) (g : Nat) (t : TypeId) (cs : Array Value) (v : Value) (hi : cs.size = 2)
    (hp : tmps.getD p undef = .pointer (some ⟨g, 0, none⟩)) (hq : tmps.getD q undef = v) (hg : w.heap[g]? = some (.cells cs t (0, 0))) :
    (results fn tmps).run Tryd.prog w = .ok (.tuple #[.agg cs, v]) w := by
  have hp' : tmps[p]?.getD undef = .pointer (some ⟨g, 0, none⟩) := by simpa using hp
  have hq' : tmps[q]?.getD undef = v := by simpa using hq
  have h1 := run_loadVar_row w g t 54 cs (0, 0) _ hg Tryd.underlying54 rfl (by rw [hi]; exact infoNtR)
  simp [results, h, hp', hq', asAddr, h1]
/-- what reading a note hands back -/
def RnP (s : ByteArray) (w : World) (e : Ending) (w' : World) : Prop := Below w.heap.size w w' ∧ ((∃ a p, iNote 0 s.data.toList = some (a, p) ∧ (-32768 ≤ a ∧ a ≤ 32767) ∧ (0 ≤ p ∧ p ≤ 47) ∧ e = .returned (.tuple #[.agg #[.int .i16 a, .int .i8 p], .bool true])) ∨ (iNote 0 s.data.toList = none ∧ e = .returned (.tuple #[.agg #[.int .i16 0, .int .i8 0], .bool false])))
set_option maxRecDepth 20000 in
set_option maxHeartbeats 4000000 in
theorem readNote_any (s : ByteArray) (w : World) (hs : s.size ≤ 1048576) (hT : StpW w) (hE : ErW w) :
    Calls Tryd.prog 32 #[.string s] w (RnP s w) := by
  have KC := fun W => cut_one s 58 W hs
  have KP := fun (b : ByteArray) W (hb : b.size ≤ 1048576) (hE : ErW W) => parse16_any b W hb hE
  have KN := fun b W hT => pitchNamed_any b W hT
  obtain ⟨X, hX⟩ : ∃ X, X = w.alloc (.cells #[.int .i16 0, .int .i8 0] 54) := ⟨_, rfl⟩
  have b0 : Below w.heap.size w X := by rw [hX]; exact (Below.refl _ _).alloc (Nat.le_refl _) _
  have R0 : Bk X w.heap.size 54 #[.int .i16 0, .int .i8 0] := by rw [hX]; exact heap_alloc_new _ _
  go_enter Tryd.func32, Tryd.ntmps32
  go_upto_region 1 with fail
  rw [← hX]
  clear hX
  go_wp2_with fail
  refine (KC _).mono ?_
  rintro e w1 ⟨hb1, a, b, f, rfl, ha, hbb, hcut⟩
  have b1 := step_below hb1 b0
  have R1 := R0.keep hb1
  have KP1 := KP a w1 (by omega) (hE.below b1)
  clear KC KP R0
  go_wp2_with fail
  refine KP1.mono ?_
  rintro e w2 ⟨hb2, hpa⟩
  have b2 := step_below hb2 b1
  have R2 := R1.keep hb2
  have KN2 := KN b w2 (hT.below b2)
  clear KP1 KN R1
  have HN := hide (show w2.heap[w.heap.size]? = some (.cells #[.int .i16 0, .int .i8 0] 54 (0, 0)) from R2)
  have HBx := hide (below_setRow' (cs := #[.int .i16 0, .int .i8 0]) b2 (Nat.le_refl _))
  have HNO := hide (show iNote 0 s.data.toList = none → RnP s w (.returned (.tuple #[.agg #[.int .i16 0, .int .i8 0], .bool false])) (w2.setRow w.heap.size #[.int .i16 0, .int .i8 0]) from fun h => ⟨below_setRow' b2 (Nat.le_refl _), .inr ⟨h, rfl⟩⟩)
  clear R2
  cases f with
  | false =>
    have HF := hide (HNO.out (by unfold iNote; rw [hcut]; rfl))
    clear hcut
    rcases hpa with ⟨v, hv, v1, v2, rfl⟩ | ⟨hv, v, tp, p, rfl⟩
    all_goals
      clear hv
      go_wp2_with fail
      refine KN2.mono ?_
      rintro e w3 ⟨rfl, rfl⟩
      go_wp2_with (with_reducible refine wpList_store_row rfl 54 (.tmp 2) (.tmp 37) rfl w.heap.size #[.int .i16 0, .int .i8 0] rfl rfl 54 _ HN.out (infoNote2R _ _) (szNote2R _ _ _ _) (oneNote2R _ _) ?_)
      exact bodyPost_ret (v := .tuple #[.agg #[.int .i16 0, .int .i8 0], .bool false]) (results_n2R Tryd.results32 _ _ w.heap.size 54 _ _ rfl (by simp [Act.put]) (by simp [Act.put]) (setRow_heap _ _ _ _ _ _ HN.out)) rfl HF.out
  | true =>
    rw [if_pos rfl] at hcut
    rcases hpa with ⟨v, hv, v1, v2, rfl⟩ | ⟨hv, v, tp, p, rfl⟩
    · cases hq : pnF b.data.toList with
      | none =>
        have HF := hide (HNO.out (by unfold iNote; rw [hcut]; simp only [hv, hq]))
        rw [hq] at KN2
        clear hcut hv hq
        go_wp2_with fail
        refine KN2.mono ?_
        rintro e w3 ⟨rfl, rfl⟩
        go_wp2_with (with_reducible refine wpList_store_row rfl 54 (.tmp 2) (.tmp 37) rfl w.heap.size #[.int .i16 0, .int .i8 0] rfl rfl 54 _ HN.out (infoNote2R _ _) (szNote2R _ _ _ _) (oneNote2R _ _) ?_)
        exact bodyPost_ret (v := .tuple #[.agg #[.int .i16 0, .int .i8 0], .bool false]) (results_n2R Tryd.results32 _ _ w.heap.size 54 _ _ rfl (by simp [Act.put]) (by simp [Act.put]) (setRow_heap _ _ _ _ _ _ HN.out)) rfl HF.out
      | some q =>
        have hq47 : q < 48 := (pnF_some hq).1
        have HF := hide (show RnP s w (.returned (.tuple #[.agg #[.int .i16 v, .int .i8 q], .bool true])) (w2.setRow w.heap.size #[.int .i16 v, .int .i8 q]) from ⟨below_setRow' b2 (Nat.le_refl _), .inl ⟨v, q, by unfold iNote; rw [hcut]; simp only [hv, hq], ⟨v1, v2⟩, ⟨by omega, by omega⟩, rfl⟩⟩)
        rw [hq] at KN2
        have hwv : IntKind.i16.wrap v = v := IntWalk.i16_in _ (by omega)
        clear hcut hv hq
        go_wp2_with fail
        refine KN2.mono ?_
        rintro e w3 ⟨rfl, rfl⟩
        go_wp2_with (with_reducible refine wpList_store_row rfl 54 (.tmp 2) (.tmp 41) rfl w.heap.size #[.int .i16 v, .int .i8 q] rfl rfl 54 _ HN.out (infoNote2R _ _) (szNote2R _ _ _ _) (oneNote2R _ _) ?_)
        exact bodyPost_ret (v := .tuple #[.agg #[.int .i16 v, .int .i8 q], .bool true]) (results_n2R Tryd.results32 _ _ w.heap.size 54 _ _ rfl (by simp [Act.put]) (by simp [Act.put]) (setRow_heap _ _ _ _ _ _ HN.out)) rfl HF.out
    · have HF := hide (HNO.out (by
        unfold iNote
        rw [hcut]
        match h : Lib.parseIntB 16 a.data.toList with
        | .ok z => exact absurd h (hv z)
        | .syntax => simp only [h]
        | .range => simp only [h]))
      clear hcut hv
      go_wp2_with fail
      refine KN2.mono ?_
      rintro e w3 ⟨rfl, rfl⟩
      go_wp2_with (with_reducible refine wpList_store_row rfl 54 (.tmp 2) (.tmp 37) rfl w.heap.size #[.int .i16 0, .int .i8 0] rfl rfl 54 _ HN.out (infoNote2R _ _) (szNote2R _ _ _ _) (oneNote2R _ _) ?_)
      exact bodyPost_ret (v := .tuple #[.agg #[.int .i16 0, .int .i8 0], .bool false]) (results_n2R Tryd.results32 _ _ w.heap.size 54 _ _ rfl (by simp [Act.put]) (by simp [Act.put]) (setRow_heap _ _ _ _ _ _ HN.out)) rfl HF.out
end Go.Proofs.YtmjpecneaenlpaaDoor
namespace Go.Proofs.YtmjpecneaenlpaaDoor
open Go.RowKit
theorem own_ne2 {w : World} {b b' n n' : Nat} {e e' : TypeId} {s s' : Nat} {v v' : Value} {xs xs' : List Value} (h : w.ownsRow b e s v n xs) (h' : w.ownsRow b' e' s' v' n' xs') (he : e ≠ e') : v.ownBlock = none ∨ v.ownBlock ≠ v'.ownBlock := by
  rcases h.2 with ⟨rfl, _⟩ | ⟨g, cap, cur, rfl, hb, hg, _⟩
  · exact Or.inl rfl
  · refine Or.inr fun hv => ?_
    rcases h'.2 with ⟨rfl, _⟩ | ⟨g', cap', cur', rfl, hb', hg', _⟩
    · cases hv
    · have e1 : g = g' := by simpa [Value.ownBlock] using hv
      subst e1
      rw [hg] at hg'
      simp at hg'
      exact he hg'.2
end Go.Proofs.YtmjpecneaenlpaaDoor
