import Derived.Test.YtmjpecneaenlpaaDoorRfn
import Derived.Test.YtmjpecneaenlpaaDoorGbb
import Derived.Test.YtmjpecneaenlpaaDoorGax
import Derived.Test.YtmjpecneaenlpaaDoorGaw
namespace Go.Proofs.YtmjpecneaenlpaaDoor
open Go.RowKit
/-- a text read as a number of 8 bits -/
theorem parse8h_any (s : ByteArray) (w : World) (hs : s.size ≤ 1048576) (hE : ErW w) :
    Calls Tryd.prog 36 #[.string s, .int .i64 10, .int .i64 8] w fun e w' => Below w.heap.size w w' ∧ ((∃ v, Lib.parseIntB 8 s.data.toList = .ok v ∧ -128 ≤ v ∧ v ≤ 127 ∧ e = .returned (.tuple #[.int .i64 v, .nilIface])) ∨ ((∀ v, Lib.parseIntB 8 s.data.toList ≠ .ok v) ∧ ∃ (x : Int) (tp : TypeId) (p : Value), e = .returned (.tuple #[.int .i64 x, .iface tp p]))) := by
  obtain ⟨⟨t1, p1, e1⟩, t2, p2, e2⟩ := hE
  match h : Lib.parseIntB 8 s.data.toList with
  | .ok v =>
    refine (Tryd.strconv_ParseInt_10_at8_ok s (by omega) v h w).mono ?_
    rintro e w' ⟨rfl, hw⟩
    refine ⟨?_, .inl ⟨v, rfl, ?_, ?_, rfl⟩⟩
    · rcases hw with rfl | ⟨t, rfl⟩
      · exact Below.refl _ _
      · exact Lib.bytesWorld_below _ _ _
    all_goals
      have h2 := Lib.parseIntB_bounds h
      have h3 : (2 : Nat) ^ (8 - 1) = 128 := rfl
      rw [h3] at h2
      omega
  | .syntax =>
    refine (Tryd.strconv_ParseInt_10_at8_syntax_var s (by omega) h t1 p1 w e1).mono ?_
    rintro e w' ⟨N, rfl, h1, h2, h3⟩
    exact ⟨h3, .inr ⟨fun v => by simp, _, _, _, rfl⟩⟩
  | .range =>
    refine (Tryd.strconv_ParseInt_10_at8_range_var s (by omega) h t2 p2 w e2).mono ?_
    rintro e w' ⟨N, rfl, h1, h2, h3⟩
    exact ⟨h3, .inr ⟨fun v => by simp, _, _, _, rfl⟩⟩
theorem infoHmR : (Tryd.prog.info? 62).map (·.size) = some 2 := by kernel_rfl
theorem infoHm2R (a b : Value) : (Tryd.prog.info? 62).map (·.size) = some (#[a, b] : Array Value).size := by kernel_rfl
theorem szHm2R (a b c d : Value) : (#[a, b] : Array Value).size = (#[c, d] : Array Value).size := rfl
theorem oneHm2R (a b : Int) : (#[.int .i8 a, .int .i8 b] : Array Value).all (·.oneCell') = true := by simp [Value.oneCell']
theorem results_h2R {fn : Func} {p q : Tmp} (h : fn.results = #[.cell p 62, .tmp q]) (tmps : Array Value) (w : World) (g : Nat) (t : TypeId) (cs : Array Value) (v : Value) (hi : cs.size = 2)
    (hp : tmps.getD p undef = .pointer (some ⟨g, 0, none⟩)) (hq : tmps.getD q undef = v) (hg : w.heap[g]? = some (.cells cs t (0, 0))) :
    (results fn tmps).run Tryd.prog w = .ok (.tuple #[.agg cs, v]) w := by
  have hp' : tmps[p]?.getD undef = .pointer (some ⟨g, 0, none⟩) := by simpa using hp
  have hq' : tmps[q]?.getD undef = v := by simpa using hq
  have h1 := run_loadVar_row w g t 62 cs (0, 0) _ hg Tryd.underlying62 rfl (by rw [hi]; exact infoHmR)
  simp [results, h, hp', hq', asAddr, h1]
/-- what reading a hammer hands back -/
def RhP (s : ByteArray) (w : World) (e : Ending) (w' : World) : Prop := Below w.heap.size w w' ∧ ((∃ a p, iHam s.data.toList = some (a, p) ∧ (0 ≤ a ∧ a ≤ 47) ∧ (-128 ≤ p ∧ p ≤ 127) ∧ e = .returned (.tuple #[.agg #[.int .i8 a, .int .i8 p], .bool true])) ∨ (iHam s.data.toList = none ∧ e = .returned (.tuple #[.agg #[.int .i8 0, .int .i8 0], .bool false])))
set_option maxRecDepth 20000 in
set_option maxHeartbeats 4000000 in
theorem readHammer_any (s : ByteArray) (w : World) (hs : s.size ≤ 1048576) (hT : StpW w) (hE : ErW w) :
    Calls Tryd.prog 37 #[.string s] w (RhP s w) := by
  have KC := fun W => cut_one s 47 W hs
  have KP := fun (b : ByteArray) W (hb : b.size ≤ 1048576) (hE : ErW W) => parse8h_any b W hb hE
  have KN := fun b W hT => pitchNamed_any b W hT
  obtain ⟨X, hX⟩ : ∃ X, X = w.alloc (.cells #[.int .i8 0, .int .i8 0] 62) := ⟨_, rfl⟩
  have b0 : Below w.heap.size w X := by rw [hX]; exact (Below.refl _ _).alloc (Nat.le_refl _) _
  have R0 : Bk X w.heap.size 62 #[.int .i8 0, .int .i8 0] := by rw [hX]; exact heap_alloc_new _ _
  go_enter Tryd.func37, Tryd.ntmps37
  go_upto_region 1 with fail
  rw [← hX]
  clear hX
  go_wp2_with fail
  refine (KC _).mono ?_
  rintro e w1 ⟨hb1, a, b, f, rfl, ha, hbb, hcut⟩
  have b1 := step_below hb1 b0
  have R1 := R0.keep hb1
  have KP1 := KP b w1 (by omega) (hE.below b1)
  clear KC KP R0
  go_wp2_with fail
  refine KP1.mono ?_
  rintro e w2 ⟨hb2, hpa⟩
  have b2 := step_below hb2 b1
  have R2 := R1.keep hb2
  have KN2 := KN a w2 (hT.below b2)
  clear KP1 KN R1
  have HN := hide (show w2.heap[w.heap.size]? = some (.cells #[.int .i8 0, .int .i8 0] 62 (0, 0)) from R2)
  have HBx := hide (below_setRow' (cs := #[.int .i8 0, .int .i8 0]) b2 (Nat.le_refl _))
  have HNO := hide (show iHam s.data.toList = none → RhP s w (.returned (.tuple #[.agg #[.int .i8 0, .int .i8 0], .bool false])) (w2.setRow w.heap.size #[.int .i8 0, .int .i8 0]) from fun h => ⟨below_setRow' b2 (Nat.le_refl _), .inr ⟨h, rfl⟩⟩)
  clear R2
  cases f with
  | false =>
    have HF := hide (HNO.out (iHam_cut (by rw [hcut]; rfl)))
    clear hcut
    rcases hpa with ⟨v, hv, v1, v2, rfl⟩ | ⟨hv, v, tp, p, rfl⟩
    all_goals
      clear hv
      go_wp2_with fail
      refine KN2.mono ?_
      rintro e w3 ⟨rfl, rfl⟩
      go_wp2_with (with_reducible refine wpList_store_row rfl 62 (.tmp 2) (.tmp 37) rfl w.heap.size #[.int .i8 0, .int .i8 0] rfl rfl 62 _ HN.out (infoHm2R _ _) (szHm2R _ _ _ _) (oneHm2R _ _) ?_)
      exact bodyPost_ret (v := .tuple #[.agg #[.int .i8 0, .int .i8 0], .bool false]) (results_h2R Tryd.results37 _ _ w.heap.size 62 _ _ rfl (by simp [Act.put]) (by simp [Act.put]) (setRow_heap _ _ _ _ _ _ HN.out)) rfl HF.out
  | true =>
    rw [if_pos rfl] at hcut
    rcases hpa with ⟨v, hv, v1, v2, rfl⟩ | ⟨hv, v, tp, p, rfl⟩
    · cases hq : pnF a.data.toList with
      | none =>
        have HF := hide (HNO.out (iHam_np hcut hq))
        rw [hq] at KN2
        clear hcut hv hq
        go_wp2_with fail
        refine KN2.mono ?_
        rintro e w3 ⟨rfl, rfl⟩
        go_wp2_with (with_reducible refine wpList_store_row rfl 62 (.tmp 2) (.tmp 37) rfl w.heap.size #[.int .i8 0, .int .i8 0] rfl rfl 62 _ HN.out (infoHm2R _ _) (szHm2R _ _ _ _) (oneHm2R _ _) ?_)
        exact bodyPost_ret (v := .tuple #[.agg #[.int .i8 0, .int .i8 0], .bool false]) (results_h2R Tryd.results37 _ _ w.heap.size 62 _ _ rfl (by simp [Act.put]) (by simp [Act.put]) (setRow_heap _ _ _ _ _ _ HN.out)) rfl HF.out
      | some q =>
        have hq47 : q < 48 := (pnF_some hq).1
        have HF := hide (show RhP s w (.returned (.tuple #[.agg #[.int .i8 q, .int .i8 v], .bool true])) (w2.setRow w.heap.size #[.int .i8 q, .int .i8 v]) from ⟨below_setRow' b2 (Nat.le_refl _), .inl ⟨q, v, iHam_yes hcut hq hv, ⟨by omega, by omega⟩, ⟨v1, v2⟩, rfl⟩⟩)
        rw [hq] at KN2
        have hwv : IntKind.i8.wrap v = v := by simp [IntKind.wrap, IntKind.signed, IntKind.bits]; omega
        clear hcut hv hq
        go_wp2_with fail
        refine KN2.mono ?_
        rintro e w3 ⟨rfl, rfl⟩
        go_wp2_with (with_reducible refine wpList_store_row rfl 62 (.tmp 2) (.tmp 41) rfl w.heap.size #[.int .i8 q, .int .i8 v] rfl rfl 62 _ HN.out (infoHm2R _ _) (szHm2R _ _ _ _) (oneHm2R _ _) ?_)
        exact bodyPost_ret (v := .tuple #[.agg #[.int .i8 q, .int .i8 v], .bool true]) (results_h2R Tryd.results37 _ _ w.heap.size 62 _ _ rfl (by simp [Act.put]) (by simp [Act.put]) (setRow_heap _ _ _ _ _ _ HN.out)) rfl HF.out
    · have HF := hide (HNO.out (iHam_nb hcut hv))
      clear hcut hv
      go_wp2_with fail
      refine KN2.mono ?_
      rintro e w3 ⟨rfl, rfl⟩
      go_wp2_with (with_reducible refine wpList_store_row rfl 62 (.tmp 2) (.tmp 37) rfl w.heap.size #[.int .i8 0, .int .i8 0] rfl rfl 62 _ HN.out (infoHm2R _ _) (szHm2R _ _ _ _) (oneHm2R _ _) ?_)
      exact bodyPost_ret (v := .tuple #[.agg #[.int .i8 0, .int .i8 0], .bool false]) (results_h2R Tryd.results37 _ _ w.heap.size 62 _ _ rfl (by simp [Act.put]) (by simp [Act.put]) (setRow_heap _ _ _ _ _ _ HN.out)) rfl HF.out
end Go.Proofs.YtmjpecneaenlpaaDoor
