import Derived.Test.YtmjpecneaenlpaaDoorRcn
import Derived.Test.YtmjpecneaenlpaaDoorGaz
import Derived.Test.YtmjpecneaenlpaaDoorGar
import Derived.Test.YtmjpecneaenlpaaDoorGba
import Derived.Test.YtmjpecneaenlpaaDoorGaq
import Derived.Shelf.Strings.SlTrimAscii
namespace Go.Proofs.YtmjpecneaenlpaaDoor
open Go.RowKit
/-- a text read as a number of 8 bits -/
theorem parse8_any (s : ByteArray) (w : World) (hs : s.size ≤ 1048576) (hE : ErW w) :
    Calls Tryd.prog 36 #[.string s, .int .i64 10, .int .i64 8] w fun e w' => Below w.heap.size w w' ∧ ((∃ v, Lib.parseIntB 8 s.data.toList = .ok v ∧ -128 ≤ v ∧ v ≤ 127 ∧ e = .returned (.tuple #[.int .i64 v, .nilIface])) ∨ ((∀ v, Lib.parseIntB 8 s.data.toList ≠ .ok v) ∧ ∃ (x : Int) (tp : TypeId) (p : Value), e = .returned (.tuple #[.int .i64 x, .iface tp p]))) := by
  obtain ⟨⟨t1, p1, e1⟩, t2, p2, e2⟩ := hE
  match h : Lib.parseIntB 8 s.data.toList with
  | .ok v =>
    refine (Tryd.strconv_ParseInt_10_at8_ok s (by omega) v h w).mono ?_
    rintro e w' ⟨rfl, hw⟩
    refine ⟨?_, .inl ⟨v, rfl, ?_, ?_, rfl⟩⟩
    · rcases hw with rfl | ⟨t, rfl⟩
      · exact Below.refl _ _
      · exact Lib.bytesWorld_below _ _ _
    all_goals
      have h2 := Lib.parseIntB_bounds h
      have h3 : (2 : Nat) ^ (8 - 1) = 128 := rfl
      rw [h3] at h2
      omega
  | .syntax =>
    refine (Tryd.strconv_ParseInt_10_at8_syntax_var s (by omega) h t1 p1 w e1).mono ?_
    rintro e w' ⟨N, rfl, h1, h2, h3⟩
    exact ⟨h3, .inr ⟨fun v => by simp, _, _, _, rfl⟩⟩
  | .range =>
    refine (Tryd.strconv_ParseInt_10_at8_range_var s (by omega) h t2 p2 w e2).mono ?_
    rintro e w' ⟨N, rfl, h1, h2, h3⟩
    exact ⟨h3, .inr ⟨fun v => by simp, _, _, _, rfl⟩⟩
theorem trim_any (s : ByteArray) (w : World) (_hs : s.size ≤ 1048576) :
    Calls Tryd.prog 70 #[.string s, .string ⟨#[43, 45]⟩] w fun e w' => Below w.heap.size w w' ∧ ∃ t : ByteArray, e = .returned (.string t) ∧ t.data.toList = Lib.trimLeftS s.data.toList [43, 45] ∧ t.size ≤ s.size :=
  (Any.strings_TrimLeft_laid Tryd.lays161 (by kernel_rfl) s ⟨#[43, 45]⟩ w (by decide) (fun j b hb => by
    have := List.mem_of_getElem? hb
    simp at this
    rcases this with rfl | rfl <;> decide)).mono fun e w' ⟨he, hb⟩ => ⟨hb, _, he, rfl, by
      rw [ba_mk]
      have h1 : (Lib.trimLeftS s.data.toList [43, 45]).length ≤ s.data.toList.length := (List.dropWhile_sublist _).length_le
      rw [ba_size] at h1
      exact h1⟩
theorem infoCgR : (Tryd.prog.info? 84).map (·.size) = some 3 := by kernel_rfl
theorem infoCg3R (a b c : Value) : (Tryd.prog.info? 84).map (·.size) = some (#[a, b, c] : Array Value).size := by kernel_rfl
theorem szCg3R (a b c d e f : Value) : (#[a, b, c] : Array Value).size = (#[d, e, f] : Array Value).size := rfl
theorem oneCg3R (a b : Int) (q : Bool) : (#[.int .i16 a, .int .i8 b, .bool q] : Array Value).all (·.oneCell') = true := by simp [Value.oneCell']
theorem results_cgR {fn : Func} {p q : Tmp} (h : fn.results = #[.cell p 84, .tmp q]) (tmps : Array Value) (w : World) (g : Nat) (t : TypeId) (cs : Array Value) (v : Value) (hi : cs.size = 3)
    (hp : tmps.getD p undef = .pointer (some ⟨g, 0, none⟩)) (hq : tmps.getD q undef = v) (hg : w.heap[g]? = some (.cells cs t (0, 0))) :
    (results fn tmps).run Tryd.prog w = .ok (.tuple #[.agg cs, v]) w := by
  have hp' : tmps[p]?.getD undef = .pointer (some ⟨g, 0, none⟩) := by simpa using hp
  have hq' : tmps[q]?.getD undef = v := by simpa using hq
  have h1 := run_loadVar_row w g t 84 cs (0, 0) _ hg Tryd.underlying84 rfl (by rw [hi]; exact infoCgR)
  simp [results, h, hp', hq', asAddr, h1]
/-- what reading a change hands back -/
def RcP (s : ByteArray) (w : World) (e : Ending) (w' : World) : Prop := Below w.heap.size w w' ∧ ((∃ a p q, iChg 0 s.data.toList = some (a, p, q) ∧ (-32768 ≤ a ∧ a ≤ 32767) ∧ (-128 ≤ p ∧ p ≤ 127) ∧ e = .returned (.tuple #[.agg #[.int .i16 a, .int .i8 p, .bool q], .bool true])) ∨ (iChg 0 s.data.toList = none ∧ e = .returned (.tuple #[.agg #[.int .i16 0, .int .i8 0, .bool false], .bool false])))
theorem iChg_cut {x : List UInt8} (h : cutQ 47 x = none) : iChg 0 x = none := by unfold iChg; rw [h]
theorem iChg_yes {x a b : List UInt8} {v u : Int} (h : cutQ 47 x = some (a, b)) (h1 : Lib.parseIntB 16 (Lib.trimLeftS a [43, 45]) = .ok v) (h2 : Lib.parseIntB 8 b = .ok u) : iChg 0 x = some (v, u, Lib.hasPrefix a [43]) := by
  unfold iChg
  rw [h]
  simp only [h1, h2]
theorem iChg_n1 {x a b : List UInt8} (h : cutQ 47 x = some (a, b)) (h1 : ∀ v, Lib.parseIntB 16 (Lib.trimLeftS a [43, 45]) ≠ .ok v) : iChg 0 x = none := by
  unfold iChg
  rw [h]
  simp only
  split
  · rename_i v u e _
    exact absurd e (h1 v)
  · rfl
theorem iChg_n2 {x a b : List UInt8} (h : cutQ 47 x = some (a, b)) (h1 : ∀ v, Lib.parseIntB 8 b ≠ .ok v) : iChg 0 x = none := by
  unfold iChg
  rw [h]
  simp only
  split
  · rename_i v u _ e
    exact absurd e (h1 u)
  · rfl
set_option maxRecDepth 20000 in
set_option maxHeartbeats 4000000 in
theorem readChange_any (s : ByteArray) (w : World) (hs : s.size ≤ 1048576) (hE : ErW w) :
    Calls Tryd.prog 48 #[.string s] w (RcP s w) := by
  have KC := fun W => cut_one s 47 W hs
  have KT := fun (b : ByteArray) W (hb : b.size ≤ 1048576) => trim_any b W hb
  have KP := fun (b : ByteArray) W (hb : b.size ≤ 1048576) (hE : ErW W) => parse16_any b W hb hE
  have KQ := fun (b : ByteArray) W (hb : b.size ≤ 1048576) (hE : ErW W) => parse8_any b W hb hE
  have KH := fun (b : ByteArray) W => Tryd.strings_HasPrefix b ⟨#[43]⟩ W
  obtain ⟨X, hX⟩ : ∃ X, X = w.alloc (.cells #[.int .i16 0, .int .i8 0, .bool false] 84) := ⟨_, rfl⟩
  have b0 : Below w.heap.size w X := by rw [hX]; exact (Below.refl _ _).alloc (Nat.le_refl _) _
  have R0 : Bk X w.heap.size 84 #[.int .i16 0, .int .i8 0, .bool false] := by rw [hX]; exact heap_alloc_new _ _
  go_enter Tryd.func48, Tryd.ntmps48
  go_upto_region 1 with fail
  rw [← hX]
  clear hX
  go_wp2_with fail
  refine (KC _).mono ?_
  rintro e w1 ⟨hb1, a, b, f, rfl, ha, hbb, hcut⟩
  have b1 := step_below hb1 b0
  have R1 := R0.keep hb1
  have KT1 := KT a w1 (by omega)
  clear KC KT R0
  go_wp2_with fail
  refine KT1.mono ?_
  rintro e w2 ⟨hb2, ta, rfl, hta, hts⟩
  have b2 := step_below hb2 b1
  have R2 := R1.keep hb2
  have KP2 := KP ta w2 (by omega) (hE.below b2)
  clear KT1 KP R1
  go_wp2_with fail
  refine KP2.mono ?_
  rintro e w3 ⟨hb3, hpa⟩
  have b3 := step_below hb3 b2
  have R3 := R2.keep hb3
  have KQ3 := KQ b w3 (by omega) (hE.below b3)
  have KHa := KH a
  rw [hta] at hpa
  have HPA := hide hpa
  clear KP2 KQ KH R2 hpa hta hts
  rcases HPA.out with ⟨v, hv, v1, v2, rfl⟩ | ⟨hv, v, tp, p, rfl⟩
  all_goals
    clear HPA
    go_wp2_with fail
    refine KQ3.mono ?_
    rintro e w4 ⟨hb4, hpb⟩
    have b4 := step_below hb4 b3
    have HN := hide (show w4.heap[w.heap.size]? = some (.cells #[.int .i16 0, .int .i8 0, .bool false] 84 (0, 0)) from R3.keep hb4)
    have HNO := hide (show iChg 0 s.data.toList = none → RcP s w (.returned (.tuple #[.agg #[.int .i16 0, .int .i8 0, .bool false], .bool false])) (w4.setRow w.heap.size #[.int .i16 0, .int .i8 0, .bool false]) from fun h => ⟨below_setRow' b4 (Nat.le_refl _), .inr ⟨h, rfl⟩⟩)
    clear R3 KQ3
    rcases hpb with ⟨u, hu, u1, u2, rfl⟩ | ⟨hu, u, tq, pq, rfl⟩
    all_goals
      cases f
  · have HF := hide (HNO.out (iChg_cut (by rw [hcut]; rfl)))
    clear hcut hv hu
    go_wp2_with (with_reducible refine wpList_store_row rfl 84 (.tmp 2) (.tmp 38) rfl w.heap.size #[.int .i16 0, .int .i8 0, .bool false] rfl rfl 84 _ HN.out (infoCg3R _ _ _) (szCg3R _ _ _ _ _ _) (oneCg3R _ _ _) ?_)
    exact bodyPost_ret (v := .tuple #[.agg #[.int .i16 0, .int .i8 0, .bool false], .bool false]) (results_cgR Tryd.results48 _ _ w.heap.size 84 _ _ rfl (by simp [Act.put]) (by simp [Act.put]) (setRow_heap _ _ _ _ _ _ HN.out)) rfl HF.out
  · rw [if_pos rfl] at hcut
    have hia := iChg_yes hcut hv hu
    generalize Lib.hasPrefix a.data.toList [43] = q at *
    have HF := hide (show RcP s w (.returned (.tuple #[.agg #[.int .i16 v, .int .i8 u, .bool q], .bool true])) (w4.setRow w.heap.size #[.int .i16 v, .int .i8 u, .bool q]) from ⟨below_setRow' b4 (Nat.le_refl _), .inl ⟨v, u, q, hia, ⟨v1, v2⟩, ⟨u1, u2⟩, rfl⟩⟩)
    have hwv : IntKind.i16.wrap v = v := IntWalk.i16_in _ (by omega)
    have hwu : IntKind.i8.wrap u = u := by simp [IntKind.wrap, IntKind.signed, IntKind.bits]; omega
    clear hcut hv hu hia
    go_wp2_with (first | (go_at_call 71; refine (KHa _).mono ?_; rintro e w5 ⟨rfl, hw5⟩; rw [hw5]) | (with_reducible refine wpList_store_row rfl 84 (.tmp 2) (.tmp 45) rfl w.heap.size #[.int .i16 v, .int .i8 u, .bool q] rfl rfl 84 _ HN.out (infoCg3R _ _ _) (szCg3R _ _ _ _ _ _) (oneCg3R _ _ _) ?_))
    exact bodyPost_ret (v := .tuple #[.agg #[.int .i16 v, .int .i8 u, .bool q], .bool true]) (results_cgR Tryd.results48 _ _ w.heap.size 84 _ _ rfl (by simp [Act.put]) (by simp [Act.put]) (setRow_heap _ _ _ _ _ _ HN.out)) rfl HF.out
  · have HF := hide (HNO.out (iChg_cut (by rw [hcut]; rfl)))
    clear hcut hv hu
    go_wp2_with (with_reducible refine wpList_store_row rfl 84 (.tmp 2) (.tmp 38) rfl w.heap.size #[.int .i16 0, .int .i8 0, .bool false] rfl rfl 84 _ HN.out (infoCg3R _ _ _) (szCg3R _ _ _ _ _ _) (oneCg3R _ _ _) ?_)
    exact bodyPost_ret (v := .tuple #[.agg #[.int .i16 0, .int .i8 0, .bool false], .bool false]) (results_cgR Tryd.results48 _ _ w.heap.size 84 _ _ rfl (by simp [Act.put]) (by simp [Act.put]) (setRow_heap _ _ _ _ _ _ HN.out)) rfl HF.out
  · have HF := hide (HNO.out (iChg_n2 (by rw [hcut, if_pos rfl]) hu))
    clear hcut hv hu
    go_wp2_with (with_reducible refine wpList_store_row rfl 84 (.tmp 2) (.tmp 38) rfl w.heap.size #[.int .i16 0, .int .i8 0, .bool false] rfl rfl 84 _ HN.out (infoCg3R _ _ _) (szCg3R _ _ _ _ _ _) (oneCg3R _ _ _) ?_)
    exact bodyPost_ret (v := .tuple #[.agg #[.int .i16 0, .int .i8 0, .bool false], .bool false]) (results_cgR Tryd.results48 _ _ w.heap.size 84 _ _ rfl (by simp [Act.put]) (by simp [Act.put]) (setRow_heap _ _ _ _ _ _ HN.out)) rfl HF.out
  · have HF := hide (HNO.out (iChg_cut (by rw [hcut]; rfl)))
    clear hcut hv hu
    go_wp2_with (with_reducible refine wpList_store_row rfl 84 (.tmp 2) (.tmp 38) rfl w.heap.size #[.int .i16 0, .int .i8 0, .bool false] rfl rfl 84 _ HN.out (infoCg3R _ _ _) (szCg3R _ _ _ _ _ _) (oneCg3R _ _ _) ?_)
    exact bodyPost_ret (v := .tuple #[.agg #[.int .i16 0, .int .i8 0, .bool false], .bool false]) (results_cgR Tryd.results48 _ _ w.heap.size 84 _ _ rfl (by simp [Act.put]) (by simp [Act.put]) (setRow_heap _ _ _ _ _ _ HN.out)) rfl HF.out
  · have HF := hide (HNO.out (iChg_n1 (by rw [hcut, if_pos rfl]) hv))
    clear hcut hv hu
    go_wp2_with (with_reducible refine wpList_store_row rfl 84 (.tmp 2) (.tmp 38) rfl w.heap.size #[.int .i16 0, .int .i8 0, .bool false] rfl rfl 84 _ HN.out (infoCg3R _ _ _) (szCg3R _ _ _ _ _ _) (oneCg3R _ _ _) ?_)
    exact bodyPost_ret (v := .tuple #[.agg #[.int .i16 0, .int .i8 0, .bool false], .bool false]) (results_cgR Tryd.results48 _ _ w.heap.size 84 _ _ rfl (by simp [Act.put]) (by simp [Act.put]) (setRow_heap _ _ _ _ _ _ HN.out)) rfl HF.out
  · have HF := hide (HNO.out (iChg_cut (by rw [hcut]; rfl)))
    clear hcut hv hu
    go_wp2_with (with_reducible refine wpList_store_row rfl 84 (.tmp 2) (.tmp 38) rfl w.heap.size #[.int .i16 0, .int .i8 0, .bool false] rfl rfl 84 _ HN.out (infoCg3R _ _ _) (szCg3R _ _ _ _ _ _) (oneCg3R _ _ _) ?_)
    exact bodyPost_ret (v := .tuple #[.agg #[.int .i16 0, .int .i8 0, .bool false], .bool false]) (results_cgR Tryd.results48 _ _ w.heap.size 84 _ _ rfl (by simp [Act.put]) (by simp [Act.put]) (setRow_heap _ _ _ _ _ _ HN.out)) rfl HF.out
  · have HF := hide (HNO.out (iChg_n1 (by rw [hcut, if_pos rfl]) hv))
    clear hcut hv hu
    go_wp2_with (with_reducible refine wpList_store_row rfl 84 (.tmp 2) (.tmp 38) rfl w.heap.size #[.int .i16 0, .int .i8 0, .bool false] rfl rfl 84 _ HN.out (infoCg3R _ _ _) (szCg3R _ _ _ _ _ _) (oneCg3R _ _ _) ?_)
    exact bodyPost_ret (v := .tuple #[.agg #[.int .i16 0, .int .i8 0, .bool false], .bool false]) (results_cgR Tryd.results48 _ _ w.heap.size 84 _ _ rfl (by simp [Act.put]) (by simp [Act.put]) (setRow_heap _ _ _ _ _ _ HN.out)) rfl HF.out
end Go.Proofs.YtmjpecneaenlpaaDoor
