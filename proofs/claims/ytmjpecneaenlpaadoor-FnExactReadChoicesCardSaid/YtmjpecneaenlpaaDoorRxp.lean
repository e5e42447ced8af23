import Derived.Test.YtmjpecneaenlpaaDoorRxn
import Derived.Test.YtmjpecneaenlpaaDoorCho
import Derived.Test.YtmjpecneaenlpaaDoorGbe
import Derived.Test.YtmjpecneaenlpaaDoorGba
import Derived.Test.YtmjpecneaenlpaaDoorGaz
namespace Go.Proofs.YtmjpecneaenlpaaDoor
open Go.RowKit
/-- a text read as a number of 8 bits -/
theorem parse8x_any (s : ByteArray) (w : World) (hs : s.size ≤ 1048576) (hE : ErW w) :
    Calls Tryd.prog 36 #[.string s, .int .i64 10, .int .i64 8] w fun e w' => Below w.heap.size w w' ∧ ((∃ v, Lib.parseIntB 8 s.data.toList = .ok v ∧ -128 ≤ v ∧ v ≤ 127 ∧ e = .returned (.tuple #[.int .i64 v, .nilIface])) ∨ ((∀ v, Lib.parseIntB 8 s.data.toList ≠ .ok v) ∧ ∃ (x : Int) (tp : TypeId) (p : Value), e = .returned (.tuple #[.int .i64 x, .iface tp p]))) := by
  obtain ⟨⟨t1, p1, e1⟩, t2, p2, e2⟩ := hE
  match h : Lib.parseIntB 8 s.data.toList with
  | .ok v =>
    refine (Tryd.strconv_ParseInt_10_at8_ok s (by omega) v h w).mono ?_
    rintro e w' ⟨rfl, hw⟩
    refine ⟨?_, .inl ⟨v, rfl, ?_, ?_, rfl⟩⟩
    · rcases hw with rfl | ⟨t, rfl⟩
      · exact Below.refl _ _
      · exact Lib.bytesWorld_below _ _ _
    all_goals
      have h2 := Lib.parseIntB_bounds h
      have h3 : (2 : Nat) ^ (8 - 1) = 128 := rfl
      rw [h3] at h2
      omega
  | .syntax =>
    refine (Tryd.strconv_ParseInt_10_at8_syntax_var s (by omega) h t1 p1 w e1).mono ?_
    rintro e w' ⟨N, rfl, h1, h2, h3⟩
    exact ⟨h3, .inr ⟨fun v => by simp, _, _, _, rfl⟩⟩
  | .range =>
    refine (Tryd.strconv_ParseInt_10_at8_range_var s (by omega) h t2 p2 w e2).mono ?_
    rintro e w' ⟨N, rfl, h1, h2, h3⟩
    exact ⟨h3, .inr ⟨fun v => by simp, _, _, _, rfl⟩⟩
theorem infoChR : (Tryd.prog.info? 75).map (·.size) = some 4 := by kernel_rfl
theorem infoCh4R (a b c d : Value) : (Tryd.prog.info? 75).map (·.size) = some (#[a, b, c, d] : Array Value).size := by kernel_rfl
theorem szCh4R (a b c d e f g h : Value) : (#[a, b, c, d] : Array Value).size = (#[e, f, g, h] : Array Value).size := rfl
theorem oneCh4R (q : Bool) (a b c : Int) : (#[.bool q, .int .i8 a, .int .i8 b, .int .i8 c] : Array Value).all (·.oneCell') = true := by simp [Value.oneCell']
theorem results_chR {fn : Func} {p q : Tmp} (h : fn.results = #[.cell p 75, .tmp q]) (tmps : Array Value) (w : World) (g : Nat) (t : TypeId) (cs : Array Value) (v : Value) (hi : cs.size = 4)
    (hp : tmps.getD p undef = .pointer (some ⟨g, 0, none⟩)) (hq : tmps.getD q undef = v) (hg : w.heap[g]? = some (.cells cs t (0, 0))) :
    (results fn tmps).run Tryd.prog w = .ok (.tuple #[.agg cs, v]) w := by
  have hp' : tmps[p]?.getD undef = .pointer (some ⟨g, 0, none⟩) := by simpa using hp
  have hq' : tmps[q]?.getD undef = v := by simpa using hq
  have h1 := run_loadVar_row w g t 75 cs (0, 0) _ hg Tryd.underlying75 rfl (by rw [hi]; exact infoChR)
  simp [results, h, hp', hq', asAddr, h1]
theorem own_keepX {w : World} {base g n : Nat} {e : TypeId} {size : Nat} {v : Value} {xs : List Value} (h : w.ownsRow base e size v n xs) (hg : g < base) (u : Value) (i : Nat) : (w.setCell ⟨g, i, none⟩ u).ownsRow base e size v n xs := ownsRow_setCell_below (a := ⟨g, i, none⟩) h hg u
theorem piece_cellX {w : World} {base n : Nat} {A : Option Addr} {q : Nat} {ps : List ByteArray} (h : w.ownsRow base 9 1 (.slice A n q) n (strs ps)) (hn : ps.length = n) {k : Nat} (hk : k < n) : ∃ b x, A = some ⟨b, 0, none⟩ ∧ b < w.heap.size ∧ ps[k]? = some x ∧ w.cell? ⟨b, k, none⟩ = some (.string x) := by
  obtain ⟨b, rfl, hb, _, hc⟩ := own_strs h (by omega)
  have h1 : ps[k]? = some ps[k] := List.getElem?_eq_getElem (by omega)
  exact ⟨b, _, rfl, hb, h1, by have := hc k _ h1; rwa [Nat.zero_add] at this⟩
/-- what reading a choice hands back -/
def RxP (s : ByteArray) (w : World) (e : Ending) (w' : World) : Prop := Below w.heap.size w w' ∧ ((∃ a l o t, iChc 0 s.data.toList = some (a, l, o, t) ∧ ((-128 ≤ l ∧ l ≤ 127) ∧ (-128 ≤ o ∧ o ≤ 127) ∧ (-128 ≤ t ∧ t ≤ 127)) ∧ e = .returned (.tuple #[.agg #[.bool a, .int .i8 l, .int .i8 o, .int .i8 t], .bool true])) ∨ (iChc 0 s.data.toList = none ∧ e = .returned (.tuple #[.agg #[.bool false, .int .i8 0, .int .i8 0, .int .i8 0], .bool false])))
/-- the numbers read so far -/
def NuR (P : List (List UInt8)) (k : Nat) (u : Nat → Int) : Prop := (∀ j, j < k → ∃ p, P[j]? = some p ∧ Lib.parseIntB 8 p = .ok (u j) ∧ -128 ≤ u j ∧ u j ≤ 127) ∧ ∀ j, k ≤ j → u j = 0
theorem NuR.step {P : List (List UInt8)} {k : Nat} {u : Nat → Int} (h : NuR P k u) {p : List UInt8} (hp : P[k]? = some p) {v : Int} (hv : Lib.parseIntB 8 p = .ok v) (h1 : -128 ≤ v) (h2 : v ≤ 127) : NuR P (k + 1) (fun i => if i = k then v else u i) := by
  refine ⟨fun j hj => ?_, fun j hj => ?_⟩
  · by_cases e : j = k
    · subst e
      exact ⟨p, hp, by simp [hv], by simp [h1], by simp [h2]⟩
    · obtain ⟨q, a, b, c, d⟩ := h.1 j (by omega)
      exact ⟨q, a, by simp [e, b], by simp [e, c], by simp [e, d]⟩
  · simp [show j ≠ k by omega, h.2 j (by omega)]
theorem NuR.all {P : List (List UInt8)} {u : Nat → Int} {s : List UInt8} (h : NuR P 3 u) (hl : P.length = 3) (hx : s ≠ [120]) (he : spN 47 4 s = P) : iChc 0 s = some (false, u 0, u 1, u 2) := by
  obtain ⟨p0, a0, b0, _⟩ := h.1 0 (by omega)
  obtain ⟨p1, a1, b1, _⟩ := h.1 1 (by omega)
  obtain ⟨p2, a2, b2, _⟩ := h.1 2 (by omega)
  match P, hl with
  | [q0, q1, q2], _ =>
    obtain rfl := Option.some.inj a0
    obtain rfl := Option.some.inj a1
    obtain rfl := Option.some.inj a2
    exact iChc_yes hx he b0 b1 b2
set_option maxRecDepth 20000 in
set_option maxHeartbeats 4000000 in
theorem readChoice_any (s : ByteArray) (w : World) (hs : s.size ≤ 1048576) (hE : ErW w) :
    Calls Tryd.prog 44 #[.string s] w (RxP s w) := by
  obtain ⟨X, hX⟩ : ∃ X, X = w.alloc (.cells #[.bool false, .int .i8 0, .int .i8 0, .int .i8 0] 75) := ⟨_, rfl⟩
  have b0 : Below w.heap.size w X := by rw [hX]; exact (Below.refl _ _).alloc (Nat.le_refl _) _
  have R0 : Bk X w.heap.size 75 #[.bool false, .int .i8 0, .int .i8 0, .int .i8 0] := by rw [hX]; exact heap_alloc_new _ _
  by_cases hx : s.data.toList = [120]
  · have he' : (s.toList == ([120] : List UInt8)) = true := by rw [ByteArray.toList_eq, hx]; rfl
    have HF := hide (show RxP s w (.returned (.tuple #[.agg #[.bool true, .int .i8 0, .int .i8 0, .int .i8 0], .bool true])) (X.setRow w.heap.size #[.bool true, .int .i8 0, .int .i8 0, .int .i8 0]) from ⟨below_setRow' b0 (Nat.le_refl _), .inl ⟨true, 0, 0, 0, by rw [hx]; exact iChc_x 0, by omega, rfl⟩⟩)
    have HKR0 := hide (show X.heap[w.heap.size]? = some (.cells #[.bool false, .int .i8 0, .int .i8 0, .int .i8 0] 75 (0, 0)) from R0)
    clear hx
    go_enter Tryd.func44, Tryd.ntmps44
    go_upto_region 1 with fail
    rw [← hX]
    clear hX R0
    go_wp2_with (with_reducible refine wpList_store_row rfl 75 (.tmp 2) (.tmp 12) rfl w.heap.size #[.bool true, .int .i8 0, .int .i8 0, .int .i8 0] rfl rfl 75 _ HKR0.out (infoCh4R _ _ _ _) (szCh4R _ _ _ _ _ _ _ _) (oneCh4R _ _ _ _) ?_)
    exact bodyPost_ret (v := .tuple #[.agg #[.bool true, .int .i8 0, .int .i8 0, .int .i8 0], .bool true]) (results_chR Tryd.results44 _ _ w.heap.size 75 _ _ rfl (by simp [Act.put]) (by simp [Act.put]) (setRow_heap _ _ _ _ _ _ HKR0.out)) rfl HF.out
  have hne : (s.toList == ([120] : List UInt8)) = false := by rw [ByteArray.toList_eq]; exact beq_eq_false_iff_ne.2 hx
  have HX := hide hx
  clear hx
  have hXs : w.heap.size < X.heap.size := R0.lt
  have hXn : X.heap.size = w.heap.size + 1 := by rw [hX]; simp
  obtain ⟨Y, hY⟩ : ∃ Y, Y = X.alloc (.cells #[.int .i8 0, .int .i8 0, .int .i8 0] 107) := ⟨_, rfl⟩
  have bY0 : Below X.heap.size X Y := by rw [hY]; exact (Below.refl _ _).alloc (Nat.le_refl _) _
  have b1 := step_below bY0 b0
  have R1 := R0.keep bY0
  have N1 : Bk Y X.heap.size 107 #[.int .i8 0, .int .i8 0, .int .i8 0] := by rw [hY]; exact heap_alloc_new _ _
  have hYs : X.heap.size < Y.heap.size := N1.lt
  have KS := splitN_one s 47 4 Y hs (by omega) (by omega)
  obtain ⟨P, hP⟩ : ∃ P, spN 47 4 s.data.toList = P := ⟨_, rfl⟩
  rw [hP] at KS
  have HP := hide hP
  clear hP R0
  go_enter Tryd.func44, Tryd.ntmps44
  go_upto_region 4 with fail
  rw [← hX, ← hY, ← hXn]
  clear hX hY hXn
  go_wp2_with fail
  refine KS.mono ?_
  rintro e w2 ⟨A, q, ps, rfl, hps, hsz, ownP, hb2⟩
  have b2 := step_below hb2 b1
  have R2 := R1.keep hb2
  have N2 := N1.keep hb2
  have hpl : P.length = ps.length := by rw [← hps, List.length_map]
  have HPS := hide hps
  have HSZ := hide hsz
  clear KS hps hsz R1 N1
  by_cases h3 : ps.length = 3
  · rw [h3] at ownP hpl ⊢
    have HPN := hide h3
    have HPL := hide hpl
    clear h3 hpl
    go_wp2_with fail
    go_loopw [21] (fun i wr => ∃ (k : Nat) (u : Nat → Int), k ≤ 3 ∧ i = .int .i64 k ∧ NuR P k u ∧ Bk wr X.heap.size 107 #[.int .i8 (u 0), .int .i8 (u 1), .int .i8 (u 2)] ∧ Bk wr w.heap.size 75 #[.bool false, .int .i8 0, .int .i8 0, .int .i8 0] ∧ wr.ownsRow Y.heap.size 9 1 (.slice A 3 q) 3 (strs ps) ∧ Below w.heap.size w wr)
      (fun i _ => 3 - (intOf i).toNat)
    case atStart => exact ⟨0, fun _ => 0, by omega, rfl, ⟨fun j hj => absurd hj (Nat.not_lt_zero _), fun _ _ => rfl⟩, N2, R2, ownP, b2⟩
    case round =>
      obtain ⟨k, u, hk, rfl, hnu, N3, R3, own3, b3⟩ := hrel
      by_cases hlt : k < 3
      · have hki : (k : Int) < 3 := by omega
        obtain ⟨g, x, rfl, hg, hxx, hc⟩ := piece_cellX own3 HPN.out hlt
        have hxs : x.size ≤ 1048576 := Nat.le_trans (HSZ.out x (List.mem_of_getElem? hxx)) hs
        have hPx : P[k]? = some x.data.toList := by rw [← HPS.out, List.getElem?_map, hxx]; rfl
        have KR := parse8x_any x wr hxs (hE.below b3)
        have HNU := hide hnu
        clear hnu hxx
        go_wp2_with fail
        refine KR.mono ?_
        rintro e w4 ⟨hb4, ⟨v, hv, v1, v2, rfl⟩ | ⟨hv, v, tp, p, rfl⟩⟩
        · have b4 := step_below hb4 b3
          have R4 := R3.keep hb4
          have N4 := N3.keep hb4
          have own4 := own_keep own3 hb4
          have HS := hide (HNU.out.step hPx hv v1 v2)
          have hwv : IntKind.i8.wrap v = v := by simp [IntKind.wrap, IntKind.signed, IntKind.bits]; omega
          have R5 := R4.other (b := X.heap.size) (k := k) (by omega) (.int .i8 v)
          have own5 := own_keepX own4 hYs (.int .i8 v) k
          have b5 := b4.setCell (p := ⟨X.heap.size, k, none⟩) (by show w.heap.size ≤ X.heap.size; omega) (.int .i8 v)
          have h012 : k = 0 ∨ k = 1 ∨ k = 2 := by omega
          clear hPx hv KR R3 N3 own3 R4 own4 hc hki
          rcases h012 with rfl | rfl | rfl
          · have fz := N4.frozen 0
            have cz : w4.cell? ⟨X.heap.size, 0, none⟩ = some (.int .i8 (u 0)) := N4.cell rfl
            have N5 : Bk (w4.setCell ⟨X.heap.size, 0, none⟩ (.int .i8 v)) X.heap.size 107 #[.int .i8 v, .int .i8 (u 1), .int .i8 (u 2)] := heap_setCell_same w4 X.heap.size 0 _ _ _ N4
            clear N4
            go_wp2_with fail
            go_roundw
            case rel => exact ⟨1, _, by omega, rfl, HS.out, N5, R5, own5, b5⟩
            case measure => simp [intOf]
          · have fz := N4.frozen 1
            have cz : w4.cell? ⟨X.heap.size, 1, none⟩ = some (.int .i8 (u 1)) := N4.cell rfl
            have N5 : Bk (w4.setCell ⟨X.heap.size, 1, none⟩ (.int .i8 v)) X.heap.size 107 #[.int .i8 (u 0), .int .i8 v, .int .i8 (u 2)] := heap_setCell_same w4 X.heap.size 1 _ _ _ N4
            clear N4
            go_wp2_with fail
            go_roundw
            case rel => exact ⟨2, _, by omega, rfl, HS.out, N5, R5, own5, b5⟩
            case measure => simp [intOf]
          · have fz := N4.frozen 2
            have cz : w4.cell? ⟨X.heap.size, 2, none⟩ = some (.int .i8 (u 2)) := N4.cell rfl
            have N5 : Bk (w4.setCell ⟨X.heap.size, 2, none⟩ (.int .i8 v)) X.heap.size 107 #[.int .i8 (u 0), .int .i8 (u 1), .int .i8 v] := heap_setCell_same w4 X.heap.size 2 _ _ _ N4
            clear N4
            go_wp2_with fail
            go_roundw
            case rel => exact ⟨3, _, by omega, rfl, HS.out, N5, R5, own5, b5⟩
            case measure => simp [intOf]
        · have b4 := step_below hb4 b3
          have R4 := R3.keep hb4
          have HF := hide (show RxP s w (.returned (.tuple #[.agg #[.bool false, .int .i8 0, .int .i8 0, .int .i8 0], .bool false])) (w4.setRow w.heap.size #[.bool false, .int .i8 0, .int .i8 0, .int .i8 0]) from ⟨below_setRow' b4 (Nat.le_refl _), .inr ⟨iChc_no HX.out (by rw [HP.out]; exact HPL.out) (by rw [HP.out]; exact hPx) hv, rfl⟩⟩)
          have HKR4 := hide (show w4.heap[w.heap.size]? = some (.cells #[.bool false, .int .i8 0, .int .i8 0, .int .i8 0] 75 (0, 0)) from R4)
          clear hPx hv KR R3 N3 own3 hc hki R4
          go_wp2_with (with_reducible refine wpList_store_row rfl 75 (.tmp 2) (.tmp 33) rfl w.heap.size #[.bool false, .int .i8 0, .int .i8 0, .int .i8 0] rfl rfl 75 _ HKR4.out (infoCh4R _ _ _ _) (szCh4R _ _ _ _ _ _ _ _) (oneCh4R _ _ _ _) ?_)
          exact bodyPost_ret (v := .tuple #[.agg #[.bool false, .int .i8 0, .int .i8 0, .int .i8 0], .bool false]) (results_chR Tryd.results44 _ _ w.heap.size 75 _ _ rfl (by simp [Act.put]) (by simp [Act.put]) (setRow_heap _ _ _ _ _ _ HKR4.out)) rfl HF.out
      · obtain rfl : k = 3 := by omega
        have hall := hnu.all HPL.out HX.out HP.out
        obtain ⟨_, _, _, u01, u02⟩ := hnu.1 0 (by omega)
        obtain ⟨_, _, _, u11, u12⟩ := hnu.1 1 (by omega)
        obtain ⟨_, _, _, u21, u22⟩ := hnu.1 2 (by omega)
        clear hnu
        generalize u 0 = a0 at *
        generalize u 1 = a1 at *
        generalize u 2 = a2 at *
        have HF := hide (show RxP s w (.returned (.tuple #[.agg #[.bool false, .int .i8 a0, .int .i8 a1, .int .i8 a2], .bool true])) (wr.setRow w.heap.size #[.bool false, .int .i8 a0, .int .i8 a1, .int .i8 a2]) from ⟨below_setRow' b3 (Nat.le_refl _), .inl ⟨false, a0, a1, a2, hall, ⟨⟨u01, u02⟩, ⟨u11, u12⟩, ⟨u21, u22⟩⟩, rfl⟩⟩)
        have e0 : wr.cell? ⟨X.heap.size, 0, none⟩ = some (.int .i8 a0) := N3.cell rfl
        have e1 : wr.cell? ⟨X.heap.size, 1, none⟩ = some (.int .i8 a1) := N3.cell rfl
        have e2 : wr.cell? ⟨X.heap.size, 2, none⟩ = some (.int .i8 a2) := N3.cell rfl
        have HKR3 := hide (show wr.heap[w.heap.size]? = some (.cells #[.bool false, .int .i8 0, .int .i8 0, .int .i8 0] 75 (0, 0)) from R3)
        clear hall N3 R3
        go_wp2_with (with_reducible refine wpList_store_row rfl 75 (.tmp 2) (.tmp 45) rfl w.heap.size #[.bool false, .int .i8 a0, .int .i8 a1, .int .i8 a2] rfl rfl 75 _ HKR3.out (infoCh4R _ _ _ _) (szCh4R _ _ _ _ _ _ _ _) (oneCh4R _ _ _ _) ?_)
        exact bodyPost_ret (v := .tuple #[.agg #[.bool false, .int .i8 a0, .int .i8 a1, .int .i8 a2], .bool true]) (results_chR Tryd.results44 _ _ w.heap.size 75 _ _ rfl (by simp [Act.put]) (by simp [Act.put]) (setRow_heap _ _ _ _ _ _ HKR3.out)) rfl HF.out
  · have HF := hide (show RxP s w (.returned (.tuple #[.agg #[.bool false, .int .i8 0, .int .i8 0, .int .i8 0], .bool false])) (w2.setRow w.heap.size #[.bool false, .int .i8 0, .int .i8 0, .int .i8 0]) from ⟨below_setRow' b2 (Nat.le_refl _), .inr ⟨iChc_cut HX.out (by rw [HP.out, hpl]; exact h3), rfl⟩⟩)
    have h3i : ¬ (ps.length : Int) = 3 := by omega
    have HKR2 := hide (show w2.heap[w.heap.size]? = some (.cells #[.bool false, .int .i8 0, .int .i8 0, .int .i8 0] 75 (0, 0)) from R2)
    clear h3 hpl R2
    generalize ps.length = n at *
    go_wp2_with (with_reducible refine wpList_store_row rfl 75 (.tmp 2) (.tmp 18) rfl w.heap.size #[.bool false, .int .i8 0, .int .i8 0, .int .i8 0] rfl rfl 75 _ HKR2.out (infoCh4R _ _ _ _) (szCh4R _ _ _ _ _ _ _ _) (oneCh4R _ _ _ _) ?_)
    exact bodyPost_ret (v := .tuple #[.agg #[.bool false, .int .i8 0, .int .i8 0, .int .i8 0], .bool false]) (results_chR Tryd.results44 _ _ w.heap.size 75 _ _ rfl (by simp [Act.put]) (by simp [Act.put]) (setRow_heap _ _ _ _ _ _ HKR2.out)) rfl HF.out
end Go.Proofs.YtmjpecneaenlpaaDoor
