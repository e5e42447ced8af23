import Derived.Test.YtmjpecneaenlpaaDoorRfp
import Derived.Test.YtmjpecneaenlpaaDoorRtp
import Derived.Test.YtmjpecneaenlpaaDoorFti2
namespace Go.Proofs.YtmjpecneaenlpaaDoor
open Go.RowKit
theorem own_neF {w : World} {base g n : Nat} {e t : TypeId} {size : Nat} {v : Value} {xs : List Value} {cs : Array Value} (h : w.ownsRow base e size v n xs) (z : Bk w g t cs) (ht : t ≠ e) : v.ownBlock ≠ some g := by
  intro hv
  rcases h.2 with ⟨rfl, _⟩ | ⟨g', cap, cur, rfl, hb, hg, _⟩
  · cases hv
  · have hz : w.heap[g]? = some (.cells cs t (0, 0)) := z
    have e1 : g' = g := by simpa [Value.ownBlock] using hv
    subst e1
    rw [hg] at hz
    simp at hz
    exact ht hz.2.symm
theorem own_setF {w : World} {base g o n : Nat} {e : TypeId} {size : Nat} {v : Value} {xs : List Value} (h : w.ownsRow base e size v n xs) (hne : v.ownBlock ≠ some g) (u : Value) : (w.setCell ⟨g, o, none⟩ u).ownsRow base e size v n xs :=
  h.kept (row := some g) ⟨rfl, rfl, rfl, by simp, fun k _ hk => heap_setCell_other w ⟨g, o, none⟩ k u (fun e => hk (by rw [e]))⟩ (Or.inr hne)
theorem own_rowF {w : World} {base g n : Nat} {e : TypeId} {size : Nat} {v : Value} {xs : List Value} (h : w.ownsRow base e size v n xs) (hne : v.ownBlock ≠ some g) (cs : Array Value) : (w.setRow g cs).ownsRow base e size v n xs :=
  h.kept (row := some g) ⟨rfl, rfl, rfl, by simp, fun k _ hk => setRow_other _ _ _ _ (fun e => hk (by rw [e]))⟩ (Or.inr hne)
theorem infoFrR : (Tryd.prog.info? 32).map (·.size) = some 2 := by kernel_rfl
theorem infoFr2R (a b : Value) : (Tryd.prog.info? 32).map (·.size) = some (#[a, b] : Array Value).size := by kernel_rfl
theorem szFr2R (a b c d : Value) : (#[a, b] : Array Value).size = (#[c, d] : Array Value).size := rfl
theorem oneFr2R (a : Int) (A : Option Addr) (n c : Nat) : (#[.int .i16 a, .slice A n c] : Array Value).all (·.oneCell') = true := by simp [Value.oneCell']
theorem results_f2R {fn : Func} {p q : Tmp} (h : fn.results = #[.cell p 32, .tmp q]) (tmps : Array Value) (w : World) (g : Nat) (t : TypeId) (cs : Array Value) (v : Value) (hi : cs.size = 2)
    (hp : tmps.getD p undef = .pointer (some ⟨g, 0, none⟩)) (hq : tmps.getD q undef = v) (hg : w.heap[g]? = some (.cells cs t (0, 0))) :
    (results fn tmps).run Tryd.prog w = .ok (.tuple #[.agg cs, v]) w := by
  have hp' : tmps[p]?.getD undef = .pointer (some ⟨g, 0, none⟩) := by simpa using hp
  have hq' : tmps[q]?.getD undef = v := by simpa using hq
  have h1 := run_loadVar_row w g t 32 cs (0, 0) _ hg Tryd.underlying32 rfl (by rw [hi]; exact infoFrR)
  simp [results, h, hp', hq', asAddr, h1]
/-- a frame and a code, in memory of the call's own -/
def OwnFr (w : World) (s : Int) (l : List (Int × Int)) (cc : Int) (e : Ending) (w' : World) : Prop := ∃ (C : Option Addr) (q : Nat), e = .returned (.tuple #[.agg #[.int .i16 s, .slice C l.length q], .int .i64 cc]) ∧ w'.ownsRow w.heap.size 62 2 (.slice C l.length q) l.length (hcells l) ∧ Below w.heap.size w w'
theorem ownFr_nil {w w1 : World} (hb : Below w.heap.size w w1) : OwnFr w 0 [] 5 (.returned (.tuple #[.agg #[.int .i16 0, .slice none 0 0], .int .i64 5])) w1 := ⟨none, 0, rfl, ⟨rfl, Or.inl ⟨rfl, rfl⟩⟩, hb⟩
theorem ownFr_of {w w1 : World} (C : Option Addr) (q : Nat) (s : Int) (xs : List (Int × Int)) (n : Nat) (hn : xs.length = n) (h : w1.ownsRow w.heap.size 62 2 (.slice C n q) n (hcells xs)) (hb : Below w.heap.size w w1) : OwnFr w s xs 0 (.returned (.tuple #[.agg #[.int .i16 s, .slice C n q], .int .i64 0])) w1 := by
  subst hn
  exact ⟨C, q, rfl, h, hb⟩
theorem hwf_snocR {l : List (Int × Int)} {a p : Int} (h : HWF l) (ha : -128 ≤ a ∧ a ≤ 127) (hp : -128 ≤ p ∧ p ≤ 127) : HWF (l ++ [(a, p)]) := by
  intro k hk
  rcases Nat.lt_or_ge k l.length with h1 | h1
  · have := h k h1
    simp only [hPi, hRe, List.getD, List.getElem?_append_left h1] at this ⊢
    exact this
  · have hk2 : k = l.length := by simp at hk; omega
    subst hk2
    simp [hPi, hRe, ha, hp]
set_option maxRecDepth 20000 in
set_option maxHeartbeats 1000000 in
theorem implReadFrame_any (s : ByteArray) (w : World) (hs : s.size ≤ 1048576) (hT : RdW w) :
    Calls Tryd.prog 13 #[.string s] w (OwnFr w (rfS s) (rfL s) (rfC s)) := by
  have HNone := hide (fun hm => rf_none (s := s) hm)
  have HBad := hide (fun v t hm hv => rf_bad (s := s) (v := v) (t := t) hm hv)
  have HGood := hide (fun v t hm hv => rf_good (s := s) (v := v) (t := t) hm hv)
  obtain ⟨X, hX⟩ : ∃ X, X = w.alloc (.cells #[.int .i16 0, .slice none 0 0] 32) := ⟨_, rfl⟩
  have b0 : Below w.heap.size w X := by rw [hX]; exact (Below.refl _ _).alloc (Nat.le_refl _) _
  have R0 : Bk X w.heap.size 32 #[.int .i16 0, .slice none 0 0] := by rw [hX]; exact heap_alloc_new _ _
  obtain ⟨L, hL⟩ : ∃ L, L = spN 32 26 s.data.toList := ⟨_, rfl⟩
  have KS := splitN_one s 32 26 X hs (by omega) (by omega)
  have hL26 : L.length ≤ 26 := by rw [hL]; exact spN_len _ _ _
  have hL0 : 0 < L.length := by rw [hL]; exact spN_pos _ _ _ (by omega)
  rw [← hL] at HNone HBad HGood KS
  clear hL
  obtain ⟨S, hS⟩ : ∃ S, S = rfS s := ⟨_, rfl⟩
  obtain ⟨V, hV⟩ : ∃ V, V = rfL s := ⟨_, rfl⟩
  obtain ⟨C, hC⟩ : ∃ C, C = rfC s := ⟨_, rfl⟩
  rw [← hS, ← hV, ← hC]
  rw [← hS, ← hV, ← hC] at HNone
  simp only [← hS, ← hV, ← hC] at HBad HGood
  clear hS hV hC
  have HNE := hide (show mapO iFr 0 L = none → ∀ w1, Below w.heap.size w w1 → OwnFr w S V C (.returned (.tuple #[.agg #[.int .i16 0, .slice none 0 0], .int .i64 5])) w1 from fun h w1 hb => by
    obtain ⟨e1, e2, e3⟩ := HNone.out h
    rw [e1, e2, e3]
    exact ownFr_nil hb)
  have HBE := hide (show ∀ v t, mapO iFr 0 L = some ((v, 0) :: t) → ftV v t ≠ s → ∀ w1, Below w.heap.size w w1 → OwnFr w S V C (.returned (.tuple #[.agg #[.int .i16 0, .slice none 0 0], .int .i64 5])) w1 from fun v t h h2 w1 hb => by
    obtain ⟨e1, e2, e3⟩ := HBad.out v t h h2
    rw [e1, e2, e3]
    exact ownFr_nil hb)
  obtain ⟨i0, hi, hz0, hz1, hz2⟩ := info_parts info62
  go_enter Tryd.func13, Tryd.ntmps13
  go_upto_region 1 with fail
  rw [← hX]
  clear hX
  go_wp2_with fail
  refine KS.mono ?_
  rintro e w1 ⟨A, q, ps, rfl, hps, hsz, ownP0, hb1⟩
  have ownP := own_base ownP0 b0.size
  have b1 := step_below hb1 b0
  have R1 := R0.keep hb1
  have hpl : ps.length = L.length := by rw [← hps, List.length_map]
  have HPS := hide hps
  have HSZ := hide hsz
  obtain ⟨n, hn⟩ : ∃ n, ps.length = n := ⟨_, rfl⟩
  rw [hn] at ownP hpl ⊢
  have hn26 : n ≤ 26 := by omega
  have hn0 : 0 < n := by omega
  have HPN := hide hn
  have HLN := hide hpl
  clear KS hps hsz hn hpl R0 ownP0
  obtain ⟨pb, x0, rfl, hpb, hx0, hc0⟩ := piece_cell ownP HPN.out hn0
  have hx0s : x0.size ≤ 1048576 := Nat.le_trans (HSZ.out x0 (List.mem_of_getElem? hx0)) hs
  have hLx0 : L[0]? = some x0.data.toList := by rw [← HPS.out, List.getElem?_map, hx0]; rfl
  have KP0 := parse16_any x0 w1 hx0s (hT.below b1).2
  have hn0i : (0 : Int) < (n : Int) := by omega
  go_wp2_with fail
  refine KP0.mono ?_
  rintro e w2 ⟨hb2, ⟨v, hv, v1, v2, rfl⟩ | ⟨hv, v, tp, pp, rfl⟩⟩
  · have b2 := step_below hb2 b1
    have R2 := R1.keep hb2
    have own2 := own_keep ownP hb2
    have HM1 := hide (show mapO iFr 0 (L.take 1) = some [(v, 0)] from mapO_take hLx0 (r := []) rfl (by unfold iFr; rw [if_pos rfl]; exact iStp_yes hv))
    clear hLx0 hv KP0 R1 ownP hx0 hc0
    have hwv : IntKind.i16.wrap v = v := IntWalk.i16_in _ (by omega)
    obtain ⟨Y, hY⟩ : ∃ Y, Y = w2.alloc (.cells #[.int .i16 v, .slice none 0 0] 32) := ⟨_, rfl⟩
    have bY0 : Below w2.heap.size w2 Y := by rw [hY]; exact (Below.refl _ _).alloc (Nat.le_refl _) _
    have bY := step_below bY0 b2
    have RY := R2.keep bY0
    have FY : Bk Y w2.heap.size 32 #[.int .i16 v, .slice none 0 0] := by rw [hY]; exact heap_alloc_new _ _
    have ownY := own_keep own2 bY0
    have h1n : (1 : Int) ≤ (n : Int) := by omega
    have hwl : w.heap.size < w2.heap.size := R2.lt
    have hnq : n ≤ q := by
      obtain ⟨_, _, _, h, _⟩ := own_strs ownY (by omega)
      exact h
    go_upto_region 6 with fail
    rw [← hY]
    clear hY
    by_cases hq : q = 1
    · subst hq
      have hn1 : n = 1 := by omega
      have HN1 := hide hn1
      clear hn1 hnq
      go_upto_region 7 with fail
      go_loopw [30] (fun i wr => ∃ (k : Nat) (R : List (Int × Int)) (A' : Option Addr) (c' : Nat), k ≤ n - 1 ∧ i = .int .i64 k ∧ mapO iFr 0 (L.take (k + 1)) = some ((v, 0) :: R) ∧ HWF R ∧ R.length = k ∧ Bk wr w2.heap.size 32 #[.int .i16 v, .slice A' k c'] ∧ wr.ownsRow w.heap.size 62 2 (.slice A' k c') k (hcells R) ∧ Bk wr w.heap.size 32 #[.int .i16 0, .slice none 0 0] ∧ wr.ownsRow w.heap.size 9 1 (.slice (some ⟨pb, 0, none⟩) n 1) n (strs ps) ∧ Below w.heap.size w wr)
        (fun i _ => n - (intOf i).toNat)
      case atStart => exact ⟨0, [], none, 0, Nat.zero_le _, rfl, HM1.out, fun j hj => absurd hj (Nat.not_lt_zero _), rfl, FY, ⟨rfl, Or.inl ⟨rfl, rfl⟩⟩, RY, ownY, bY⟩
      case round =>
        obtain ⟨k, R, A', c', hk, rfl, hm, hwf, hRl, F3, ownR, R3, ownPr, hb⟩ := hrel
        by_cases hlt : k < n - 1
        · exact absurd hlt (by have := HN1.out; omega)
        · obtain rfl : k = n - 1 := by omega
          have hki : ¬ ((n - 1 : Nat) : Int) < ((n - 1 : Nat) : Int) := by omega
          rw [show n - 1 + 1 = L.length by rw [← HLN.out]; omega, List.take_length] at hm
          have HA1 := HA.of_own (l := R) (by rw [hRl]; exact ownR)
          have KT := implFrameText_any v A' c' R wr HA1 (by omega) hwf (by omega) (hT.below hb).1
          obtain ⟨T, hTt⟩ : ∃ T, T = ftV v R := ⟨_, rfl⟩
          rw [← hTt, hRl] at KT
          have e0 : wr.cell? ⟨w2.heap.size, 0, none⟩ = some (.int .i16 v) := F3.cell rfl
          have e1 : wr.cell? ⟨w2.heap.size, 1, none⟩ = some (.slice A' (n - 1) c') := F3.cell rfl
          by_cases hv : T = s
          · obtain ⟨g1, g2, g3⟩ := HGood.out v R hm (by rw [← hTt]; exact hv)
            have HE := hide (And.intro g1 (And.intro g2 g3))
            subst hv
            have he' : (T.toList == T.toList) = true := by simp
            have HRl := hide hRl
            clear hm hTt hwf HA1 hRl g1 g2 g3
            go_wp2_with fail
            refine KT.mono ?_
            rintro e w5 ⟨rfl, hb5⟩
            have b5 := step_below hb5 hb
            have F5 := F3.keep hb5
            have HN := hide (show w5.heap[w.heap.size]? = some (.cells #[.int .i16 0, .slice none 0 0] 32 (0, 0)) from R3.keep hb5)
            have own5 := own_keep ownR hb5
            have g0 : w5.cell? ⟨w2.heap.size, 0, none⟩ = some (.int .i16 v) := F5.cell rfl
            have g1 : w5.cell? ⟨w2.heap.size, 1, none⟩ = some (.slice A' (n - 1) c') := F5.cell rfl
            have R5 : Bk w5 w.heap.size 32 #[.int .i16 0, .slice none 0 0] := HN.out
            have own6 : (w5.setRow w.heap.size #[.int .i16 v, .slice A' (n - 1) c']).ownsRow w.heap.size 62 2 (.slice A' (n - 1) c') (n - 1) (hcells R) := own_rowF own5 (own_neF own5 R5 (by decide)) _
            have HF := hide (show OwnFr w S V C (.returned (.tuple #[.agg #[.int .i16 v, .slice A' (n - 1) c'], .int .i64 0])) (w5.setRow w.heap.size #[.int .i16 v, .slice A' (n - 1) c']) from by rw [HE.out.1, HE.out.2.1, HE.out.2.2]; exact ownFr_of A' c' v R (n - 1) HRl.out own6 (below_setRow' b5 (Nat.le_refl _)))
            clear KT F3 R3 ownR F5 own5 own6 e0 e1 R5 ownPr
            go_wp2_with (with_reducible refine wpList_store_row rfl 32 (.tmp 2) (.tmp 54) rfl w.heap.size #[.int .i16 v, .slice A' (n - 1) c'] rfl rfl 32 _ HN.out (infoFr2R _ _) (szFr2R _ _ _ _) (oneFr2R _ _ _ _) ?_)
            exact bodyPost_ret (v := .tuple #[.agg #[.int .i16 v, .slice A' (n - 1) c'], .int .i64 0]) (results_f2R Tryd.results13 _ _ w.heap.size 32 _ _ rfl (by simp [Act.put]) (by simp [Act.put]) (setRow_heap _ _ _ _ _ _ HN.out)) rfl HF.out
          · have HB := hide (HBE.out v R hm (by rw [← hTt]; exact hv))
            have he' : (T.toList == s.toList) = false := by rw [ByteArray.toList_eq, ByteArray.toList_eq]; exact beq_eq_false_iff_ne.2 fun h => hv (ByteArray.ext (Array.toList_inj.1 h))
            clear hm hTt hwf HA1 hRl
            go_wp2_with fail
            refine KT.mono ?_
            rintro e w5 ⟨rfl, hb5⟩
            have b5 := step_below hb5 hb
            have HN := hide (show w5.heap[w.heap.size]? = some (.cells #[.int .i16 0, .slice none 0 0] 32 (0, 0)) from R3.keep hb5)
            have HE := hide (HB.out (w5.setRow w.heap.size #[.int .i16 0, .slice none 0 0]) (below_setRow' b5 (Nat.le_refl _)))
            clear KT F3 R3 ownR ownPr e0 e1
            go_wp2_with (with_reducible refine wpList_store_row rfl 32 (.tmp 2) (.tmp 53) rfl w.heap.size #[.int .i16 0, .slice none 0 0] rfl rfl 32 _ HN.out (infoFr2R _ _) (szFr2R _ _ _ _) (oneFr2R _ _ _ _) ?_)
            exact bodyPost_ret (v := .tuple #[.agg #[.int .i16 0, .slice none 0 0], .int .i64 5]) (results_f2R Tryd.results13 _ _ w.heap.size 32 _ _ rfl (by simp [Act.put]) (by simp [Act.put]) (setRow_heap _ _ _ _ _ _ HN.out)) rfl HE.out
    · have hqi : ¬ (q : Int) = 1 := by omega
      go_upto_region 7 with fail
      go_loopw [30] (fun i wr => ∃ (k : Nat) (R : List (Int × Int)) (A' : Option Addr) (c' : Nat), k ≤ n - 1 ∧ i = .int .i64 k ∧ mapO iFr 0 (L.take (k + 1)) = some ((v, 0) :: R) ∧ HWF R ∧ R.length = k ∧ Bk wr w2.heap.size 32 #[.int .i16 v, .slice A' k c'] ∧ wr.ownsRow w.heap.size 62 2 (.slice A' k c') k (hcells R) ∧ Bk wr w.heap.size 32 #[.int .i16 0, .slice none 0 0] ∧ wr.ownsRow w.heap.size 9 1 (.slice (some ⟨pb, 0, none⟩) n q) n (strs ps) ∧ Below w.heap.size w wr)
        (fun i _ => n - (intOf i).toNat)
      case atStart => exact ⟨0, [], none, 0, Nat.zero_le _, rfl, HM1.out, fun j hj => absurd hj (Nat.not_lt_zero _), rfl, FY, ⟨rfl, Or.inl ⟨rfl, rfl⟩⟩, RY, ownY, bY⟩
      case round =>
        obtain ⟨k, R, A', c', hk, rfl, hm, hwf, hRl, F3, ownR, R3, ownPr, hb⟩ := hrel
        by_cases hlt : k < n - 1
        · have hki : (k : Int) < ((n - 1 : Nat) : Int) := by omega
          obtain ⟨pb', x, hpe, hbb, hx, hc⟩ := piece_cell ownPr HPN.out (show k + 1 < n by omega)
          obtain rfl : pb = pb' := by simpa using hpe
          have hc1 : wr.cell? ⟨pb, 1 + k, none⟩ = some (.string x) := by rw [Nat.add_comm]; exact hc
          have hxs : x.size ≤ 1048576 := Nat.le_trans (HSZ.out x (List.mem_of_getElem? hx)) hs
          have hLx : L[k + 1]? = some x.data.toList := by rw [← HPS.out, List.getElem?_map, hx]; rfl
          have KR := readHammer_any x wr hxs (hT.below hb).1.2 (hT.below hb).2
          have HM := hide hm
          have HW := hide hwf
          have HR := hide hRl
          clear hm hwf hRl hx hc
          go_wp2_with fail
          refine KR.mono ?_
          rintro e w4 ⟨hb4, ⟨a, p, hip, ha, hp, rfl⟩ | ⟨hip, rfl⟩⟩
          · have hMS := hide (show mapO iFr 0 (L.take (k + 1 + 1)) = some ((v, 0) :: (R ++ [(a, p)])) from mapO_take hLx HM.out (by unfold iFr; rw [if_neg (by omega)]; exact hip))
            have hWS := hide (hwf_snocR (a := a) (p := p) HW.out ⟨by omega, by omega⟩ hp)
            clear hLx hip KR
            have bX := step_below hb4 hb
            obtain ⟨X2, hX2⟩ : ∃ X, X = w4.alloc (.cells #[.int .i8 a, .int .i8 p] 62) := ⟨_, rfl⟩
            go_upto_region 10 with fail
            rw [← hX2]
            have hbX2 : Below w4.heap.size w4 X2 := by rw [hX2]; exact (Below.refl _ _).alloc (Nat.le_refl _) _
            have bX2 := step_below hbX2 bX
            have e0 : X2.cell? ⟨w4.heap.size, 0, none⟩ = some (.int .i8 a) := by rw [hX2]; simp [go_sem]
            have e1 : X2.cell? ⟨w4.heap.size, 1, none⟩ = some (.int .i8 p) := by rw [hX2]; simp [go_sem]
            clear hX2
            have FX := (F3.keep hb4).keep hbX2
            have RX := (R3.keep hb4).keep hbX2
            have ownX := own_keep (own_keep ownR hb4) hbX2
            have ownZ := own_keep (own_keep ownPr hb4) hbX2
            have FZ := FX.old (.cells #[.int .i8 a, .int .i8 p] 62)
            have RZ := RX.old (.cells #[.int .i8 a, .int .i8 p] 62)
            have own3 := ownX.alloc (.cells #[.int .i8 a, .int .i8 p] 62)
            have own4 := ownZ.alloc (.cells #[.int .i8 a, .int .i8 p] 62)
            have hnew := cell_two_new' X2 (.int .i8 a) (.int .i8 p) 62
            have hb3 := bX2.alloc bX2.size (.cells #[.int .i8 a, .int .i8 p] 62)
            have f1 : X2.cell? ⟨w2.heap.size, 1, none⟩ = some (.slice A' k c') := FX.cell rfl
            clear F3 R3 ownR ownPr FX RX ownX ownZ hc1
            go_wp2_with (at_builtin; refine wpList_append_own _ rfl _ _ 30 rfl w.heap.size 62 i0 (.agg #[.int .i8 0, .int .i8 0]) 2 2 Tryd.underlying30 hi hz0 hz1 hz2 rfl (by decide) _ _ _ rfl own3 ⟨X2.heap.size, 0, none⟩ 1 1 [.int .i8 a, .int .i8 p] rfl rfl hnew (fun x hx => by simp at hx; rcases hx with rfl | rfl <;> rfl) (by unfold maxLen; omega) (by omega) hb3.size ?_; intro v6 w6 hown6 hgr6 hnil6; obtain ⟨A6, c6, rfl⟩ := own_shapeS hown6; have F6 := FZ.grown hgr6 (own_neF own3 FZ (by decide)); have cz : w6.cell? ⟨w2.heap.size, 1, none⟩ = some (.slice A' k c') := F6.cell rfl; have fz := F6.frozen 1)
            have hb6 := hb3.grown hgr6 hb3.size (fun j hj => (own3.lt j hj).1)
            have own6 := own4.kept hgr6 (own_ne2 own4 own3 (by decide))
            have R6 := RZ.grown hgr6 (own_neF own3 RZ (by decide))
            have own7 := own_setF (o := 1) hown6 (own_neF hown6 F6 (by decide)) (.slice A6 (k + 1) c6)
            have own8 := own_setF (o := 1) own6 (own_neF own6 F6 (by decide)) (.slice A6 (k + 1) c6)
            have R7 := R6.other (b := w2.heap.size) (k := 1) (by omega) (.slice A6 (k + 1) c6)
            have F7 : Bk (w6.setCell ⟨w2.heap.size, 1, none⟩ (.slice A6 (k + 1) c6)) w2.heap.size 32 #[.int .i16 v, .slice A6 (k + 1) c6] := heap_setCell_same w6 w2.heap.size 1 _ _ (.slice A6 (k + 1) c6) F6
            have b7 := hb6.setCell (p := ⟨w2.heap.size, 1, none⟩) (by show w.heap.size ≤ w2.heap.size; omega) (.slice A6 (k + 1) c6)
            go_roundw
            case rel => exact ⟨k + 1, R ++ [(a, p)], A6, c6, by omega, by go_num, hMS.out, hWS.out, by rw [List.length_append, HR.out]; rfl, F7, by rw [hcells_append]; exact own7, R7, own8, b7⟩
            case measure => simp [intOf]; omega
          · have bX := step_below hb4 hb
            have bXa := bX.alloc bX.size (.cells #[.int .i8 0, .int .i8 0] 62)
            have HE := hide (HNE.out (mapO_out hLx (by unfold iFr; rw [if_neg (by omega)]; exact hip)) ((w4.alloc (.cells #[.int .i8 0, .int .i8 0] 62)).setRow w.heap.size #[.int .i16 0, .slice none 0 0]) (below_setRow' bXa (Nat.le_refl _)))
            have HN := hide (show (w4.alloc (.cells #[.int .i8 0, .int .i8 0] 62)).heap[w.heap.size]? = some (.cells #[.int .i16 0, .slice none 0 0] 32 (0, 0)) from (R3.keep hb4).old _)
            clear hLx hip KR F3 R3 ownR ownPr hc1
            go_wp2_with (with_reducible refine wpList_store_row rfl 32 (.tmp 2) (.tmp 41) rfl w.heap.size #[.int .i16 0, .slice none 0 0] rfl rfl 32 _ HN.out (infoFr2R _ _) (szFr2R _ _ _ _) (oneFr2R _ _ _ _) ?_)
            exact bodyPost_ret (v := .tuple #[.agg #[.int .i16 0, .slice none 0 0], .int .i64 5]) (results_f2R Tryd.results13 _ _ w.heap.size 32 _ _ rfl (by simp [Act.put]) (by simp [Act.put]) (setRow_heap _ _ _ _ _ _ HN.out)) rfl HE.out
        · obtain rfl : k = n - 1 := by omega
          have hki : ¬ ((n - 1 : Nat) : Int) < ((n - 1 : Nat) : Int) := by omega
          rw [show n - 1 + 1 = L.length by rw [← HLN.out]; omega, List.take_length] at hm
          have HA1 := HA.of_own (l := R) (by rw [hRl]; exact ownR)
          have KT := implFrameText_any v A' c' R wr HA1 (by omega) hwf (by omega) (hT.below hb).1
          obtain ⟨T, hTt⟩ : ∃ T, T = ftV v R := ⟨_, rfl⟩
          rw [← hTt, hRl] at KT
          have e0 : wr.cell? ⟨w2.heap.size, 0, none⟩ = some (.int .i16 v) := F3.cell rfl
          have e1 : wr.cell? ⟨w2.heap.size, 1, none⟩ = some (.slice A' (n - 1) c') := F3.cell rfl
          by_cases hv : T = s
          · obtain ⟨g1, g2, g3⟩ := HGood.out v R hm (by rw [← hTt]; exact hv)
            have HE := hide (And.intro g1 (And.intro g2 g3))
            subst hv
            have he' : (T.toList == T.toList) = true := by simp
            have HRl := hide hRl
            clear hm hTt hwf HA1 hRl g1 g2 g3
            go_wp2_with fail
            refine KT.mono ?_
            rintro e w5 ⟨rfl, hb5⟩
            have b5 := step_below hb5 hb
            have F5 := F3.keep hb5
            have HN := hide (show w5.heap[w.heap.size]? = some (.cells #[.int .i16 0, .slice none 0 0] 32 (0, 0)) from R3.keep hb5)
            have own5 := own_keep ownR hb5
            have g0 : w5.cell? ⟨w2.heap.size, 0, none⟩ = some (.int .i16 v) := F5.cell rfl
            have g1 : w5.cell? ⟨w2.heap.size, 1, none⟩ = some (.slice A' (n - 1) c') := F5.cell rfl
            have R5 : Bk w5 w.heap.size 32 #[.int .i16 0, .slice none 0 0] := HN.out
            have own6 : (w5.setRow w.heap.size #[.int .i16 v, .slice A' (n - 1) c']).ownsRow w.heap.size 62 2 (.slice A' (n - 1) c') (n - 1) (hcells R) := own_rowF own5 (own_neF own5 R5 (by decide)) _
            have HF := hide (show OwnFr w S V C (.returned (.tuple #[.agg #[.int .i16 v, .slice A' (n - 1) c'], .int .i64 0])) (w5.setRow w.heap.size #[.int .i16 v, .slice A' (n - 1) c']) from by rw [HE.out.1, HE.out.2.1, HE.out.2.2]; exact ownFr_of A' c' v R (n - 1) HRl.out own6 (below_setRow' b5 (Nat.le_refl _)))
            clear KT F3 R3 ownR F5 own5 own6 e0 e1 R5 ownPr
            go_wp2_with (with_reducible refine wpList_store_row rfl 32 (.tmp 2) (.tmp 54) rfl w.heap.size #[.int .i16 v, .slice A' (n - 1) c'] rfl rfl 32 _ HN.out (infoFr2R _ _) (szFr2R _ _ _ _) (oneFr2R _ _ _ _) ?_)
            exact bodyPost_ret (v := .tuple #[.agg #[.int .i16 v, .slice A' (n - 1) c'], .int .i64 0]) (results_f2R Tryd.results13 _ _ w.heap.size 32 _ _ rfl (by simp [Act.put]) (by simp [Act.put]) (setRow_heap _ _ _ _ _ _ HN.out)) rfl HF.out
          · have HB := hide (HBE.out v R hm (by rw [← hTt]; exact hv))
            have he' : (T.toList == s.toList) = false := by rw [ByteArray.toList_eq, ByteArray.toList_eq]; exact beq_eq_false_iff_ne.2 fun h => hv (ByteArray.ext (Array.toList_inj.1 h))
            clear hm hTt hwf HA1 hRl
            go_wp2_with fail
            refine KT.mono ?_
            rintro e w5 ⟨rfl, hb5⟩
            have b5 := step_below hb5 hb
            have HN := hide (show w5.heap[w.heap.size]? = some (.cells #[.int .i16 0, .slice none 0 0] 32 (0, 0)) from R3.keep hb5)
            have HE := hide (HB.out (w5.setRow w.heap.size #[.int .i16 0, .slice none 0 0]) (below_setRow' b5 (Nat.le_refl _)))
            clear KT F3 R3 ownR ownPr e0 e1
            go_wp2_with (with_reducible refine wpList_store_row rfl 32 (.tmp 2) (.tmp 53) rfl w.heap.size #[.int .i16 0, .slice none 0 0] rfl rfl 32 _ HN.out (infoFr2R _ _) (szFr2R _ _ _ _) (oneFr2R _ _ _ _) ?_)
            exact bodyPost_ret (v := .tuple #[.agg #[.int .i16 0, .slice none 0 0], .int .i64 5]) (results_f2R Tryd.results13 _ _ w.heap.size 32 _ _ rfl (by simp [Act.put]) (by simp [Act.put]) (setRow_heap _ _ _ _ _ _ HN.out)) rfl HE.out
  · have b2 := step_below hb2 b1
    have HE := hide (HNE.out (mapO_out hLx0 (by unfold iFr; rw [if_pos rfl]; exact iStp_no hv)) (w2.setRow w.heap.size #[.int .i16 0, .slice none 0 0]) (below_setRow' b2 (Nat.le_refl _)))
    have HN := hide (show w2.heap[w.heap.size]? = some (.cells #[.int .i16 0, .slice none 0 0] 32 (0, 0)) from R1.keep hb2)
    clear hLx0 hv KP0 R1 ownP hx0 hc0
    go_wp2_with (with_reducible refine wpList_store_row rfl 32 (.tmp 2) (.tmp 23) rfl w.heap.size #[.int .i16 0, .slice none 0 0] rfl rfl 32 _ HN.out (infoFr2R _ _) (szFr2R _ _ _ _) (oneFr2R _ _ _ _) ?_)
    exact bodyPost_ret (v := .tuple #[.agg #[.int .i16 0, .slice none 0 0], .int .i64 5]) (results_f2R Tryd.results13 _ _ w.heap.size 32 _ _ rfl (by simp [Act.put]) (by simp [Act.put]) (setRow_heap _ _ _ _ _ _ HN.out)) rfl HE.out
end Go.Proofs.YtmjpecneaenlpaaDoor
