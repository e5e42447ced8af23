import Derived.Test.YtmjpecneaenlpaaDoorGbb
import Derived.Test.YtmjpecneaenlpaaDoorGas
import Derived.Test.YtmjpecneaenlpaaDoorGax
import Derived.Test.YtmjpecneaenlpaaDoorGaw
namespace Go.Proofs.YtmjpecneaenlpaaDoor
open Go.RowKit
abbrev RdW (w : World) : Prop := PsW w ∧ ErW w
theorem RdW.keep {w w' : World} (h : RdW w) (hb : Below w.heap.size w w') : RdW w' := ⟨h.1.keep hb, h.2.below hb⟩
theorem RdW.below {w w' : World} (h : RdW w) (hb : Below w.heap.size w w') : RdW w' := h.keep hb
theorem own_nilR {w : World} {base : Nat} {e : TypeId} {k : Nat} : w.ownsRow base e k (.slice none 0 0) 0 [] := ⟨by simp, Or.inl ⟨rfl, rfl⟩⟩
theorem ownN_nilR {w w1 : World} (C : Option Addr) (q : Nat) (cc : Int) (h : w1.ownsRow w.heap.size 54 2 (.slice C 0 q) 0 []) (hb : Below w.heap.size w w1) : OwnN w [] cc (.returned (.tuple #[.slice C 0 q, .int .i64 cc])) w1 := ⟨C, q, rfl, h, hb⟩
theorem ownN_ofR {w w1 : World} (C : Option Addr) (q : Nat) (cc : Int) (xs : List (Int × Int)) (n : Nat) (hn : xs.length = n) (h : w1.ownsRow w.heap.size 54 2 (.slice C n q) n (cellsOf xs)) (hb : Below w.heap.size w w1) : OwnN w xs cc (.returned (.tuple #[.slice C n q, .int .i64 cc])) w1 := by
  subst hn
  exact ⟨C, q, rfl, h, hb⟩
theorem wf_snocR {l : List (Int × Int)} {a p : Int} (h : WF l) (ha : -32768 ≤ a ∧ a ≤ 32767) (hp : -128 ≤ p ∧ p ≤ 127) : WF (l ++ [(a, p)]) := by
  intro k hk
  rcases Nat.lt_or_ge k l.length with h1 | h1
  · have := h k h1
    simp only [nAt, nPi, List.getD, List.getElem?_append_left h1] at this ⊢
    exact this
  · have hk2 : k = l.length := by simp at hk; omega
    subst hk2
    simp [nAt, nPi, ha, hp]
/-- the piece of a row of pieces -/
theorem piece_cell {w : World} {base n : Nat} {A : Option Addr} {q : Nat} {ps : List ByteArray} (h : w.ownsRow base 9 1 (.slice A n q) n (strs ps)) (hn : ps.length = n) {k : Nat} (hk : k < n) : ∃ b x, A = some ⟨b, 0, none⟩ ∧ b < w.heap.size ∧ ps[k]? = some x ∧ w.cell? ⟨b, k, none⟩ = some (.string x) := by
  obtain ⟨b, rfl, hb, _, hc⟩ := own_strs h (by omega)
  have h1 : ps[k]? = some ps[k] := List.getElem?_eq_getElem (by omega)
  exact ⟨b, _, rfl, hb, h1, by have := hc k _ h1; rwa [Nat.zero_add] at this⟩
set_option maxRecDepth 20000 in
set_option maxHeartbeats 4000000 in
theorem implReadTune_any (s : ByteArray) (w : World) (hs : s.size ≤ 1048576) (hT : RdW w) :
    Calls Tryd.prog 8 #[.string s] w (OwnN w (rtT s) (rtC s)) := by
  by_cases h0 : s.data.toList = []
  · obtain ⟨e1, e2⟩ := rt_nil h0
    rw [e1, e2]
    have he : s = ⟨#[]⟩ := ByteArray.ext (Array.toList_inj.1 h0)
    subst he
    clear h0 e1 e2
    go_enter Tryd.func8, Tryd.ntmps8
    go_wp2_with fail
    go_ret2
    exact ownN_nilR none 0 0 own_nilR (Below.refl _ _)
  have hne := sNe h0
  have HNone := hide (fun hm => rt_none h0 hm)
  have HBad := hide (fun t hm hv => rt_bad (t := t) h0 hm hv)
  have HGood := hide (fun t hm hv => rt_good (t := t) h0 hm hv)
  clear h0
  obtain ⟨L, hL⟩ : ∃ L, L = spN 32 121 s.data.toList := ⟨_, rfl⟩
  have KS := splitN_one s 32 121 w hs (by omega) (by omega)
  have hL121 : L.length ≤ 121 := by rw [hL]; exact spN_len _ _ _
  rw [← hL] at HNone HBad HGood KS
  clear hL
  obtain ⟨V, hV⟩ : ∃ V, V = rtT s := ⟨_, rfl⟩
  obtain ⟨C, hC⟩ : ∃ C, C = rtC s := ⟨_, rfl⟩
  rw [← hV, ← hC]
  rw [← hV, ← hC] at HNone
  simp only [← hV, ← hC] at HBad HGood
  clear hV hC
  obtain ⟨i0, hi, hz0, hz1, hz2⟩ := info_parts info54
  go_enter Tryd.func8, Tryd.ntmps8
  go_wp2_with (go_at_call 31; refine KS.mono ?_; rintro e w1 ⟨A, q, ps, rfl, hps, hsz, ownP, hb1⟩)
  have hpl : ps.length = L.length := by rw [← hps, List.length_map]
  have HPS := hide hps
  have HSZ := hide hsz
  obtain ⟨n, hn⟩ : ∃ n, ps.length = n := ⟨_, rfl⟩
  rw [hn] at ownP hpl ⊢
  have hn121 : n ≤ 121 := by omega
  have HPN := hide hn
  have HLN := hide hpl
  clear KS hps hsz hn hpl
  go_loopw [4, 14] (fun v i wr => ∃ (k : Nat) (R : List (Int × Int)), k ≤ n ∧ i = .int .i64 k ∧ mapO iNote 0 (L.take k) = some R ∧ WF R ∧ R.length = k ∧ wr.ownsRow w.heap.size 54 2 v k (cellsOf R) ∧ wr.ownsRow w.heap.size 9 1 (.slice A n q) n (strs ps) ∧ Below w.heap.size w wr)
    (fun _ i _ => n - (intOf i).toNat)
  case atStart => exact ⟨0, [], Nat.zero_le _, rfl, rfl, fun j hj => absurd hj (Nat.not_lt_zero _), rfl, own_nilR, ownP, hb1⟩
  case round =>
    obtain ⟨k, R, hk, rfl, hm, hwf, hRl, ownR, ownPr, hb⟩ := hrel
    obtain ⟨A', c', rfl⟩ := own_shapeS ownR
    by_cases hlt : k < n
    · have hki : (k : Int) < (n : Int) := by omega
      obtain ⟨b, x, rfl, hbb, hx, hc⟩ := piece_cell ownPr HPN.out hlt
      have hxs : x.size ≤ 1048576 := Nat.le_trans (HSZ.out x (List.mem_of_getElem? hx)) hs
      have hLx : L[k]? = some x.data.toList := by rw [← HPS.out, List.getElem?_map, hx]; rfl
      have KR := readNote_any x wr hxs (hT.below hb).1.2 (hT.below hb).2
      have HM := hide hm
      have HW := hide hwf
      have HR := hide hRl
      clear hm hwf hRl hx
      go_wp2_with fail
      refine KR.mono ?_
      rintro e w2 ⟨hb2, ⟨a, p, hip, ha, hp, rfl⟩ | ⟨hip, rfl⟩⟩
      · have hMS := hide (mapO_take hLx HM.out hip)
        have hWS := hide (wf_snocR (p := p) HW.out ha ⟨by omega, by omega⟩)
        clear hLx hip KR
        have bX := step_below hb2 hb
        obtain ⟨X2, hX2⟩ : ∃ X, X = w2.alloc (.cells #[.int .i16 a, .int .i8 p] 54) := ⟨_, rfl⟩
        go_upto_region 8 with fail
        rw [← hX2]
        have hbX2 : Below w2.heap.size w2 X2 := by rw [hX2]; exact (Below.refl _ _).alloc (Nat.le_refl _) _
        have hX2h : X2.heap[w2.heap.size]? = some (.cells #[.int .i16 a, .int .i8 p] 54 (0, 0)) := by rw [hX2]; exact heap_alloc_new _ _
        have bX2 := step_below hbX2 bX
        have e0 : X2.cell? ⟨w2.heap.size, 0, none⟩ = some (.int .i16 a) := by rw [hX2]; simp [go_sem]
        have e1 : X2.cell? ⟨w2.heap.size, 1, none⟩ = some (.int .i8 p) := by rw [hX2]; simp [go_sem]
        clear hX2
        have ownX := own_keep (own_keep ownR hb2) hbX2
        have ownY := own_keep (own_keep ownPr hb2) hbX2
        have own3 := ownX.alloc (.cells #[.int .i16 a, .int .i8 p] 54)
        have own4 := ownY.alloc (.cells #[.int .i16 a, .int .i8 p] 54)
        have hnew := cell_two_new' X2 (.int .i16 a) (.int .i8 p) 54
        have hb3 := bX2.alloc bX2.size (.cells #[.int .i16 a, .int .i8 p] 54)
        clear ownX ownY ownR ownPr hc hX2h
        go_wp2_with (at_builtin; refine wpList_append_own _ rfl _ _ 23 rfl w.heap.size 54 i0 (.agg #[.int .i16 0, .int .i8 0]) 2 4 Tryd.underlying23 hi hz0 hz1 hz2 rfl (by decide) _ _ _ rfl own3 ⟨X2.heap.size, 0, none⟩ 1 1 [.int .i16 a, .int .i8 p] rfl rfl hnew (fun x hx => by simp at hx; rcases hx with rfl | rfl <;> rfl) (by unfold maxLen; omega) (by omega) hb3.size ?_; intro v6 w6 hown6 hgr6 hnil6)
        have hb6 := hb3.grown hgr6 hb3.size (fun j hj => (own3.lt j hj).1)
        have own6 := own4.kept hgr6 (own_ne2 own4 own3 (by decide))
        go_roundw
        case rel => exact ⟨k + 1, R ++ [(a, p)], hlt, by go_num, hMS.out, hWS.out, by rw [List.length_append, HR.out]; rfl, by rw [cellsOf_append]; exact hown6, own6, hb6⟩
        case measure => simp [intOf]; omega
      · obtain ⟨e1, e2⟩ := HNone.out (mapO_out hLx hip)
        have HE := hide (And.intro e1 e2)
        have bX := step_below hb2 hb
        clear hLx hip KR e1 e2
        go_wp2_with fail
        go_ret2
        rw [HE.out.1, HE.out.2]
        exact ownN_nilR none 0 5 own_nilR (bX.alloc bX.size _)
    · obtain rfl : k = n := by omega
      have hki : ¬ (k : Int) < (k : Int) := by omega
      rw [List.take_of_length_le (by rw [← HLN.out]; exact Nat.le_refl _)] at hm
      have HA := NA.of_own (l := R) (by rw [hRl]; exact ownR)
      have KT := implTuneText_any A' c' R wr HA (by omega) hwf (hT.below hb).1
      obtain ⟨T, hTt⟩ : ∃ T, T = ttV R := ⟨_, rfl⟩
      rw [← hTt, hRl] at KT
      by_cases hv : T = s
      · have HE := hide (HGood.out R hm (by rw [← hTt]; exact hv))
        subst hv
        have he' : (T.toList == T.toList) = true := by simp
        have HRl := hide hRl
        clear hm hTt hwf HA hRl
        go_wp2_with (go_at_call 33; refine KT.mono ?_; rintro e w2 ⟨rfl, hb2⟩)
        go_ret2
        rw [HE.out.1, HE.out.2]
        exact ownN_ofR A' c' 0 _ k HRl.out (own_keep ownR hb2) (step_below hb2 hb)
      · have HE := hide (HBad.out R hm (by rw [← hTt]; exact hv))
        have he' : (T.toList == s.toList) = false := by rw [ByteArray.toList_eq, ByteArray.toList_eq]; exact beq_eq_false_iff_ne.2 fun h => hv (ByteArray.ext (Array.toList_inj.1 h))
        clear hm hTt hwf HA hRl
        go_wp2_with (go_at_call 33; refine KT.mono ?_; rintro e w2 ⟨rfl, hb2⟩)
        go_ret2
        rw [HE.out.1, HE.out.2]
        exact ownN_nilR none 0 5 own_nilR (step_below hb2 hb)
end Go.Proofs.YtmjpecneaenlpaaDoor
