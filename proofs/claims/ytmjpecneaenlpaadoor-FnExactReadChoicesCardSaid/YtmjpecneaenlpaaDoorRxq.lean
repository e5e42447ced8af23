import Derived.Test.YtmjpecneaenlpaaDoorRxp
import Derived.Test.YtmjpecneaenlpaaDoorXtx
namespace Go.Proofs.YtmjpecneaenlpaaDoor
open Go.RowKit
theorem cells_fourX (w : World) (x y z u : Value) (t : TypeId) : ∀ j v, ([x, y, z, u] : List Value)[j]? = some v → (w.alloc (.cells #[x, y, z, u] t)).cell? ((⟨w.heap.size, 0, none⟩ : Addr).add j) = some v := by
  intro j v hv
  rw [Addr.add_lit]
  match j, hv with
  | 0, hv => simp at hv; subst hv; simp [go_sem]
  | 1, hv => simp at hv; subst hv; simp [go_sem]
  | 2, hv => simp at hv; subst hv; simp [go_sem]
  | 3, hv => simp at hv; subst hv; simp [go_sem]
abbrev RxW (w : World) : Prop := PowW w ∧ ErW w
theorem RxW.keep {w w' : World} (h : RxW w) (hb : Below w.heap.size w w') : RxW w' := ⟨h.1.below hb, h.2.below hb⟩
theorem RxW.below {w w' : World} (h : RxW w) (hb : Below w.heap.size w w') : RxW w' := h.keep hb
theorem own_nilX {w : World} {base : Nat} {e : TypeId} {k : Nat} : w.ownsRow base e k (.slice none 0 0) 0 [] := ⟨by simp, Or.inl ⟨rfl, rfl⟩⟩
/-- choices and a code, in memory of the call's own -/
def OwnX (w : World) (l : List Xc) (cc : Int) (e : Ending) (w' : World) : Prop := ∃ (C : Option Addr) (q : Nat), e = .returned (.tuple #[.slice C l.length q, .int .i64 cc]) ∧ w'.ownsRow w.heap.size 75 4 (.slice C l.length q) l.length (chC l) ∧ Below w.heap.size w w'
theorem ownX_nilR {w w1 : World} (C : Option Addr) (q : Nat) (cc : Int) (h : w1.ownsRow w.heap.size 75 4 (.slice C 0 q) 0 []) (hb : Below w.heap.size w w1) : OwnX w [] cc (.returned (.tuple #[.slice C 0 q, .int .i64 cc])) w1 := ⟨C, q, rfl, h, hb⟩
theorem ownX_ofR {w w1 : World} (C : Option Addr) (q : Nat) (cc : Int) (xs : List Xc) (n : Nat) (hn : xs.length = n) (h : w1.ownsRow w.heap.size 75 4 (.slice C n q) n (chC xs)) (hb : Below w.heap.size w w1) : OwnX w xs cc (.returned (.tuple #[.slice C n q, .int .i64 cc])) w1 := by
  subst hn
  exact ⟨C, q, rfl, h, hb⟩
theorem chwf_snocR {l : List Xc} {a : Bool} {x y z : Int} (h : ChWF l) (hx : (-128 ≤ x ∧ x ≤ 127) ∧ (-128 ≤ y ∧ y ≤ 127) ∧ (-128 ≤ z ∧ z ≤ 127)) : ChWF (l ++ [(a, x, y, z)]) := by
  intro k hk
  rcases Nat.lt_or_ge k l.length with h1 | h1
  · have := h k h1
    simp only [chL, chO, chT, List.getD, List.getElem?_append_left h1] at this ⊢
    exact this
  · have hk2 : k = l.length := by simp at hk; omega
    subst hk2
    simp [chL, chO, chT, hx]
set_option maxRecDepth 20000 in
set_option maxHeartbeats 4000000 in
theorem implReadChoices_any (s : ByteArray) (w : World) (hs : s.size ≤ 1048576) (hT : RxW w) :
    Calls Tryd.prog 18 #[.string s] w (OwnX w (rxT s) (rxC s)) := by
  by_cases h0 : s.data.toList = []
  · obtain ⟨e1, e2⟩ := rx_nil h0
    rw [e1, e2]
    have he : s = ⟨#[]⟩ := ByteArray.ext (Array.toList_inj.1 h0)
    subst he
    clear h0 e1 e2
    go_enter Tryd.func18, Tryd.ntmps18
    go_wp2_with fail
    go_ret2
    exact ownX_nilR none 0 0 own_nilX (Below.refl _ _)
  have hne := sNe h0
  have HNone := hide (fun hm => rx_none h0 hm)
  have HBad := hide (fun t hm hv => rx_bad (t := t) h0 hm hv)
  have HGood := hide (fun t hm hv => rx_good (t := t) h0 hm hv)
  clear h0
  obtain ⟨L, hL⟩ : ∃ L, L = spN 32 121 s.data.toList := ⟨_, rfl⟩
  have KS := splitN_one s 32 121 w hs (by omega) (by omega)
  have hL121 : L.length ≤ 121 := by rw [hL]; exact spN_len _ _ _
  rw [← hL] at HNone HBad HGood KS
  clear hL
  obtain ⟨V, hV⟩ : ∃ V, V = rxT s := ⟨_, rfl⟩
  obtain ⟨C, hC⟩ : ∃ C, C = rxC s := ⟨_, rfl⟩
  rw [← hV, ← hC]
  rw [← hV, ← hC] at HNone
  simp only [← hV, ← hC] at HBad HGood
  clear hV hC
  obtain ⟨i0, hi, hz0, hz1, hz2⟩ := info_parts info75
  go_enter Tryd.func18, Tryd.ntmps18
  go_wp2_with (go_at_call 31; refine KS.mono ?_; rintro e w1 ⟨A, q, ps, rfl, hps, hsz, ownP, hb1⟩)
  have hpl : ps.length = L.length := by rw [← hps, List.length_map]
  have HPS := hide hps
  have HSZ := hide hsz
  obtain ⟨n, hn⟩ : ∃ n, ps.length = n := ⟨_, rfl⟩
  rw [hn] at ownP hpl ⊢
  have hn121 : n ≤ 121 := by omega
  have HPN := hide hn
  have HLN := hide hpl
  clear KS hps hsz hn hpl
  go_loopw [4, 14] (fun v i wr => ∃ (k : Nat) (R : List Xc), k ≤ n ∧ i = .int .i64 k ∧ mapO iChc 0 (L.take k) = some R ∧ ChWF R ∧ R.length = k ∧ wr.ownsRow w.heap.size 75 4 v k (chC R) ∧ wr.ownsRow w.heap.size 9 1 (.slice A n q) n (strs ps) ∧ Below w.heap.size w wr)
    (fun _ i _ => n - (intOf i).toNat)
  case atStart => exact ⟨0, [], Nat.zero_le _, rfl, rfl, fun j hj => absurd hj (Nat.not_lt_zero _), rfl, own_nilX, ownP, hb1⟩
  case round =>
    obtain ⟨k, R, hk, rfl, hm, hwf, hRl, ownR, ownPr, hb⟩ := hrel
    obtain ⟨A', c', rfl⟩ := own_shapeS ownR
    by_cases hlt : k < n
    · have hki : (k : Int) < (n : Int) := by omega
      obtain ⟨b, x, rfl, hbb, hx, hc⟩ := piece_cellX ownPr HPN.out hlt
      have hxs : x.size ≤ 1048576 := Nat.le_trans (HSZ.out x (List.mem_of_getElem? hx)) hs
      have hLx : L[k]? = some x.data.toList := by rw [← HPS.out, List.getElem?_map, hx]; rfl
      have KR := readChoice_any x wr hxs (hT.below hb).2
      have HM := hide hm
      have HW := hide hwf
      have HR := hide hRl
      clear hm hwf hRl hx
      go_wp2_with fail
      refine KR.mono ?_
      rintro e w2 ⟨hb2, ⟨a, l, o, t, hip, ha, rfl⟩ | ⟨hip, rfl⟩⟩
      · have hMS := hide (mapO_take hLx HM.out hip)
        have hWS := hide (chwf_snocR (a := a) HW.out ha)
        clear hLx hip KR
        have bX := step_below hb2 hb
        obtain ⟨X2, hX2⟩ : ∃ X, X = w2.alloc (.cells #[.bool a, .int .i8 l, .int .i8 o, .int .i8 t] 75) := ⟨_, rfl⟩
        go_upto_region 8 with fail
        rw [← hX2]
        have hbX2 : Below w2.heap.size w2 X2 := by rw [hX2]; exact (Below.refl _ _).alloc (Nat.le_refl _) _
        have hX2h : X2.heap[w2.heap.size]? = some (.cells #[.bool a, .int .i8 l, .int .i8 o, .int .i8 t] 75 (0, 0)) := by rw [hX2]; exact heap_alloc_new _ _
        have bX2 := step_below hbX2 bX
        have e0 : X2.cell? ⟨w2.heap.size, 0, none⟩ = some (.bool a) := by rw [hX2]; simp [go_sem]
        have e1 : X2.cell? ⟨w2.heap.size, 1, none⟩ = some (.int .i8 l) := by rw [hX2]; simp [go_sem]
        have e2 : X2.cell? ⟨w2.heap.size, 2, none⟩ = some (.int .i8 o) := by rw [hX2]; simp [go_sem]
        have e3 : X2.cell? ⟨w2.heap.size, 3, none⟩ = some (.int .i8 t) := by rw [hX2]; simp [go_sem]
        clear hX2
        have ownX := own_keep (own_keep ownR hb2) hbX2
        have ownY := own_keep (own_keep ownPr hb2) hbX2
        have own3 := ownX.alloc (.cells #[.bool a, .int .i8 l, .int .i8 o, .int .i8 t] 75)
        have own4 := ownY.alloc (.cells #[.bool a, .int .i8 l, .int .i8 o, .int .i8 t] 75)
        have hnew := cells_fourX X2 (.bool a) (.int .i8 l) (.int .i8 o) (.int .i8 t) 75
        have hb3 := bX2.alloc bX2.size (.cells #[.bool a, .int .i8 l, .int .i8 o, .int .i8 t] 75)
        clear ownX ownY ownR ownPr hc hX2h
        go_wp2_with (at_builtin; refine wpList_append_own _ rfl _ _ 37 rfl w.heap.size 75 i0 (.agg #[.bool false, .int .i8 0, .int .i8 0, .int .i8 0]) 4 4 Tryd.underlying37 hi hz0 hz1 hz2 rfl (by decide) _ _ _ rfl own3 ⟨X2.heap.size, 0, none⟩ 1 1 [.bool a, .int .i8 l, .int .i8 o, .int .i8 t] rfl rfl hnew (fun x hx => by simp at hx; rcases hx with rfl | rfl | rfl | rfl <;> rfl) (by unfold maxLen; omega) (by omega) hb3.size ?_; intro v6 w6 hown6 hgr6 hnil6)
        have hb6 := hb3.grown hgr6 hb3.size (fun j hj => (own3.lt j hj).1)
        have own6 := own4.kept hgr6 (own_ne2 own4 own3 (by decide))
        go_roundw
        case rel => exact ⟨k + 1, R ++ [(a, l, o, t)], hlt, by go_num, hMS.out, hWS.out, by rw [List.length_append, HR.out]; rfl, by rw [chC_append]; exact hown6, own6, hb6⟩
        case measure => simp [intOf]; omega
      · obtain ⟨e1, e2⟩ := HNone.out (mapO_out hLx hip)
        have HE := hide (And.intro e1 e2)
        have bX := step_below hb2 hb
        clear hLx hip KR e1 e2
        go_wp2_with fail
        go_ret2
        rw [HE.out.1, HE.out.2]
        exact ownX_nilR none 0 5 own_nilX (bX.alloc bX.size _)
    · obtain rfl : k = n := by omega
      have hki : ¬ (k : Int) < (k : Int) := by omega
      rw [List.take_of_length_le (by rw [← HLN.out]; exact Nat.le_refl _)] at hm
      have HA := ChA.of_own (l := R) (by rw [hRl]; exact ownR)
      have KT := implChoicesText_any A' c' R wr HA (by omega) hwf (hT.below hb).1
      obtain ⟨T, hTt⟩ : ∃ T, T = xtV R := ⟨_, rfl⟩
      rw [← hTt, hRl] at KT
      by_cases hv : T = s
      · have HE := hide (HGood.out R hm (by rw [← hTt]; exact hv))
        subst hv
        have he' : (T.toList == T.toList) = true := by simp
        have HRl := hide hRl
        clear hm hTt hwf HA hRl
        go_wp2_with (go_at_call 45; refine KT.mono ?_; rintro e w2 ⟨rfl, hb2⟩)
        go_ret2
        rw [HE.out.1, HE.out.2]
        exact ownX_ofR A' c' 0 _ k HRl.out (own_keep ownR hb2) (step_below hb2 hb)
      · have HE := hide (HBad.out R hm (by rw [← hTt]; exact hv))
        have he' : (T.toList == s.toList) = false := by rw [ByteArray.toList_eq, ByteArray.toList_eq]; exact beq_eq_false_iff_ne.2 fun h => hv (ByteArray.ext (Array.toList_inj.1 h))
        clear hm hTt hwf HA hRl
        go_wp2_with (go_at_call 45; refine KT.mono ?_; rintro e w2 ⟨rfl, hb2⟩)
        go_ret2
        rw [HE.out.1, HE.out.2]
        exact ownX_nilR none 0 5 own_nilX (step_below hb2 hb)
end Go.Proofs.YtmjpecneaenlpaaDoor
