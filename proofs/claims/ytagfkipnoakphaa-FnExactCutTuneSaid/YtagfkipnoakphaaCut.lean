import Derived.Test.YtagfkipnoakphaaSea
namespace Go.Proofs.Ytagfkipnoakphaa
open Go.RowKit
/-- a cut of a tune -/
def ctQ (x y : Int) (n : Int × Int) : Bool := decide (x ≤ n.1) && decide (n.1 ≤ y - 1)
def ctM (x : Int) (n : Int × Int) : Int × Int := (n.1 - x, n.2)
def ctL (l : List (Int × Int)) (x y : Int) (k : Nat) : List (Int × Int) := ((l.take k).filter (ctQ x y)).map (ctM x)
def ctP (l : List (Int × Int)) (f e : Nat) : List (Int × Int) := (l.drop f).take (e - f)
def ctG (x y : Int) : Bool := decide (0 ≤ x ∧ x ≤ y ∧ y ≤ 200)
def ctC (l : List (Int × Int)) (x y : Int) : Int := if okB l then (if ctG x y then 0 else 2) else 1
def ctV (l : List (Int × Int)) (x y : Int) : List (Int × Int) := if okB l && ctG x y then ctL l x y l.length else []
theorem ctL_le (l : List (Int × Int)) (x y : Int) (k : Nat) : (ctL l x y k).length ≤ l.length := by
  unfold ctL
  rw [List.length_map]
  refine Nat.le_trans (List.length_filter_le _ _) ?_
  rw [List.length_take]
  omega
theorem ctV_le (l : List (Int × Int)) (x y : Int) : (ctV l x y).length ≤ l.length := by
  unfold ctV
  split
  · exact ctL_le _ _ _ _
  · simp
theorem ctL_succ {l : List (Int × Int)} {k : Nat} (x y : Int) (h : k < l.length) : ctL l x y (k + 1) = ctL l x y k ++ (if ctQ x y (nAt l k, nPi l k) then [ctM x (nAt l k, nPi l k)] else []) := by
  have e : l[k] = (nAt l k, nPi l k) := by simp [nAt, nPi, List.getD, h]
  unfold ctL
  rw [List.take_succ_eq_append_getElem h, List.filter_append, List.map_append, e]
  congr 1
  by_cases hq : ctQ x y (nAt l k, nPi l k)
  · rw [if_pos hq, List.filter_cons_of_pos hq]; rfl
  · rw [if_neg hq, List.filter_cons_of_neg hq]; rfl
theorem bd_ex {l : List (Int × Int)} (h : AscN l) (s : Int) : ∃ c, Bound (fun t => decide (s ≤ nAt l t)) l.length c :=
  bound_ex _ _ fun a b hab hb ha => by
    have h1 : nAt l a ≤ nAt l b := by
      rcases Nat.lt_or_ge a b with h1 | h1
      · have h2 := List.pairwise_iff_getElem.1 h a b (by omega) hb h1
        have e1 : nAt l a = l[a].1 := by simp [nAt, List.getD, show a < l.length by omega]
        have e2 : nAt l b = l[b].1 := by simp [nAt, List.getD, hb]
        unfold ltN at h2
        omega
      · obtain rfl : a = b := by omega
        exact Int.le_refl _
    simp only [decide_eq_true_eq] at ha ⊢
    omega
theorem ct_filter {l : List (Int × Int)} {x y : Int} {f e : Nat} (hf : Bound (fun t => decide (x ≤ nAt l t)) l.length f) (he : Bound (fun t => decide (y ≤ nAt l t)) l.length e) (hfe : f ≤ e) : l.filter (ctQ x y) = ctP l f e := by
  obtain ⟨f1, f2, f3⟩ := hf
  obtain ⟨e1, e2, e3⟩ := he
  simp only [decide_eq_false_iff_not, decide_eq_true_eq] at f2 f3 e2 e3
  have hat : ∀ i (hi : i < l.length), nAt l i = l[i].1 := fun i hi => by simp [nAt, List.getD, hi]
  have hl : l = l.take f ++ (ctP l f e ++ l.drop e) := by
    have h1 := (List.take_append_drop f l).symm
    have h2 := (List.take_append_drop (e - f) (l.drop f)).symm
    rw [List.drop_drop, show f + (e - f) = e by omega] at h2
    rw [ctP, ← h2]
    exact h1
  have p1 : (l.take f).filter (ctQ x y) = [] := List.filter_eq_nil_iff.2 fun a ha => by
    obtain ⟨i, hi, rfl⟩ := List.mem_iff_getElem.1 ha
    rw [List.length_take] at hi
    rw [List.getElem_take]
    have := f2 i (by omega)
    rw [hat i (by omega)] at this
    simp [ctQ]
    omega
  have p2 : (ctP l f e).filter (ctQ x y) = ctP l f e := List.filter_eq_self.2 fun a ha => by
    unfold ctP at ha
    obtain ⟨i, hi, rfl⟩ := List.mem_iff_getElem.1 ha
    rw [List.length_take, List.length_drop] at hi
    rw [List.getElem_take, List.getElem_drop]
    have h1 := f3 (f + i) (by omega) (by omega)
    have h2 := e2 (f + i) (by omega)
    rw [hat (f + i) (by omega)] at h1 h2
    simp [ctQ]
    omega
  have p3 : (l.drop e).filter (ctQ x y) = [] := List.filter_eq_nil_iff.2 fun a ha => by
    obtain ⟨i, hi, rfl⟩ := List.mem_iff_getElem.1 ha
    rw [List.length_drop] at hi
    rw [List.getElem_drop]
    have := e3 (e + i) (by omega) (by omega)
    rw [hat (e + i) (by omega)] at this
    simp [ctQ]
    omega
  calc l.filter (ctQ x y) = (l.take f ++ (ctP l f e ++ l.drop e)).filter (ctQ x y) := by rw [← hl]
    _ = ctP l f e := by rw [List.filter_append, List.filter_append, p1, p2, p3]; simp
theorem ct_sub {l : List (Int × Int)} {f e : Nat} {a : Int × Int} (ha : a ∈ ctP l f e) : a ∈ l := List.mem_of_mem_drop (List.mem_of_mem_take ha)
theorem ct_ch {l : List (Int × Int)} {x y : Int} {f e : Nat} (h : okB l = true) (hf : Bound (fun t => decide (x ≤ nAt l t)) l.length f) (he : Bound (fun t => decide (y ≤ nAt l t)) l.length e) (hfe : f ≤ e) (h0 : 0 ≤ x) :
    chV (shP (-x) 0) (ctP l f e) = ctL l x y l.length ∧ chC (shP (-x) 0) (ctP l f e) = 0 := by
  have hfl := ct_filter hf he hfe
  have hasc : AscN (ctP l f e) := List.Pairwise.take (List.Pairwise.drop (asc_of_ok h))
  have hq : ∀ a ∈ ctP l f e, ctQ x y a = true ∧ a ∈ l := fun a ha => ⟨by rw [← hfl] at ha; exact (List.mem_filter.1 ha).2, ct_sub ha⟩
  have ho : chO (shP (-x) 0) (ctP l f e) (ctP l f e).length = true := by
    simp only [chO, List.all_eq_true, List.mem_range]
    intro i hi
    have hm : (ctP l f e)[i] ∈ ctP l f e := List.getElem_mem hi
    obtain ⟨h1, h2⟩ := hq _ hm
    obtain ⟨j, hj, e2⟩ := List.mem_iff_getElem.1 h2
    have h3 := ok_in h j hj
    have e3 : nAt l j = l[j].1 := by simp [nAt, List.getD, hj]
    have e4 : nPi l j = l[j].2 := by simp [nPi, List.getD, hj]
    rw [e3, e4, e2] at h3
    have e5 : nAt (ctP l f e) i = (ctP l f e)[i].1 := by simp [nAt, List.getD, hi]
    have e6 : nPi (ctP l f e) i = (ctP l f e)[i].2 := by simp [nPi, List.getD, hi]
    simp only [ctQ, Bool.and_eq_true, decide_eq_true_eq] at h1
    simp only [shP, noteB, e5, e6, decide_eq_true_eq]
    omega
  refine ⟨?_, by simp [chC, ho]⟩
  rw [chV_asc (chL_asc hasc fun a b _ _ hab => by unfold ltN shP at *; omega)]
  unfold chW
  rw [if_pos ho, chL_map]
  unfold ctL
  rw [List.take_length, hfl]
  refine List.map_congr_left fun a _ => ?_
  simp [shP, ctM]
  omega
set_option maxRecDepth 20000 in
set_option maxHeartbeats 2000000 in
theorem between_any (A : Option Addr) (c : Nat) (l : List (Int × Int)) (x y : Int) (f e : Nat) (w : World) (hA : NA w A l) (hn : l.length ≤ 1048576) (hwf : WF l) (hcap : l.length ≤ c) (hf : Bound (fun t => decide (x ≤ nAt l t)) l.length f) (he : Bound (fun t => decide (y ≤ nAt l t)) l.length e) (hfe : f ≤ e) :
    Calls Try.prog 29 #[.slice A l.length c, .int .i64 x, .int .i64 y] w fun en w' => (∃ A', en = .returned (.slice A' (e - f) (e - f)) ∧ NA w A' (ctP l f e)) ∧ Below w.heap.size w w' := by
  have hel := he.1
  have K1 : ∀ W, Below w.heap.size w W → Calls Try.prog 55 #[.slice A l.length c, .int .i64 x] W fun e w' => e = .returned (.int .i64 f) ∧ Below W.heap.size W w' := fun W hW => firstFrom_any A c l x f W (hA.below hW) hn hwf hf
  have K2 : ∀ W, Below w.heap.size w W → Calls Try.prog 55 #[.slice A l.length c, .int .i64 y] W fun en w' => en = .returned (.int .i64 e) ∧ Below W.heap.size W w' := fun W hW => firstFrom_any A c l y e W (hA.below hW) hn hwf he
  clear hf he
  rcases Nat.eq_zero_or_pos l.length with h0 | h0
  · obtain rfl : e = 0 := by omega
    obtain rfl : f = 0 := by omega
    have hP : ∀ A', NA w A' (ctP l 0 0) := fun A' k hk => absurd hk (by simp [ctP])
    clear h0
    cases A with
    | none =>
      go_enter Try.func29, Try.ntmps29
      go_wp2_with fail
      refine (K1 _ (Below.refl _ _)).mono ?_
      rintro en w1 ⟨rfl, hb1⟩
      go_wp2_with fail
      refine (K2 _ hb1).mono ?_
      rintro en w2 ⟨rfl, hb2⟩
      go_wp2
      go_ret
      exact ⟨⟨_, rfl, hP _⟩, step_below hb2 hb1⟩
    | some ad =>
      obtain ⟨ab, ao, asp⟩ := ad
      go_enter Try.func29, Try.ntmps29
      go_wp2_with fail
      refine (K1 _ (Below.refl _ _)).mono ?_
      rintro en w1 ⟨rfl, hb1⟩
      go_wp2_with fail
      refine (K2 _ hb1).mono ?_
      rintro en w2 ⟨rfl, hb2⟩
      go_wp2
      all_goals go_ret
      all_goals exact ⟨⟨_, rfl, hP _⟩, step_below hb2 hb1⟩
  · obtain ⟨b, o, rfl, hbb, _, _⟩ := hA 0 h0
    have hP := hA.part f (e - f)
    have hP2 : ∀ o' g, NA w (some ⟨b, o', none⟩) (ctP l g g) := fun o' g k hk => absurd hk (by simp [ctP])
    go_enter Try.func29, Try.ntmps29
    go_wp2_with fail
    refine (K1 _ (Below.refl _ _)).mono ?_
    rintro en w1 ⟨rfl, hb1⟩
    go_wp2_with fail
    refine (K2 _ hb1).mono ?_
    rintro en w2 ⟨rfl, hb2⟩
    go_wp2
    all_goals go_ret
    all_goals first | exact ⟨⟨_, rfl, hP⟩, step_below hb2 hb1⟩ | exact ⟨⟨_, rfl, hP2 _ _⟩, step_below hb2 hb1⟩
set_option maxRecDepth 20000 in
set_option maxHeartbeats 2000000 in
theorem implCutTune_any (A : Option Addr) (c : Nat) (l : List (Int × Int)) (x y : Int) (w : World) (hA : NA w A l) (hn : l.length ≤ 1048576) (hwf : WF l) (hcap : l.length ≤ c) :
    Calls Try.prog 9 #[.slice A l.length c, .int .i64 x, .int .i64 y] w (OwnN w (ctV l x y) (ctC l x y)) := by
  have KO := implValid_any A c l w hA hn hwf
  cases ho : okB l
  · rw [ho] at KO
    have HX := hide (show ctC l x y = 1 by simp [ctC, ho])
    have HY := hide (show ctV l x y = [] by simp [ctV, ho])
    clear ho
    go_enter Try.func9, Try.ntmps9
    go_wp2_with fail
    refine KO.mono ?_
    rintro e w1 ⟨rfl, hb1⟩
    go_wp2
    go_ret2
    rw [HX.out, HY.out]
    exact ownN_nil none 0 1 ⟨rfl, Or.inl ⟨rfl, rfl⟩⟩ hb1
  rw [ho] at KO
  cases h1 : inB x 0 y
  · have K1 : ∀ W, Calls Try.prog 28 #[.int .i64 x, .int .i64 0, .int .i64 y] W fun e w' => e = .returned (.bool false) ∧ W = w' := fun W => by rw [← h1]; exact within_any _ _ _ W
    have hg : ctG x y = false := by simp [inB] at h1; simp [ctG]; omega
    have HX := hide (show ctC l x y = 2 by simp [ctC, ho, hg])
    have HY := hide (show ctV l x y = [] by simp [ctV, hg])
    clear ho h1 hg
    go_enter Try.func9, Try.ntmps9
    go_wp2_with fail
    refine KO.mono ?_
    rintro e w1 ⟨rfl, hb1⟩
    go_wp2_with (go_at_call 28; with_reducible refine (K1 _).mono ?_; rintro e w' ⟨rfl, rfl⟩)
    go_ret2
    rw [HX.out, HY.out]
    exact ownN_nil none 0 2 ⟨rfl, Or.inl ⟨rfl, rfl⟩⟩ hb1
  have K1 : ∀ W, Calls Try.prog 28 #[.int .i64 x, .int .i64 0, .int .i64 y] W fun e w' => e = .returned (.bool true) ∧ W = w' := fun W => by rw [← h1]; exact within_any _ _ _ W
  cases h2 : inB y 0 200
  · have K2 : ∀ W, Calls Try.prog 28 #[.int .i64 y, .int .i64 0, .int .i64 200] W fun e w' => e = .returned (.bool false) ∧ W = w' := fun W => by rw [← h2]; exact within_any _ _ _ W
    have hg : ctG x y = false := by simp [inB] at h1 h2; simp [ctG]; omega
    have HX := hide (show ctC l x y = 2 by simp [ctC, ho, hg])
    have HY := hide (show ctV l x y = [] by simp [ctV, hg])
    clear ho h1 h2 hg
    go_enter Try.func9, Try.ntmps9
    go_wp2_with fail
    refine KO.mono ?_
    rintro e w1 ⟨rfl, hb1⟩
    go_wp2_with (first | (go_at_call 28; with_reducible refine (K1 _).mono ?_; rintro e w' ⟨rfl, rfl⟩) | (go_at_call 28; with_reducible refine (K2 _).mono ?_; rintro e w' ⟨rfl, rfl⟩))
    go_ret2
    rw [HX.out, HY.out]
    exact ownN_nil none 0 2 ⟨rfl, Or.inl ⟨rfl, rfl⟩⟩ hb1
  have K2 : ∀ W, Calls Try.prog 28 #[.int .i64 y, .int .i64 0, .int .i64 200] W fun e w' => e = .returned (.bool true) ∧ W = w' := fun W => by rw [← h2]; exact within_any _ _ _ W
  have hg : 0 ≤ x ∧ x ≤ y ∧ y ≤ 200 := by simp [inB] at h1 h2; omega
  have hgb : ctG x y = true := by simp [ctG]; omega
  obtain ⟨fi, hf⟩ := bd_ex (asc_of_ok ho) x
  obtain ⟨en, he⟩ := bd_ex (asc_of_ok ho) y
  have hfe : fi ≤ en := bound_le hf he fun t _ ht => by simp only [decide_eq_true_eq] at ht ⊢; omega
  obtain ⟨hv, hc⟩ := ct_ch ho hf he hfe hg.1
  have HX := hide (show ctC l x y = 0 by simp [ctC, ho, hgb])
  have HY := hide (show ctV l x y = ctL l x y l.length by simp [ctV, ho, hgb])
  have hpl : (ctP l fi en).length = en - fi := by
    have := he.1
    simp only [ctP, List.length_take, List.length_drop]
    omega
  have hpw : WF (ctP l fi en) := by
    intro k hk
    have e0 : (ctP l fi en).getD k (0, 0) = l.getD (fi + k) (0, 0) := by
      rw [hpl] at hk
      simp [ctP, List.getD, List.getElem?_take, hk]
    have h3 := hwf (fi + k) (by rw [hpl] at hk; have := he.1; omega)
    simp only [nAt, nPi] at h3 ⊢
    rw [e0]
    exact h3
  have hel := he.1
  have KB : ∀ W, Below w.heap.size w W → Calls Try.prog 29 #[.slice A l.length c, .int .i64 x, .int .i64 y] W fun e' w' => (∃ A', e' = .returned (.slice A' (en - fi) (en - fi)) ∧ NA W A' (ctP l fi en)) ∧ Below W.heap.size W w' := fun W hW =>
    between_any A c l x y fi en W (hA.below hW) hn hwf hcap hf he hfe
  have KS : ∀ W A' c', NA W A' (ctP l fi en) → Calls Try.prog 30 #[.slice A' (en - fi) c', .int .i64 (-x), .int .i64 0] W (OwnN W (ctL l x y l.length) 0) := fun W A' c' h => by
    have := shifted_any (-x) 0 A' c' (ctP l fi en) W h (by rw [hpl]; omega) hpw (by omega) (by omega)
    rw [hpl, hv, hc] at this
    exact this
  obtain ⟨L, hL⟩ : ∃ L, L = ctL l x y l.length := ⟨_, rfl⟩
  obtain ⟨P, hP⟩ : ∃ P, P = ctP l fi en := ⟨_, rfl⟩
  obtain ⟨m, hm⟩ : ∃ m, m = en - fi := ⟨_, rfl⟩
  rw [← hL] at KS HY
  rw [← hP, ← hm] at KS KB
  obtain ⟨g1, g2, g3⟩ := hg
  have hwn : IntKind.i64.wrap (-x) = -x := IntWalk.i64_in _ (by omega)
  clear ho h1 h2 hf he hfe hv hc hpl hpw hL hP hm hgb hel
  go_enter Try.func9, Try.ntmps9
  go_wp2_with fail
  refine KO.mono ?_
  rintro e w1 ⟨rfl, hb1⟩
  go_wp2_with (first | (go_at_call 28; with_reducible refine (K1 _).mono ?_; rintro e w' ⟨rfl, rfl⟩) | (go_at_call 28; with_reducible refine (K2 _).mono ?_; rintro e w' ⟨rfl, rfl⟩))
  refine (KB w1 hb1).mono ?_
  rintro e w2 ⟨⟨A', rfl, hN⟩, hb2⟩
  have b2 := step_below hb2 hb1
  have KS2 := KS w2 A' m (hN.below hb2)
  go_wp2_with fail
  refine KS2.mono ?_
  rintro e w3 ⟨C3, q3, rfl, own3, hb3⟩
  go_wp2
  go_ret2
  rw [HX.out, HY.out]
  exact ⟨C3, q3, rfl, own_base own3 b2.size, step_below hb3 b2⟩
end Go.Proofs.Ytagfkipnoakphaa
