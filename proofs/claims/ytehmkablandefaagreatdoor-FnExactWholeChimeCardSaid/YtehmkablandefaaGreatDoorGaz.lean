import Derived.Test.YtehmkablandefaaGreatDoorGay
namespace Go.Proofs.YtehmkablandefaaGreatDoor
open Go.RowKit
/-- the boundary of a test -/
def Bound (p : Nat → Bool) (n c : Nat) : Prop := c ≤ n ∧ (∀ t, t < c → p t = false) ∧ ∀ t, c ≤ t → t < n → p t = true
theorem bound_le {p p' : Nat → Bool} {n c c' : Nat} (h : Bound p n c) (h' : Bound p' n c') (hp : ∀ t, t < n → p' t = true → p t = true) : c ≤ c' := by
  rcases Nat.lt_or_ge c' c with h1 | h1
  · have h2 := h.2.1 c' h1
    have h3 := hp c' (by have := h.1; omega) (h'.2.2 c' (Nat.le_refl _) (by have := h.1; omega))
    rw [h2] at h3
    cases h3
  · exact h1
theorem bound_ex (p : Nat → Bool) (n : Nat) (hm : ∀ a b, a ≤ b → b < n → p a = true → p b = true) : ∃ c, Bound p n c := by
  induction n with
  | zero => exact ⟨0, Nat.le_refl _, fun t ht => absurd ht (Nat.not_lt_zero _), fun t _ ht => absurd ht (Nat.not_lt_zero _)⟩
  | succ n ih =>
    obtain ⟨c, h1, h2, h3⟩ := ih fun a b hab hb => hm a b hab (by omega)
    rcases Nat.lt_or_ge c n with hc | hc
    · refine ⟨c, by omega, h2, fun t ht htn => ?_⟩
      rcases Nat.lt_or_ge t n with h4 | h4
      · exact h3 t ht h4
      · obtain rfl : t = n := by omega
        exact hm c t (by omega) (by omega) (h3 c (Nat.le_refl _) hc)
    · obtain rfl : c = n := by omega
      cases hp : p c
      · exact ⟨c + 1, Nat.le_refl _, fun t ht => (Nat.lt_or_ge t c).elim (h2 t) fun h4 => by obtain rfl : t = c := by omega
                                                                                             exact hp, fun t h4 h5 => by omega⟩
      · exact ⟨c, by omega, h2, fun t h4 h5 => by obtain rfl : t = c := by omega
                                                  exact hp⟩
set_option maxRecDepth 20000 in
set_option maxHeartbeats 2000000 in
theorem search_any (g : Nat) (cb : Array Value) (n c : Nat) (p : Nat → Bool) (w : World) (hn : n ≤ 1048576) (eg : ∀ args w, (callFunc g args).run Tryz.prog w = .ok (.enter g args) w)
    (hf : ∀ W, Below w.heap.size w W → ∀ i, i < n → Calls Tryz.prog g (#[.int .i64 i] ++ cb) W fun e w' => e = .returned (.bool (p i)) ∧ Below W.heap.size W w') (hb : Bound p n c) :
    Calls Tryz.prog 101 #[.int .i64 n, .func (.func g) #[] cb] w fun e w' => e = .returned (.int .i64 c) ∧ Below w.heap.size w w' := by
  have HF := hide hf
  have HB := hide hb
  clear hf hb
  go_enter Tryz.func101, Tryz.ntmps101
  go_wp2_with fail
  go_loopw [5, 6] (fun i j wr => ∃ lo hi : Nat, i = .int .i64 lo ∧ j = .int .i64 hi ∧ lo ≤ c ∧ c ≤ hi ∧ hi ≤ n ∧ Below w.heap.size w wr)
    (fun i j _ => (intOf j).toNat - (intOf i).toNat)
  case atStart => exact ⟨0, n, rfl, rfl, Nat.zero_le _, HB.out.1, Nat.le_refl _, Below.refl _ _⟩
  case round =>
    obtain ⟨lo, hi, rfl, rfl, h1, h2, h3, hb⟩ := hrel
    by_cases hlt : lo < hi
    · have KF := HF.out wr hb ((lo + hi) / 2) (by omega)
      rw [show (((lo + hi) / 2 : Nat) : Int) = ((lo : Int) + (hi : Int)) / 2 by omega] at KF
      by_cases hm : (lo + hi) / 2 < c
      · rw [HB.out.2.1 _ hm] at KF
        go_wp2_with fail
        refine KF.mono ?_
        rintro e w1 ⟨rfl, hb1⟩
        have b1 := step_below hb1 hb
        go_wp2_with fail
        go_roundw
        case rel => exact ⟨(lo + hi) / 2 + 1, hi, by rw [show ((lo : Int) + (hi : Int)) / 2 + 1 = (((lo + hi) / 2 + 1 : Nat) : Int) by omega], rfl, by omega, h2, h3, b1⟩
        case measure => simp [intOf]; omega
      · rw [HB.out.2.2 _ (by omega) (by omega)] at KF
        go_wp2_with fail
        refine KF.mono ?_
        rintro e w1 ⟨rfl, hb1⟩
        have b1 := step_below hb1 hb
        go_wp2_with fail
        go_roundw
        case rel => exact ⟨lo, (lo + hi) / 2, rfl, by rw [show ((lo : Int) + (hi : Int)) / 2 = (((lo + hi) / 2 : Nat) : Int) by omega], h1, by omega, by omega, b1⟩
        case measure => simp [intOf]; omega
    · obtain rfl : lo = c := by omega
      go_wp2
      go_ret
      exact ⟨rfl, hb⟩
set_option maxRecDepth 20000 in
theorem first1_any (g h : Nat) (A : Option Addr) (c : Nat) (l : List (Int × Int)) (s : Int) (k : Nat) (w : World) (h1 : w.cell? ⟨g, 0, none⟩ = some (.slice A l.length c)) (h2 : Nb w h s) (hA : NA w A l) (hn : l.length ≤ 1048576) (hwf : WF l) (hk : k < l.length) :
    Calls Tryz.prog 102 #[.int .i64 k, .pointer (some ⟨g, 0, none⟩), .pointer (some ⟨h, 0, none⟩)] w fun e w' => e = .returned (.bool (decide (s ≤ nAt l k))) ∧ Below w.heap.size w w' := by
  obtain ⟨b, o, rfl, hbb, c1, c2⟩ := hA k hk
  obtain ⟨⟨n1, n2⟩, _, _⟩ := hwf k hk
  have e1 := Later.cell h1
  have e2 := Later.cell h2.1
  have e3 := Later.cell c1
  clear h1 h2 c1 c2 hA
  obtain ⟨x, hx⟩ : ∃ x, x = nAt l k := ⟨_, rfl⟩
  rw [← hx] at e3 n1 n2 ⊢
  clear hx
  go_enter Tryz.func102, Tryz.ntmps102
  go_wp2_with fail
  refine wp_region_later (by kernel_rfl) (by kernel_rfl) ?_
  repeat (go_big_quiet_step (fail))
  refine wpQuiet_nil ?_
  rintro wz ⟨⟨_, hq'⟩, rfl⟩
  go_wp2
  go_ret
  exact ⟨rfl, hq'⟩
set_option maxRecDepth 20000 in
set_option maxHeartbeats 1000000 in
theorem firstFrom_any (A : Option Addr) (c : Nat) (l : List (Int × Int)) (s : Int) (c0 : Nat) (w : World) (hA : NA w A l) (hn : l.length ≤ 1048576) (hwf : WF l) (hB : Bound (fun t => decide (s ≤ nAt l t)) l.length c0) :
    Calls Tryz.prog 87 #[.slice A l.length c, .int .i64 s] w fun e w' => e = .returned (.int .i64 c0) ∧ Below w.heap.size w w' := by
  have hmf : ∀ (fn : Fn) (first cap : Array Value) (w : World), (Instr.makeFunc fn first cap).run Tryz.prog w = .ok (.func fn first cap) w := fun _ _ _ _ => rfl
  have eg : ∀ args w, (callFunc 102 args).run Tryz.prog w = .ok (.enter 102 args) w := fun _ _ => by kernel_rfl
  obtain ⟨X, hX⟩ : ∃ X, X = (w.alloc (.cells #[.slice A l.length c] 36)).alloc (.cells #[.int .i64 s] 2) := ⟨_, rfl⟩
  have hb0 : Below w.heap.size w X := by rw [hX]; exact ((Below.refl _ _).alloc (Nat.le_refl _) _).alloc (by simp) _
  have S1 : X.cell? ⟨w.heap.size, 0, none⟩ = some (.slice A l.length c) ∧ w.heap.size < X.heap.size := by rw [hX]; exact ⟨by simp [go_sem, World.cell?_alloc_past], by simp; omega⟩
  have N2 : Nb X (w.heap.size + 1) s := by rw [hX]; exact ⟨by simp [go_sem], by simp⟩
  have KS := search_any 102 #[.pointer (some ⟨w.heap.size, 0, none⟩), .pointer (some ⟨w.heap.size + 1, 0, none⟩)] l.length c0 (fun t => decide (s ≤ nAt l t)) X hn eg (fun W hW k hk =>
    first1_any w.heap.size (w.heap.size + 1) A c l s k W ((hW.cell (p := ⟨w.heap.size, 0, none⟩) S1.2).trans S1.1) (N2.keep hW) (hA.below (step_below hW hb0)) hn hwf hk) hB
  clear hB eg
  go_enter Tryz.func87, Tryz.ntmps87
  go_upto_region 1 with fail
  rw [← hX]
  clear hX
  go_wp2_with fail
  refine KS.mono ?_
  rintro e w1 ⟨rfl, hb1⟩
  go_wp2
  go_ret
  exact ⟨rfl, step_below hb1 hb0⟩
theorem NA.part {w : World} {b o : Nat} {l : List (Int × Int)} (h : NA w (some ⟨b, o, none⟩) l) (f m : Nat) : NA w (some ⟨b, o + f * 2, none⟩) ((l.drop f).take m) := by
  intro k hk
  rw [List.length_take, List.length_drop] at hk
  obtain ⟨b', o', e, hb, c1, c2⟩ := h (f + k) (by omega)
  simp only [Option.some.injEq, Addr.mk.injEq, and_true] at e
  obtain ⟨rfl, rfl⟩ := e
  have e0 : ((l.drop f).take m).getD k (0, 0) = l.getD (f + k) (0, 0) := by simp [List.getD, List.getElem?_take, show k < m by omega]
  refine ⟨b, o + f * 2, rfl, hb, ?_, ?_⟩
  · rw [show o + f * 2 + k * 2 = o + (f + k) * 2 by omega, c1]
    simp only [nAt, e0]
  · rw [show o + f * 2 + k * 2 + 1 = o + (f + k) * 2 + 1 by omega, c2]
    simp only [nPi, e0]
end Go.Proofs.YtehmkablandefaaGreatDoor
namespace Go.Proofs.YtehmkablandefaaGreatDoor
open Go.RowKit
/-- a cut of a tune -/
def ctQ (x y : Int) (n : Int × Int) : Bool := decide (x ≤ n.1) && decide (n.1 ≤ y - 1)
def ctM (x : Int) (n : Int × Int) : Int × Int := (n.1 - x, n.2)
def ctL (l : List (Int × Int)) (x y : Int) (k : Nat) : List (Int × Int) := ((l.take k).filter (ctQ x y)).map (ctM x)
def ctP (l : List (Int × Int)) (f e : Nat) : List (Int × Int) := (l.drop f).take (e - f)
def ctG (x y : Int) : Bool := decide (0 ≤ x ∧ x ≤ y ∧ y ≤ 200)
def ctC (l : List (Int × Int)) (x y : Int) : Int := if okB l then (if ctG x y then 0 else 2) else 1
def ctV (l : List (Int × Int)) (x y : Int) : List (Int × Int) := if okB l && ctG x y then ctL l x y l.length else []
theorem ctL_le (l : List (Int × Int)) (x y : Int) (k : Nat) : (ctL l x y k).length ≤ l.length := by
  unfold ctL
  rw [List.length_map]
  refine Nat.le_trans (List.length_filter_le _ _) ?_
  rw [List.length_take]
  omega
theorem ctV_le (l : List (Int × Int)) (x y : Int) : (ctV l x y).length ≤ l.length := by
  unfold ctV
  split
  · exact ctL_le _ _ _ _
  · simp
theorem ctL_succ {l : List (Int × Int)} {k : Nat} (x y : Int) (h : k < l.length) : ctL l x y (k + 1) = ctL l x y k ++ (if ctQ x y (nAt l k, nPi l k) then [ctM x (nAt l k, nPi l k)] else []) := by
  have e : l[k] = (nAt l k, nPi l k) := by simp [nAt, nPi, List.getD, h]
  unfold ctL
  rw [List.take_succ_eq_append_getElem h, List.filter_append, List.map_append, e]
  congr 1
  by_cases hq : ctQ x y (nAt l k, nPi l k)
  · rw [if_pos hq, List.filter_cons_of_pos hq]; rfl
  · rw [if_neg hq, List.filter_cons_of_neg hq]; rfl
theorem bd_ex {l : List (Int × Int)} (h : AscN l) (s : Int) : ∃ c, Bound (fun t => decide (s ≤ nAt l t)) l.length c :=
  bound_ex _ _ fun a b hab hb ha => by
    have h1 : nAt l a ≤ nAt l b := by
      rcases Nat.lt_or_ge a b with h1 | h1
      · have h2 := List.pairwise_iff_getElem.1 h a b (by omega) hb h1
        have e1 : nAt l a = l[a].1 := by simp [nAt, List.getD, show a < l.length by omega]
        have e2 : nAt l b = l[b].1 := by simp [nAt, List.getD, hb]
        unfold ltN at h2
        omega
      · obtain rfl : a = b := by omega
        exact Int.le_refl _
    simp only [decide_eq_true_eq] at ha ⊢
    omega
theorem ct_filter {l : List (Int × Int)} {x y : Int} {f e : Nat} (hf : Bound (fun t => decide (x ≤ nAt l t)) l.length f) (he : Bound (fun t => decide (y ≤ nAt l t)) l.length e) (hfe : f ≤ e) : l.filter (ctQ x y) = ctP l f e := by
  obtain ⟨f1, f2, f3⟩ := hf
  obtain ⟨e1, e2, e3⟩ := he
  simp only [decide_eq_false_iff_not, decide_eq_true_eq] at f2 f3 e2 e3
  have hat : ∀ i (hi : i < l.length), nAt l i = l[i].1 := fun i hi => by simp [nAt, List.getD, hi]
  have hl : l = l.take f ++ (ctP l f e ++ l.drop e) := by
    have h1 := (List.take_append_drop f l).symm
    have h2 := (List.take_append_drop (e - f) (l.drop f)).symm
    rw [List.drop_drop, show f + (e - f) = e by omega] at h2
    rw [ctP, ← h2]
    exact h1
  have p1 : (l.take f).filter (ctQ x y) = [] := List.filter_eq_nil_iff.2 fun a ha => by
    obtain ⟨i, hi, rfl⟩ := List.mem_iff_getElem.1 ha
    rw [List.length_take] at hi
    rw [List.getElem_take]
    have := f2 i (by omega)
    rw [hat i (by omega)] at this
    simp [ctQ]
    omega
  have p2 : (ctP l f e).filter (ctQ x y) = ctP l f e := List.filter_eq_self.2 fun a ha => by
    unfold ctP at ha
    obtain ⟨i, hi, rfl⟩ := List.mem_iff_getElem.1 ha
    rw [List.length_take, List.length_drop] at hi
    rw [List.getElem_take, List.getElem_drop]
    have h1 := f3 (f + i) (by omega) (by omega)
    have h2 := e2 (f + i) (by omega)
    rw [hat (f + i) (by omega)] at h1 h2
    simp [ctQ]
    omega
  have p3 : (l.drop e).filter (ctQ x y) = [] := List.filter_eq_nil_iff.2 fun a ha => by
    obtain ⟨i, hi, rfl⟩ := List.mem_iff_getElem.1 ha
    rw [List.length_drop] at hi
    rw [List.getElem_drop]
    have := e3 (e + i) (by omega) (by omega)
    rw [hat (e + i) (by omega)] at this
    simp [ctQ]
    omega
  calc l.filter (ctQ x y) = (l.take f ++ (ctP l f e ++ l.drop e)).filter (ctQ x y) := by rw [← hl]
    _ = ctP l f e := by rw [List.filter_append, List.filter_append, p1, p2, p3]; simp
theorem ct_sub {l : List (Int × Int)} {f e : Nat} {a : Int × Int} (ha : a ∈ ctP l f e) : a ∈ l := List.mem_of_mem_drop (List.mem_of_mem_take ha)
theorem ct_ch {l : List (Int × Int)} {x y : Int} {f e : Nat} (h : okB l = true) (hf : Bound (fun t => decide (x ≤ nAt l t)) l.length f) (he : Bound (fun t => decide (y ≤ nAt l t)) l.length e) (hfe : f ≤ e) (h0 : 0 ≤ x) :
    chV (shP (-x) 0) (ctP l f e) = ctL l x y l.length ∧ chC (shP (-x) 0) (ctP l f e) = 0 := by
  have hfl := ct_filter hf he hfe
  have hasc : AscN (ctP l f e) := List.Pairwise.take (List.Pairwise.drop (asc_of_ok h))
  have hq : ∀ a ∈ ctP l f e, ctQ x y a = true ∧ a ∈ l := fun a ha => ⟨by rw [← hfl] at ha; exact (List.mem_filter.1 ha).2, ct_sub ha⟩
  have ho : chO (shP (-x) 0) (ctP l f e) (ctP l f e).length = true := by
    simp only [chO, List.all_eq_true, List.mem_range]
    intro i hi
    have hm : (ctP l f e)[i] ∈ ctP l f e := List.getElem_mem hi
    obtain ⟨h1, h2⟩ := hq _ hm
    obtain ⟨j, hj, e2⟩ := List.mem_iff_getElem.1 h2
    have h3 := ok_in h j hj
    have e3 : nAt l j = l[j].1 := by simp [nAt, List.getD, hj]
    have e4 : nPi l j = l[j].2 := by simp [nPi, List.getD, hj]
    rw [e3, e4, e2] at h3
    have e5 : nAt (ctP l f e) i = (ctP l f e)[i].1 := by simp [nAt, List.getD, hi]
    have e6 : nPi (ctP l f e) i = (ctP l f e)[i].2 := by simp [nPi, List.getD, hi]
    simp only [ctQ, Bool.and_eq_true, decide_eq_true_eq] at h1
    simp only [shP, noteB, e5, e6, decide_eq_true_eq]
    omega
  refine ⟨?_, by simp [chC, ho]⟩
  rw [chV_asc (chL_asc hasc fun a b _ _ hab => by unfold ltN shP at *; omega)]
  unfold chW
  rw [if_pos ho, chL_map]
  unfold ctL
  rw [List.take_length, hfl]
  refine List.map_congr_left fun a _ => ?_
  simp [shP, ctM]
  omega
set_option maxRecDepth 20000 in
set_option maxHeartbeats 2000000 in
theorem between_any (A : Option Addr) (c : Nat) (l : List (Int × Int)) (x y : Int) (f e : Nat) (w : World) (hA : NA w A l) (hn : l.length ≤ 1048576) (hwf : WF l) (hcap : l.length ≤ c) (hf : Bound (fun t => decide (x ≤ nAt l t)) l.length f) (he : Bound (fun t => decide (y ≤ nAt l t)) l.length e) (hfe : f ≤ e) :
    Calls Tryz.prog 69 #[.slice A l.length c, .int .i64 x, .int .i64 y] w fun en w' => (∃ A', en = .returned (.slice A' (e - f) (e - f)) ∧ NA w A' (ctP l f e)) ∧ Below w.heap.size w w' := by
  have hel := he.1
  have K1 : ∀ W, Below w.heap.size w W → Calls Tryz.prog 87 #[.slice A l.length c, .int .i64 x] W fun e w' => e = .returned (.int .i64 f) ∧ Below W.heap.size W w' := fun W hW => firstFrom_any A c l x f W (hA.below hW) hn hwf hf
  have K2 : ∀ W, Below w.heap.size w W → Calls Tryz.prog 87 #[.slice A l.length c, .int .i64 y] W fun en w' => en = .returned (.int .i64 e) ∧ Below W.heap.size W w' := fun W hW => firstFrom_any A c l y e W (hA.below hW) hn hwf he
  clear hf he
  rcases Nat.eq_zero_or_pos l.length with h0 | h0
  · obtain rfl : e = 0 := by omega
    obtain rfl : f = 0 := by omega
    have hP : ∀ A', NA w A' (ctP l 0 0) := fun A' k hk => absurd hk (by simp [ctP])
    clear h0
    cases A with
    | none =>
      go_enter Tryz.func69, Tryz.ntmps69
      go_wp2_with fail
      refine (K1 _ (Below.refl _ _)).mono ?_
      rintro en w1 ⟨rfl, hb1⟩
      go_wp2_with fail
      refine (K2 _ hb1).mono ?_
      rintro en w2 ⟨rfl, hb2⟩
      go_wp2
      go_ret
      exact ⟨⟨_, rfl, hP _⟩, step_below hb2 hb1⟩
    | some ad =>
      obtain ⟨ab, ao, asp⟩ := ad
      go_enter Tryz.func69, Tryz.ntmps69
      go_wp2_with fail
      refine (K1 _ (Below.refl _ _)).mono ?_
      rintro en w1 ⟨rfl, hb1⟩
      go_wp2_with fail
      refine (K2 _ hb1).mono ?_
      rintro en w2 ⟨rfl, hb2⟩
      go_wp2
      all_goals go_ret
      all_goals exact ⟨⟨_, rfl, hP _⟩, step_below hb2 hb1⟩
  · obtain ⟨b, o, rfl, hbb, _, _⟩ := hA 0 h0
    have hP := hA.part f (e - f)
    have hP2 : ∀ o' g, NA w (some ⟨b, o', none⟩) (ctP l g g) := fun o' g k hk => absurd hk (by simp [ctP])
    go_enter Tryz.func69, Tryz.ntmps69
    go_wp2_with fail
    refine (K1 _ (Below.refl _ _)).mono ?_
    rintro en w1 ⟨rfl, hb1⟩
    go_wp2_with fail
    refine (K2 _ hb1).mono ?_
    rintro en w2 ⟨rfl, hb2⟩
    go_wp2
    all_goals go_ret
    all_goals first | exact ⟨⟨_, rfl, hP⟩, step_below hb2 hb1⟩ | exact ⟨⟨_, rfl, hP2 _ _⟩, step_below hb2 hb1⟩
end Go.Proofs.YtehmkablandefaaGreatDoor
