import Derived.Test.YtmjpecneaenlpaaDoorGan
namespace Go.Proofs.YtmjpecneaenlpaaDoor
open Go.RowKit
abbrev Xc := Bool × Int × Int × Int
def xcI (x : Xc) : Bool := xcB x.1 x.2.1 x.2.2.1 x.2.2.2
def xsB (l : List Xc) : Bool := l.all xcI
theorem ch_eta (l : List Xc) (k : Nat) (h : k < l.length) : xcI l[k] = xcB (chA l k) (chL l k) (chO l k) (chT l k) := by
  rw [← ch_get l k h]; rfl
def XG (l : List Xc) (k : Nat) : Prop := ∀ j, j < k → xcB (chA l j) (chL l j) (chO l j) (chT l j) = true
theorem XG_succ {l : List Xc} {k : Nat} (h : XG l k) (hk : xcB (chA l k) (chL l k) (chO l k) (chT l k) = true) : XG l (k + 1) := fun j hj => by
  rcases Nat.lt_or_ge j k with h1 | h1
  · exact h j h1
  · obtain rfl : j = k := by omega
    exact hk
theorem xsB_yes {l : List Xc} (h : XG l l.length) : xsB l = true := by
  unfold xsB
  rw [List.all_eq_true]
  intro x hx
  obtain ⟨i, hi, rfl⟩ := List.mem_iff_getElem.1 hx
  rw [ch_eta l i hi]
  exact h i hi
theorem xsB_no {l : List Xc} {k : Nat} (hk : k < l.length) (h : xcB (chA l k) (chL l k) (chO l k) (chT l k) = false) : xsB l = false := by
  unfold xsB
  rw [List.all_eq_false]
  exact ⟨l[k], List.getElem_mem hk, by rw [ch_eta l k hk, h]; decide⟩
theorem areChoices1_any (a : Bool) (l o t : Int) (w : World) (hw : XcWF a l o t) :
    Calls Tryd.prog 96 #[.agg #[.bool a, .int .i8 l, .int .i8 o, .int .i8 t]] w (Says (!xcB a l o t) w) := by
  have hb0 : Below w.heap.size w (w.alloc (.cells #[.bool a, .int .i8 l, .int .i8 o, .int .i8 t] 75)) := (Below.refl _ _).alloc (Nat.le_refl _) _
  have K : ∀ W, Calls Tryd.prog 97 #[.agg #[.bool a, .int .i8 l, .int .i8 o, .int .i8 t]] W (Says (xcB a l o t) W) := fun W => by
    cases a
    · exact implChoiceIn_any l o t W hw
    · exact implChoiceAway_any l o t W hw
  generalize xcB a l o t = r at K ⊢
  go_enter Tryd.func96, Tryd.ntmps96
  go_wp2_with (go_at_call 97; refine (K _).mono ?_; rintro e w' ⟨rfl, hb⟩)
  go_ret
  exact ⟨rfl, by first | exact hb | exact hb0.trans (hb.mono hb0.size)⟩
set_option maxRecDepth 20000 in
set_option maxHeartbeats 1000000 in
theorem indexChoices_any (A : Option Addr) (c : Nat) (l : List Xc) (w : World) (hA : ChA w A l) (hn : l.length ≤ 1048576) (hwf : ChWF l) :
    Calls Tryd.prog 121 #[.slice A l.length c, .func (.func 96) #[] #[]] w fun e w' => ∃ r : Int, e = .returned (.int .i64 r) ∧ (0 ≤ r ↔ xsB l = false) ∧ Below w.heap.size w w' := by
  go_enter Tryd.func121, Tryd.ntmps121
  go_wp2_with fail
  go_loopw [8] (fun i wr => ∃ k : Nat, k ≤ l.length ∧ i = .int .i64 k ∧ XG l k ∧ Below w.heap.size w wr)
    (fun i _ => l.length - (intOf i).toNat)
  case atStart => exact ⟨0, Nat.zero_le _, rfl, fun j hj => absurd hj (Nat.not_lt_zero _), Below.refl _ _⟩
  case round =>
    obtain ⟨k, hk, rfl, hG, hb⟩ := hrel
    have HG := hide hG
    clear hG
    by_cases hlt : k < l.length
    · obtain ⟨b, o, rfl, hbb, c1, c2, c3, c4⟩ := hA k hlt
      have d1 := (hb.cell (p := ⟨b, o + k * 4, none⟩) hbb).trans c1
      have d2 := (hb.cell (p := ⟨b, o + k * 4 + 1, none⟩) hbb).trans c2
      have d3 := (hb.cell (p := ⟨b, o + k * 4 + 2, none⟩) hbb).trans c3
      have d4 := (hb.cell (p := ⟨b, o + k * 4 + 3, none⟩) hbb).trans c4
      clear c1 c2 c3 c4
      cases hi : xcB (chA l k) (chL l k) (chO l k) (chT l k)
      · have K1 := fun W => areChoices1_any (chA l k) (chL l k) (chO l k) (chT l k) W (hwf k hlt)
        rw [hi] at K1
        have HI := hide hi
        clear hi hA
        go_wp2_with fail
        refine (K1 _).mono ?_
        rintro e w2 ⟨rfl, hb2⟩
        have hb3 := hb.trans (hb2.mono hb.size)
        go_wp2
        go_ret
        exact ⟨_, rfl, ⟨fun _ => xsB_no hlt HI.out, fun _ => by omega⟩, hb3⟩
      · have K1 := fun W => areChoices1_any (chA l k) (chL l k) (chO l k) (chT l k) W (hwf k hlt)
        rw [hi] at K1
        have HI := hide hi
        clear hi hA
        go_wp2_with fail
        refine (K1 _).mono ?_
        rintro e w2 ⟨rfl, hb2⟩
        have hb3 := hb.trans (hb2.mono hb.size)
        go_wp2
        go_roundw
        case rel => exact ⟨k + 1, hlt, by go_num, XG_succ HG.out HI.out, hb3⟩
        case measure => simp [intOf]; omega
    · obtain rfl : k = l.length := by omega
      have HS := hide (xsB_yes HG.out)
      go_wp2
      go_ret
      exact ⟨_, rfl, ⟨fun h => absurd h (by decide), fun h => by rw [HS.out] at h; cases h⟩, hb⟩
theorem containsChoices_any (A : Option Addr) (c : Nat) (l : List Xc) (w : World) (hA : ChA w A l) (hn : l.length ≤ 1048576) (hwf : ChWF l) :
    Calls Tryd.prog 95 #[.slice A l.length c, .func (.func 96) #[] #[]] w (Says (!xsB l) w) := by
  go_enter Tryd.func95, Tryd.ntmps95
  go_wp2_with fail
  refine (indexChoices_any A c l w hA hn hwf).mono ?_
  rintro e w' ⟨r, rfl, hr, hb⟩
  have HR := hide hr
  clear hr
  go_wp2
  go_ret
  refine ⟨ret_bool ?_, hb⟩
  have := HR.out
  cases hs : xsB l
  · simp [this.2 hs]
  · simp
    rcases Int.lt_or_le r 0 with h | h
    · exact h
    · have := this.1 h; rw [hs] at this; cases this
theorem areChoices_any (A : Option Addr) (c : Nat) (l : List Xc) (w : World) (hA : ChA w A l) (hn : l.length ≤ 1048576) (hwf : ChWF l) :
    Calls Tryd.prog 68 #[.slice A l.length c] w (Says (xsB l) w) := by
  have K := containsChoices_any A c l w hA hn hwf
  generalize xsB l = r at K ⊢
  go_enter Tryd.func68, Tryd.ntmps68
  go_wp2_with fail
  refine K.mono ?_
  rintro e w' ⟨rfl, hb⟩
  go_wp2
  go_ret
  exact ⟨ret_bool (by cases r <;> rfl), hb⟩
set_option maxRecDepth 20000 in
set_option maxHeartbeats 1000000 in
theorem l07Choices_any (A : Option Addr) (c : Nat) (l : List Xc) (w : World) (hA : ChA w A l) (hn : l.length ≤ 1048576) (hwf : ChWF l) :
    Calls Tryd.prog 43 #[.slice A l.length c] w (Says (xsB l) w) := by
  go_enter Tryd.func43, Tryd.ntmps43
  go_wp2_with fail
  go_loopw [3] (fun i wr => ∃ k : Nat, k ≤ l.length ∧ i = .int .i64 k ∧ XG l k ∧ Below w.heap.size w wr)
    (fun i _ => l.length - (intOf i).toNat)
  case atStart => exact ⟨0, Nat.zero_le _, rfl, fun j hj => absurd hj (Nat.not_lt_zero _), Below.refl _ _⟩
  case round =>
    obtain ⟨k, hk, rfl, hG, hb⟩ := hrel
    have HG := hide hG
    clear hG
    by_cases hlt : k < l.length
    · obtain ⟨b, o, rfl, hbb, c1, c2, c3, c4⟩ := hA k hlt
      have d1 := (hb.cell (p := ⟨b, o + k * 4, none⟩) hbb).trans c1
      have d2 := (hb.cell (p := ⟨b, o + k * 4 + 1, none⟩) hbb).trans c2
      have d3 := (hb.cell (p := ⟨b, o + k * 4 + 2, none⟩) hbb).trans c3
      have d4 := (hb.cell (p := ⟨b, o + k * 4 + 3, none⟩) hbb).trans c4
      clear c1 c2 c3 c4
      cases hi : xcB (chA l k) (chL l k) (chO l k) (chT l k)
      · have K1 := fun W => l07Choice_any (chA l k) (chL l k) (chO l k) (chT l k) W (hwf k hlt)
        rw [hi] at K1
        have HX := hide (xsB_no hlt hi)
        clear hi hA
        go_wp2_with fail
        refine (K1 _).mono ?_
        rintro e w2 ⟨rfl, hb2⟩
        have hb3 := hb.trans (hb2.mono hb.size)
        go_wp2
        go_ret
        exact ⟨ret_bool HX.out.symm, hb3⟩
      · have K1 := fun W => l07Choice_any (chA l k) (chL l k) (chO l k) (chT l k) W (hwf k hlt)
        rw [hi] at K1
        have HI := hide hi
        clear hi hA
        go_wp2_with fail
        refine (K1 _).mono ?_
        rintro e w2 ⟨rfl, hb2⟩
        have hb3 := hb.trans (hb2.mono hb.size)
        go_wp2
        go_roundw
        case rel => exact ⟨k + 1, hlt, by go_num, XG_succ HG.out HI.out, hb3⟩
        case measure => simp [intOf]; omega
    · obtain rfl : k = l.length := by omega
      have HS := hide (xsB_yes HG.out)
      go_wp2
      go_ret
      exact ⟨ret_bool HS.out.symm, hb⟩
/-- what a choice costs -/
def coX (a o s : Int) (xa : Bool) (xl xo : Int) : Int := if xa then a else s * max xl (-xl) + if xo = 0 then 0 else o
theorem coX_bound {a o s : Int} (h : coB a o s = true) {xa : Bool} {xl xo xt : Int} (hx : xcB xa xl xo xt = true) : 0 ≤ coX a o s xa xl xo ∧ coX a o s xa xl xo ≤ 4000 := by
  simp [coB, inB] at h
  obtain ⟨⟨h1, h2⟩, h3⟩ := h
  unfold coX
  cases xa
  · simp [xcB, inB] at hx
    have e1 : 0 ≤ max xl (-xl) ∧ max xl (-xl) ≤ 3 := by omega
    have e2 : 0 ≤ s * max xl (-xl) := Int.mul_nonneg (by omega) e1.1
    have e3 : s * max xl (-xl) ≤ 1000 * 3 := Int.mul_le_mul (by omega) e1.2 e1.1 (by omega)
    simp only [Bool.false_eq_true, if_false]
    split <;> omega
  · simp; omega
end Go.Proofs.YtmjpecneaenlpaaDoor
