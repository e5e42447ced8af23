import Derived.Test.YtcocfnjbgceidaaGreatPie
import Derived.Test.YtcocfnjbgceidaaGreatExc
import Derived.IntWalk
namespace Go.Proofs.YtcocfnjbgceidaaGreat
open Go.RowKit Go.Maps
/-- how often something is made new for so many turns -/
def rnN (u e L t : Int) : Int := if e = 0 then 0 else if t < (L - u) / e + 1 then 0 else 1 + (t - ((L - u) / e + 1)) / (L / e)
/-- how many turns it can make -/
def tlN (u e L : Int) : Int := if e = 0 then 1000000 else (L - u) / e
/-- a piece that is not worn out -/
def PcOk (x : Int × Int × Int × Int × Int) : Prop := (0 ≤ x.2.2.1 ∧ x.2.2.1 ≤ x.2.2.2.2) ∧ (1 ≤ x.2.2.2.2 ∧ x.2.2.2.2 ≤ 1000000) ∧ 0 ≤ x.2.2.2.1 ∧ x.2.2.2.1 ≤ 1048576
theorem tl_bounds {u e L : Int} (hu : 0 ≤ u ∧ u ≤ L) (hL : L ≤ 1000000) (he : 1 ≤ e) : 0 ≤ (L - u) / e ∧ (L - u) / e ≤ 1000000 := by
  have := IntWalk.tdiv_le (L - u) e (by omega) he
  omega
theorem rn_bounds {u e L t : Int} (hu : 0 ≤ u ∧ u ≤ L) (hL : L ≤ 1000000) (he : 0 ≤ e ∧ e ≤ L) (ht : 0 ≤ t ∧ t ≤ 1000000) : 0 ≤ rnN u e L t ∧ rnN u e L t ≤ 1000001 := by
  unfold rnN
  split
  · omega
  · split
    · omega
    · have h1 := tl_bounds hu hL (show 1 ≤ e by omega)
      have h2 : 1 ≤ L / e := (Int.le_ediv_iff_mul_le (by omega)).2 (by omega)
      have h3 := IntWalk.tdiv_le (t - ((L - u) / e + 1)) (L / e) (by omega) h2
      omega
theorem rn_weak {u e L t : Int} (hu : 0 ≤ u ∧ u ≤ L) (ht : t ≤ 1000000) (h : t < tlN u e L + 1) : rnN u e L t = 0 := by
  unfold rnN
  unfold tlN at h
  split
  · rfl
  · rename_i h0
    rw [if_neg h0] at h
    rw [if_pos h]
set_option maxRecDepth 20000 in
set_option maxHeartbeats 1000000 in
theorem turnsLeft_any (p q u e L : Int) (w : World) (hu : 0 ≤ u ∧ u ≤ L) (hL : L ≤ 1000000) (he : 0 ≤ e) :
    Calls Tryz.prog 123 #[.agg #[.int .i64 p, .int .i64 q, .int .i64 u, .int .i64 e, .int .i64 L]] w fun r w' => r = .returned (.int .i64 (tlN u e L)) ∧ Below w.heap.size w w' := by
  obtain ⟨X, hX⟩ : ∃ X, X = w.alloc (.cells #[.int .i64 p, .int .i64 q, .int .i64 u, .int .i64 e, .int .i64 L] 156) := ⟨_, rfl⟩
  have hb0 : Below w.heap.size w X := by rw [hX]; exact (Below.refl _ _).alloc (Nat.le_refl _) _
  have P0 : Bk X w.heap.size 156 #[.int .i64 p, .int .i64 q, .int .i64 u, .int .i64 e, .int .i64 L] := by rw [hX]; exact Bk.new _ _ _ rfl
  go_enter Tryz.func123, Tryz.ntmps123
  go_upto_region 1 with fail
  rw [← hX]
  clear hX
  have c2 := P0.cell (i := 2) rfl
  have c3 := P0.cell (i := 3) rfl
  have c4 := P0.cell (i := 4) rfl
  by_cases h0 : e = 0
  · have HR := hide (show tlN u e L = 1000000 by rw [tlN, if_pos h0])
    have hq : (e == 0) = true := by simpa using h0
    clear h0
    go_wp2
    go_ret
    exact ⟨by rw [HR.out]; rfl, hb0⟩
  · have HR := hide (show tlN u e L = (L - u) / e by rw [tlN, if_neg h0])
    have hq : (e == 0) = false := by simpa using h0
    obtain ⟨x1, x2⟩ := tl_bounds hu hL (show 1 ≤ e by omega)
    have hw0 : IntKind.i64.wrap (L - u) = L - u := IntWalk.i64_in _ (by omega)
    have hti : (L - u).tdiv e = (L - u) / e := Int.tdiv_eq_ediv_of_nonneg (by omega)
    obtain ⟨y, hy⟩ : ∃ y, y = (L - u) / e := ⟨_, rfl⟩
    rw [← hy] at hti HR x1 x2
    have hw1 : IntKind.i64.wrap y = y := IntWalk.i64_in _ (by omega)
    have hm1 : min y 1000000 = y := by omega
    have hm2 : min 1000000 y = y := by omega
    clear hy hu
    go_wp2
    go_ret
    exact ⟨by rw [HR.out]; rfl, hb0⟩
set_option maxRecDepth 20000 in
set_option maxHeartbeats 1000000 in
theorem renewals_any (p q u e L t : Int) (w : World) (hu : 0 ≤ u ∧ u ≤ L) (hL : L ≤ 1000000) (he : 0 ≤ e ∧ e ≤ L) (ht : 0 ≤ t ∧ t ≤ 1000000) :
    Calls Tryz.prog 114 #[.agg #[.int .i64 p, .int .i64 q, .int .i64 u, .int .i64 e, .int .i64 L], .int .i64 t] w fun r w' => r = .returned (.int .i64 (rnN u e L t)) ∧ Below w.heap.size w w' := by
  obtain ⟨X, hX⟩ : ∃ X, X = w.alloc (.cells #[.int .i64 p, .int .i64 q, .int .i64 u, .int .i64 e, .int .i64 L] 156) := ⟨_, rfl⟩
  have hb0 : Below w.heap.size w X := by rw [hX]; exact (Below.refl _ _).alloc (Nat.le_refl _) _
  have P0 : Bk X w.heap.size 156 #[.int .i64 p, .int .i64 q, .int .i64 u, .int .i64 e, .int .i64 L] := by rw [hX]; exact Bk.new _ _ _ rfl
  have KT := turnsLeft_any p q u e L X hu hL he.1
  go_enter Tryz.func114, Tryz.ntmps114
  go_upto_region 1 with fail
  rw [← hX]
  clear hX
  have c0 := P0.cell (i := 0) rfl
  have c1 := P0.cell (i := 1) rfl
  have c2 := P0.cell (i := 2) rfl
  have c3 := P0.cell (i := 3) rfl
  have c4 := P0.cell (i := 4) rfl
  have hb1 : 0 ≤ tlN u e L ∧ tlN u e L ≤ 1000000 := by
    unfold tlN
    split
    · omega
    · exact tl_bounds hu hL (by omega)
  have HW := hide (fun h => rn_weak (u := u) (e := e) (L := L) (t := t) hu ht.2 h)
  have HS := hide (show ¬ t < tlN u e L + 1 → e ≠ 0 ∧ rnN u e L t = 1 + (t - (tlN u e L + 1)) / (L / e) ∧ 1 ≤ L / e ∧ L / e ≤ L from fun h => by
    have h0 : e ≠ 0 := fun h0 => by rw [tlN, if_pos h0] at h; omega
    have h2 : 1 ≤ L / e := (Int.le_ediv_iff_mul_le (by omega)).2 (by omega)
    have h3 := IntWalk.tdiv_le L e (by omega) (by omega)
    rw [tlN, if_neg h0] at h ⊢
    exact ⟨h0, by rw [rnN, if_neg h0, if_neg h], h2, h3.2⟩)
  generalize tlN u e L = y at *
  have hw0 : IntKind.i64.wrap (y + 1) = y + 1 := IntWalk.i64_in _ (by omega)
  go_wp2_with fail
  refine KT.mono ?_
  rintro r w2 ⟨rfl, hb2⟩
  have b2 := step_below hb2 hb0
  have P2 := P0.keep hb2
  clear c0 c1 c2 c3 c4 KT
  by_cases hlt : t < y + 1
  · have HR := hide (HW.out hlt)
    have hd : decide (t < y + 1) = true := by simpa using hlt
    go_wp2
    go_ret
    exact ⟨by rw [HR.out]; rfl, b2⟩
  · obtain ⟨h0, hr, l1, l2⟩ := HS.out (by omega)
    have HR := hide hr
    have hd : decide (t < y + 1) = false := by simpa using hlt
    have c3 := P2.cell (i := 3) rfl
    have c4 := P2.cell (i := 4) rfl
    have hq : (e == 0) = false := by simpa using h0
    have hti : L.tdiv e = L / e := Int.tdiv_eq_ediv_of_nonneg (by omega)
    obtain ⟨m, hm⟩ : ∃ m, m = L / e := ⟨_, rfl⟩
    rw [← hm] at hti HR l1 l2
    have hq2 : (m == 0) = false := beq_eq_false_iff_ne.2 (by omega)
    have hw1 : IntKind.i64.wrap m = m := IntWalk.i64_in _ (by omega)
    have hw2 : IntKind.i64.wrap (t - (y + 1)) = t - (y + 1) := IntWalk.i64_in _ (by omega)
    have hti2 : (t - (y + 1)).tdiv m = (t - (y + 1)) / m := Int.tdiv_eq_ediv_of_nonneg (by omega)
    obtain ⟨x1, x2⟩ := IntWalk.tdiv_le (t - (y + 1)) m (by omega) l1
    obtain ⟨d, hd2⟩ : ∃ d, d = (t - (y + 1)) / m := ⟨_, rfl⟩
    rw [← hd2] at hti2 HR x1 x2
    have hw3 : IntKind.i64.wrap d = d := IntWalk.i64_in _ (by omega)
    have hw4 : IntKind.i64.wrap (1 + d) = 1 + d := IntWalk.i64_in _ (by omega)
    have hm0 : ¬ m = 0 := by omega
    have h00 : ¬ e = 0 := h0
    clear hr h0 hm hd2 hlt
    go_wp2
    go_ret
    exact ⟨by rw [HR.out]; rfl, b2⟩
theorem tooWeak_any (p q u e L : Int) (w : World) :
    Calls Tryz.prog 96 #[.agg #[.int .i64 p, .int .i64 q, .int .i64 u, .int .i64 e, .int .i64 L]] w fun r w' => r = .returned (.bool (decide (L < e))) ∧ Below w.heap.size w w' := by
  obtain ⟨X, hX⟩ : ∃ X, X = w.alloc (.cells #[.int .i64 p, .int .i64 q, .int .i64 u, .int .i64 e, .int .i64 L] 156) := ⟨_, rfl⟩
  have hb0 : Below w.heap.size w X := by rw [hX]; exact (Below.refl _ _).alloc (Nat.le_refl _) _
  have P0 : Bk X w.heap.size 156 #[.int .i64 p, .int .i64 q, .int .i64 u, .int .i64 e, .int .i64 L] := by rw [hX]; exact Bk.new _ _ _ rfl
  go_enter Tryz.func96, Tryz.ntmps96
  go_upto_region 1 with fail
  rw [← hX]
  clear hX
  have c3 := P0.cell (i := 3) rfl
  have c4 := P0.cell (i := 4) rfl
  go_wp2
  go_ret
  exact ⟨rfl, hb0⟩
theorem pc_any_hit {l : List (Int × Int × Int × Int × Int)} {k : Nat} (hk : k < l.length) (h : pcL l k < pcM l k) : l.any (fun x => decide (x.2.2.2.2 < x.2.2.2.1)) = true := by
  rw [List.any_eq_true]
  exact ⟨l[k], List.getElem_mem hk, by rw [← pc_get l k hk]; simpa using h⟩
theorem pc_any_miss {l : List (Int × Int × Int × Int × Int)} (h : ∀ j, j < l.length → ¬ pcL l j < pcM l j) : l.any (fun x => decide (x.2.2.2.2 < x.2.2.2.1)) = false := by
  rw [List.any_eq_false]
  intro x hx
  obtain ⟨k, hk, rfl⟩ := List.mem_iff_getElem.1 hx
  have := h k hk
  rw [← pc_get l k hk]
  simpa using this
set_option maxRecDepth 20000 in
set_option maxHeartbeats 1000000 in
theorem indexPc_any (A : Option Addr) (c : Nat) (l : List (Int × Int × Int × Int × Int)) (w : World) (hA : PcA w A l) (hn : l.length ≤ 1048576) (bq : Bool) (hbq : l.any (fun x => decide (x.2.2.2.2 < x.2.2.2.1)) = bq) :
    Calls Tryz.prog 113 #[.slice A l.length c, .func (.func 96) #[] #[]] w fun e w' => ∃ r : Int, e = .returned (.int .i64 r) ∧ (0 ≤ r ↔ bq = true) ∧ Below w.heap.size w w' := by
  have HB := hide hbq
  clear hbq
  go_enter Tryz.func113, Tryz.ntmps113
  go_wp2_with fail
  go_loopw [8] (fun i wr => ∃ k : Nat, k ≤ l.length ∧ i = .int .i64 k ∧ (∀ j, j < k → ¬ pcL l j < pcM l j) ∧ Below w.heap.size w wr)
    (fun i _ => l.length - (intOf i).toNat)
  case atStart => exact ⟨0, Nat.zero_le _, rfl, fun j hj => absurd hj (Nat.not_lt_zero _), Below.refl _ _⟩
  case round =>
    obtain ⟨k, hk, rfl, hG, hb⟩ := hrel
    have HG := hide hG
    clear hG
    by_cases hlt : k < l.length
    · obtain ⟨bb, o, rfl, hbb, c1, c2, c3, c4, c5⟩ := hA k hlt
      have d1 := (hb.cell (p := ⟨bb, o + k * 5, none⟩) hbb).trans c1
      have d2 := (hb.cell (p := ⟨bb, o + k * 5 + 1, none⟩) hbb).trans c2
      have d3 := (hb.cell (p := ⟨bb, o + k * 5 + 2, none⟩) hbb).trans c3
      have d4 := (hb.cell (p := ⟨bb, o + k * 5 + 3, none⟩) hbb).trans c4
      have d5 := (hb.cell (p := ⟨bb, o + k * 5 + 4, none⟩) hbb).trans c5
      have KF := tooWeak_any (pcA l k) (pcB l k) (pcU l k) (pcM l k) (pcL l k) wr
      by_cases hi : pcL l k < pcM l k
      · rw [show decide (pcL l k < pcM l k) = true by simpa using hi] at KF
        have HI := hide (HB.out.symm.trans (pc_any_hit hlt hi))
        clear hi hA c1 c2 c3 c4 c5
        go_wp2_with fail
        refine KF.mono ?_
        rintro e w1 ⟨rfl, hb1⟩
        have b1 := step_below hb1 hb
        go_wp2
        go_ret
        exact ⟨_, rfl, ⟨fun _ => HI.out, fun _ => by omega⟩, b1⟩
      · rw [show decide (pcL l k < pcM l k) = false by simpa using hi] at KF
        have HI := hide hi
        clear hi hA c1 c2 c3 c4 c5
        go_wp2_with fail
        refine KF.mono ?_
        rintro e w1 ⟨rfl, hb1⟩
        have b1 := step_below hb1 hb
        go_wp2_with fail
        go_roundw
        case rel => exact ⟨k + 1, hlt, by go_num, fun j hj => by
          rcases Nat.lt_or_ge j k with h | h
          · have := HG.out j h
            omega
          · obtain rfl : j = k := by omega
            have := HI.out
            omega, b1⟩
        case measure => simp [intOf]; omega
    · obtain rfl : k = l.length := by omega
      have HS := hide (HB.out.symm.trans (pc_any_miss (l := l) fun j hj => by have := HG.out j hj; omega))
      go_wp2
      go_ret
      exact ⟨_, rfl, ⟨fun h => absurd h (by decide), fun h => by rw [HS.out] at h; cases h⟩, hb⟩
theorem containsPc_any (A : Option Addr) (c : Nat) (l : List (Int × Int × Int × Int × Int)) (w : World) (hA : PcA w A l) (hn : l.length ≤ 1048576) :
    Calls Tryz.prog 95 #[.slice A l.length c, .func (.func 96) #[] #[]] w (Says (l.any (fun x => decide (x.2.2.2.2 < x.2.2.2.1))) w) := by
  have KI := indexPc_any A c l w hA hn _ rfl
  generalize l.any (fun x => decide (x.2.2.2.2 < x.2.2.2.1)) = bq at KI ⊢
  go_enter Tryz.func95, Tryz.ntmps95
  go_wp2_with fail
  refine KI.mono ?_
  rintro e w' ⟨r, rfl, hr, hb⟩
  have HR := hide hr
  clear hr
  go_wp2
  go_ret
  refine ⟨ret_bool ?_, hb⟩
  have := HR.out
  cases bq
  · simp
    rcases Int.lt_or_le r 0 with h | h
    · exact h
    · have := this.1 h; cases this
  · simp [this.2 rfl]
/-- how often all pieces are made new -/
def rnS (l : List (Int × Int × Int × Int × Int)) (t : Int) : Int := (l.map fun x => rnN x.2.2.1 x.2.2.2.1 x.2.2.2.2 t).sum
theorem rnS_succ {l : List (Int × Int × Int × Int × Int)} (t : Int) {k : Nat} (hk : k < l.length) : rnS (l.take (k + 1)) t = rnS (l.take k) t + rnN (pcU l k) (pcM l k) (pcL l k) t := by
  unfold rnS
  rw [List.take_succ_eq_append_getElem hk, List.map_append, List.sum_append, ← pc_get l k hk]
  simp
def PcGood (l : List (Int × Int × Int × Int × Int)) : Prop := ∀ k, k < l.length → (0 ≤ pcU l k ∧ pcU l k ≤ pcL l k) ∧ pcL l k ≤ 1000000 ∧ 0 ≤ pcM l k ∧ pcM l k ≤ pcL l k
theorem rnS_bounds {l : List (Int × Int × Int × Int × Int)} {t : Int} (h : PcGood l) (ht : 0 ≤ t ∧ t ≤ 1000000) : ∀ k, k ≤ l.length → 0 ≤ rnS (l.take k) t ∧ rnS (l.take k) t ≤ 1000001 * (k : Int)
  | 0, _ => by simp [rnS]
  | k + 1, hk => by
    have ih := rnS_bounds h ht k (by omega)
    rw [rnS_succ t (by omega)]
    obtain ⟨h1, h2, h3⟩ := h k (by omega)
    have := rn_bounds h1 h2 h3 ht
    omega
set_option maxRecDepth 20000 in
set_option maxHeartbeats 1000000 in
theorem renewalsOf_any (A : Option Addr) (c : Nat) (l : List (Int × Int × Int × Int × Int)) (t : Int) (w : World) (hA : PcA w A l) (hn : l.length ≤ 1048576) (hg : PcGood l) (ht : 0 ≤ t ∧ t ≤ 1000000) :
    Calls Tryz.prog 97 #[.slice A l.length c, .int .i64 t] w fun e w' => e = .returned (.int .i64 (rnS l t)) ∧ Below w.heap.size w w' := by
  go_enter Tryz.func97, Tryz.ntmps97
  go_wp2_with fail
  go_loopw [5, 7, 10] (fun s _ i wr => ∃ k : Nat, k ≤ l.length ∧ i = .int .i64 k ∧ s = .int .i64 (rnS (l.take k) t) ∧ Below w.heap.size w wr)
    (fun _ _ i _ => l.length - (intOf i).toNat)
  case atStart => exact ⟨0, Nat.zero_le _, rfl, rfl, Below.refl _ _⟩
  case round =>
    obtain ⟨k, hk, rfl, rfl, hb⟩ := hrel
    have hbs := hb.size
    by_cases hlt : k < l.length
    · obtain ⟨bb, o, rfl, hbb, c1, c2, c3, c4, c5⟩ := hA k hlt
      have d1 := (hb.cell (p := ⟨bb, o + k * 5, none⟩) hbb).trans c1
      have d2 := (hb.cell (p := ⟨bb, o + k * 5 + 1, none⟩) hbb).trans c2
      have d3 := (hb.cell (p := ⟨bb, o + k * 5 + 2, none⟩) hbb).trans c3
      have d4 := (hb.cell (p := ⟨bb, o + k * 5 + 3, none⟩) hbb).trans c4
      have d5 := (hb.cell (p := ⟨bb, o + k * 5 + 4, none⟩) hbb).trans c5
      obtain ⟨g1, g2, g3⟩ := hg k hlt
      have HS := hide (rnS_succ t hlt)
      have s1 := rnS_bounds hg ht k hk
      have s2 := rn_bounds g1 g2 g3 ht
      obtain ⟨Y, hY⟩ : ∃ Y, Y = wr.alloc (.cells #[.int .i64 (pcA l k), .int .i64 (pcB l k), .int .i64 (pcU l k), .int .i64 (pcM l k), .int .i64 (pcL l k)] 156) := ⟨_, rfl⟩
      have bY : Below wr.heap.size wr Y := by rw [hY]; exact (Below.refl _ _).alloc (Nat.le_refl _) _
      have B0 : Bk Y wr.heap.size 156 #[.int .i64 (pcA l k), .int .i64 (pcB l k), .int .i64 (pcU l k), .int .i64 (pcM l k), .int .i64 (pcL l k)] := by rw [hY]; exact Bk.new _ _ _ rfl
      have KR := renewals_any (pcA l k) (pcB l k) (pcU l k) (pcM l k) (pcL l k) t Y g1 g2 g3 ht
      have hbY := step_below bY hb
      generalize rnS (l.take k) t = S at *
      generalize rnN (pcU l k) (pcM l k) (pcL l k) t = R at *
      have hw1 : IntKind.i64.wrap (S + R) = S + R := IntWalk.i64_in _ (by omega)
      clear hA hg c1 c2 c3 c4 c5 g1 g2 g3
      go_upto_region 5 with fail
      rw [← hY]
      clear hY d1 d2 d3 d4 d5
      have e0 := B0.cell (i := 0) rfl
      have e1 := B0.cell (i := 1) rfl
      have e2 := B0.cell (i := 2) rfl
      have e3 := B0.cell (i := 3) rfl
      have e4 := B0.cell (i := 4) rfl
      go_wp2_with fail
      refine KR.mono ?_
      rintro e w2 ⟨rfl, hb2⟩
      have b2 := step_below hb2 hbY
      clear e0 e1 e2 e3 e4 KR
      go_wp2
      go_roundw
      case rel => exact ⟨k + 1, hlt, by go_num, by rw [HS.out], b2⟩
      case measure => simp [intOf]; omega
    · have HK := hide (show rnS (l.take k) t = rnS l t by rw [List.take_of_length_le (by omega)])
      have hni : ¬ (k : Int) < (l.length : Int) := by omega
      clear hA hg
      go_wp2
      go_ret
      exact ⟨by rw [HK.out]; rfl, hb⟩
end Go.Proofs.YtcocfnjbgceidaaGreat
