import Derived.Test.YtcocfnjbgceidaaGreatGav
import Derived.Test.YtcocfnjbgceidaaGreatGba
namespace Go.Proofs.YtcocfnjbgceidaaGreat
open Go.RowKit Go.Maps
theorem any_hit {z : List Int} {p : Int → Bool} {k : Nat} (hk : k < z.length) (h : p (zAt z k) = true) : z.any p = true := by
  rw [List.any_eq_true]
  exact ⟨z[k], List.getElem_mem hk, by simpa [zAt, List.getD, hk] using h⟩
theorem any_miss {z : List Int} {p : Int → Bool} (h : ∀ j, j < z.length → p (zAt z j) = false) : z.any p = false := by
  rw [List.any_eq_false]
  intro x hx
  obtain ⟨k, hk, rfl⟩ := List.mem_iff_getElem.1 hx
  have := h k hk
  simp [zAt, List.getD, hk] at this
  simp [this]
set_option maxRecDepth 20000 in
set_option maxHeartbeats 1000000 in
theorem indexInt_gen (g : Nat) (cb : Array Value) (U : Option Addr) (v : Nat) (z : List Int) (p : Int → Bool) (w : World) (hU : SZ w U z) (hz : z.length ≤ 1048576) (eg : ∀ args w, (callFunc g args).run Tryz.prog w = .ok (.enter g args) w)
    (hf : ∀ W, Below w.heap.size w W → ∀ i, i < z.length → Calls Tryz.prog g (#[.int .i64 (zAt z i)] ++ cb) W fun e w' => e = .returned (.bool (p (zAt z i))) ∧ Below W.heap.size W w') :
    Calls Tryz.prog 120 #[.slice U z.length v, .func (.func g) #[] cb] w fun e w' => ∃ r : Int, e = .returned (.int .i64 r) ∧ (0 ≤ r ↔ z.any p = true) ∧ Below w.heap.size w w' := by
  have HF := hide hf
  clear hf
  go_enter Tryz.func120, Tryz.ntmps120
  go_wp2_with fail
  go_loopw [8] (fun i wr => ∃ k : Nat, k ≤ z.length ∧ i = .int .i64 k ∧ (∀ j, j < k → p (zAt z j) = false) ∧ Below w.heap.size w wr)
    (fun i _ => z.length - (intOf i).toNat)
  case atStart => exact ⟨0, Nat.zero_le _, rfl, fun j hj => absurd hj (Nat.not_lt_zero _), Below.refl _ _⟩
  case round =>
    obtain ⟨k, hk, rfl, hG, hb⟩ := hrel
    have HG := hide hG
    clear hG
    by_cases hlt : k < z.length
    · obtain ⟨b, o, rfl, hbb, c1⟩ := hU k hlt
      have d1 := (hb.cell (p := ⟨b, o + k, none⟩) hbb).trans c1
      have KF := HF.out wr hb k hlt
      cases hi : p (zAt z k)
      · rw [hi] at KF
        have HI := hide hi
        clear hi hU c1
        go_wp2_with fail
        refine KF.mono ?_
        rintro e w1 ⟨rfl, hb1⟩
        have b1 := step_below hb1 hb
        go_wp2_with fail
        go_roundw
        case rel => exact ⟨k + 1, hlt, by go_num, fun j hj => by
          rcases Nat.lt_or_ge j k with h | h
          · exact HG.out j h
          · obtain rfl : j = k := by omega
            exact HI.out, b1⟩
        case measure => simp [intOf]; omega
      · rw [hi] at KF
        have HI := hide (any_hit hlt hi)
        clear hi hU c1
        go_wp2_with fail
        refine KF.mono ?_
        rintro e w1 ⟨rfl, hb1⟩
        have b1 := step_below hb1 hb
        go_wp2
        go_ret
        exact ⟨_, rfl, ⟨fun _ => HI.out, fun _ => by omega⟩, b1⟩
    · obtain rfl : k = z.length := by omega
      have HS := hide (any_miss HG.out)
      go_wp2
      go_ret
      exact ⟨_, rfl, ⟨fun h => absurd h (by decide), fun h => by rw [HS.out] at h; cases h⟩, hb⟩
theorem containsInt_gen (g : Nat) (cb : Array Value) (U : Option Addr) (v : Nat) (z : List Int) (p : Int → Bool) (w : World) (hU : SZ w U z) (hz : z.length ≤ 1048576) (eg : ∀ args w, (callFunc g args).run Tryz.prog w = .ok (.enter g args) w)
    (hf : ∀ W, Below w.heap.size w W → ∀ i, i < z.length → Calls Tryz.prog g (#[.int .i64 (zAt z i)] ++ cb) W fun e w' => e = .returned (.bool (p (zAt z i))) ∧ Below W.heap.size W w') :
    Calls Tryz.prog 105 #[.slice U z.length v, .func (.func g) #[] cb] w (Says (z.any p) w) := by
  go_enter Tryz.func105, Tryz.ntmps105
  go_wp2_with fail
  refine (indexInt_gen g cb U v z p w hU hz eg hf).mono ?_
  rintro e w' ⟨r, rfl, hr, hb⟩
  have HR := hide hr
  clear hr
  go_wp2
  go_ret
  refine ⟨ret_bool ?_, hb⟩
  have := HR.out
  cases hs : z.any p
  · simp
    rcases Int.lt_or_le r 0 with h | h
    · exact h
    · have := this.1 h; rw [hs] at this; cases this
  · simp [this.2 hs]
theorem exceeds1_any (g : Nat) (x a b : Int) (w : World) (h1 : w.cell? ⟨g, 1, none⟩ = some (.int .i64 b)) :
    Calls Tryz.prog 112 #[.int .i64 x, .pointer (some ⟨g, 0, none⟩)] w fun e w' => e = .returned (.bool (decide (b < x))) ∧ Below w.heap.size w w' := by
  go_enter Tryz.func112, Tryz.ntmps112
  go_wp2
  go_ret
  exact ⟨rfl, Below.refl _ _⟩
theorem all_not_any (z : List Int) (b : Int) : z.all (fun y => decide (y ≤ b)) = !z.any (fun y => decide (b < y)) := by
  rw [Bool.eq_iff_iff]
  simp
set_option maxRecDepth 20000 in
set_option maxHeartbeats 4000000 in
theorem exceeds_any (M : Nat) (C : Option Addr) (zq n : Nat) (z : List Int) (D : DataW Unit) (T : List Wp) (a b : Int) (w : World) (hown : w.ownsMap Tryz.prog 138 (plainElem Tryz.prog 2) M n D) (hD : ReadsW D T) (hZ : SZ w C z) (hz : z.length ≤ 1048576) :
    Calls Tryz.prog 91 #[.agg #[.map (some M), .slice C z.length zq], .agg #[.int .i64 a, .int .i64 b]] w (Says (!wholeB T z a b) w) := by
  obtain ⟨X, hX⟩ : ∃ X, X = (w.alloc (.cells #[.map (some M), .slice C z.length zq] 104)).alloc (.cells #[.int .i64 a, .int .i64 b] 63) := ⟨_, rfl⟩
  have hb0 : Below w.heap.size w X := by rw [hX]; exact ((Below.refl _ _).alloc (Nat.le_refl _) _).alloc (by simp) _
  have P0 : Bk X w.heap.size 104 #[.map (some M), .slice C z.length zq] := by rw [hX]; exact (Bk.new _ _ _ rfl).old _
  have P1 : Bk X (w.heap.size + 1) 63 #[.int .i64 a, .int .i64 b] := by rw [hX]; exact Bk.new _ _ _ (by simp)
  have ownX := map_keep hown hb0
  have hMl := hown.lt
  have hX1 := P1.lt
  have HD := hide hD
  have hZX := hZ.below hb0
  go_enter Tryz.func91, Tryz.ntmps91
  go_upto_region 1 with fail
  rw [← hX]
  clear hX hD
  have c0 := P0.cell (i := 0) rfl
  go_wp2_with (at_range; refine wpList_range_own _ rfl _ 102 rfl 138 2 lawP Tryz.underlying102 _ M _ _ rfl ownX ?_; intro w0 hrg0 hg0 hs0)
  go_frame
  obtain ⟨R, hR⟩ : ∃ R, R = X.heap.size := ⟨_, rfl⟩
  rw [← hR] at hrg0 ⊢
  have hbR : Below X.heap.size X w0 := (Below.refl _ _).grown hg0 (Nat.le_refl _) (fun j hj => by cases hj)
  have hRX : X.heap.size ≤ R := by omega
  clear hR hs0 c0 ownX hg0
  go_loopw [6, 10] (fun _ _ wr => ∃ (left : Lit → Bool) (cnt : Nat), wr.ranges Tryz.prog 138 (plainElem (H := Unit) Tryz.prog 2) M R n D left cnt ∧ (∀ x ∈ T, left (kP x.1 x.2.1) = false → x.2.2 ≤ a) ∧ Below X.heap.size X wr)
    (fun _ _ wr => wr.rangeLeft M R)
  case atStart =>
    refine ⟨_, _, hrg0, ?_, hbR⟩
    intro x hx h
    rw [HD.out.1 x hx] at h
    cases h
  case round =>
    obtain ⟨left, cnt, hrg, hL, hb⟩ := hrel
    have HL := hide hL
    have Q0 := P0.keep hb
    have Q1 := P1.keep hb
    have hs := hb.size
    have bw := hb0.trans (hb.mono hb0.size)
    clear hL
    go_wp2_with (at_next; refine wpList_next_ranges _ rfl _ rfl 138 lawP (plainElem (H := Unit) Tryz.prog 2) (fun x : Int × Int => .agg #[.int .i64 x.1, .int .i64 x.2]) (Value.int .i64) place_inv int_invW M R _ _ _ _ rfl hrg ?_ ?_)
    · intro hc0 hl0
      have hall : T.all (fun x => decide (x.2.2 ≤ a)) = true := by
        rw [List.all_eq_true]
        exact fun x hx => by simpa using HL.out x hx (hl0 _)
      have HW := hide (show (!wholeB T z a b) = z.any (fun y => decide (b < y)) by rw [wholeB, hall, Bool.true_and, all_not_any, Bool.not_not])
      have c1 := Q0.cell (i := 1) rfl
      have KC := containsInt_gen 112 #[.pointer (some ⟨w.heap.size + 1, 0, none⟩)] C zq z (fun y => decide (b < y)) wr (hZX.below hb) hz (fun args w => by rfl) (fun W hW i hi => exceeds1_any (w.heap.size + 1) _ a b W ((Q1.keep hW).cell (i := 1) rfl))
      clear hl0 hall
      go_wp2_with fail
      refine KC.mono ?_
      rintro e w2 ⟨rfl, hb2⟩
      have b2 := step_below hb2 bw
      go_wp2
      go_ret
      exact ⟨ret_bool HW.out.symm, b2⟩
    · intro x1 x2 cc kl yd yp w1 cnt1 hkey hlk hv hat hrg1 hlt hg1 hs1 hen
      obtain ⟨y, hyT, hky⟩ := HD.out.2.2 kl (has_true_of_atKey hat)
      have hcc : cc = y.2.2 := by
        obtain ⟨c', e1, e2, _⟩ := plainElem_int_inv Tryz.underlying2 hv
        have h1 := hat (.map [])
        have h2 := HD.out.2.1 y hyT (.map [])
        rw [← hky, h1] at h2
        simp at e1 e2
        rw [e2.1, ← e1] at h2
        simpa using h2
      subst hcc
      have Q11 := Q1.grown hg1 (fun e => by have e' : R = w.heap.size + 1 := Option.some.inj e; omega)
      have hb1 := hb.grown hg1 hb.size (fun j hj => by cases hj; exact hRX)
      have c0 := Q11.cell (i := 0) rfl
      by_cases hgt : a < y.2.2
      · have HW := hide (show (!wholeB T z a b) = true by
          have : T.all (fun x => decide (x.2.2 ≤ a)) = false := by
            rw [List.all_eq_false]
            exact ⟨y, hyT, by simpa using hgt⟩
          rw [wholeB, this]
          rfl)
        have hb1w := hb0.trans (hb1.mono hb0.size)
        go_wp2
        go_ret
        exact ⟨ret_bool HW.out.symm, hb1w⟩
      · have HN : Hid (∀ x ∈ T, (left (kP x.1 x.2.1) && !(kP x.1 x.2.1).sameKey kl) = false → x.2.2 ≤ a) := hide (fun x hx h => by
          cases hl : left (kP x.1 x.2.1)
          · exact HL.out x hx hl
          · rw [hl] at h
            simp at h
            have hk := WideAt.sameKey_eq h
            have h1 := HD.out.2.1 x hx (.map [])
            have h2 := HD.out.2.1 y hyT (.map [])
            rw [hk, hky, h2] at h1
            simp at h1
            omega)
        go_wp2
        go_roundw
        case rel => exact ⟨_, _, hrg1, HN.out, hb1⟩
        case measure => rw [hrg1.left_eq, hrg.left_eq]; exact hlt
end Go.Proofs.YtcocfnjbgceidaaGreat
