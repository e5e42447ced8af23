import Derived.Test.YtcocfnjbgceidaaGreatGal
import Derived.Test.YtcocfnjbgceidaaGreatGab
import Derived.Deep.CutRange
namespace Go.Proofs.YtcocfnjbgceidaaGreat
open Go.RowKit
def plW (s : Int) (n : Nat) (x y : Int) : Bool := inB x 0 (s - 1) && inB y 0 ((n : Int) - 1)
def befW (a p b q : Int) : Bool := decide (a < b ∨ a = b ∧ p < q)
def wnOk (s : Int) (n : Nat) (l : List (Int × Int × Int)) (k : Nat) : Bool := plW s n (wnS l k) (wnT l k) && inB (wnP l k) 0 1000000
def wnAsc (l : List (Int × Int × Int)) (k : Nat) : Bool := decide (k = 0) || befW (wnS l (k - 1)) (wnT l (k - 1)) (wnS l k) (wnT l k)
def pinsB (s : Int) (n : Nat) (l : List (Int × Int × Int)) : Bool := (List.range l.length).all fun k => wnOk s n l k && wnAsc l k
def strB (z : List Int) : Bool := (List.range z.length).all fun k => inB (zAt z k) 0 1000000
/-- a wear is valid -/
def weB (s : Int) (h : List (Int × Int)) (l : List (Int × Int × Int)) (z : List Int) : Bool := frB s h && decide (z.length = h.length) && pinsB s h.length l && strB z
def PG (s : Int) (n : Nat) (l : List (Int × Int × Int)) (k : Nat) : Prop := ∀ j, j < k → (wnOk s n l j && wnAsc l j) = true
def ZG (z : List Int) (k : Nat) : Prop := ∀ j, j < k → inB (zAt z j) 0 1000000 = true
theorem PG_succ {s : Int} {n : Nat} {l : List (Int × Int × Int)} {k : Nat} (h : PG s n l k) (h' : (wnOk s n l k && wnAsc l k) = true) : PG s n l (k + 1) := fun j hj => by
  rcases Nat.lt_or_ge j k with h1 | h1
  · exact h j h1
  · rw [show j = k by omega]; exact h'
theorem ZG_succ {z : List Int} {k : Nat} (h : ZG z k) (h' : inB (zAt z k) 0 1000000 = true) : ZG z (k + 1) := fun j hj => by
  rcases Nat.lt_or_ge j k with h1 | h1
  · exact h j h1
  · rw [show j = k by omega]; exact h'
theorem pinsB_yes {s : Int} {n : Nat} {l : List (Int × Int × Int)} (h : PG s n l l.length) : pinsB s n l = true := by simp only [pinsB, List.all_eq_true, List.mem_range]; exact h
theorem pinsB_no {s : Int} {n : Nat} {l : List (Int × Int × Int)} {k : Nat} (hk : k < l.length) (h : (wnOk s n l k && wnAsc l k) = false) : pinsB s n l = false := by
  rw [pinsB, List.all_eq_false]
  exact ⟨k, List.mem_range.2 hk, by simp [h]⟩
theorem strB_yes {z : List Int} (h : ZG z z.length) : strB z = true := by simp only [strB, List.all_eq_true, List.mem_range]; exact h
theorem strB_no {z : List Int} {k : Nat} (hk : k < z.length) (h : inB (zAt z k) 0 1000000 = false) : strB z = false := by
  rw [strB, List.all_eq_false]
  exact ⟨k, List.mem_range.2 hk, by simp [h]⟩

theorem l06Turns_any (n : Int) (w : World) :
    Calls Tryz.prog 69 #[.int .i64 n] w fun e w' => e = .returned (.bool (inB n 0 1000000)) ∧ w = w' := by
  go_enter Tryz.func69, Tryz.ntmps69
  go_wp2_with (go_at_call 46; refine (l00In_any _ _ _ _).mono ?_; rintro e w' ⟨rfl, rfl⟩)
  go_ret
  exact ⟨rfl, rfl⟩
theorem l06Before_any (a p r b q t : Int) (w : World) :
    Calls Tryz.prog 77 #[.agg #[.int .i8 a, .int .i8 p, .int .i64 r], .agg #[.int .i8 b, .int .i8 q, .int .i64 t]] w (Says (befW a p b q) w) := by
  go_enter Tryz.func77, Tryz.ntmps77
  go_wp2
  all_goals go_ret
  all_goals exact ⟨ret_bool (by simp_all [befW] <;> omega), by repeat (first | exact Below.refl _ _ | refine Below.alloc ?_ (by simp <;> omega) _)⟩
theorem l06Place_any (b : Nat) (s : Int) (A : Option Addr) (n c : Nat) (x y : Int) (w : World) (hF : FP w b s A n c) (hs : -32768 ≤ s ∧ s ≤ 32767) (hn : n ≤ 1048576) :
    Calls Tryz.prog 59 #[.pointer (some ⟨b, 0, none⟩), .int .i64 x, .int .i64 y] w (Says (plW s n x y) w) := by
  obtain ⟨hs1, hs2⟩ := hs
  have c1 := hF.1
  have c2 := hF.2
  cases h1 : inB x 0 (s - 1)
  · have K1 : ∀ W, Calls Tryz.prog 46 #[.int .i64 x, .int .i64 0, .int .i64 (s - 1)] W fun e w' => e = .returned (.bool false) ∧ W = w' := fun W => by rw [← h1]; exact l00In_any _ _ _ W
    have HX := hide (show plW s n x y = false by simp [plW, h1])
    clear h1
    go_enter Tryz.func59, Tryz.ntmps59
    go_wp2_with (go_at_call 46; with_reducible refine (K1 _).mono ?_; rintro e w' ⟨rfl, rfl⟩)
    go_ret
    exact ⟨ret_bool HX.out.symm, Below.refl _ _⟩
  · have K1 : ∀ W, Calls Tryz.prog 46 #[.int .i64 x, .int .i64 0, .int .i64 (s - 1)] W fun e w' => e = .returned (.bool true) ∧ W = w' := fun W => by rw [← h1]; exact l00In_any _ _ _ W
    have K2 : ∀ W, Calls Tryz.prog 46 #[.int .i64 y, .int .i64 0, .int .i64 ((n : Int) - 1)] W fun e w' => e = .returned (.bool (plW s n x y)) ∧ W = w' := fun W => by rw [show plW s n x y = inB y 0 ((n : Int) - 1) by simp [plW, h1]]; exact l00In_any _ _ _ W
    clear h1
    generalize plW s n x y = r at K2 ⊢
    go_enter Tryz.func59, Tryz.ntmps59
    go_wp2_with (first | (go_at_call 46; with_reducible refine (K1 _).mono ?_; rintro e w' ⟨rfl, rfl⟩) | (go_at_call 46; with_reducible refine (K2 _).mono ?_; rintro e w' ⟨rfl, rfl⟩))
    go_ret
    exact ⟨rfl, Below.refl _ _⟩
set_option maxRecDepth 20000 in
set_option maxHeartbeats 4000000 in
theorem l06Ok_any (b g : Nat) (s : Int) (A : Option Addr) (c : Nat) (h : List (Int × Int)) (P : Option Addr) (d : Nat) (l : List (Int × Int × Int)) (U : Option Addr) (v : Nat) (z : List Int) (w : World) (hF : FP w b s A h.length c)
    (hP : w.cell? ⟨g, 0, none⟩ = some (.slice P l.length d)) (hS : w.cell? ⟨g, 1, none⟩ = some (.slice U z.length v)) (hA : HA w A h) (hL : WnA w P l) (hU : SZ w U z) (hn : h.length ≤ 1048576) (hl : l.length ≤ 1048576) (hz : z.length ≤ 1048576)
    (hwf : HWF h) (hs : -32768 ≤ s ∧ s ≤ 32767) (hlw : WnWF l) :
    Calls Tryz.prog 45 #[.pointer (some ⟨b, 0, none⟩), .pointer (some ⟨g, 0, none⟩)] w (Says (weB s h l z) w) := by
  have hgl : g < w.heap.size := World.block_lt_of_cell? w _ hP
  cases hf : frB s h
  · have KF : ∀ p : Later w, Calls Tryz.prog 76 #[.pointer (some ⟨b, 0, none⟩)] p.w (Says false p.w) := fun p => by rw [← hf]; exact l02Frame_any b s A c h _ (hF.keep p.h) (hA.below p.h) hn hwf hs
    have HX := hide (show weB s h l z = false by simp [weB, hf])
    have e1 := Later.cell hP
    have e2 := Later.cell hS
    have e3 := Later.cell hF.2
    clear hf
    go_enter Tryz.func45, Tryz.ntmps45
    go_wp2_with fail
    refine wp_region_later (by kernel_rfl) (by kernel_rfl) ?_
    repeat (go_big_quiet_step ((go_at_call 76; exact Later.call (KF _))))
    refine wpQuiet_nil ?_
    rintro _ ⟨⟨wq, hq⟩, rfl⟩
    go_wp2
    go_ret
    exact ⟨ret_bool HX.out.symm, hq⟩
  have KF : ∀ p : Later w, Calls Tryz.prog 76 #[.pointer (some ⟨b, 0, none⟩)] p.w (Says true p.w) := fun p => by rw [← hf]; exact l02Frame_any b s A c h _ (hF.keep p.h) (hA.below p.h) hn hwf hs
  by_cases hzh : z.length = h.length
  case neg =>
    have H1 : ((z.length : Int) != (h.length : Int)) = true := by simp; omega
    have HX := hide (show weB s h l z = false by simp [weB, hzh])
    have e1 := Later.cell hP
    have e2 := Later.cell hS
    have e3 := Later.cell hF.2
    clear hf hzh
    go_enter Tryz.func45, Tryz.ntmps45
    go_wp2_with fail
    refine wp_region_later (by kernel_rfl) (by kernel_rfl) ?_
    repeat (go_big_quiet_step ((go_at_call 76; exact Later.call (KF _))))
    refine wpQuiet_nil ?_
    rintro _ ⟨⟨wq, hq⟩, rfl⟩
    go_wp2
    go_ret
    exact ⟨ret_bool HX.out.symm, hq⟩
  have H1 : ((z.length : Int) != (h.length : Int)) = false := by simp [hzh]
  have HW := hide (show weB s h l z = (pinsB s h.length l && strB z) by simp [weB, hf, hzh])
  have e1 := Later.cell hP
  have e2 := Later.cell hS
  have e3 := Later.cell hF.2
  clear hf hzh
  go_enter Tryz.func45, Tryz.ntmps45
  go_wp2_with fail
  refine wp_region_later (by kernel_rfl) (by kernel_rfl) ?_
  repeat (go_big_quiet_step ((go_at_call 76; exact Later.call (KF _))))
  refine wpQuiet_nil ?_
  rintro w1 ⟨⟨wq, hb1⟩, rfl⟩
  clear e1 e2 e3 KF H1
  try dsimp only
  have hs1 := hb1.size
  have F1 := hF.keep hb1
  have hP1 := (hb1.cell (p := ⟨g, 0, none⟩) hgl).trans hP
  have hS1 := (hb1.cell (p := ⟨g, 1, none⟩) hgl).trans hS
  have hL1 := hL.below hb1
  have hU1 := hU.below hb1
  have hgl1 : g < w1.heap.size := Nat.lt_of_lt_of_le hgl hs1
  clear hF hP hS hL hU hA
  go_wp2_with fail
  go_loopw [5] (fun i wr => ∃ k : Nat, k ≤ l.length ∧ i = .int .i64 k ∧ PG s h.length l k ∧ Below w1.heap.size w1 wr)
    (fun i _ => l.length - (intOf i).toNat)
  case atStart => exact ⟨0, Nat.zero_le _, rfl, fun j hj => absurd hj (Nat.not_lt_zero _), Below.refl _ _⟩
  case round =>
    obtain ⟨k, hk, rfl, hG, hb⟩ := hrel
    have HG := hide hG
    clear hG
    have q0 := (hb.cell (p := ⟨g, 0, none⟩) hgl1).trans hP1
    have hsr := hb.size
    by_cases hlt : k < l.length
    · obtain ⟨pb, o, rfl, hbb, c1, c2, c3⟩ := hL1 k hlt
      have d1 := (hb.cell (p := ⟨pb, o + k * 3, none⟩) hbb).trans c1
      have d2 := (hb.cell (p := ⟨pb, o + k * 3 + 1, none⟩) hbb).trans c2
      have d3 := (hb.cell (p := ⟨pb, o + k * 3 + 2, none⟩) hbb).trans c3
      obtain ⟨Y, hY⟩ : ∃ Y, Y = wr.alloc (.cells #[.int .i8 (wnS l k), .int .i8 (wnT l k), .int .i64 (wnP l k)] 97) := ⟨_, rfl⟩
      have hby : Below wr.heap.size wr Y := by rw [hY]; exact (Below.refl _ _).alloc (Nat.le_refl _) _
      have hbx : Below w1.heap.size w1 Y := hb.trans (hby.mono hsr)
      have B0 : Bk Y wr.heap.size 97 #[.int .i8 (wnS l k), .int .i8 (wnT l k), .int .i64 (wnP l k)] := by rw [hY]; exact Bk.new _ _ _ rfl
      have y0 := Later.cell (B0.cell (i := 0) rfl)
      have y1 := Later.cell (B0.cell (i := 1) rfl)
      have y2 := Later.cell (B0.cell (i := 2) rfl)
      have yP := Later.cell ((hbx.cell (p := ⟨g, 0, none⟩) hgl1).trans hP1)
      have KP0 : ∀ p : Later Y, Calls Tryz.prog 59 #[.pointer (some ⟨b, 0, none⟩), .int .i64 (wnS l k), .int .i64 (wnT l k)] p.w (Says (plW s h.length (wnS l k) (wnT l k)) p.w) := fun p => l06Place_any b s A h.length c _ _ _ ((F1.keep hbx).keep p.h) hs hn
      have KT0 := fun W => l06Turns_any (wnP l k) W
      obtain ⟨⟨m1, m2⟩, ⟨m3, m4⟩, m5, m6⟩ := hlw k hlt
      cases hp : plW s h.length (wnS l k) (wnT l k)
      · have KP := KP0
        rw [hp] at KP
        have HX := hide (show (wnOk s h.length l k && wnAsc l k) = false by simp [wnOk, hp])
        clear hp KP0 KT0 c1 c2 c3 hL1
        go_wp2_with fail
        rw [← hY]
        clear hY
        refine wp_region_later (by kernel_rfl) (by kernel_rfl) ?_
        repeat (go_big_quiet_step (first | (go_at_call 59; exact Later.call (KP _))))
        refine wpQuiet_nil ?_
        rintro _ ⟨⟨wq, hq⟩, rfl⟩
        have hbq := hbx.trans (hq.mono hbx.size)
        go_wp2
        go_ret
        exact ⟨ret_bool (by rw [HW.out, pinsB_no hlt HX.out, Bool.false_and]), hb1.trans (hbq.mono hb1.size)⟩
      cases ht : inB (wnP l k) 0 1000000
      · have KP := KP0
        have KT := KT0
        rw [hp] at KP
        rw [ht] at KT
        have HX := hide (show (wnOk s h.length l k && wnAsc l k) = false by simp [wnOk, ht])
        clear hp ht KP0 KT0 c1 c2 c3 hL1
        go_wp2_with fail
        rw [← hY]
        clear hY
        refine wp_region_later (by kernel_rfl) (by kernel_rfl) ?_
        repeat (go_big_quiet_step (first | (go_at_call 59; exact Later.call (KP _)) | (go_at_call 69; exact Later.same (KT _))))
        refine wpQuiet_nil ?_
        rintro _ ⟨⟨wq, hq⟩, rfl⟩
        have hbq := hbx.trans (hq.mono hbx.size)
        go_wp2
        go_ret
        exact ⟨ret_bool (by rw [HW.out, pinsB_no hlt HX.out, Bool.false_and]), hb1.trans (hbq.mono hb1.size)⟩
      have KP := KP0
      have KT := KT0
      rw [hp] at KP
      rw [ht] at KT
      have HO := hide (show wnOk s h.length l k = true by simp [wnOk, hp, ht])
      clear hp ht KP0 KT0
      rcases Nat.eq_zero_or_pos k with hk0 | hk0
      · have HX := hide (show (wnOk s h.length l k && wnAsc l k) = true by rw [HO.out, wnAsc, hk0]; rfl)
        have hkk : decide (0 < (k : Int)) = false := by simp; omega
        have hkn : decide (0 < k) = false := by simp; omega
        clear c1 c2 c3 hL1 hk0
        go_wp2_with fail
        rw [← hY]
        clear hY
        refine wp_region_later (by kernel_rfl) (by kernel_rfl) ?_
        repeat (go_big_quiet_step (first | (go_at_call 59; exact Later.call (KP _)) | (go_at_call 69; exact Later.same (KT _))))
        refine wpQuiet_nil ?_
        rintro _ ⟨⟨wq, hq⟩, rfl⟩
        have hbq := hbx.trans (hq.mono hbx.size)
        go_wp2
        go_roundw
        case rel => exact ⟨k + 1, hlt, by go_num, PG_succ HG.out HX.out, hbq⟩
        case measure => simp [intOf]; omega
      · obtain ⟨pb', o', e', hbb', c4, c5, c6⟩ := hL1 (k - 1) (by omega)
        obtain ⟨rfl, rfl⟩ : pb' = pb ∧ o' = o := by simpa [eq_comm] using e'
        have d4 := Later.cell ((hbx.cell (p := ⟨pb', o' + (k - 1) * 3, none⟩) hbb').trans c4)
        have d5 := Later.cell ((hbx.cell (p := ⟨pb', o' + (k - 1) * 3 + 1, none⟩) hbb').trans c5)
        have d6 := Later.cell ((hbx.cell (p := ⟨pb', o' + (k - 1) * 3 + 2, none⟩) hbb').trans c6)
        have hkk : decide (0 < (k : Int)) = true := by simp; omega
        have KB0 := fun W => l06Before_any (wnS l (k - 1)) (wnT l (k - 1)) (wnP l (k - 1)) (wnS l k) (wnT l k) (wnP l k) W
        clear c1 c2 c3 c4 c5 c6 e' hL1
        cases hbf : befW (wnS l (k - 1)) (wnT l (k - 1)) (wnS l k) (wnT l k)
        · have KB := KB0
          rw [hbf] at KB
          have HX := hide (show (wnOk s h.length l k && wnAsc l k) = false by simp [wnAsc, hbf]; omega)
          clear hbf KB0
          go_wp2_with fail
          rw [← hY]
          clear hY
          refine wp_region_later (by kernel_rfl) (by kernel_rfl) ?_
          repeat (go_big_quiet_step (first | (go_at_call 59; exact Later.call (KP _)) | (go_at_call 69; exact Later.same (KT _)) | (go_at_call 77; exact Later.call (KB _))))
          refine wpQuiet_nil ?_
          rintro _ ⟨⟨wq, hq⟩, rfl⟩
          have hbq := hbx.trans (hq.mono hbx.size)
          go_wp2
          go_ret
          exact ⟨ret_bool (by rw [HW.out, pinsB_no hlt HX.out, Bool.false_and]), hb1.trans (hbq.mono hb1.size)⟩
        · have KB := KB0
          rw [hbf] at KB
          have HX := hide (show (wnOk s h.length l k && wnAsc l k) = true by simp [wnAsc, hbf, HO.out])
          clear hbf KB0
          go_wp2_with fail
          rw [← hY]
          clear hY
          refine wp_region_later (by kernel_rfl) (by kernel_rfl) ?_
          repeat (go_big_quiet_step (first | (go_at_call 59; exact Later.call (KP _)) | (go_at_call 69; exact Later.same (KT _)) | (go_at_call 77; exact Later.call (KB _))))
          refine wpQuiet_nil ?_
          rintro _ ⟨⟨wq, hq⟩, rfl⟩
          have hbq := hbx.trans (hq.mono hbx.size)
          go_wp2
          go_roundw
          case rel => exact ⟨k + 1, hlt, by go_num, PG_succ HG.out HX.out, hbq⟩
          case measure => simp [intOf]; omega
    · obtain rfl : k = l.length := by omega
      have HPI := hide (pinsB_yes HG.out)
      have HW2 := hide (show weB s h l z = strB z by rw [HW.out, HPI.out, Bool.true_and])
      skip
      go_wp2_with fail
      skip
      go_loopw [7] (fun i wr => ∃ k : Nat, k ≤ z.length ∧ i = .int .i64 k ∧ ZG z k ∧ Below w1.heap.size w1 wr)
        (fun i _ => z.length - (intOf i).toNat)
      case atStart => exact ⟨0, Nat.zero_le _, rfl, fun j hj => absurd hj (Nat.not_lt_zero _), hb⟩
      case round =>
        obtain ⟨k, hk, rfl, hG, hb⟩ := hrel
        have HZ := hide hG
        clear hG
        have q1 := (hb.cell (p := ⟨g, 1, none⟩) hgl1).trans hS1
        by_cases hlt : k < z.length
        · obtain ⟨pb, o, rfl, hbb, c1⟩ := hU1 k hlt
          have d1 := (hb.cell (p := ⟨pb, o + k, none⟩) hbb).trans c1
          have KT0 := fun W => l06Turns_any (zAt z k) W
          clear hU1 c1
          cases ht : inB (zAt z k) 0 1000000
          · rw [ht] at KT0
            have HX := hide (strB_no hlt ht)
            clear ht
            go_wp2_with (go_at_call 69; with_reducible refine (KT0 _).mono ?_; rintro e w' ⟨rfl, rfl⟩)
            go_ret
            exact ⟨ret_bool (by rw [HW2.out, HX.out]), hb1.trans (hb.mono hb1.size)⟩
          · rw [ht] at KT0
            have HX := hide ht
            clear ht
            go_wp2_with (go_at_call 69; with_reducible refine (KT0 _).mono ?_; rintro e w' ⟨rfl, rfl⟩)
            go_roundw
            case rel => exact ⟨k + 1, hlt, by go_num, ZG_succ HZ.out HX.out, hb⟩
            case measure => simp [intOf]; omega
        · obtain rfl : k = z.length := by omega
          have HX := hide (strB_yes HZ.out)
          go_wp2
          go_ret
          exact ⟨ret_bool (by rw [HW2.out, HX.out]), hb1.trans (hb.mono hb1.size)⟩
end Go.Proofs.YtcocfnjbgceidaaGreat
