import Derived.Test.YtcocfnjbgceidaaGreatGao
import Derived.Test.YtcocfnjbgceidaaGreatGag
import Derived.Maps.Own
import Derived.Maps.OwnOps
import Derived.Lib.SliceRun
import Derived.Lib.AppendZeros
import Derived.Deep.RegionHeld3
namespace Go.Proofs.YtcocfnjbgceidaaGreat
open Go.RowKit
def OG (s : Int) (n : Nat) (l : List (Int × Int × Int)) (k : Nat) : Prop := ∀ j, j < k → wnOk s n l j = true
theorem OG_succ {s : Int} {n : Nat} {l : List (Int × Int × Int)} {k : Nat} (h : OG s n l k) (h' : wnOk s n l k = true) : OG s n l (k + 1) := fun j hj => by
  rcases Nat.lt_or_ge j k with h1 | h1
  · exact h j h1
  · rw [show j = k by omega]; exact h'
theorem okW_yes {s : Int} {n : Nat} {l : List (Int × Int × Int)} (h : OG s n l l.length) : okW s n l = true := by simp only [okW, List.all_eq_true, List.mem_range]; exact h
theorem okW_no {s : Int} {n : Nat} {l : List (Int × Int × Int)} {k : Nat} (hk : k < l.length) (h : wnOk s n l k = false) : okW s n l = false := by
  rw [okW, List.all_eq_false]
  exact ⟨k, List.mem_range.2 hk, by simp [h]⟩
theorem infoOrd (x y : Value) : (Tryz.prog.info? 166).map (·.size) = some (#[x, y] : Array Value).size := by kernel_rfl
theorem szOrd (x y x' y' : Value) : (#[x, y] : Array Value).size = (#[x', y'] : Array Value).size := rfl
theorem oneOrd (P : Option Addr) (n d : Nat) (f : Fn) : (#[.slice P n d, .func f #[] #[]] : Array Value).all (·.oneCell') = true := by simp [Value.oneCell']
theorem wpList_store_newA {P : Program} {ops : Array Oper} {rest : List Oper} {o : Oper} {a : Act} {w : World} {Q : Exit → Act → World → Prop} (hgd : o.guard = none) (ty : TypeId) (x y : Operand) (ho : o.op = .store ty x y)
    (cs : Array Value) (hx : a.eval x = .pointer (some ⟨w.heap.size, 0, none⟩)) (hy : a.eval y = .agg cs)
    (t : TypeId) (old : Array Value) (hi : (P.info? ty).map (·.size) = some cs.size) (hold : old.size = cs.size) (h1 : cs.all (·.oneCell') = true)
    (h : wpList P ops Q rest (a.put o.dst undef) (w.alloc (.cells cs t))) : wpList P ops Q (o :: rest) a (w.alloc (.cells old t)) := by
  refine wpList_store_row hgd ty x y ho w.heap.size cs hx hy t old (heap_alloc_new w _) hi hold h1 ?_
  rw [setRow_alloc]
  exact h
def canB (s : Int) (n : Nat) (l : List (Int × Int × Int)) (z : List Int) : Bool := decide (z.length = n) && (ascW l && okW s n l) && strB z
theorem weB_can (s : Int) (h : List (Int × Int)) (l : List (Int × Int × Int)) (z : List Int) : weB s h l z = (frB s h && canB s h.length l z) := by
  simp only [weB, canB, pinsB_split, Bool.and_assoc]
set_option maxRecDepth 20000 in
set_option maxHeartbeats 4000000 in
theorem canWear_any (s : Int) (A : Option Addr) (n c : Nat) (P : Option Addr) (d : Nat) (l : List (Int × Int × Int)) (U : Option Addr) (v : Nat) (z : List Int) (w : World) (hL : WnA w P l) (hU : SZ w U z) (hl : l.length ≤ 1048576) (hz : z.length ≤ 1048576) (hn : n ≤ 1048576) (hs : -32768 ≤ s ∧ s ≤ 32767) (hlw : WnWF l) :
    Calls Tryz.prog 83 #[.agg #[.int .i64 s, .slice A n c], .agg #[.slice P l.length d, .slice U z.length v]] w (Says (canB s n l z) w) := by
  obtain ⟨X0, hX0⟩ : ∃ X, X = (w.alloc (.cells #[.int .i64 s, .slice A n c] 101)).alloc (.cells #[.slice P l.length d, .slice U z.length v] 34) := ⟨_, rfl⟩
  have hb00 : Below w.heap.size w X0 := by rw [hX0]; exact ((Below.refl _ _).alloc (Nat.le_refl _) _).alloc (by simp) _
  have P00 : Bk X0 w.heap.size 101 #[.int .i64 s, .slice A n c] := by rw [hX0]; exact (Bk.new _ _ _ rfl).old _
  have P01 : Bk X0 (w.heap.size + 1) 34 #[.slice P l.length d, .slice U z.length v] := by rw [hX0]; exact Bk.new _ _ _ (by simp)
  have f0 := P01.cell (i := 0) rfl
  obtain ⟨X, hX⟩ : ∃ X, X = X0.alloc (.cells #[.slice P l.length d, .func (.func 102) #[] #[]] 166) := ⟨_, rfl⟩
  have hb0 : Below w.heap.size w X := by rw [hX]; exact hb00.alloc hb00.size _
  have P0 : Bk X w.heap.size 101 #[.int .i64 s, .slice A n c] := by rw [hX]; exact P00.old _
  have P1 : Bk X (w.heap.size + 1) 34 #[.slice P l.length d, .slice U z.length v] := by rw [hX]; exact P01.old _
  have P2 : Bk X X0.heap.size 166 #[.slice P l.length d, .func (.func 102) #[] #[]] := by rw [hX]; exact Bk.new _ _ _ rfl
  have hXs := hb0.size
  have HT := fun W => tracks_any A n c hn W
  have hL' := hL.below hb0
  have hU' := hU.below hb0
  have KA0 : ∀ p : Later X, Calls Tryz.prog 103 #[.agg #[.slice P l.length d, .func (.func 102) #[] #[]]] p.w (Says (ascW l) p.w) := fun p => ascendsW_any P d l _ (hL'.below p.h) hl
  have e0 := Later.cell (P0.cell (i := 0) rfl)
  have e1 := Later.cell (P0.cell (i := 1) rfl)
  have e2 := Later.cell (P1.cell (i := 1) rfl)
  have e3 := Later.cell (P2.cell (i := 0) rfl)
  have e4 := Later.cell (P2.cell (i := 1) rfl)
  clear hL hU
  by_cases hzn : z.length = n
  case neg =>
    have H1 : ((z.length : Int) != (n : Int)) = true := by simp; omega
    have HX := hide (show canB s n l z = false by simp [canB, hzn])
    have KA := KA0
    clear hzn KA0
    go_enter Tryz.func83, Tryz.ntmps83
    go_upto_region 1 with fail
    rw [← hX0]
    clear hX0
    go_upto_region 2 with (with_reducible refine wpList_store_newA rfl 166 (.tmp 5) (.tmp 10) rfl #[.slice P l.length d, .func (.func 102) #[] #[]] rfl rfl 166 _ (infoOrd _ _) (szOrd _ _ _ _) (oneOrd _ _ _ _) ?_)
    rw [← hX]
    clear hX
    try simp only [Act.put]
    refine wp_region_later (by kernel_rfl) (by kernel_rfl) ?_
    repeat (go_big_quiet_step (first | (go_at_call 99; exact Later.same (HT _)) | (go_at_call 103; exact Later.call (KA _))))
    refine wpQuiet_nil ?_
    rintro _ ⟨⟨wq, hq⟩, rfl⟩
    go_wp2
    go_ret
    exact ⟨ret_bool HX.out.symm, hb0.trans (hq.mono hXs)⟩
  have H1 : ((z.length : Int) != (n : Int)) = false := by simp [hzn]
  cases ha : ascW l
  · have HX := hide (show canB s n l z = false by simp [canB, ha])
    have KA := KA0
    rw [ha] at KA
    clear hzn KA0 ha
    go_enter Tryz.func83, Tryz.ntmps83
    go_upto_region 1 with fail
    rw [← hX0]
    clear hX0
    go_upto_region 2 with (with_reducible refine wpList_store_newA rfl 166 (.tmp 5) (.tmp 10) rfl #[.slice P l.length d, .func (.func 102) #[] #[]] rfl rfl 166 _ (infoOrd _ _) (szOrd _ _ _ _) (oneOrd _ _ _ _) ?_)
    rw [← hX]
    clear hX
    try simp only [Act.put]
    refine wp_region_later (by kernel_rfl) (by kernel_rfl) ?_
    repeat (go_big_quiet_step (first | (go_at_call 99; exact Later.same (HT _)) | (go_at_call 103; exact Later.call (KA _))))
    refine wpQuiet_nil ?_
    rintro _ ⟨⟨wq, hq⟩, rfl⟩
    go_wp2
    go_ret
    exact ⟨ret_bool HX.out.symm, hb0.trans (hq.mono hXs)⟩
  have HW := hide (show canB s n l z = (okW s n l && strB z) by simp [canB, ha, hzn])
  have KA := KA0
  rw [ha] at KA
  clear hzn KA0 ha
  go_enter Tryz.func83, Tryz.ntmps83
  go_upto_region 1 with fail
  rw [← hX0]
  clear hX0
  go_upto_region 2 with (with_reducible refine wpList_store_newA rfl 166 (.tmp 5) (.tmp 10) rfl #[.slice P l.length d, .func (.func 102) #[] #[]] rfl rfl 166 _ (infoOrd _ _) (szOrd _ _ _ _) (oneOrd _ _ _ _) ?_)
  rw [← hX]
  clear hX
  try simp only [Act.put]
  refine wp_region_later (by kernel_rfl) (by kernel_rfl) ?_
  repeat (go_big_quiet_step (first | (go_at_call 99; exact Later.same (HT _)) | (go_at_call 103; exact Later.call (KA _))))
  refine wpQuiet_nil ?_
  rintro w1 ⟨⟨wq, hq⟩, rfl⟩
  clear e0 e1 e2 e3 e4 KA H1
  try dsimp only
  have hqs := hq.size
  have R0 := P0.keep hq
  have R1 := P1.keep hq
  have hL1 := hL'.below hq
  have hU1 := hU'.below hq
  have bq := hb0.trans (hq.mono hXs)
  clear hL' hU' P0 P1 P2 hq
  have c0 := R1.cell (i := 0) rfl
  have c1 := R1.cell (i := 1) rfl
  go_wp2_with fail
  go_loopw [26] (fun i wr => ∃ k : Nat, k ≤ l.length ∧ i = .int .i64 k ∧ OG s n l k ∧ Below w1.heap.size w1 wr)
    (fun i _ => l.length - (intOf i).toNat)
  case atStart => exact ⟨0, Nat.zero_le _, rfl, fun j hj => absurd hj (Nat.not_lt_zero _), Below.refl _ _⟩
  case round =>
    obtain ⟨k, hk, rfl, hG, hb⟩ := hrel
    have HG := hide hG
    clear hG c0 c1
    have hsr := hb.size
    by_cases hlt : k < l.length
    · obtain ⟨pb, o, rfl, hbb, c1, c2, c3⟩ := hL1 k hlt
      have d1 := (hb.cell (p := ⟨pb, o + k * 3, none⟩) hbb).trans c1
      have d2 := (hb.cell (p := ⟨pb, o + k * 3 + 1, none⟩) hbb).trans c2
      have d3 := (hb.cell (p := ⟨pb, o + k * 3 + 2, none⟩) hbb).trans c3
      obtain ⟨Y, hY⟩ : ∃ Y, Y = wr.alloc (.cells #[.int .i8 (wnS l k), .int .i8 (wnT l k), .int .i64 (wnP l k)] 97) := ⟨_, rfl⟩
      have hby : Below wr.heap.size wr Y := by rw [hY]; exact (Below.refl _ _).alloc (Nat.le_refl _) _
      have hbx : Below w1.heap.size w1 Y := hb.trans (hby.mono hsr)
      have B0 : Bk Y wr.heap.size 97 #[.int .i8 (wnS l k), .int .i8 (wnT l k), .int .i64 (wnP l k)] := by rw [hY]; exact Bk.new _ _ _ rfl
      have y0 := Later.cell (B0.cell (i := 0) rfl)
      have y1 := Later.cell (B0.cell (i := 1) rfl)
      have y2 := Later.cell (B0.cell (i := 2) rfl)
      have y3 := Later.cell ((R0.keep hbx).cell (i := 0) rfl)
      have y4 := Later.cell ((R0.keep hbx).cell (i := 1) rfl)
      obtain ⟨m12, m34, m5, m6⟩ := hlw k hlt
      have KW : ∀ p : Later Y, Calls Tryz.prog 86 #[.agg #[.int .i8 (wnS l k), .int .i8 (wnT l k), .int .i64 (wnP l k)]] p.w (fun e w' => e = .returned (.agg #[.int .i64 (wnS l k), .int .i64 (wnT l k)]) ∧ Below p.w.heap.size p.w w') := fun p => wornAt_any _ _ _ _ m12 m34
      have KP0 : ∀ p : Later Y, Calls Tryz.prog 104 #[.agg #[.int .i64 s, .slice A n c], .agg #[.int .i64 (wnS l k), .int .i64 (wnT l k)]] p.w (Says (plW s n (wnS l k) (wnT l k)) p.w) := fun p => hasPlace_any s _ _ A n c _ hs hn
      have KT0 := fun W => within_any (wnP l k) 0 1000000 W
      clear c1 c2 c3 hL1
      cases hp : plW s n (wnS l k) (wnT l k)
      · have KP := KP0
        have KT := KT0
        rw [hp] at KP
        have HX := hide (show wnOk s n l k = false by simp [wnOk, hp])
        clear hp KP0 KT0
        go_wp2_with fail
        rw [← hY]
        clear hY
        refine wp_region_later (by kernel_rfl) (by kernel_rfl) ?_
        repeat (go_big_quiet_step (first | (go_at_call 86; exact Later.call (KW _)) | (go_at_call 104; exact Later.call (KP _)) | (go_at_call 73; exact Later.same (KT _))))
        refine wpQuiet_nil ?_
        rintro _ ⟨⟨wq, hq⟩, rfl⟩
        have hbq := hbx.trans (hq.mono hbx.size)
        go_wp2
        go_ret
        exact ⟨ret_bool (by rw [HW.out, okW_no hlt HX.out, Bool.false_and]), bq.trans (hbq.mono bq.size)⟩
      cases ht : inB (wnP l k) 0 1000000
      · have KP := KP0
        have KT := KT0
        rw [hp] at KP
        rw [ht] at KT
        have HX := hide (show wnOk s n l k = false by simp [wnOk, ht])
        clear hp ht KP0 KT0
        go_wp2_with fail
        rw [← hY]
        clear hY
        refine wp_region_later (by kernel_rfl) (by kernel_rfl) ?_
        repeat (go_big_quiet_step (first | (go_at_call 86; exact Later.call (KW _)) | (go_at_call 104; exact Later.call (KP _)) | (go_at_call 73; exact Later.same (KT _))))
        refine wpQuiet_nil ?_
        rintro _ ⟨⟨wq, hq⟩, rfl⟩
        have hbq := hbx.trans (hq.mono hbx.size)
        go_wp2
        go_ret
        exact ⟨ret_bool (by rw [HW.out, okW_no hlt HX.out, Bool.false_and]), bq.trans (hbq.mono bq.size)⟩
      · have KP := KP0
        have KT := KT0
        rw [hp] at KP
        rw [ht] at KT
        have HX := hide (show wnOk s n l k = true by simp [wnOk, hp, ht])
        clear hp ht KP0 KT0
        go_wp2_with fail
        rw [← hY]
        clear hY
        refine wp_region_later (by kernel_rfl) (by kernel_rfl) ?_
        repeat (go_big_quiet_step (first | (go_at_call 86; exact Later.call (KW _)) | (go_at_call 104; exact Later.call (KP _)) | (go_at_call 73; exact Later.same (KT _))))
        refine wpQuiet_nil ?_
        rintro _ ⟨⟨wq, hq⟩, rfl⟩
        have hbq := hbx.trans (hq.mono hbx.size)
        go_wp2
        go_roundw
        case rel => exact ⟨k + 1, hlt, by go_num, OG_succ HG.out HX.out, hbq⟩
        case measure => simp [intOf]; omega
    · obtain rfl : k = l.length := by omega
      have HK := hide (show canB s n l z = strB z by rw [HW.out, okW_yes HG.out, Bool.true_and])
      have q1 := (R1.keep hb).cell (i := 1) rfl
      go_wp2_with fail
      refine (containsStrokes_any U v z _ (hU1.below hb) hz).mono ?_
      rintro e w' ⟨rfl, rfl⟩
      go_wp2
      go_ret
      exact ⟨ret_bool HK.out.symm, bq.trans (hb.mono bq.size)⟩
end Go.Proofs.YtcocfnjbgceidaaGreat
namespace Go.Proofs.YtcocfnjbgceidaaGreat
open Go.RowKit Go.Maps
theorem SZ.cells {w : World} {ad : Addr} {l : List Int} (h : SZ w (some ad) l) : ∀ j u, (icells l)[j]? = some u → w.cell? (ad.add j) = some u := by
  intro j u hu
  have hj : j < (icells l).length := (List.getElem?_eq_some_iff.1 hu).1
  rw [icells_length] at hj
  obtain ⟨b, o, e, _, c0⟩ := h j hj
  obtain rfl : ad = ⟨b, o, none⟩ := Option.some.inj e
  rw [Addr.add_lit, c0, ← hu, icells_get l j hj]
theorem SZ.none {w : World} {l : List Int} (h : SZ w none l) : l = [] := by
  rcases Nat.eq_zero_or_pos l.length with e | e
  · exact List.length_eq_zero_iff.1 e
  · obtain ⟨b, o, h1, _⟩ := h 0 e
    cases h1
theorem icells_one (l : List Int) : ∀ u ∈ icells l, u.oneCell' = true := by
  intro u hu
  simp only [icells, List.mem_map] at hu
  obtain ⟨n, _, rfl⟩ := hu
  rfl
theorem own_shapeZ {w : World} {base : Nat} {e : TypeId} {size n : Nat} {v : Value} {xs : List Value} (h : w.ownsRow base e size v n xs) : ∃ A c, v = .slice A n c := by
  rcases h.2 with ⟨rfl, rfl⟩ | ⟨g, cap, cur, rfl, _⟩
  · exact ⟨_, _, rfl⟩
  · exact ⟨_, _, rfl⟩
/-- append of numbers that lie somewhere to a row of the call's own -/
theorem run_append_z (w : World) (t : TypeId) (ht : Tryz.prog.underlying t = some (.slice 2)) (base : Nat) (i0 : TypeInfo) (hi : Tryz.prog.info? 2 = some i0)
    (hz0 : i0.zero = some (.int .i64 0)) (hz1 : i0.size = 1) (hz2 : i0.bytes = 8) (v : Value) (n : Nat) (xs : List Value) (hown : w.ownsRow base 2 1 v n xs) (ad : Addr) (c : Nat) (l : List Int) (hA : SZ w (some ad) l)
    (hn : n ≤ 4194304) (hl : l.length ≤ 4194304) (hb : base ≤ w.heap.size) :
    ∃ A' c' w', (∀ ty, (Builtin.append_ #[t, t] ty #[v, .slice (some ad) l.length c]).run Tryz.prog w = .ok (.slice A' (n + l.length) c') w') ∧ w'.ownsRow base 2 1 (.slice A' (n + l.length) c') (n + l.length) (xs ++ icells l) ∧ w.grownBy w' v.ownBlock := by
  obtain ⟨Av, cv, rfl⟩ := own_shapeZ hown
  have key : ∀ ty, ∃ v' w', (Builtin.append_ #[t, t] ty #[.slice Av n cv, .slice (some ad) l.length c]).run Tryz.prog w = .ok v' w' ∧ w'.ownsRow base 2 1 v' (n + l.length) (xs ++ icells l) ∧ w.grownBy w' (Value.slice Av n cv).ownBlock ∧ (v' = .slice none 0 0 ↔ Value.slice Av n cv = .slice none 0 0 ∧ l.length = 0) := fun ty =>
    run_append_own w base t ty 2 i0 (.int .i64 0) 1 8 ht hi hz0 hz1 hz2 rfl (by decide) _ n xs hown ad l.length c (icells l) (by rw [icells_length, Nat.mul_one]) (SZ.cells hA) (icells_one l) (by unfold maxLen; omega) (by omega) hb
  obtain ⟨v', w', hr, h2, h3, _⟩ := key 0
  obtain ⟨A', c', rfl⟩ := own_shapeZ h2
  exact ⟨A', c', w', fun ty => hr, h2, h3⟩
/-- numbers of the call's own -/
def OwnI (w : World) (l : List Int) (e : Ending) (w' : World) : Prop := ∃ (C : Option Addr) (q : Nat), e = .returned (.slice C l.length q) ∧ w'.ownsRow w.heap.size 2 1 (.slice C l.length q) l.length (icells l) ∧ Below w.heap.size w w'
theorem own_emptyI {w : World} {base : Nat} (t : TypeId) (size : Nat) (h : base ≤ w.heap.size) : (w.alloc (.cells #[] t)).ownsRow base t size (.slice (some ⟨w.heap.size, 0, none⟩) 0 0) 0 [] :=
  World.ownsRow_made w #[] 0 h (by unfold maxLen; omega) (by simp)
set_option maxRecDepth 20000 in
theorem cloneZ_any (A : Option Addr) (c : Nat) (l : List Int) (w : World) (hA : SZ w A l) (hn : l.length ≤ 1048576) :
    Calls Tryz.prog 85 #[.slice A l.length c] w (OwnI w l) := by
  obtain ⟨i0, hi, hz0, hz1, hz2⟩ := info_parts info2
  have q22 : ∀ (w : World) (a : Option Addr) (n c n' c' : Nat), (binOp .eql 27 (.slice a n c) (.slice none n' c')).run Tryz.prog w = .ok (.bool a.isNone) w := fun w a n c n' c' => Lib.run_eql_slice_nil w _ _ a n c n' c' Tryz.underlying27
  cases A with
  | none =>
    obtain rfl := SZ.none hA
    go_enter Tryz.func85, Tryz.ntmps85
    go_wp2
    go_ret
    exact ⟨none, 0, rfl, World.ownsRow_nil _ _ _ _, Below.refl _ _⟩
  | some ad =>
    have hal : Below w.heap.size w (w.alloc (.cells #[] 2)) := (Below.refl _ _).alloc (Nat.le_refl _) _
    have hE : (w.alloc (.cells #[] 2)).ownsRow w.heap.size 2 1 (.slice (some ⟨w.heap.size, 0, none⟩) 0 0) 0 [] := own_emptyI _ _ (Nat.le_refl _)
    obtain ⟨A3, c3, w3, hr3, own3, gr3⟩ := run_append_z _ 27 Tryz.underlying27 w.heap.size i0 hi hz0 hz1 hz2 _ 0 [] hE ad c l (hA.below hal) (by omega) (by omega) hal.size
    simp only [Nat.zero_add, List.nil_append] at hr3 own3
    have hb3 : Below w.heap.size w w3 := hal.grown gr3 hal.size (fun j hj => (hE.lt j hj).1)
    clear hE gr3 hal
    go_enter Tryz.func85, Tryz.ntmps85
    go_wp2_with (at_builtin; refine Lib.wpList_append_run _ rfl _ _ _ _ rfl _ _ rfl rfl _ _ (hr3 _) ?_)
    go_ret
    exact ⟨A3, c3, rfl, own3, hb3⟩

theorem keyTypeP : Tryz.prog.keyType 138 = true := by kernel_rfl
theorem rowP : (138 : TypeId) < Tryz.prog.types.size := of_decide_eq_true (by kernel_rfl)
theorem Tryz.laidW : laidOutB Tryz.prog = true := by kernel_rfl
theorem lawP : Keyed Tryz.prog 138 := Keyed.of_law (deep_law_laid Tryz.laidW (m := 2) (by omega) rowP (by kernel_rfl) (by kernel_rfl))
theorem cellsP : Tryz.prog.cellsOf 138 = 2 := by kernel_rfl
theorem cellsPi : Tryz.prog.cellsOf 2 = 1 := by kernel_rfl
theorem typesP : ∃ d, Tryz.prog.types.size + 1 = d + 1 + 1 := ⟨Tryz.prog.types.size - 1, by have h : (138 : Nat) < Tryz.prog.types.size := rowP; omega⟩
theorem wf64 {x : Int} (h : -9223372036854775808 ≤ x ∧ x ≤ 9223372036854775807) : (Lit.int .i64 x).wf = true := by simp [Lit.wf, IntKind.min, IntKind.max, IntKind.signed, IntKind.bits]; omega
/-- what a place reads as, as a key -/
noncomputable def kP (x y : Int) : Lit := (keyOf Tryz.prog 138 (.agg #[.int .i64 x, .int .i64 y])).getD (.bool false)
theorem key_place (x y : Int) (hx : -9223372036854775808 ≤ x ∧ x ≤ 9223372036854775807) (hy : -9223372036854775808 ≤ y ∧ y ≤ 9223372036854775807) : keyOf Tryz.prog 138 (.agg #[.int .i64 x, .int .i64 y]) = some (kP x y) := by
  obtain ⟨d, hd⟩ := typesP
  have hf : (Value.agg #[.int .i64 x, .int .i64 y]).formed Tryz.prog 138 = true := by simp [Value.formed, Tryz.underlying138, cellsP]
  have hL : ∃ s, keyOf Tryz.prog 138 (.agg #[.int .i64 x, .int .i64 y]) = some s := by
    unfold keyOf
    rw [hd, Tryz.underlying138]
    simp only [keyTypeP, hf, Bool.and_self, if_true, Value.cells]
    simp [Program.keyLits, Tryz.underlying138, Tryz.underlying2, cellsPi, cellsP, wf64 hx, wf64 hy]
  obtain ⟨s, hs⟩ := hL
  rw [kP, hs]
  rfl
/-- the map of the first k pins -/
noncomputable def mapW (l : List (Int × Int × Int)) : Nat → DataW Unit
  | 0 => .map []
  | k + 1 => (mapW l k).put (kP (wnS l k) (wnT l k)) (.lit (.int .i64 (wnP l k)))
theorem i64_of8 {x : Int} (h : -128 ≤ x ∧ x ≤ 127) : -9223372036854775808 ≤ x ∧ x ≤ 9223372036854775807 := ⟨by omega, by omega⟩
theorem wp_mapUpdate_own {P : Program} {o : Oper} {a : Act} {w : World} {K : Act → World → Prop} {Q : Exit → Act → World → Prop} (m x v : Operand) (t : TypeId) (hop : o.op = Op.mapUpdate t m x v)
    (k e : TypeId) (KK : Keyed P k) (ht : P.underlying t = some (.map k e)) (R : Value → Option (DataW Unit × List MemPlace)) (b n : Nat) (D : DataW Unit)
    (hm : a.eval m = .map (some b)) (hown : w.ownsMap P k R b n D) (hn : n < maxLen) (key val : Value) (kl : Lit) (hx : a.eval x = key) (hv : a.eval v = val) (hkey : keyOf P k key = some kl)
    (d : DataW Unit) (ps : List MemPlace) (hval : R val = some (d, ps))
    (hK : ∀ w', w'.ownsMap P k R b (n + 1) (D.put kl d) → w.grownBy w' (some b) → K (a.put o.dst undef) w') : o.wp P a w K Q := by
  obtain ⟨w', hrun, r1, r2⟩ := hown.update KK ht hn hkey hval
  unfold Oper.wp
  simp [execOp, hop, hm, hx, hv, hrun, Result.andThen]
  exact hK w' r1 r2
theorem areLives_nil (w : World) : Calls Tryz.prog 84 #[.slice none 0 0] w (Says true w) := by
  have K1 : ∀ W, Calls Tryz.prog 121 #[.slice none 0 0, .func (.func 108) #[] #[]] W fun e w' => e = .returned (.int .i64 (-1)) ∧ W = w' := by
    intro W
    go_enter Tryz.func121, Tryz.ntmps121
    go_wp2_with fail
    go_loopw [8] (fun i wr => i = .int .i64 0 ∧ wr = W) (fun _ _ => 0)
    case atStart => exact ⟨rfl, by trivial⟩
    case round =>
      obtain ⟨rfl, rfl⟩ := hrel
      go_wp2
      go_ret
      exact ⟨rfl, rfl⟩
  have K2 : ∀ W, Calls Tryz.prog 107 #[.slice none 0 0, .func (.func 108) #[] #[]] W fun e w' => e = .returned (.bool false) ∧ W = w' := by
    intro W
    go_enter Tryz.func107, Tryz.ntmps107
    go_wp2_with fail
    refine (K1 _).mono ?_
    rintro e w' ⟨rfl, rfl⟩
    go_wp2
    go_ret
    exact ⟨rfl, rfl⟩
  go_enter Tryz.func84, Tryz.ntmps84
  go_wp2_with fail
  refine (K2 _).mono ?_
  rintro e w' ⟨rfl, rfl⟩
  go_wp2
  go_ret
  exact ⟨rfl, Below.refl _ _⟩
end Go.Proofs.YtcocfnjbgceidaaGreat
