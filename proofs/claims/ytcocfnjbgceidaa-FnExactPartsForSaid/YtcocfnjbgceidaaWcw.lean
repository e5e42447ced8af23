import Derived.Test.YtcocfnjbgceidaaGaq
import Derived.Test.YtcocfnjbgceidaaFits
namespace Go.Proofs.Ytcocfnjbgceidaa
open Go.RowKit
def OG (s : Int) (n : Nat) (l : List (Int × Int × Int)) (k : Nat) : Prop := ∀ j, j < k → wnOk s n l j = true
theorem OG_succ {s : Int} {n : Nat} {l : List (Int × Int × Int)} {k : Nat} (h : OG s n l k) (h' : wnOk s n l k = true) : OG s n l (k + 1) := fun j hj => by
  rcases Nat.lt_or_ge j k with h1 | h1
  · exact h j h1
  · rw [show j = k by omega]; exact h'
theorem okW_yes {s : Int} {n : Nat} {l : List (Int × Int × Int)} (h : OG s n l l.length) : okW s n l = true := by simp only [okW, List.all_eq_true, List.mem_range]; exact h
theorem okW_no {s : Int} {n : Nat} {l : List (Int × Int × Int)} {k : Nat} (hk : k < l.length) (h : wnOk s n l k = false) : okW s n l = false := by
  rw [okW, List.all_eq_false]
  exact ⟨k, List.mem_range.2 hk, by simp [h]⟩
theorem infoOrd (x y : Value) : (Try.prog.info? 184).map (·.size) = some (#[x, y] : Array Value).size := by kernel_rfl
theorem szOrd (x y x' y' : Value) : (#[x, y] : Array Value).size = (#[x', y'] : Array Value).size := rfl
theorem oneOrd (P : Option Addr) (n d : Nat) (f : Fn) : (#[.slice P n d, .func f #[] #[]] : Array Value).all (·.oneCell') = true := by simp [Value.oneCell']
theorem wpList_store_newA {P : Program} {ops : Array Oper} {rest : List Oper} {o : Oper} {a : Act} {w : World} {Q : Exit → Act → World → Prop} (hgd : o.guard = none) (ty : TypeId) (x y : Operand) (ho : o.op = .store ty x y)
    (cs : Array Value) (hx : a.eval x = .pointer (some ⟨w.heap.size, 0, none⟩)) (hy : a.eval y = .agg cs)
    (t : TypeId) (old : Array Value) (hi : (P.info? ty).map (·.size) = some cs.size) (hold : old.size = cs.size) (h1 : cs.all (·.oneCell') = true)
    (h : wpList P ops Q rest (a.put o.dst undef) (w.alloc (.cells cs t))) : wpList P ops Q (o :: rest) a (w.alloc (.cells old t)) := by
  refine wpList_store_row hgd ty x y ho w.heap.size cs hx hy t old (heap_alloc_new w _) hi hold h1 ?_
  rw [setRow_alloc]
  exact h
def canB (s : Int) (n : Nat) (l : List (Int × Int × Int)) (z : List Int) : Bool := decide (z.length = n) && (ascW l && okW s n l) && strB z
theorem weB_can (s : Int) (h : List (Int × Int)) (l : List (Int × Int × Int)) (z : List Int) : weB s h l z = (frB s h && canB s h.length l z) := by
  simp only [weB, canB, pinsB_split, Bool.and_assoc]
set_option maxRecDepth 20000 in
set_option maxHeartbeats 4000000 in
theorem canWear_any (s : Int) (A : Option Addr) (n c : Nat) (P : Option Addr) (d : Nat) (l : List (Int × Int × Int)) (U : Option Addr) (v : Nat) (z : List Int) (w : World) (hL : WnA w P l) (hU : SZ w U z) (hl : l.length ≤ 1048576) (hz : z.length ≤ 1048576) (hn : n ≤ 1048576) (hs : -32768 ≤ s ∧ s ≤ 32767) (hlw : WnWF l) :
    Calls Try.prog 101 #[.agg #[.int .i64 s, .slice A n c], .agg #[.slice P l.length d, .slice U z.length v]] w (Says (canB s n l z) w) := by
  obtain ⟨X0, hX0⟩ : ∃ X, X = (w.alloc (.cells #[.int .i64 s, .slice A n c] 120)).alloc (.cells #[.slice P l.length d, .slice U z.length v] 64) := ⟨_, rfl⟩
  have hb00 : Below w.heap.size w X0 := by rw [hX0]; exact ((Below.refl _ _).alloc (Nat.le_refl _) _).alloc (by simp) _
  have P00 : Bk X0 w.heap.size 120 #[.int .i64 s, .slice A n c] := by rw [hX0]; exact (Bk.new _ _ _ rfl).old _
  have P01 : Bk X0 (w.heap.size + 1) 64 #[.slice P l.length d, .slice U z.length v] := by rw [hX0]; exact Bk.new _ _ _ (by simp)
  have f0 := P01.cell (i := 0) rfl
  obtain ⟨X, hX⟩ : ∃ X, X = X0.alloc (.cells #[.slice P l.length d, .func (.func 111) #[] #[]] 184) := ⟨_, rfl⟩
  have hb0 : Below w.heap.size w X := by rw [hX]; exact hb00.alloc hb00.size _
  have P0 : Bk X w.heap.size 120 #[.int .i64 s, .slice A n c] := by rw [hX]; exact P00.old _
  have P1 : Bk X (w.heap.size + 1) 64 #[.slice P l.length d, .slice U z.length v] := by rw [hX]; exact P01.old _
  have P2 : Bk X X0.heap.size 184 #[.slice P l.length d, .func (.func 111) #[] #[]] := by rw [hX]; exact Bk.new _ _ _ rfl
  have hXs := hb0.size
  have HT := fun W => tracks_any A n c hn W
  have hL' := hL.below hb0
  have hU' := hU.below hb0
  have KA0 : ∀ p : Later X, Calls Try.prog 137 #[.agg #[.slice P l.length d, .func (.func 111) #[] #[]]] p.w (Says (ascW l) p.w) := fun p => ascendsW_any P d l _ (hL'.below p.h) hl
  have e0 := Later.cell (P0.cell (i := 0) rfl)
  have e1 := Later.cell (P0.cell (i := 1) rfl)
  have e2 := Later.cell (P1.cell (i := 1) rfl)
  have e3 := Later.cell (P2.cell (i := 0) rfl)
  have e4 := Later.cell (P2.cell (i := 1) rfl)
  clear hL hU
  by_cases hzn : z.length = n
  case neg =>
    have H1 : ((z.length : Int) != (n : Int)) = true := by simp; omega
    have HX := hide (show canB s n l z = false by simp [canB, hzn])
    have KA := KA0
    clear hzn KA0
    go_enter Try.func101, Try.ntmps101
    go_upto_region 1 with fail
    rw [← hX0]
    clear hX0
    go_upto_region 2 with (with_reducible refine wpList_store_newA rfl 184 (.tmp 5) (.tmp 10) rfl #[.slice P l.length d, .func (.func 111) #[] #[]] rfl rfl 184 _ (infoOrd _ _) (szOrd _ _ _ _) (oneOrd _ _ _ _) ?_)
    rw [← hX]
    clear hX
    try simp only [Act.put]
    refine wp_region_later (by kernel_rfl) (by kernel_rfl) ?_
    repeat (go_big_quiet_step (first | (go_at_call 134; exact Later.same (HT _)) | (go_at_call 137; exact Later.call (KA _))))
    refine wpQuiet_nil ?_
    rintro _ ⟨⟨wq, hq⟩, rfl⟩
    go_wp2
    go_ret
    exact ⟨ret_bool HX.out.symm, hb0.trans (hq.mono hXs)⟩
  have H1 : ((z.length : Int) != (n : Int)) = false := by simp [hzn]
  cases ha : ascW l
  · have HX := hide (show canB s n l z = false by simp [canB, ha])
    have KA := KA0
    rw [ha] at KA
    clear hzn KA0 ha
    go_enter Try.func101, Try.ntmps101
    go_upto_region 1 with fail
    rw [← hX0]
    clear hX0
    go_upto_region 2 with (with_reducible refine wpList_store_newA rfl 184 (.tmp 5) (.tmp 10) rfl #[.slice P l.length d, .func (.func 111) #[] #[]] rfl rfl 184 _ (infoOrd _ _) (szOrd _ _ _ _) (oneOrd _ _ _ _) ?_)
    rw [← hX]
    clear hX
    try simp only [Act.put]
    refine wp_region_later (by kernel_rfl) (by kernel_rfl) ?_
    repeat (go_big_quiet_step (first | (go_at_call 134; exact Later.same (HT _)) | (go_at_call 137; exact Later.call (KA _))))
    refine wpQuiet_nil ?_
    rintro _ ⟨⟨wq, hq⟩, rfl⟩
    go_wp2
    go_ret
    exact ⟨ret_bool HX.out.symm, hb0.trans (hq.mono hXs)⟩
  have HW := hide (show canB s n l z = (okW s n l && strB z) by simp [canB, ha, hzn])
  have KA := KA0
  rw [ha] at KA
  clear hzn KA0 ha
  go_enter Try.func101, Try.ntmps101
  go_upto_region 1 with fail
  rw [← hX0]
  clear hX0
  go_upto_region 2 with (with_reducible refine wpList_store_newA rfl 184 (.tmp 5) (.tmp 10) rfl #[.slice P l.length d, .func (.func 111) #[] #[]] rfl rfl 184 _ (infoOrd _ _) (szOrd _ _ _ _) (oneOrd _ _ _ _) ?_)
  rw [← hX]
  clear hX
  try simp only [Act.put]
  refine wp_region_later (by kernel_rfl) (by kernel_rfl) ?_
  repeat (go_big_quiet_step (first | (go_at_call 134; exact Later.same (HT _)) | (go_at_call 137; exact Later.call (KA _))))
  refine wpQuiet_nil ?_
  rintro w1 ⟨⟨wq, hq⟩, rfl⟩
  clear e0 e1 e2 e3 e4 KA H1
  try dsimp only
  have hqs := hq.size
  have R0 := P0.keep hq
  have R1 := P1.keep hq
  have hL1 := hL'.below hq
  have hU1 := hU'.below hq
  have bq := hb0.trans (hq.mono hXs)
  clear hL' hU' P0 P1 P2 hq
  have c0 := R1.cell (i := 0) rfl
  have c1 := R1.cell (i := 1) rfl
  go_wp2_with fail
  go_loopw [26] (fun i wr => ∃ k : Nat, k ≤ l.length ∧ i = .int .i64 k ∧ OG s n l k ∧ Below w1.heap.size w1 wr)
    (fun i _ => l.length - (intOf i).toNat)
  case atStart => exact ⟨0, Nat.zero_le _, rfl, fun j hj => absurd hj (Nat.not_lt_zero _), Below.refl _ _⟩
  case round =>
    obtain ⟨k, hk, rfl, hG, hb⟩ := hrel
    have HG := hide hG
    clear hG c0 c1
    have hsr := hb.size
    by_cases hlt : k < l.length
    · obtain ⟨pb, o, rfl, hbb, c1, c2, c3⟩ := hL1 k hlt
      have d1 := (hb.cell (p := ⟨pb, o + k * 3, none⟩) hbb).trans c1
      have d2 := (hb.cell (p := ⟨pb, o + k * 3 + 1, none⟩) hbb).trans c2
      have d3 := (hb.cell (p := ⟨pb, o + k * 3 + 2, none⟩) hbb).trans c3
      obtain ⟨Y, hY⟩ : ∃ Y, Y = wr.alloc (.cells #[.int .i8 (wnS l k), .int .i8 (wnT l k), .int .i64 (wnP l k)] 136) := ⟨_, rfl⟩
      have hby : Below wr.heap.size wr Y := by rw [hY]; exact (Below.refl _ _).alloc (Nat.le_refl _) _
      have hbx : Below w1.heap.size w1 Y := hb.trans (hby.mono hsr)
      have B0 : Bk Y wr.heap.size 136 #[.int .i8 (wnS l k), .int .i8 (wnT l k), .int .i64 (wnP l k)] := by rw [hY]; exact Bk.new _ _ _ rfl
      have y0 := Later.cell (B0.cell (i := 0) rfl)
      have y1 := Later.cell (B0.cell (i := 1) rfl)
      have y2 := Later.cell (B0.cell (i := 2) rfl)
      have y3 := Later.cell ((R0.keep hbx).cell (i := 0) rfl)
      have y4 := Later.cell ((R0.keep hbx).cell (i := 1) rfl)
      obtain ⟨m12, m34, m5, m6⟩ := hlw k hlt
      have KW : ∀ p : Later Y, Calls Try.prog 104 #[.agg #[.int .i8 (wnS l k), .int .i8 (wnT l k), .int .i64 (wnP l k)]] p.w (fun e w' => e = .returned (.agg #[.int .i64 (wnS l k), .int .i64 (wnT l k)]) ∧ Below p.w.heap.size p.w w') := fun p => wornAt_any _ _ _ _ m12 m34
      have KP0 : ∀ p : Later Y, Calls Try.prog 138 #[.agg #[.int .i64 s, .slice A n c], .agg #[.int .i64 (wnS l k), .int .i64 (wnT l k)]] p.w (Says (plW s n (wnS l k) (wnT l k)) p.w) := fun p => hasPlace_any s _ _ A n c _ hs hn
      have KT0 := fun W => within_any (wnP l k) 0 1000000 W
      clear c1 c2 c3 hL1
      cases hp : plW s n (wnS l k) (wnT l k)
      · have KP := KP0
        have KT := KT0
        rw [hp] at KP
        have HX := hide (show wnOk s n l k = false by simp [wnOk, hp])
        clear hp KP0 KT0
        go_wp2_with fail
        rw [← hY]
        clear hY
        refine wp_region_later (by kernel_rfl) (by kernel_rfl) ?_
        repeat (go_big_quiet_step (first | (go_at_call 104; exact Later.call (KW _)) | (go_at_call 138; exact Later.call (KP _)) | (go_at_call 55; exact Later.same (KT _))))
        refine wpQuiet_nil ?_
        rintro _ ⟨⟨wq, hq⟩, rfl⟩
        have hbq := hbx.trans (hq.mono hbx.size)
        go_wp2
        go_ret
        exact ⟨ret_bool (by rw [HW.out, okW_no hlt HX.out, Bool.false_and]), bq.trans (hbq.mono bq.size)⟩
      cases ht : inB (wnP l k) 0 1000000
      · have KP := KP0
        have KT := KT0
        rw [hp] at KP
        rw [ht] at KT
        have HX := hide (show wnOk s n l k = false by simp [wnOk, ht])
        clear hp ht KP0 KT0
        go_wp2_with fail
        rw [← hY]
        clear hY
        refine wp_region_later (by kernel_rfl) (by kernel_rfl) ?_
        repeat (go_big_quiet_step (first | (go_at_call 104; exact Later.call (KW _)) | (go_at_call 138; exact Later.call (KP _)) | (go_at_call 55; exact Later.same (KT _))))
        refine wpQuiet_nil ?_
        rintro _ ⟨⟨wq, hq⟩, rfl⟩
        have hbq := hbx.trans (hq.mono hbx.size)
        go_wp2
        go_ret
        exact ⟨ret_bool (by rw [HW.out, okW_no hlt HX.out, Bool.false_and]), bq.trans (hbq.mono bq.size)⟩
      · have KP := KP0
        have KT := KT0
        rw [hp] at KP
        rw [ht] at KT
        have HX := hide (show wnOk s n l k = true by simp [wnOk, hp, ht])
        clear hp ht KP0 KT0
        go_wp2_with fail
        rw [← hY]
        clear hY
        refine wp_region_later (by kernel_rfl) (by kernel_rfl) ?_
        repeat (go_big_quiet_step (first | (go_at_call 104; exact Later.call (KW _)) | (go_at_call 138; exact Later.call (KP _)) | (go_at_call 55; exact Later.same (KT _))))
        refine wpQuiet_nil ?_
        rintro _ ⟨⟨wq, hq⟩, rfl⟩
        have hbq := hbx.trans (hq.mono hbx.size)
        go_wp2
        go_roundw
        case rel => exact ⟨k + 1, hlt, by go_num, OG_succ HG.out HX.out, hbq⟩
        case measure => simp [intOf]; omega
    · obtain rfl : k = l.length := by omega
      have HK := hide (show canB s n l z = strB z by rw [HW.out, okW_yes HG.out, Bool.true_and])
      have q1 := (R1.keep hb).cell (i := 1) rfl
      go_wp2_with fail
      refine (containsStrokes_any U v z _ (hU1.below hb) hz).mono ?_
      rintro e w' ⟨rfl, rfl⟩
      go_wp2
      go_ret
      exact ⟨ret_bool HK.out.symm, bq.trans (hb.mono bq.size)⟩
end Go.Proofs.Ytcocfnjbgceidaa
