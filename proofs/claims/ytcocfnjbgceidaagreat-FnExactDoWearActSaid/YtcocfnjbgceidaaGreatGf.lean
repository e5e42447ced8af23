import Derived.Test.YtcocfnjbgceidaaGreatGc
import Derived.Test.YtcocfnjbgceidaaGreatGe
import Derived.Deep.CutRange
import Derived.Maps.Own
import Derived.Maps.OwnOps
import Derived.Lib.SliceRun
import Derived.Lib.AppendZeros
import Derived.Deep.RegionHeld3
import Derived.StillTailTactics
import Derived.Maps.Views
import Derived.Maps.RangeWalk
namespace Go.Proofs.YtcocfnjbgceidaaGreat
open Go.RowKit
def ascW (l : List (Int × Int × Int)) : Bool := (List.range l.length).all fun j => wnAsc l j
def AscW (l : List (Int × Int × Int)) (k : Nat) : Prop := ∀ j, j < k → 0 < j → befW (wnS l (j - 1)) (wnT l (j - 1)) (wnS l j) (wnT l j) = true
theorem ascW_yes (l : List (Int × Int × Int)) (h : AscW l l.length) : ascW l = true := by
  simp only [ascW, wnAsc, List.all_eq_true, List.mem_range]
  intro j hj
  rcases Nat.eq_zero_or_pos j with h0 | h0
  · simp [h0]
  · simp [h j hj h0]
theorem ascW_no (l : List (Int × Int × Int)) (k : Nat) (hk : k < l.length) (h0 : 0 < k) (h : befW (wnS l (k - 1)) (wnT l (k - 1)) (wnS l k) (wnT l k) = false) : ascW l = false := by
  unfold ascW
  rw [List.all_eq_false]
  exact ⟨k, List.mem_range.2 hk, by simp [wnAsc, h]; omega⟩
theorem AscW_succ (l : List (Int × Int × Int)) (k : Nat) (h : AscW l k) (h' : befW (wnS l (k - 1)) (wnT l (k - 1)) (wnS l k) (wnT l k) = true) : AscW l (k + 1) := fun j hj h0 => by
  rcases Nat.lt_or_ge j k with h1 | h1
  · exact h j h1 h0
  · rw [show j = k by omega]; exact h'
def okW (s : Int) (n : Nat) (l : List (Int × Int × Int)) : Bool := (List.range l.length).all fun j => wnOk s n l j
theorem pinsB_split (s : Int) (n : Nat) (l : List (Int × Int × Int)) : pinsB s n l = (ascW l && okW s n l) := by
  rw [Bool.eq_iff_iff]
  simp only [pinsB, ascW, okW, Bool.and_eq_true, List.all_eq_true, List.mem_range]
  exact ⟨fun h => ⟨fun j hj => (h j hj).2, fun j hj => (h j hj).1⟩, fun h j hj => ⟨h.2 j hj, h.1 j hj⟩⟩
set_option maxHeartbeats 400000 in
theorem ascendsW_any (A : Option Addr) (c : Nat) (l : List (Int × Int × Int)) (w : World) (hA : WnA w A l) (hn : l.length ≤ 1048576) :
    Calls Tryz.prog 103 #[.agg #[.slice A l.length c, .func (.func 102) #[] #[]]] w (Says (ascW l) w) := by
  obtain ⟨X, hX⟩ : ∃ X, X = (w.alloc (.cells #[.slice A l.length c, .func (.func 102) #[] #[]] 166)) := ⟨_, rfl⟩
  have hb0 : Below w.heap.size w X := by rw [hX]; exact (Below.refl _ _).alloc (Nat.le_refl _) _
  have P0 : Bk X w.heap.size 166 #[.slice A l.length c, .func (.func 102) #[] #[]] := by rw [hX]; exact Bk.new _ _ _ rfl
  have hA' := hA.below hb0
  have hXs := hb0.size
  clear hA
  go_enter Tryz.func103, Tryz.ntmps103
  go_upto_region 1 with fail
  rw [← hX]
  clear hX
  go_wp2_with fail
  go_loopw [3] (fun i wr => ∃ k : Nat, 0 < k ∧ k ≤ l.length + 1 ∧ i = .int .i64 k ∧ AscW l k ∧ Below X.heap.size X wr)
    (fun i _ => l.length + 1 - (intOf i).toNat)
  case atStart =>
    exact ⟨1, by omega, by omega, rfl, fun j hj h0 => absurd hj (by omega), Below.refl _ _⟩
  case round =>
    obtain ⟨k, hk0, hk, rfl, hG, hb⟩ := hrel
    have HG := hide hG
    clear hG
    by_cases hlt : k < l.length
    · obtain ⟨b, o, rfl, hbb, c1, c2, c5⟩ := hA' k hlt
      have d1 := Later.cell ((hb.cell (p := ⟨b, o + k * 3, none⟩) hbb).trans c1)
      have d2 := Later.cell ((hb.cell (p := ⟨b, o + k * 3 + 1, none⟩) hbb).trans c2)
      obtain ⟨b', o', e', hbb', c3, c4, c6⟩ := hA' (k - 1) (by omega)
      obtain ⟨rfl, rfl⟩ : b' = b ∧ o' = o := by simpa [eq_comm] using e'
      have d3 := Later.cell ((hb.cell (p := ⟨b', o' + (k - 1) * 3, none⟩) hbb').trans c3)
      have d4 := Later.cell ((hb.cell (p := ⟨b', o' + (k - 1) * 3 + 1, none⟩) hbb').trans c4)
      have d5 := Later.cell ((hb.cell (p := ⟨b', o' + k * 3 + 2, none⟩) hbb).trans c5)
      have d6 := Later.cell ((hb.cell (p := ⟨b', o' + (k - 1) * 3 + 2, none⟩) hbb').trans c6)
      have z0 := Later.cell ((P0.keep hb).cell (i := 0) rfl)
      have z1 := Later.cell ((P0.keep hb).cell (i := 1) rfl)
      have y0 := (P0.keep hb).cell (i := 0) rfl
      have hs := hb.size
      clear c1 c2 c3 c4 c5 c6 e' hA'
      go_wp2_with fail
      refine wp_region_later (by kernel_rfl) (by kernel_rfl) ?_
      repeat (go_big_quiet_step ((go_at_call 102; exact Later.call (compareWornPins_any _ _ _ _ _ _ _))))
      refine wpQuiet_nil ?_
      rintro _ ⟨⟨wq, hq⟩, rfl⟩
      have ho := ordJ_neg (wnS l (k - 1)) (wnT l (k - 1)) (wnS l k) (wnT l k)
      have Ho := hide ho
      clear ho
      go_wp2
      · go_ret
        have h1 : 0 ≤ ordJ (wnS l (k - 1)) (wnT l (k - 1)) (wnS l k) (wnT l k) := by assumption
        refine ⟨ret_bool (ascW_no l k hlt hk0 ?_).symm, hb0.trans ((hb.trans (hq.mono hs)).mono hXs)⟩
        cases hh : befW (wnS l (k - 1)) (wnT l (k - 1)) (wnS l k) (wnT l k)
        · rfl
        · have := Ho.out.2 hh; omega
      · have h1 : ordJ (wnS l (k - 1)) (wnT l (k - 1)) (wnS l k) (wnT l k) < 0 := by omega
        go_roundw
        case rel => exact ⟨k + 1, by omega, by omega, by go_num, AscW_succ l k HG.out (Ho.out.1 h1), hb.trans (hq.mono hs)⟩
        case measure => simp [intOf]; omega
    · have y0 := (P0.keep hb).cell (i := 0) rfl
      go_wp2
      go_ret
      exact ⟨ret_bool (by rw [ascW_yes l (fun j hj => HG.out j (by omega))]), hb0.trans (hb.mono hXs)⟩

theorem wornAt_any (a p r : Int) (w : World) (ha : -128 ≤ a ∧ a ≤ 127) (hp : -128 ≤ p ∧ p ≤ 127) :
    Calls Tryz.prog 86 #[.agg #[.int .i8 a, .int .i8 p, .int .i64 r]] w fun e w' => e = .returned (.agg #[.int .i64 a, .int .i64 p]) ∧ Below w.heap.size w w' := by
  obtain ⟨a1, a2⟩ := ha
  obtain ⟨p1, p2⟩ := hp
  go_enter Tryz.func86, Tryz.ntmps86
  go_wp2
  refine bodyPost_ret (v := .agg #[.int .i64 a, .int .i64 p]) (by simp [results, Tryz.results86, go_sem]) rfl ⟨rfl, ?_⟩
  repeat (first | exact Below.refl _ _ | refine Below.alloc ?_ (by simp <;> omega) _ | refine Below.setCell ?_ (by simp) _)
theorem hasPlace_any (s x y : Int) (A : Option Addr) (n c : Nat) (w : World) (hs : -32768 ≤ s ∧ s ≤ 32767) (hn : n ≤ 1048576) :
    Calls Tryz.prog 104 #[.agg #[.int .i64 s, .slice A n c], .agg #[.int .i64 x, .int .i64 y]] w (Says (plW s n x y) w) := by
  obtain ⟨X, hX⟩ : ∃ X, X = (w.alloc (.cells #[.int .i64 s, .slice A n c] 101)).alloc (.cells #[.int .i64 x, .int .i64 y] 138) := ⟨_, rfl⟩
  have hb0 : Below w.heap.size w X := by rw [hX]; exact ((Below.refl _ _).alloc (Nat.le_refl _) _).alloc (by simp) _
  have P0 : Bk X w.heap.size 101 #[.int .i64 s, .slice A n c] := by rw [hX]; exact (Bk.new _ _ _ rfl).old _
  have P1 : Bk X (w.heap.size + 1) 138 #[.int .i64 x, .int .i64 y] := by rw [hX]; exact Bk.new _ _ _ (by simp)
  have e0 := P0.cell (i := 0) rfl
  have e1 := P0.cell (i := 1) rfl
  have e2 := P1.cell (i := 0) rfl
  have e3 := P1.cell (i := 1) rfl
  obtain ⟨r, hr⟩ : ∃ r, r = inB x 0 (s - 1) := ⟨_, rfl⟩
  obtain ⟨q, hq⟩ : ∃ q, q = inB y 0 ((n : Int) - 1) := ⟨_, rfl⟩
  have HX := hide (show plW s n x y = (r && q) by rw [hr, hq]; rfl)
  have K1 := hasStep_any s x A n c X hs
  have K2 := fun W => hasTrack_any s y A n c W hn
  rw [← hr] at K1
  simp only [← hq] at K2
  clear hr hq
  go_enter Tryz.func104, Tryz.ntmps104
  go_upto_region 1 with fail
  rw [← hX]
  clear hX
  go_wp2_with fail
  refine K1.mono ?_
  rintro e w2 ⟨rfl, hb2⟩
  have b2 := step_below hb2 hb0
  have g0 := (P0.keep hb2).cell (i := 0) rfl
  have g1 := (P0.keep hb2).cell (i := 1) rfl
  have g2 := (P1.keep hb2).cell (i := 1) rfl
  clear e0 e1 e2 e3
  cases r
  · go_wp2
    go_ret
    exact ⟨ret_bool HX.out.symm, b2⟩
  · go_wp2_with fail
    refine (K2 _).mono ?_
    rintro e w3 ⟨rfl, hb3⟩
    have b3 := step_below hb3 b2
    go_wp2
    go_ret
    exact ⟨ret_bool HX.out.symm, b3⟩
theorem canWear1_any (x : Int) (w : World) :
    Calls Tryz.prog 106 #[.int .i64 x] w fun e w' => e = .returned (.bool (!inB x 0 1000000)) ∧ w = w' := by
  go_enter Tryz.func106, Tryz.ntmps106
  go_wp2_with (go_at_call 73; refine (within_any _ _ _ _).mono ?_; rintro e w' ⟨rfl, rfl⟩)
  go_ret
  exact ⟨rfl, rfl⟩
set_option maxRecDepth 20000 in
set_option maxHeartbeats 1000000 in
theorem indexStrokes_any (U : Option Addr) (v : Nat) (z : List Int) (w : World) (hU : SZ w U z) (hz : z.length ≤ 1048576) :
    Calls Tryz.prog 120 #[.slice U z.length v, .func (.func 106) #[] #[]] w fun e w' => ∃ r : Int, e = .returned (.int .i64 r) ∧ (0 ≤ r ↔ strB z = false) ∧ w = w' := by
  go_enter Tryz.func120, Tryz.ntmps120
  go_wp2_with fail
  go_loopw [8] (fun i wr => ∃ k : Nat, k ≤ z.length ∧ i = .int .i64 k ∧ ZG z k ∧ wr = w)
    (fun i _ => z.length - (intOf i).toNat)
  case atStart => exact ⟨0, Nat.zero_le _, rfl, fun j hj => absurd hj (Nat.not_lt_zero _), rfl⟩
  case round =>
    obtain ⟨k, hk, rfl, hG, rfl⟩ := hrel
    have HG := hide hG
    clear hG
    by_cases hlt : k < z.length
    · obtain ⟨b, o, rfl, hbb, c1⟩ := hU k hlt
      cases hi : inB (zAt z k) 0 1000000
      · have K1 := fun W => canWear1_any (zAt z k) W
        rw [hi] at K1
        have HI := hide hi
        clear hi hU
        go_wp2_with (go_at_call 106; with_reducible refine (K1 _).mono ?_; rintro e w' ⟨rfl, rfl⟩)
        go_ret
        exact ⟨_, rfl, ⟨fun _ => strB_no hlt HI.out, fun _ => by omega⟩, rfl⟩
      · have K1 := fun W => canWear1_any (zAt z k) W
        rw [hi] at K1
        have HI := hide hi
        clear hi hU
        go_wp2_with (go_at_call 106; with_reducible refine (K1 _).mono ?_; rintro e w' ⟨rfl, rfl⟩)
        go_roundw
        case rel => exact ⟨k + 1, hlt, by go_num, ZG_succ HG.out HI.out, by trivial⟩
        case measure => simp [intOf]; omega
    · obtain rfl : k = z.length := by omega
      have HS := hide (strB_yes HG.out)
      go_wp2
      go_ret
      exact ⟨_, rfl, ⟨fun h => absurd h (by decide), fun h => by rw [HS.out] at h; cases h⟩, rfl⟩
theorem containsStrokes_any (U : Option Addr) (v : Nat) (z : List Int) (w : World) (hU : SZ w U z) (hz : z.length ≤ 1048576) :
    Calls Tryz.prog 105 #[.slice U z.length v, .func (.func 106) #[] #[]] w fun e w' => e = .returned (.bool (!strB z)) ∧ w = w' := by
  go_enter Tryz.func105, Tryz.ntmps105
  go_wp2_with fail
  refine (indexStrokes_any U v z w hU hz).mono ?_
  rintro e w' ⟨r, rfl, hr, rfl⟩
  have HR := hide hr
  clear hr
  go_wp2
  go_ret
  refine ⟨ret_bool ?_, rfl⟩
  have := HR.out
  cases hs : strB z
  · simp [this.2 hs]
  · simp
    rcases Int.lt_or_le r 0 with h | h
    · exact h
    · have := this.1 h; rw [hs] at this; cases this
end Go.Proofs.YtcocfnjbgceidaaGreat
namespace Go.Proofs.YtcocfnjbgceidaaGreat
open Go.RowKit
def OG (s : Int) (n : Nat) (l : List (Int × Int × Int)) (k : Nat) : Prop := ∀ j, j < k → wnOk s n l j = true
theorem OG_succ {s : Int} {n : Nat} {l : List (Int × Int × Int)} {k : Nat} (h : OG s n l k) (h' : wnOk s n l k = true) : OG s n l (k + 1) := fun j hj => by
  rcases Nat.lt_or_ge j k with h1 | h1
  · exact h j h1
  · rw [show j = k by omega]; exact h'
theorem okW_yes {s : Int} {n : Nat} {l : List (Int × Int × Int)} (h : OG s n l l.length) : okW s n l = true := by simp only [okW, List.all_eq_true, List.mem_range]; exact h
theorem okW_no {s : Int} {n : Nat} {l : List (Int × Int × Int)} {k : Nat} (hk : k < l.length) (h : wnOk s n l k = false) : okW s n l = false := by
  rw [okW, List.all_eq_false]
  exact ⟨k, List.mem_range.2 hk, by simp [h]⟩
theorem infoOrd (x y : Value) : (Tryz.prog.info? 166).map (·.size) = some (#[x, y] : Array Value).size := by kernel_rfl
theorem szOrd (x y x' y' : Value) : (#[x, y] : Array Value).size = (#[x', y'] : Array Value).size := rfl
theorem oneOrd (P : Option Addr) (n d : Nat) (f : Fn) : (#[.slice P n d, .func f #[] #[]] : Array Value).all (·.oneCell') = true := by simp [Value.oneCell']
theorem wpList_store_newA {P : Program} {ops : Array Oper} {rest : List Oper} {o : Oper} {a : Act} {w : World} {Q : Exit → Act → World → Prop} (hgd : o.guard = none) (ty : TypeId) (x y : Operand) (ho : o.op = .store ty x y)
    (cs : Array Value) (hx : a.eval x = .pointer (some ⟨w.heap.size, 0, none⟩)) (hy : a.eval y = .agg cs)
    (t : TypeId) (old : Array Value) (hi : (P.info? ty).map (·.size) = some cs.size) (hold : old.size = cs.size) (h1 : cs.all (·.oneCell') = true)
    (h : wpList P ops Q rest (a.put o.dst undef) (w.alloc (.cells cs t))) : wpList P ops Q (o :: rest) a (w.alloc (.cells old t)) := by
  refine wpList_store_row hgd ty x y ho w.heap.size cs hx hy t old (heap_alloc_new w _) hi hold h1 ?_
  rw [setRow_alloc]
  exact h
def canB (s : Int) (n : Nat) (l : List (Int × Int × Int)) (z : List Int) : Bool := decide (z.length = n) && (ascW l && okW s n l) && strB z
theorem weB_can (s : Int) (h : List (Int × Int)) (l : List (Int × Int × Int)) (z : List Int) : weB s h l z = (frB s h && canB s h.length l z) := by
  simp only [weB, canB, pinsB_split, Bool.and_assoc]
set_option maxRecDepth 20000 in
set_option maxHeartbeats 4000000 in
theorem canWear_any (s : Int) (A : Option Addr) (n c : Nat) (P : Option Addr) (d : Nat) (l : List (Int × Int × Int)) (U : Option Addr) (v : Nat) (z : List Int) (w : World) (hL : WnA w P l) (hU : SZ w U z) (hl : l.length ≤ 1048576) (hz : z.length ≤ 1048576) (hn : n ≤ 1048576) (hs : -32768 ≤ s ∧ s ≤ 32767) (hlw : WnWF l) :
    Calls Tryz.prog 83 #[.agg #[.int .i64 s, .slice A n c], .agg #[.slice P l.length d, .slice U z.length v]] w (Says (canB s n l z) w) := by
  obtain ⟨X0, hX0⟩ : ∃ X, X = (w.alloc (.cells #[.int .i64 s, .slice A n c] 101)).alloc (.cells #[.slice P l.length d, .slice U z.length v] 34) := ⟨_, rfl⟩
  have hb00 : Below w.heap.size w X0 := by rw [hX0]; exact ((Below.refl _ _).alloc (Nat.le_refl _) _).alloc (by simp) _
  have P00 : Bk X0 w.heap.size 101 #[.int .i64 s, .slice A n c] := by rw [hX0]; exact (Bk.new _ _ _ rfl).old _
  have P01 : Bk X0 (w.heap.size + 1) 34 #[.slice P l.length d, .slice U z.length v] := by rw [hX0]; exact Bk.new _ _ _ (by simp)
  have f0 := P01.cell (i := 0) rfl
  obtain ⟨X, hX⟩ : ∃ X, X = X0.alloc (.cells #[.slice P l.length d, .func (.func 102) #[] #[]] 166) := ⟨_, rfl⟩
  have hb0 : Below w.heap.size w X := by rw [hX]; exact hb00.alloc hb00.size _
  have P0 : Bk X w.heap.size 101 #[.int .i64 s, .slice A n c] := by rw [hX]; exact P00.old _
  have P1 : Bk X (w.heap.size + 1) 34 #[.slice P l.length d, .slice U z.length v] := by rw [hX]; exact P01.old _
  have P2 : Bk X X0.heap.size 166 #[.slice P l.length d, .func (.func 102) #[] #[]] := by rw [hX]; exact Bk.new _ _ _ rfl
  have hXs := hb0.size
  have HT := fun W => tracks_any A n c hn W
  have hL' := hL.below hb0
  have hU' := hU.below hb0
  have KA0 : ∀ p : Later X, Calls Tryz.prog 103 #[.agg #[.slice P l.length d, .func (.func 102) #[] #[]]] p.w (Says (ascW l) p.w) := fun p => ascendsW_any P d l _ (hL'.below p.h) hl
  have e0 := Later.cell (P0.cell (i := 0) rfl)
  have e1 := Later.cell (P0.cell (i := 1) rfl)
  have e2 := Later.cell (P1.cell (i := 1) rfl)
  have e3 := Later.cell (P2.cell (i := 0) rfl)
  have e4 := Later.cell (P2.cell (i := 1) rfl)
  clear hL hU
  by_cases hzn : z.length = n
  case neg =>
    have H1 : ((z.length : Int) != (n : Int)) = true := by simp; omega
    have HX := hide (show canB s n l z = false by simp [canB, hzn])
    have KA := KA0
    clear hzn KA0
    go_enter Tryz.func83, Tryz.ntmps83
    go_upto_region 1 with fail
    rw [← hX0]
    clear hX0
    go_upto_region 2 with (with_reducible refine wpList_store_newA rfl 166 (.tmp 5) (.tmp 10) rfl #[.slice P l.length d, .func (.func 102) #[] #[]] rfl rfl 166 _ (infoOrd _ _) (szOrd _ _ _ _) (oneOrd _ _ _ _) ?_)
    rw [← hX]
    clear hX
    try simp only [Act.put]
    refine wp_region_later (by kernel_rfl) (by kernel_rfl) ?_
    repeat (go_big_quiet_step (first | (go_at_call 99; exact Later.same (HT _)) | (go_at_call 103; exact Later.call (KA _))))
    refine wpQuiet_nil ?_
    rintro _ ⟨⟨wq, hq⟩, rfl⟩
    go_wp2
    go_ret
    exact ⟨ret_bool HX.out.symm, hb0.trans (hq.mono hXs)⟩
  have H1 : ((z.length : Int) != (n : Int)) = false := by simp [hzn]
  cases ha : ascW l
  · have HX := hide (show canB s n l z = false by simp [canB, ha])
    have KA := KA0
    rw [ha] at KA
    clear hzn KA0 ha
    go_enter Tryz.func83, Tryz.ntmps83
    go_upto_region 1 with fail
    rw [← hX0]
    clear hX0
    go_upto_region 2 with (with_reducible refine wpList_store_newA rfl 166 (.tmp 5) (.tmp 10) rfl #[.slice P l.length d, .func (.func 102) #[] #[]] rfl rfl 166 _ (infoOrd _ _) (szOrd _ _ _ _) (oneOrd _ _ _ _) ?_)
    rw [← hX]
    clear hX
    try simp only [Act.put]
    refine wp_region_later (by kernel_rfl) (by kernel_rfl) ?_
    repeat (go_big_quiet_step (first | (go_at_call 99; exact Later.same (HT _)) | (go_at_call 103; exact Later.call (KA _))))
    refine wpQuiet_nil ?_
    rintro _ ⟨⟨wq, hq⟩, rfl⟩
    go_wp2
    go_ret
    exact ⟨ret_bool HX.out.symm, hb0.trans (hq.mono hXs)⟩
  have HW := hide (show canB s n l z = (okW s n l && strB z) by simp [canB, ha, hzn])
  have KA := KA0
  rw [ha] at KA
  clear hzn KA0 ha
  go_enter Tryz.func83, Tryz.ntmps83
  go_upto_region 1 with fail
  rw [← hX0]
  clear hX0
  go_upto_region 2 with (with_reducible refine wpList_store_newA rfl 166 (.tmp 5) (.tmp 10) rfl #[.slice P l.length d, .func (.func 102) #[] #[]] rfl rfl 166 _ (infoOrd _ _) (szOrd _ _ _ _) (oneOrd _ _ _ _) ?_)
  rw [← hX]
  clear hX
  try simp only [Act.put]
  refine wp_region_later (by kernel_rfl) (by kernel_rfl) ?_
  repeat (go_big_quiet_step (first | (go_at_call 99; exact Later.same (HT _)) | (go_at_call 103; exact Later.call (KA _))))
  refine wpQuiet_nil ?_
  rintro w1 ⟨⟨wq, hq⟩, rfl⟩
  clear e0 e1 e2 e3 e4 KA H1
  try dsimp only
  have hqs := hq.size
  have R0 := P0.keep hq
  have R1 := P1.keep hq
  have hL1 := hL'.below hq
  have hU1 := hU'.below hq
  have bq := hb0.trans (hq.mono hXs)
  clear hL' hU' P0 P1 P2 hq
  have c0 := R1.cell (i := 0) rfl
  have c1 := R1.cell (i := 1) rfl
  go_wp2_with fail
  go_loopw [26] (fun i wr => ∃ k : Nat, k ≤ l.length ∧ i = .int .i64 k ∧ OG s n l k ∧ Below w1.heap.size w1 wr)
    (fun i _ => l.length - (intOf i).toNat)
  case atStart => exact ⟨0, Nat.zero_le _, rfl, fun j hj => absurd hj (Nat.not_lt_zero _), Below.refl _ _⟩
  case round =>
    obtain ⟨k, hk, rfl, hG, hb⟩ := hrel
    have HG := hide hG
    clear hG c0 c1
    have hsr := hb.size
    by_cases hlt : k < l.length
    · obtain ⟨pb, o, rfl, hbb, c1, c2, c3⟩ := hL1 k hlt
      have d1 := (hb.cell (p := ⟨pb, o + k * 3, none⟩) hbb).trans c1
      have d2 := (hb.cell (p := ⟨pb, o + k * 3 + 1, none⟩) hbb).trans c2
      have d3 := (hb.cell (p := ⟨pb, o + k * 3 + 2, none⟩) hbb).trans c3
      obtain ⟨Y, hY⟩ : ∃ Y, Y = wr.alloc (.cells #[.int .i8 (wnS l k), .int .i8 (wnT l k), .int .i64 (wnP l k)] 97) := ⟨_, rfl⟩
      have hby : Below wr.heap.size wr Y := by rw [hY]; exact (Below.refl _ _).alloc (Nat.le_refl _) _
      have hbx : Below w1.heap.size w1 Y := hb.trans (hby.mono hsr)
      have B0 : Bk Y wr.heap.size 97 #[.int .i8 (wnS l k), .int .i8 (wnT l k), .int .i64 (wnP l k)] := by rw [hY]; exact Bk.new _ _ _ rfl
      have y0 := Later.cell (B0.cell (i := 0) rfl)
      have y1 := Later.cell (B0.cell (i := 1) rfl)
      have y2 := Later.cell (B0.cell (i := 2) rfl)
      have y3 := Later.cell ((R0.keep hbx).cell (i := 0) rfl)
      have y4 := Later.cell ((R0.keep hbx).cell (i := 1) rfl)
      obtain ⟨m12, m34, m5, m6⟩ := hlw k hlt
      have KW : ∀ p : Later Y, Calls Tryz.prog 86 #[.agg #[.int .i8 (wnS l k), .int .i8 (wnT l k), .int .i64 (wnP l k)]] p.w (fun e w' => e = .returned (.agg #[.int .i64 (wnS l k), .int .i64 (wnT l k)]) ∧ Below p.w.heap.size p.w w') := fun p => wornAt_any _ _ _ _ m12 m34
      have KP0 : ∀ p : Later Y, Calls Tryz.prog 104 #[.agg #[.int .i64 s, .slice A n c], .agg #[.int .i64 (wnS l k), .int .i64 (wnT l k)]] p.w (Says (plW s n (wnS l k) (wnT l k)) p.w) := fun p => hasPlace_any s _ _ A n c _ hs hn
      have KT0 := fun W => within_any (wnP l k) 0 1000000 W
      clear c1 c2 c3 hL1
      cases hp : plW s n (wnS l k) (wnT l k)
      · have KP := KP0
        have KT := KT0
        rw [hp] at KP
        have HX := hide (show wnOk s n l k = false by simp [wnOk, hp])
        clear hp KP0 KT0
        go_wp2_with fail
        rw [← hY]
        clear hY
        refine wp_region_later (by kernel_rfl) (by kernel_rfl) ?_
        repeat (go_big_quiet_step (first | (go_at_call 86; exact Later.call (KW _)) | (go_at_call 104; exact Later.call (KP _)) | (go_at_call 73; exact Later.same (KT _))))
        refine wpQuiet_nil ?_
        rintro _ ⟨⟨wq, hq⟩, rfl⟩
        have hbq := hbx.trans (hq.mono hbx.size)
        go_wp2
        go_ret
        exact ⟨ret_bool (by rw [HW.out, okW_no hlt HX.out, Bool.false_and]), bq.trans (hbq.mono bq.size)⟩
      cases ht : inB (wnP l k) 0 1000000
      · have KP := KP0
        have KT := KT0
        rw [hp] at KP
        rw [ht] at KT
        have HX := hide (show wnOk s n l k = false by simp [wnOk, ht])
        clear hp ht KP0 KT0
        go_wp2_with fail
        rw [← hY]
        clear hY
        refine wp_region_later (by kernel_rfl) (by kernel_rfl) ?_
        repeat (go_big_quiet_step (first | (go_at_call 86; exact Later.call (KW _)) | (go_at_call 104; exact Later.call (KP _)) | (go_at_call 73; exact Later.same (KT _))))
        refine wpQuiet_nil ?_
        rintro _ ⟨⟨wq, hq⟩, rfl⟩
        have hbq := hbx.trans (hq.mono hbx.size)
        go_wp2
        go_ret
        exact ⟨ret_bool (by rw [HW.out, okW_no hlt HX.out, Bool.false_and]), bq.trans (hbq.mono bq.size)⟩
      · have KP := KP0
        have KT := KT0
        rw [hp] at KP
        rw [ht] at KT
        have HX := hide (show wnOk s n l k = true by simp [wnOk, hp, ht])
        clear hp ht KP0 KT0
        go_wp2_with fail
        rw [← hY]
        clear hY
        refine wp_region_later (by kernel_rfl) (by kernel_rfl) ?_
        repeat (go_big_quiet_step (first | (go_at_call 86; exact Later.call (KW _)) | (go_at_call 104; exact Later.call (KP _)) | (go_at_call 73; exact Later.same (KT _))))
        refine wpQuiet_nil ?_
        rintro _ ⟨⟨wq, hq⟩, rfl⟩
        have hbq := hbx.trans (hq.mono hbx.size)
        go_wp2
        go_roundw
        case rel => exact ⟨k + 1, hlt, by go_num, OG_succ HG.out HX.out, hbq⟩
        case measure => simp [intOf]; omega
    · obtain rfl : k = l.length := by omega
      have HK := hide (show canB s n l z = strB z by rw [HW.out, okW_yes HG.out, Bool.true_and])
      have q1 := (R1.keep hb).cell (i := 1) rfl
      go_wp2_with fail
      refine (containsStrokes_any U v z _ (hU1.below hb) hz).mono ?_
      rintro e w' ⟨rfl, rfl⟩
      go_wp2
      go_ret
      exact ⟨ret_bool HK.out.symm, bq.trans (hb.mono bq.size)⟩
end Go.Proofs.YtcocfnjbgceidaaGreat
namespace Go.Proofs.YtcocfnjbgceidaaGreat
open Go.RowKit Go.Maps
theorem SZ.cells {w : World} {ad : Addr} {l : List Int} (h : SZ w (some ad) l) : ∀ j u, (icells l)[j]? = some u → w.cell? (ad.add j) = some u := by
  intro j u hu
  have hj : j < (icells l).length := (List.getElem?_eq_some_iff.1 hu).1
  rw [icells_length] at hj
  obtain ⟨b, o, e, _, c0⟩ := h j hj
  obtain rfl : ad = ⟨b, o, none⟩ := Option.some.inj e
  rw [Addr.add_lit, c0, ← hu, icells_get l j hj]
theorem SZ.none {w : World} {l : List Int} (h : SZ w none l) : l = [] := by
  rcases Nat.eq_zero_or_pos l.length with e | e
  · exact List.length_eq_zero_iff.1 e
  · obtain ⟨b, o, h1, _⟩ := h 0 e
    cases h1
theorem icells_one (l : List Int) : ∀ u ∈ icells l, u.oneCell' = true := by
  intro u hu
  simp only [icells, List.mem_map] at hu
  obtain ⟨n, _, rfl⟩ := hu
  rfl
theorem own_shapeZ {w : World} {base : Nat} {e : TypeId} {size n : Nat} {v : Value} {xs : List Value} (h : w.ownsRow base e size v n xs) : ∃ A c, v = .slice A n c := by
  rcases h.2 with ⟨rfl, rfl⟩ | ⟨g, cap, cur, rfl, _⟩
  · exact ⟨_, _, rfl⟩
  · exact ⟨_, _, rfl⟩
/-- append of numbers that lie somewhere to a row of the call's own -/
theorem run_append_z (w : World) (t : TypeId) (ht : Tryz.prog.underlying t = some (.slice 2)) (base : Nat) (i0 : TypeInfo) (hi : Tryz.prog.info? 2 = some i0)
    (hz0 : i0.zero = some (.int .i64 0)) (hz1 : i0.size = 1) (hz2 : i0.bytes = 8) (v : Value) (n : Nat) (xs : List Value) (hown : w.ownsRow base 2 1 v n xs) (ad : Addr) (c : Nat) (l : List Int) (hA : SZ w (some ad) l)
    (hn : n ≤ 4194304) (hl : l.length ≤ 4194304) (hb : base ≤ w.heap.size) :
    ∃ A' c' w', (∀ ty, (Builtin.append_ #[t, t] ty #[v, .slice (some ad) l.length c]).run Tryz.prog w = .ok (.slice A' (n + l.length) c') w') ∧ w'.ownsRow base 2 1 (.slice A' (n + l.length) c') (n + l.length) (xs ++ icells l) ∧ w.grownBy w' v.ownBlock := by
  obtain ⟨Av, cv, rfl⟩ := own_shapeZ hown
  have key : ∀ ty, ∃ v' w', (Builtin.append_ #[t, t] ty #[.slice Av n cv, .slice (some ad) l.length c]).run Tryz.prog w = .ok v' w' ∧ w'.ownsRow base 2 1 v' (n + l.length) (xs ++ icells l) ∧ w.grownBy w' (Value.slice Av n cv).ownBlock ∧ (v' = .slice none 0 0 ↔ Value.slice Av n cv = .slice none 0 0 ∧ l.length = 0) := fun ty =>
    run_append_own w base t ty 2 i0 (.int .i64 0) 1 8 ht hi hz0 hz1 hz2 rfl (by decide) _ n xs hown ad l.length c (icells l) (by rw [icells_length, Nat.mul_one]) (SZ.cells hA) (icells_one l) (by unfold maxLen; omega) (by omega) hb
  obtain ⟨v', w', hr, h2, h3, _⟩ := key 0
  obtain ⟨A', c', rfl⟩ := own_shapeZ h2
  exact ⟨A', c', w', fun ty => hr, h2, h3⟩
/-- numbers of the call's own -/
def OwnI (w : World) (l : List Int) (e : Ending) (w' : World) : Prop := ∃ (C : Option Addr) (q : Nat), e = .returned (.slice C l.length q) ∧ w'.ownsRow w.heap.size 2 1 (.slice C l.length q) l.length (icells l) ∧ Below w.heap.size w w'
theorem own_emptyI {w : World} {base : Nat} (t : TypeId) (size : Nat) (h : base ≤ w.heap.size) : (w.alloc (.cells #[] t)).ownsRow base t size (.slice (some ⟨w.heap.size, 0, none⟩) 0 0) 0 [] :=
  World.ownsRow_made w #[] 0 h (by unfold maxLen; omega) (by simp)
set_option maxRecDepth 20000 in
theorem cloneZ_any (A : Option Addr) (c : Nat) (l : List Int) (w : World) (hA : SZ w A l) (hn : l.length ≤ 1048576) :
    Calls Tryz.prog 85 #[.slice A l.length c] w (OwnI w l) := by
  obtain ⟨i0, hi, hz0, hz1, hz2⟩ := info_parts info2
  have q22 : ∀ (w : World) (a : Option Addr) (n c n' c' : Nat), (binOp .eql 27 (.slice a n c) (.slice none n' c')).run Tryz.prog w = .ok (.bool a.isNone) w := fun w a n c n' c' => Lib.run_eql_slice_nil w _ _ a n c n' c' Tryz.underlying27
  cases A with
  | none =>
    obtain rfl := SZ.none hA
    go_enter Tryz.func85, Tryz.ntmps85
    go_wp2
    go_ret
    exact ⟨none, 0, rfl, World.ownsRow_nil _ _ _ _, Below.refl _ _⟩
  | some ad =>
    have hal : Below w.heap.size w (w.alloc (.cells #[] 2)) := (Below.refl _ _).alloc (Nat.le_refl _) _
    have hE : (w.alloc (.cells #[] 2)).ownsRow w.heap.size 2 1 (.slice (some ⟨w.heap.size, 0, none⟩) 0 0) 0 [] := own_emptyI _ _ (Nat.le_refl _)
    obtain ⟨A3, c3, w3, hr3, own3, gr3⟩ := run_append_z _ 27 Tryz.underlying27 w.heap.size i0 hi hz0 hz1 hz2 _ 0 [] hE ad c l (hA.below hal) (by omega) (by omega) hal.size
    simp only [Nat.zero_add, List.nil_append] at hr3 own3
    have hb3 : Below w.heap.size w w3 := hal.grown gr3 hal.size (fun j hj => (hE.lt j hj).1)
    clear hE gr3 hal
    go_enter Tryz.func85, Tryz.ntmps85
    go_wp2_with (at_builtin; refine Lib.wpList_append_run _ rfl _ _ _ _ rfl _ _ rfl rfl _ _ (hr3 _) ?_)
    go_ret
    exact ⟨A3, c3, rfl, own3, hb3⟩

theorem keyTypeP : Tryz.prog.keyType 138 = true := by kernel_rfl
theorem rowP : (138 : TypeId) < Tryz.prog.types.size := of_decide_eq_true (by kernel_rfl)
theorem Tryz.laidW : laidOutB Tryz.prog = true := by kernel_rfl
theorem lawP : Keyed Tryz.prog 138 := Keyed.of_law (deep_law_laid Tryz.laidW (m := 2) (by omega) rowP (by kernel_rfl) (by kernel_rfl))
theorem cellsP : Tryz.prog.cellsOf 138 = 2 := by kernel_rfl
theorem cellsPi : Tryz.prog.cellsOf 2 = 1 := by kernel_rfl
theorem typesP : ∃ d, Tryz.prog.types.size + 1 = d + 1 + 1 := ⟨Tryz.prog.types.size - 1, by have h : (138 : Nat) < Tryz.prog.types.size := rowP; omega⟩
theorem wf64 {x : Int} (h : -9223372036854775808 ≤ x ∧ x ≤ 9223372036854775807) : (Lit.int .i64 x).wf = true := by simp [Lit.wf, IntKind.min, IntKind.max, IntKind.signed, IntKind.bits]; omega
/-- what a place reads as, as a key -/
noncomputable def kP (x y : Int) : Lit := (keyOf Tryz.prog 138 (.agg #[.int .i64 x, .int .i64 y])).getD (.bool false)
theorem key_place (x y : Int) (hx : -9223372036854775808 ≤ x ∧ x ≤ 9223372036854775807) (hy : -9223372036854775808 ≤ y ∧ y ≤ 9223372036854775807) : keyOf Tryz.prog 138 (.agg #[.int .i64 x, .int .i64 y]) = some (kP x y) := by
  obtain ⟨d, hd⟩ := typesP
  have hf : (Value.agg #[.int .i64 x, .int .i64 y]).formed Tryz.prog 138 = true := by simp [Value.formed, Tryz.underlying138, cellsP]
  have hL : ∃ s, keyOf Tryz.prog 138 (.agg #[.int .i64 x, .int .i64 y]) = some s := by
    unfold keyOf
    rw [hd, Tryz.underlying138]
    simp only [keyTypeP, hf, Bool.and_self, if_true, Value.cells]
    simp [Program.keyLits, Tryz.underlying138, Tryz.underlying2, cellsPi, cellsP, wf64 hx, wf64 hy]
  obtain ⟨s, hs⟩ := hL
  rw [kP, hs]
  rfl
/-- the map of the first k pins -/
noncomputable def mapW (l : List (Int × Int × Int)) : Nat → DataW Unit
  | 0 => .map []
  | k + 1 => (mapW l k).put (kP (wnS l k) (wnT l k)) (.lit (.int .i64 (wnP l k)))
theorem i64_of8 {x : Int} (h : -128 ≤ x ∧ x ≤ 127) : -9223372036854775808 ≤ x ∧ x ≤ 9223372036854775807 := ⟨by omega, by omega⟩
theorem wp_mapUpdate_own {P : Program} {o : Oper} {a : Act} {w : World} {K : Act → World → Prop} {Q : Exit → Act → World → Prop} (m x v : Operand) (t : TypeId) (hop : o.op = Op.mapUpdate t m x v)
    (k e : TypeId) (KK : Keyed P k) (ht : P.underlying t = some (.map k e)) (R : Value → Option (DataW Unit × List MemPlace)) (b n : Nat) (D : DataW Unit)
    (hm : a.eval m = .map (some b)) (hown : w.ownsMap P k R b n D) (hn : n < maxLen) (key val : Value) (kl : Lit) (hx : a.eval x = key) (hv : a.eval v = val) (hkey : keyOf P k key = some kl)
    (d : DataW Unit) (ps : List MemPlace) (hval : R val = some (d, ps))
    (hK : ∀ w', w'.ownsMap P k R b (n + 1) (D.put kl d) → w.grownBy w' (some b) → K (a.put o.dst undef) w') : o.wp P a w K Q := by
  obtain ⟨w', hrun, r1, r2⟩ := hown.update KK ht hn hkey hval
  unfold Oper.wp
  simp [execOp, hop, hm, hx, hv, hrun, Result.andThen]
  exact hK w' r1 r2
theorem areLives_nil (w : World) : Calls Tryz.prog 84 #[.slice none 0 0] w (Says true w) := by
  have K1 : ∀ W, Calls Tryz.prog 121 #[.slice none 0 0, .func (.func 108) #[] #[]] W fun e w' => e = .returned (.int .i64 (-1)) ∧ W = w' := by
    intro W
    go_enter Tryz.func121, Tryz.ntmps121
    go_wp2_with fail
    go_loopw [8] (fun i wr => i = .int .i64 0 ∧ wr = W) (fun _ _ => 0)
    case atStart => exact ⟨rfl, by trivial⟩
    case round =>
      obtain ⟨rfl, rfl⟩ := hrel
      go_wp2
      go_ret
      exact ⟨rfl, rfl⟩
  have K2 : ∀ W, Calls Tryz.prog 107 #[.slice none 0 0, .func (.func 108) #[] #[]] W fun e w' => e = .returned (.bool false) ∧ W = w' := by
    intro W
    go_enter Tryz.func107, Tryz.ntmps107
    go_wp2_with fail
    refine (K1 _).mono ?_
    rintro e w' ⟨rfl, rfl⟩
    go_wp2
    go_ret
    exact ⟨rfl, rfl⟩
  go_enter Tryz.func84, Tryz.ntmps84
  go_wp2_with fail
  refine (K2 _).mono ?_
  rintro e w' ⟨rfl, rfl⟩
  go_wp2
  go_ret
  exact ⟨rfl, Below.refl _ _⟩
end Go.Proofs.YtcocfnjbgceidaaGreat
namespace Go.Proofs.YtcocfnjbgceidaaGreat
open Go.RowKit

/-- how many bits are set -/
def pc (x : Nat) : Nat := if h : x = 0 then 0 else x % 2 + pc (x / 2)
termination_by x
decreasing_by omega
theorem pc_zero : pc 0 = 0 := by unfold pc; simp
theorem pc_step (x : Nat) : pc x = x % 2 + pc (x / 2) := by
  by_cases h : x = 0
  · subst h; simp [pc_zero]
  · conv => lhs; unfold pc
    rw [dif_neg h]
theorem pc_le (x : Nat) : pc x ≤ x := by
  induction x using Nat.strongRecOn with
  | ind x ih =>
    by_cases h : x = 0
    · subst h; simp [pc_zero]
    · rw [pc_step]
      have := ih (x / 2) (by omega)
      omega
theorem pc_byte (a b : Nat) (hb : b < 256) : pc (256 * a + b) = pc a + pc b := by
  have step : ∀ (n m c : Nat), pc (2 * n * m + c) = c % 2 + pc (n * m + c / 2) := by
    intro n m c
    rw [pc_step]
    have h1 : (2 * n * m + c) % 2 = c % 2 := by rw [Nat.mul_assoc]; omega
    have h2 : (2 * n * m + c) / 2 = n * m + c / 2 := by rw [Nat.mul_assoc]; omega
    rw [h1, h2]
  have e : ∀ n c, pc (256 * n + c) = c % 2 + (c / 2 % 2 + (c / 2 / 2 % 2 + (c / 2 / 2 / 2 % 2 + (c / 2 / 2 / 2 / 2 % 2 + (c / 2 / 2 / 2 / 2 / 2 % 2 + (c / 2 / 2 / 2 / 2 / 2 / 2 % 2 + (c / 2 / 2 / 2 / 2 / 2 / 2 / 2 % 2 + pc (n + c / 2 / 2 / 2 / 2 / 2 / 2 / 2 / 2)))))))) := by
    intro n c
    rw [step 128 n c, step 64 n, step 32 n, step 16 n, step 8 n, step 4 n, step 2 n, step 1 n, Nat.one_mul]
  have e0 := e a b
  have e1 := e 0 b
  have hz : b / 2 / 2 / 2 / 2 / 2 / 2 / 2 / 2 = 0 := by omega
  rw [hz] at e0 e1
  rw [Nat.mul_zero, Nat.zero_add, Nat.zero_add, pc_zero] at e1
  rw [Nat.add_zero] at e0
  omega

/-- the bits of a byte -/
def pb (v : Nat) : Nat := v % 2 + (v / 2 % 2 + (v / 4 % 2 + (v / 8 % 2 + (v / 16 % 2 + (v / 32 % 2 + (v / 64 % 2 + v / 128 % 2))))))
theorem pc_pb (v : Nat) (h : v < 256) : pc v = pb v := by
  rw [pc_step v, pc_step (v / 2), pc_step (v / 2 / 2), pc_step (v / 2 / 2 / 2), pc_step (v / 2 / 2 / 2 / 2), pc_step (v / 2 / 2 / 2 / 2 / 2), pc_step (v / 2 / 2 / 2 / 2 / 2 / 2), pc_step (v / 2 / 2 / 2 / 2 / 2 / 2 / 2), show v / 2 / 2 / 2 / 2 / 2 / 2 / 2 / 2 = 0 by omega, pc_zero]
  unfold pb
  omega
theorem pb_le (v : Nat) : pb v ≤ 8 := by unfold pb; omega
def tabL : List Nat := (List.range 256).map pb
theorem tab_get (S : ByteArray) (hS : S.data.toList.map UInt8.toNat = tabL) (v : Nat) (hv : v < 256) : ∃ b, S[v]? = some b ∧ b.toNat = pc v := by
  have hl : S.data.toList.length = 256 := by have := congrArg List.length hS; simpa [tabL] using this
  have h1 : v < S.data.toList.length := by omega
  have h2 : v < S.size := by simpa using h1
  refine ⟨S[v], getElem?_pos S v h2, ?_⟩
  have h3 : (S.data.toList.map UInt8.toNat)[v]? = some (pb v) := by rw [hS]; simp [tabL, hv]
  rw [pc_pb v hv]
  rw [List.getElem?_map, List.getElem?_eq_getElem h1] at h3
  show S.data[v].toNat = pb v
  simpa using h3
theorem quiet_index {P : Program} {o : Oper} {a : Act} {C : World → Prop} {K : Act → Prop} (ty : TypeId) (x y : Operand) (ho : o.op = .index ty x y) (ht : P.underlying ty = some .string)
    (S : ByteArray) (hx : a.eval x = .string S) (v' : Int) (hy : a.eval y = .int .u32 v') (hS : S.data.toList.map UInt8.toNat = tabL) (v : Nat) (hv : v < 256) (hvv : v' = (v : Int))
    (h : K (a.put o.dst (.int .u8 (pc v : Nat)))) : o.quiet P a C K := by
  obtain ⟨b, hb, hbb⟩ := tab_get S hS v hv
  refine ⟨.int .u8 (pc v : Nat), fun w hw => ?_, h⟩
  subst hvv
  unfold Oper.quietAt execOp
  have hrun : (Instr.index ty (.string S) (.int .u32 v)).run P w = .ok (.int .u8 (pc v : Nat)) w := by
    simp [Instr.index, asIntOf, run_underlying ht, hb, hbb]
  simp only [ho, hx, hy, Sem.run_bind, hrun, Result.andThen_ok, Sem.run_pure]
  exact ⟨rfl, rfl⟩

end Go.Proofs.YtcocfnjbgceidaaGreat
namespace Go.Proofs.YtcocfnjbgceidaaGreat
open Go.RowKit

/-- the pins of the first k steps -/
def cntT (d : Nat → Int) : Nat → Nat
  | 0 => 0
  | k + 1 => cntT d k + pc (d k).toNat
theorem cntT_le (d : Nat → Int) (hd : DWF d) : ∀ k, k ≤ 96 → cntT d k ≤ k * 4294967295
  | 0, _ => by simp [cntT]
  | k + 1, h => by
    have h1 := cntT_le d hd k (by omega)
    have h2 := pc_le (d k).toNat
    have h3 := hd k (by omega)
    simp only [cntT]
    omega
def cntI (d : Nat → Int) : Int := (cntT d 96 : Nat)
theorem indexD (d : Nat → Int) (k : Nat) (hk : k < 96) (w : World) : (Instr.index 185 (.agg (da d)) (.int .i64 k)).run Tryz.prog w = .ok (.int .u32 (d k)) w := by
  have h := dv_get d k hk
  simp [Instr.index, asIntOf, run_underlying Tryz.underlying185, go_sem, hk, da, h]
end Go.Proofs.YtcocfnjbgceidaaGreat
namespace Go.Proofs.YtcocfnjbgceidaaGreat
open Go.RowKit

/-- three values come back; what there was is as it was -/
def Trip (x y z : Value) (w : World) (e : Ending) (w' : World) : Prop := e = .returned (.tuple #[x, y, z]) ∧ Below w.heap.size w w'
/-- the pins of p that q has not -/
def mvD (p q : Nat → Int) (i : Nat) : Int := bits .andNot .u32 (p i) (q i)
theorem mv_wf (p q : Nat → Int) : DWF (mvD p q) := fun _ _ => bounds_u32 (wf_bits .andNot .u32 _ _)
def mvI (p q : Nat → Int) : Int := cntI (mvD p q)
def ask2B (s : Int) (l : List (Int × Int)) (a b : Nat → Int) : Bool := frB s l && (drB s l.length a && drB s l.length b)

def mvP (s : Int) (l : List (Int × Int)) (a b p q : Nat → Int) : Int := onlyI (ask2B s l a b) (mvI p q)
theorem machine2_any (s : Int) (A : Option Addr) (c : Nat) (l : List (Int × Int)) (a b : Nat → Int) (w : World) (hA : HA w A l) (hn : l.length ≤ 1048576) (hwf : HWF l) (hs : -32768 ≤ s ∧ s ≤ 32767) (ha : DWF a) (hb : DWF b) (g : Nat) (hg : g = w.heap.size) :
    Calls Tryz.prog 82 #[.agg #[.int .i16 s, .slice A l.length c], .slice (some ⟨g, 0, none⟩) 2 2] (w.alloc (.cells (da a ++ da b) 185)) (Mach s A l.length c (ask2B s l a b) (w.alloc (.cells (da a ++ da b) 185))) := by
  subst hg
  have hb0 : Below w.heap.size w (w.alloc (.cells (da a ++ da b) 185)) := (Below.refl _ _).alloc (Nat.le_refl _) _
  have hd1 : ∀ j, j < [a, b].length → DWF ([a, b].getD j (fun _ => 0)) := by
    intro j hj
    have hj2 : j < 2 := hj
    match j, hj2 with
    | 0, _ => exact ha
    | 1, _ => exact hb
  have h := machineD_any s A c l w.heap.size 2 [a, b] _ (hA.below hb0) hn hwf hs (LD2 w a b) hd1 (by simp)
  have e : (frB s l && drsB s l.length [a, b]) = ask2B s l a b := by simp [drsB, ask2B]
  rw [e] at h
  exact h
end Go.Proofs.YtcocfnjbgceidaaGreat
namespace Go.Proofs.YtcocfnjbgceidaaGreat
open Go.RowKit

/-- the drum with one pin turned -/
def togD (d : Nat → Int) (k t : Nat) (i : Nat) : Int := if i = k then bits .xor .u32 (d k) (2 ^ t % 4294967296) else d i

theorem pow_nat (t : Nat) (ht : t < 32) : (2 : Int) ^ t % 4294967296 = ((2 ^ t : Nat) : Int) := by
  have hp : (2 : Nat) ^ t < 2 ^ 32 := Nat.pow_lt_pow_right (by decide) ht
  have h2 : ((2 : Int) ^ t) = ((2 ^ t : Nat) : Int) := by push_cast; rfl
  rw [h2]
  generalize (2 ^ t : Nat) = n at hp ⊢
  omega
theorem ofInt_nat (x : Int) (h : 0 ≤ x) : BitVec.ofInt 32 x = BitVec.ofNat 32 x.toNat := by
  obtain ⟨n, rfl⟩ := Int.eq_ofNat_of_zero_le h
  simp
theorem or_xor {d : Nat → Int} {k t : Nat} (h0 : 0 ≤ d k) (ht : t < 32) (h : pinB d k t = false) : bits .or .u32 (d k) (2 ^ t % 4294967296) = bits .xor .u32 (d k) (2 ^ t % 4294967296) := by
  rw [pow_nat t ht]
  have e : BitVec.ofInt 32 (d k) ||| BitVec.ofInt 32 ((2 ^ t : Nat) : Int) = BitVec.ofInt 32 (d k) ^^^ BitVec.ofInt 32 ((2 ^ t : Nat) : Int) := by
    rw [ofInt_nat _ h0, ofInt_nat _ (Int.natCast_nonneg _)]
    apply BitVec.eq_of_getLsbD_eq
    intro i hi
    simp only [BitVec.getLsbD_or, BitVec.getLsbD_xor, BitVec.getLsbD_ofNat, Int.toNat_natCast, Nat.testBit_two_pow]
    by_cases e : t = i
    · subst e
      have hb : (d k).toNat.testBit t = false := by
        rw [Nat.testBit_eq_decide_div_mod_eq]
        simp only [pinB, decide_eq_false_iff_not] at h
        rw [decide_eq_false_iff_not]
        intro h2
        apply h
        obtain ⟨n, hn⟩ := Int.eq_ofNat_of_zero_le h0
        rw [hn] at h2 ⊢
        simp only [Int.toNat_natCast] at h2
        exact_mod_cast h2
      simp [hb]
    · simp [e]
  show IntKind.u32.wrap ((BitVec.ofInt 32 (d k) ||| BitVec.ofInt 32 ((2 ^ t : Nat) : Int)).toNat : Int) = IntKind.u32.wrap ((BitVec.ofInt 32 (d k) ^^^ BitVec.ofInt 32 ((2 ^ t : Nat) : Int)).toNat : Int)
  rw [e]
theorem not_xor {d : Nat → Int} {k t : Nat} (h0 : 0 ≤ d k) (ht : t < 32) (h : pinB d k t = true) : bits .andNot .u32 (d k) (2 ^ t % 4294967296) = bits .xor .u32 (d k) (2 ^ t % 4294967296) := by
  rw [pow_nat t ht]
  have e : BitVec.ofInt 32 (d k) &&& ~~~ BitVec.ofInt 32 ((2 ^ t : Nat) : Int) = BitVec.ofInt 32 (d k) ^^^ BitVec.ofInt 32 ((2 ^ t : Nat) : Int) := by
    rw [ofInt_nat _ h0, ofInt_nat _ (Int.natCast_nonneg _)]
    apply BitVec.eq_of_getLsbD_eq
    intro i hi
    simp only [BitVec.getLsbD_and, BitVec.getLsbD_not, BitVec.getLsbD_xor, BitVec.getLsbD_ofNat, Int.toNat_natCast, Nat.testBit_two_pow]
    by_cases e : t = i
    · subst e
      have hb : (d k).toNat.testBit t = true := by
        rw [Nat.testBit_eq_decide_div_mod_eq]
        simp only [pinB, decide_eq_true_eq] at h
        rw [decide_eq_true_eq]
        obtain ⟨n, hn⟩ := Int.eq_ofNat_of_zero_le h0
        rw [hn] at h ⊢
        simp only [Int.toNat_natCast]
        exact_mod_cast h
      simp [hb]
    · simp [e, hi]
  show IntKind.u32.wrap ((BitVec.ofInt 32 (d k) &&& ~~~ BitVec.ofInt 32 ((2 ^ t : Nat) : Int)).toNat : Int) = IntKind.u32.wrap ((BitVec.ofInt 32 (d k) ^^^ BitVec.ofInt 32 ((2 ^ t : Nat) : Int)).toNat : Int)
  rw [e]
end Go.Proofs.YtcocfnjbgceidaaGreat
namespace Go.Proofs.YtcocfnjbgceidaaGreat
open Go.RowKit

theorem wrap32 (n : Int) : IntKind.u32.wrap n = n % 4294967296 := by simp [IntKind.wrap, IntKind.signed, IntKind.bits]
theorem of32 (a : Nat) (ha : a < 4294967296) : (BitVec.ofInt 32 (a : Int)).toNat = a := by
  rw [BitVec.ofInt_natCast, BitVec.toNat_ofNat]; exact Nat.mod_eq_of_lt (by omega)
theorem and_nat (a b : Nat) (ha : a < 4294967296) (hb : b < 4294967296) : bits .and .u32 (a : Int) (b : Int) = ((a &&& b : Nat) : Int) := by
  have hx : a &&& b < 2 ^ 32 := Nat.and_lt_two_pow _ (by omega)
  show IntKind.u32.wrap ((BitVec.ofInt 32 (a : Int) &&& BitVec.ofInt 32 (b : Int)).toNat : Int) = _
  rw [BitVec.toNat_and, of32 a ha, of32 b hb, wrap32]
  omega
theorem or_nat (a b : Nat) (ha : a < 4294967296) (hb : b < 4294967296) : bits .or .u32 (a : Int) (b : Int) = ((a ||| b : Nat) : Int) := by
  have hx : a ||| b < 2 ^ 32 := Nat.or_lt_two_pow (by omega) (by omega)
  show IntKind.u32.wrap ((BitVec.ofInt 32 (a : Int) ||| BitVec.ofInt 32 (b : Int)).toNat : Int) = _
  rw [BitVec.toNat_or, of32 a ha, of32 b hb, wrap32]
  omega
theorem xor_nat (a b : Nat) (ha : a < 4294967296) (hb : b < 4294967296) : bits .xor .u32 (a : Int) (b : Int) = ((a ^^^ b : Nat) : Int) := by
  have hx : a ^^^ b < 2 ^ 32 := Nat.xor_lt_two_pow (by omega) (by omega)
  show IntKind.u32.wrap ((BitVec.ofInt 32 (a : Int) ^^^ BitVec.ofInt 32 (b : Int)).toNat : Int) = _
  rw [BitVec.toNat_xor, of32 a ha, of32 b hb, wrap32]
  omega
theorem pin_bit {d : Nat → Int} {k t : Nat} (h0 : 0 ≤ d k) : pinB d k t = (d k).toNat.testBit t := by
  obtain ⟨n, hn⟩ := Int.eq_ofNat_of_zero_le h0
  rw [Nat.testBit_eq_decide_div_mod_eq, pinB, hn, Int.toNat_natCast]
  apply decide_eq_decide.2
  constructor
  · intro h; exact_mod_cast h
  · intro h; exact_mod_cast h
/-- the bits of all rows ahead of k -/
def orT (d : Nat → Int) : Nat → Nat
  | 0 => 0
  | k + 1 => orT d k ||| (d k).toNat
theorem orT_lt (d : Nat → Int) (hd : DWF d) : ∀ k, k ≤ 96 → orT d k < 4294967296
  | 0, _ => by simp [orT]
  | k + 1, h => by
    have h1 := orT_lt d hd k (by omega)
    have h2 := hd k (by omega)
    have := Nat.or_lt_two_pow (n := 32) (x := orT d k) (y := (d k).toNat) (by omega) (by omega)
    simp only [orT]
    omega
/-- a track has a pin ahead of the step k -/
def useT (d : Nat → Int) (t k : Nat) : Bool := (List.range k).any fun j => pinB d j t
theorem useT_zero (d : Nat → Int) (t : Nat) : useT d t 0 = false := rfl
theorem useT_succ (d : Nat → Int) (t k : Nat) : useT d t (k + 1) = (useT d t k || pinB d k t) := by
  simp [useT, List.range_succ, List.any_append]
theorem useT_hit {d : Nat → Int} {t k : Nat} (hk : k < 96) (h : pinB d k t = true) : useT d t 96 = true := by
  simp only [useT, List.any_eq_true, List.mem_range]
  exact ⟨k, hk, h⟩
theorem orT_bit (d : Nat → Int) (hd : DWF d) (t : Nat) : ∀ k, k ≤ 96 → (orT d k).testBit t = useT d t k
  | 0, _ => by simp [orT, useT]
  | k + 1, h => by
    have h2 := hd k (by omega)
    rw [useT_succ, pin_bit h2.1, ← orT_bit d hd t k (by omega), orT, Nat.testBit_or]
theorem shr_and (x t : Nat) (hx : x < 4294967296) : (bits .and .u32 ((x : Int) / 2 ^ t) 1 == 0) = !x.testBit t := by
  have hb := shr_bounds (x : Int) t (by omega) (by omega)
  rw [and_one32 _ hb.1 hb.2, Nat.testBit_eq_decide_div_mod_eq]
  have e : ((x : Int) / 2 ^ t) = ((x / 2 ^ t : Nat) : Int) := by push_cast; rfl
  rw [e]
  generalize x / 2 ^ t = y
  rcases Nat.mod_two_eq_zero_or_one y with h | h
  · have : (y : Int) % 2 = 0 := by omega
    simp [this, h]
  · have : (y : Int) % 2 = 1 := by omega
    simp [this, h]
theorem and_two (n t : Nat) : n &&& 2 ^ t = if n.testBit t = true then 2 ^ t else 0 := by
  apply Nat.eq_of_testBit_eq
  intro i
  rw [Nat.testBit_and, Nat.testBit_two_pow]
  by_cases e : t = i
  · subst e
    cases h : n.testBit t <;> simp
  · have : decide (t = i) = false := decide_eq_false e
    rw [this, Bool.and_false]
    split
    · rw [Nat.testBit_two_pow, this]
    · simp
theorem and_pow_ne {d : Nat → Int} {k t : Nat} (h0 : 0 ≤ d k) (h1 : d k ≤ 4294967295) (ht : t < 32) : (bits .and .u32 (d k) ((2 : Int) ^ t) != 0) = pinB d k t := by
  rw [show ((2 : Int) ^ t) = ((2 ^ t : Nat) : Int) by push_cast; rfl]
  obtain ⟨n, hn⟩ := Int.eq_ofNat_of_zero_le h0
  have hp : (2 : Nat) ^ t < 2 ^ 32 := Nat.pow_lt_pow_right (by decide) ht
  rw [pin_bit h0, hn, and_nat n (2 ^ t) (by omega) (by omega), Int.toNat_natCast, and_two]
  have hq : 0 < 2 ^ t := Nat.two_pow_pos t
  cases h : n.testBit t
  · simp
  · rw [if_pos rfl]
    simp only [bne_iff_ne, ne_eq]
    omega
def spL (s : Int) (l : List (Int × Int)) (d : Nat → Int) : List Nat := if askB s l d then (List.range l.length).filter fun t => !useT d t 96 else []
def spT (d : Nat → Int) (k : Nat) : List Nat := (List.range k).filter fun t => !useT d t 96
theorem spT_yes {d : Nat → Int} {k : Nat} (h : useT d k 96 = false) : spT d (k + 1) = spT d k ++ [k] := by simp [spT, List.range_succ, List.filter_append, h]
theorem spT_no {d : Nat → Int} {k : Nat} (h : useT d k 96 = true) : spT d (k + 1) = spT d k := by simp [spT, List.range_succ, List.filter_append, h]
theorem spT_len (d : Nat → Int) (k : Nat) : (spT d k).length ≤ k := by simpa [spT] using List.length_filter_le (fun t => !useT d t 96) (List.range k)
theorem spL_len (s : Int) (l : List (Int × Int)) (d : Nat → Int) (hn : l.length ≤ 1048576) : (spL s l d).length ≤ 1048576 := by
  unfold spL
  split
  · exact Nat.le_trans (spT_len d _) hn
  · simp
end Go.Proofs.YtcocfnjbgceidaaGreat
namespace Go.Proofs.YtcocfnjbgceidaaGreat
open Go.RowKit Go.Maps
theorem tog_wfW {d : Nat → Int} (hd : DWF d) (k t : Nat) : DWF (togD d k t) := by
  intro i hi
  unfold togD
  split
  · exact bounds_u32 (wf_bits .xor .u32 _ _)
  · exact hd i hi
theorem zero_wfW : DWF (fun _ => 0) := fun _ _ => by show (0 : Int) ≤ 0 ∧ (0 : Int) ≤ 4294967295; omega
theorem zero_pinW (k t : Nat) : pinB (fun _ => 0) k t = false := by simp [pinB]
theorem tog_pinW {d : Nat → Int} (hd : DWF d) {k t k' t' : Nat} (hk' : k' < 96) (ht : t < 32) : pinB (togD d k t) k' t' = (pinB d k' t' ^^ (decide (k' = k) && decide (t' = t))) := by
  rw [pin_bit (tog_wfW hd k t k' hk').1, pin_bit (hd k' hk').1]
  unfold togD
  by_cases e : k' = k
  · subst e
    rw [if_pos rfl]
    obtain ⟨x, hx⟩ := Int.eq_ofNat_of_zero_le (hd k' hk').1
    have hxb : x < 4294967296 := by have := (hd k' hk').2; omega
    have hp : (2 : Nat) ^ t < 2 ^ 32 := Nat.pow_lt_pow_right (by decide) ht
    rw [pow_nat t ht, hx, xor_nat x (2 ^ t) hxb (by omega), Int.toNat_natCast, Int.toNat_natCast, Nat.testBit_xor, Nat.testBit_two_pow]
    simp [eq_comm]
  · rw [if_neg e]
    simp [e]
/-- the drum with one pin put in -/
def orW (d : Nat → Int) (k t : Nat) (i : Nat) : Int := if i = k then bits .or .u32 (d k) (2 ^ t % 4294967296) else d i
theorem or_wfW {d : Nat → Int} (hd : DWF d) (k t : Nat) : DWF (orW d k t) := by
  intro i hi
  unfold orW
  split
  · exact bounds_u32 (wf_bits .or .u32 _ _)
  · exact hd i hi
theorem or_pinW {d : Nat → Int} (hd : DWF d) {k t k' t' : Nat} (hk' : k' < 96) (ht : t < 32) : pinB (orW d k t) k' t' = (pinB d k' t' || (decide (k' = k) && decide (t' = t))) := by
  rw [pin_bit (or_wfW hd k t k' hk').1, pin_bit (hd k' hk').1]
  unfold orW
  by_cases e : k' = k
  · subst e
    rw [if_pos rfl]
    obtain ⟨x, hx⟩ := Int.eq_ofNat_of_zero_le (hd k' hk').1
    have hxb : x < 4294967296 := by have := (hd k' hk').2; omega
    have hp : (2 : Nat) ^ t < 2 ^ 32 := Nat.pow_lt_pow_right (by decide) ht
    rw [pow_nat t ht, hx, or_nat x (2 ^ t) hxb (by omega), Int.toNat_natCast, Int.toNat_natCast, Nat.testBit_or, Nat.testBit_two_pow]
    simp [eq_comm]
  · rw [if_neg e]
    simp [e]
theorem drum_of_pins {p q : Nat → Int} (hp : DWF p) (hq : DWF q) (h : ∀ i, i < 96 → ∀ t, pinB p i t = pinB q i t) : da p = da q := by
  unfold da
  rw [dv_congr fun i hi => ?_]
  have e : (p i).toNat = (q i).toNat := by
    apply Nat.eq_of_testBit_eq
    intro t
    rw [← pin_bit (hp i hi).1, ← pin_bit (hq i hi).1, h i hi t]
  have h1 := (hp i hi).1
  have h2 := (hq i hi).1
  omega
/-- one of the first k pins is there, and S holds of it -/
def atW (l : List (Int × Int × Int)) (S : Nat → Bool) (k i t : Nat) : Bool := (List.range k).any fun j => decide (wnS l j = i ∧ wnT l j = t) && S j
theorem atW_succ (l : List (Int × Int × Int)) (S : Nat → Bool) (k i t : Nat) : atW l S (k + 1) i t = (atW l S k i t || (decide (wnS l k = i ∧ wnT l k = t) && S k)) := by
  simp [atW, List.range_succ]
theorem atW_none (l : List (Int × Int × Int)) (S : Nat → Bool) (k i t : Nat) (h : ∀ j, j < k → S j = false) : atW l S k i t = false := by
  rw [atW, List.any_eq_false]
  intro j hj
  rw [h j (List.mem_range.1 hj)]
  simp
theorem atW_congr (l : List (Int × Int × Int)) {S S' : Nat → Bool} {k i t : Nat} (h : ∀ j, j < k → (wnS l j = i ∧ wnT l j = t) → S j = S' j) : atW l S k i t = atW l S' k i t := by
  unfold atW
  rw [Bool.eq_iff_iff]
  simp only [List.any_eq_true, List.mem_range, Bool.and_eq_true, decide_eq_true_eq]
  constructor
  · rintro ⟨j, hj, hp, hs⟩
    exact ⟨j, hj, hp, by rw [← h j hj hp]; exact hs⟩
  · rintro ⟨j, hj, hp, hs⟩
    exact ⟨j, hj, hp, by rw [h j hj hp]; exact hs⟩
theorem atW_hit (l : List (Int × Int × Int)) {S : Nat → Bool} {k j i t : Nat} (hj : j < k) (hp : wnS l j = i ∧ wnT l j = t) (hs : S j = true) : atW l S k i t = true := by
  simp only [atW, List.any_eq_true, List.mem_range, Bool.and_eq_true, decide_eq_true_eq]
  exact ⟨j, hj, hp, hs⟩
/-- pins lie on a drum -/
def OnD (l : List (Int × Int × Int)) : Prop := ∀ k, k < l.length → (0 ≤ wnS l k ∧ wnS l k < 96) ∧ (0 ≤ wnT l k ∧ wnT l k < 24)
theorem onD_of {s : Int} {h : List (Int × Int)} {l : List (Int × Int × Int)} {z : List Int} (hw : weB s h l z = true) : OnD l := by
  intro k hk
  simp only [weB, Bool.and_eq_true, frB, inB, decide_eq_true_eq] at hw
  obtain ⟨⟨⟨hf, _⟩, hp⟩, _⟩ := hw
  simp only [pinsB, List.all_eq_true, List.mem_range, Bool.and_eq_true, wnOk, plW, inB, decide_eq_true_eq] at hp
  have := (hp k hk).1.1
  omega
/-- the drum of the first k pins -/
def dwD (l : List (Int × Int × Int)) : Nat → Nat → Int
  | 0 => fun _ => 0
  | k + 1 => orW (dwD l k) (wnS l k).toNat (wnT l k).toNat
set_option maxRecDepth 20000 in
theorem dwD_facts {l : List (Int × Int × Int)} (hl : OnD l) : ∀ k, k ≤ l.length → DWF (dwD l k) ∧ ∀ i, i < 96 → ∀ t, pinB (dwD l k) i t = atW l (fun _ => true) k i t
  | 0, _ => ⟨zero_wfW, fun i _ t => by rw [dwD, zero_pinW]; rfl⟩
  | k + 1, hk => by
    obtain ⟨h1, h2⟩ := dwD_facts hl k (by omega)
    obtain ⟨⟨a1, a2⟩, b1, b2⟩ := hl k hk
    refine ⟨or_wfW h1 _ _, fun i hi t => ?_⟩
    rw [dwD, or_pinW h1 hi (by omega), h2 i hi t, atW_succ, Bool.and_true]
    congr 1
    rw [← Bool.decide_and]
    exact decide_eq_decide.2 (by omega)
set_option maxRecDepth 20000 in
theorem kP_inj {x y x' y' : Int} (hx : -9223372036854775808 ≤ x ∧ x ≤ 9223372036854775807) (hy : -9223372036854775808 ≤ y ∧ y ≤ 9223372036854775807) (hx' : -9223372036854775808 ≤ x' ∧ x' ≤ 9223372036854775807) (hy' : -9223372036854775808 ≤ y' ∧ y' ≤ 9223372036854775807)
    (h : kP x y = kP x' y') : x = x' ∧ y = y' := by
  have h1 := key_place x y hx hy
  have h2 := key_place x' y' hx' hy'
  rw [h] at h1
  have := lawP.inj h1 h2
  simpa using this
theorem mapW_isMap (l : List (Int × Int × Int)) : ∀ k, IsMap (mapW l k)
  | 0 => isMap_empty
  | k + 1 => (mapW_isMap l k).put _ _
set_option maxRecDepth 20000 in
theorem mapW_has {l : List (Int × Int × Int)} (hw : WnWF l) : ∀ k, k ≤ l.length → ∀ kl, has (mapW l k) kl = true → ∃ j, j < k ∧ kl = kP (wnS l j) (wnT l j)
  | 0, _, kl, h => by simp [mapW, has] at h
  | k + 1, hk, kl, h => by
    by_cases e : kl = kP (wnS l k) (wnT l k)
    · exact ⟨k, Nat.lt_succ_self k, e⟩
    · rw [mapW, has_put_other e] at h
      obtain ⟨j, hj, e'⟩ := mapW_has hw k (by omega) kl h
      exact ⟨j, by omega, e'⟩
set_option maxRecDepth 20000 in
theorem mapW_has' {l : List (Int × Int × Int)} (hw : WnWF l) : ∀ k, k ≤ l.length → ∀ j, j < k → has (mapW l k) (kP (wnS l j) (wnT l j)) = true
  | 0, _, j, h => absurd h (Nat.not_lt_zero j)
  | k + 1, hk, j, h => by
    obtain ⟨m1, m2, _⟩ := hw k (by omega)
    by_cases e : kP (wnS l j) (wnT l j) = kP (wnS l k) (wnT l k)
    · rw [mapW, e]
      exact has_put_same (mapW_isMap l k) (lawP.key (key_place _ _ (i64_of8 m1) (i64_of8 m2))) _
    · rw [mapW, has_put_other e]
      refine mapW_has' hw k (by omega) j ?_
      rcases Nat.lt_or_ge j k with h1 | h1
      · exact h1
      · exact absurd (by rw [show j = k by omega]) e
/-- the pins that have come: their keys are not left -/
noncomputable def doneW (l : List (Int × Int × Int)) (left : Lit → Bool) (i t : Nat) : Bool := atW l (fun j => !left (kP (wnS l j) (wnT l j))) l.length i t
set_option maxRecDepth 20000 in
theorem doneW_start {l : List (Int × Int × Int)} (hw : WnWF l) (i t : Nat) : doneW l (has (mapW l l.length)) i t = false :=
  atW_none _ _ _ _ _ fun j hj => by rw [mapW_has' hw _ (Nat.le_refl _) j hj]; rfl
set_option maxRecDepth 20000 in
theorem doneW_end {l : List (Int × Int × Int)} {left : Lit → Bool} (h : ∀ kl, left kl = false) (i t : Nat) : doneW l left i t = atW l (fun _ => true) l.length i t :=
  atW_congr l fun j _ _ => by rw [h]; rfl
set_option maxRecDepth 20000 in
theorem doneW_step {l : List (Int × Int × Int)} (hw : WnWF l) (ho : OnD l) {left : Lit → Bool} {j0 : Nat} (hj : j0 < l.length) (hlf : left (kP (wnS l j0) (wnT l j0)) = true) (i t : Nat) :
    doneW l (fun z => left z && !z.sameKey (kP (wnS l j0) (wnT l j0))) i t = (doneW l left i t ^^ (decide (i = (wnS l j0).toNat) && decide (t = (wnT l j0).toNat))) := by
  obtain ⟨⟨a1, a2⟩, b1, b2⟩ := ho j0 hj
  obtain ⟨m1, m2, _⟩ := hw j0 hj
  have hk := lawP.key (key_place _ _ (i64_of8 m1) (i64_of8 m2))
  by_cases e : wnS l j0 = i ∧ wnT l j0 = t
  · have e1 : doneW l left i t = false := by
      unfold doneW
      rw [atW, List.any_eq_false]
      intro j hj'
      simp only [Bool.and_eq_true, decide_eq_true_eq, not_and]
      intro hp
      rw [hp.1, hp.2, ← e.1, ← e.2, hlf]
      simp
    have e2 : doneW l (fun z => left z && !z.sameKey (kP (wnS l j0) (wnT l j0))) i t = true := atW_hit l hj e (by simp [WideAt.sameKey_self hk])
    rw [e1, e2]
    have : i = (wnS l j0).toNat ∧ t = (wnT l j0).toNat := by omega
    simp [this.1, this.2]
  · have hne : ¬ (i = (wnS l j0).toNat ∧ t = (wnT l j0).toNat) := by omega
    have e3 : (decide (i = (wnS l j0).toNat) && decide (t = (wnT l j0).toNat)) = false := by rw [← Bool.decide_and]; exact decide_eq_false hne
    rw [e3, Bool.xor_false]
    refine atW_congr l fun j hj' hp => ?_
    have hkk : kP (wnS l j) (wnT l j) ≠ kP (wnS l j0) (wnT l j0) := by
      intro h
      obtain ⟨n1, n2, _⟩ := hw j hj'
      obtain ⟨h1, h2⟩ := kP_inj (i64_of8 n1) (i64_of8 n2) (i64_of8 m1) (i64_of8 m2) h
      exact e ⟨by rw [← h1]; exact hp.1, by rw [← h2]; exact hp.2⟩
    simp [sameKey_ne hkk]
end Go.Proofs.YtcocfnjbgceidaaGreat
namespace Go.Proofs.YtcocfnjbgceidaaGreat
open Go.RowKit Go.Maps
theorem results_w {fn : Func} {p r : Tmp} (h : fn.results = #[.cell p 106, .tmp r]) (tmps : Array Value) (w : World) (g : Nat) (t : TypeId) (cs : Array Value) (c : Value) (hi : cs.size = 4)
    (hp : tmps.getD p undef = .pointer (some ⟨g, 0, none⟩)) (hr : tmps.getD r undef = c) (hg : w.heap[g]? = some (.cells cs t (0, 0))) :
    (results fn tmps).run Tryz.prog w = .ok (.tuple #[.agg cs, c]) w := by
  have hp' : tmps[p]?.getD undef = .pointer (some ⟨g, 0, none⟩) := by simpa using hp
  have hr' : tmps[r]?.getD undef = c := by simpa using hr
  have hinf : (Tryz.prog.info? 106).map (·.size) = some 4 := by kernel_rfl
  simp [results, h, hp', hr', asAddr, run_loadVar_row w g t 106 cs (0, 0) _ hg Tryz.underlying106 rfl (by rw [hi]; exact hinf)]
theorem infoW4 (a b c d : Value) : (Tryz.prog.info? 106).map (·.size) = some (#[a, b, c, d] : Array Value).size := by kernel_rfl
theorem szW4 (a b c d a' b' c' d' : Value) : (#[a, b, c, d] : Array Value).size = (#[a', b', c', d'] : Array Value).size := rfl
theorem oneW4 (s : Int) (C : Option Addr) (n q : Nat) (M : Option Nat) (D : Option Addr) (m r : Nat) : (#[.int .i64 s, .slice C n q, .map M, .slice D m r] : Array Value).all (·.oneCell') = true := by simp [Value.oneCell']
/-- what wearingFor leaves: no wear, or one whose map and strokes are the call's own -/
def WfR (ok : Bool) (s : Int) (A : Option Addr) (n c : Nat) (l : List (Int × Int × Int)) (z : List Int) (w : World) (e : Ending) (w' : World) : Prop :=
  (ok = false ∧ e = .returned (.tuple #[.agg #[.int .i64 0, .slice none 0 0, .map none, .slice none 0 0], .bool false]) ∨ ok = true ∧ ∃ (M : Nat) (C : Option Addr) (q : Nat), e = .returned (.tuple #[.agg #[.int .i64 s, .slice A n c, .map (some M), .slice C z.length q], .bool true]) ∧ w.heap.size ≤ M ∧
    w'.ownsMap Tryz.prog 138 (plainElem Tryz.prog 2) M l.length (mapW l l.length) ∧ w'.ownsRow w.heap.size 2 1 (.slice C z.length q) z.length (icells z)) ∧ Below w.heap.size w w'
theorem own_keepM {w w' : World} {base n q M : Nat} {e : TypeId} {size : Nat} {C : Option Addr} {xs : List Value} (h : w.ownsRow base e size (.slice C n q) n xs) (hC : C.isNone ∨ ∃ gz, C = some ⟨gz, 0, none⟩ ∧ M < gz) (hg : w.grownBy w' (some M)) : w'.ownsRow base e size (.slice C n q) n xs := by
  rcases hC with hc | ⟨gz, rfl, hgz⟩
  · cases C with
    | none => exact h.kept hg (Or.inl rfl)
    | some a => cases hc
  · exact h.kept hg (Or.inr (fun e => by have e' : gz = M := by simpa [Value.ownBlock] using e
                                         omega))
theorem own_keepM' {w : World} {base n g : Nat} {e : TypeId} {size : Nat} {v : Value} {xs : List Value} (h : w.ownsRow base e size v n xs) (hb : g < base ∨ True) (cs : Array Value) (hne : v.ownBlock ≠ some g) : (w.setRow g cs).ownsRow base e size v n xs :=
  h.kept (row := some g) ⟨rfl, rfl, rfl, by simp, fun k _ hk => setRow_other _ _ _ _ (fun e => hk (by rw [e]))⟩ (Or.inr hne)
theorem map_keepR {w : World} {M g n : Nat} {D : DataW Unit} {k : TypeId} {R : Value → Option (DataW Unit × List MemPlace)} (h : w.ownsMap Tryz.prog k R M n D) (hne : g ≠ M) (cs : Array Value) : (w.setRow g cs).ownsMap Tryz.prog k R M n D := by
  obtain ⟨es, clock, h1, h2⟩ := h
  exact ⟨es, clock, (setRow_other _ _ _ _ (fun e => hne e.symm)).trans h1, h2⟩
set_option maxRecDepth 20000 in
set_option maxHeartbeats 8000000 in
theorem wearingFor_any (s : Int) (A : Option Addr) (c : Nat) (h : List (Int × Int)) (P : Option Addr) (d : Nat) (l : List (Int × Int × Int)) (U : Option Addr) (v : Nat) (z : List Int) (Lv : Value) (lb : Bool) (w : World) (hA : HA w A h) (hn : h.length ≤ 1048576) (hwf : HWF h) (hs : -32768 ≤ s ∧ s ≤ 32767)
    (hL : WnA w P l) (hU : SZ w U z) (hl : l.length ≤ 1048576) (hz : z.length ≤ 1048576) (hlw : WnWF l) (hzw : ZWF z) (hlv : ∀ W, Below w.heap.size w W → Calls Tryz.prog 84 #[Lv] W (Says lb W)) :
    Calls Tryz.prog 62 #[.agg #[.int .i16 s, .slice A h.length c], .agg #[.slice P l.length d, .slice U z.length v], Lv] w (WfR (weB s h l z && lb) s A h.length c l z w) := by
  obtain ⟨X, hX⟩ : ∃ X, X = ((w.alloc (.cells #[.int .i16 s, .slice A h.length c] 39)).alloc (.cells #[.slice P l.length d, .slice U z.length v] 34)).alloc (.cells #[.int .i64 0, .slice none 0 0, .map none, .slice none 0 0] 106) := ⟨_, rfl⟩
  have hb0 : Below w.heap.size w X := by rw [hX]; exact (((Below.refl _ _).alloc (Nat.le_refl _) _).alloc (by simp) _).alloc (by simp; omega) _
  have P0 : Bk X w.heap.size 39 #[.int .i16 s, .slice A h.length c] := by rw [hX]; exact (Bk.new _ _ _ rfl).old _ |>.old _
  have P1 : Bk X (w.heap.size + 1) 34 #[.slice P l.length d, .slice U z.length v] := by rw [hX]; exact (Bk.new _ _ _ (by simp)).old _
  have P2 : Bk X (w.heap.size + 1 + 1) 106 #[.int .i64 0, .slice none 0 0, .map none, .slice none 0 0] := by rw [hX]; exact Bk.new _ _ _ (by simp)
  have hX3 : X.heap.size = w.heap.size + 1 + 1 + 1 := by rw [hX]; simp
  go_enter Tryz.func62, Tryz.ntmps62
  go_upto_region 1 with fail
  rw [← hX]
  clear hX
  have c0 := P0.cell (i := 0) rfl
  have c1 := P0.cell (i := 1) rfl
  go_wp2_with fail
  refine (machineFor_any s A c h (.slice none 0 0) true _ (hA.below hb0) hn hwf hs (fun _ W _ => fits_nil _ s A h.length c rfl W)).mono ?_
  rintro e w2 ⟨rfl, hb2⟩
  rw [Bool.and_true]
  have b2 := step_below hb2 hb0
  have hs2 := hb2.size
  clear c0 c1
  obtain ⟨Y, hY⟩ : ∃ Y, Y = w2.alloc (.cells #[.int .i64 s, .slice A h.length c] 101) := ⟨_, rfl⟩
  have hbY : Below w2.heap.size w2 Y := by rw [hY]; exact (Below.refl _ _).alloc (Nat.le_refl _) _
  have M0 : Bk Y w2.heap.size 101 #[.int .i64 s, .slice A h.length c] := by rw [hY]; exact Bk.new _ _ _ rfl
  have Q1 := (P1.keep hb2).keep hbY
  have Q2 := (P2.keep hb2).keep hbY
  have bY := step_below hbY b2
  have hsY := hbY.size
  go_upto_region 2 with fail
  rw [← hY]
  clear hY
  cases hf : frB s h
  · have HX := hide (show (weB s h l z && lb) = false by simp [weB, hf])
    have HB := hide (show Y.heap[w.heap.size + 1 + 1]? = some (.cells #[.int .i64 0, .slice none 0 0, .map none, .slice none 0 0] 106 (0, 0)) from Q2)
    clear hf
    go_wp2_with (first | (with_reducible refine wpList_store_row rfl 106 (.tmp 6) (.tmp 31) rfl (w.heap.size + 1 + 1) #[.int .i64 0, .slice none 0 0, .map none, .slice none 0 0] rfl rfl 106 #[.int .i64 0, .slice none 0 0, .map none, .slice none 0 0] HB.out (infoW4 _ _ _ _) (szW4 _ _ _ _ _ _ _ _) (oneW4 _ _ _ _ _ _ _ _) ?_))
    exact bodyPost_ret (v := .tuple #[.agg #[.int .i64 0, .slice none 0 0, .map none, .slice none 0 0], .bool false]) (results_w Tryz.results62 _ _ (w.heap.size + 1 + 1) _ #[.int .i64 0, .slice none 0 0, .map none, .slice none 0 0] _ rfl (by simp [Act.put]) (by simp [Act.put]) (setRow_heap _ _ _ _ _ _ HB.out)) rfl ⟨Or.inl ⟨HX.out, rfl⟩, below_setRow' bY (by omega)⟩
  have hYlt := M0.lt
  have M0c0 := M0.cell (i := 0) rfl
  have M0c1 := M0.cell (i := 1) rfl
  have Q1c0 := Q1.cell (i := 0) rfl
  have Q1c1 := Q1.cell (i := 1) rfl
  have KC := canWear_any s A h.length c P d l U v z Y (hL.below bY) (hU.below bY) hl hz hn hs hlw
  cases hc : canB s h.length l z
  · have HX := hide (show (weB s h l z && lb) = false by simp [weB_can, hc])
    rw [hc] at KC
    clear hf hc
    go_wp2_with fail
    refine KC.mono ?_
    rintro e w4 ⟨rfl, hb4⟩
    have b4 := step_below hb4 bY
    have HB := hide (show w4.heap[w.heap.size + 1 + 1]? = some (.cells #[.int .i64 0, .slice none 0 0, .map none, .slice none 0 0] 106 (0, 0)) from Q2.keep hb4)
    clear M0c0 M0c1 Q1c0 Q1c1
    go_wp2_with (first | (with_reducible refine wpList_store_row rfl 106 (.tmp 6) (.tmp 31) rfl (w.heap.size + 1 + 1) #[.int .i64 0, .slice none 0 0, .map none, .slice none 0 0] rfl rfl 106 #[.int .i64 0, .slice none 0 0, .map none, .slice none 0 0] HB.out (infoW4 _ _ _ _) (szW4 _ _ _ _ _ _ _ _) (oneW4 _ _ _ _ _ _ _ _) ?_))
    exact bodyPost_ret (v := .tuple #[.agg #[.int .i64 0, .slice none 0 0, .map none, .slice none 0 0], .bool false]) (results_w Tryz.results62 _ _ (w.heap.size + 1 + 1) _ #[.int .i64 0, .slice none 0 0, .map none, .slice none 0 0] _ rfl (by simp [Act.put]) (by simp [Act.put]) (setRow_heap _ _ _ _ _ _ HB.out)) rfl ⟨Or.inl ⟨HX.out, rfl⟩, below_setRow' b4 (by omega)⟩
  rw [hc] at KC
  have HW := hide (show (weB s h l z && lb) = lb by simp [weB_can, hf, hc])
  clear hf hc
  go_wp2_with fail
  refine KC.mono ?_
  rintro e w4 ⟨rfl, hb4⟩
  have b4 := step_below hb4 bY
  have R0 := M0.keep hb4
  have R1 := Q1.keep hb4
  have R2 := Q2.keep hb4
  clear M0c0 M0c1 Q1c0 Q1c1 M0 Q1 Q2
  have KL := hlv _ b4
  have hs4 := hb4.size
  go_wp2_with fail
  refine KL.mono ?_
  rintro e w5 ⟨rfl, hb5⟩
  have b5 := step_below hb5 b4
  have S0 := R0.keep hb5
  have S1 := R1.keep hb5
  have S2 := R2.keep hb5
  have hs5 := hb5.size
  clear KC KL hlv R0 R1 R2
  cases lb
  · have HX := HW
    have HB := hide (show w5.heap[w.heap.size + 1 + 1]? = some (.cells #[.int .i64 0, .slice none 0 0, .map none, .slice none 0 0] 106 (0, 0)) from S2)
    go_wp2_with (first | (with_reducible refine wpList_store_row rfl 106 (.tmp 6) (.tmp 31) rfl (w.heap.size + 1 + 1) #[.int .i64 0, .slice none 0 0, .map none, .slice none 0 0] rfl rfl 106 #[.int .i64 0, .slice none 0 0, .map none, .slice none 0 0] HB.out (infoW4 _ _ _ _) (szW4 _ _ _ _ _ _ _ _) (oneW4 _ _ _ _ _ _ _ _) ?_))
    exact bodyPost_ret (v := .tuple #[.agg #[.int .i64 0, .slice none 0 0, .map none, .slice none 0 0], .bool false]) (results_w Tryz.results62 _ _ (w.heap.size + 1 + 1) _ #[.int .i64 0, .slice none 0 0, .map none, .slice none 0 0] _ rfl (by simp [Act.put]) (by simp [Act.put]) (setRow_heap _ _ _ _ _ _ HB.out)) rfl ⟨Or.inl ⟨HX.out, rfl⟩, below_setRow' b5 (by omega)⟩
  have hmm := @run_makeMap Tryz.prog
  obtain ⟨W5, hW5⟩ : ∃ W5, W5 = w5.alloc (.map #[] 0) := ⟨_, rfl⟩
  have hbm : Below w5.heap.size w5 W5 := by rw [hW5]; exact (Below.refl _ _).alloc (Nat.le_refl _) _
  have own5 : W5.ownsMap Tryz.prog 138 (plainElem (H := Unit) Tryz.prog 2) w5.heap.size 0 (.map []) := by rw [hW5]; exact World.ownsMap_made _ _ _ _
  have bm := step_below hbm b5
  have U0 := S0.keep hbm
  have U1 := S1.keep hbm
  have U2 := S2.keep hbm
  have hsm := hbm.size
  have hsM : w5.heap.size < W5.heap.size := by rw [hW5]; simp
  have S1c : (w5.alloc (.map #[] 0)).cell? ⟨w.heap.size + 1, 1, none⟩ = some (.slice U z.length v) := by rw [← hW5]; exact U1.cell (i := 1) rfl
  clear S0 S1 S2
  go_wp2_with fail
  rw [← hW5]
  clear hmm hW5 S1c
  refine (cloneZ_any U v z _ (hU.below bm) hz).mono ?_
  rintro e w6 ⟨C, q, rfl, ownz, hb6⟩
  have b6 := step_below hb6 bm
  have own6 := map_keep own5 hb6
  have V0 := U0.keep hb6
  have V1 := U1.keep hb6
  have V2 := U2.keep hb6
  have hs6 := hb6.size
  clear U0 U1 U2 own5
  obtain ⟨W7, hW7⟩ : ∃ W7, W7 = w6.alloc (.cells #[.map (some w5.heap.size), .slice C z.length q] 104) := ⟨_, rfl⟩
  have hb7 : Below w6.heap.size w6 W7 := by rw [hW7]; exact (Below.refl _ _).alloc (Nat.le_refl _) _
  have K0 : Bk W7 w6.heap.size 104 #[.map (some w5.heap.size), .slice C z.length q] := by rw [hW7]; exact Bk.new _ _ _ rfl
  have b7 := step_below hb7 b6
  have own7 := map_keep own6 hb7
  have ownz7 := own_keep ownz hb7
  have G0 := V0.keep hb7
  have G1 := V1.keep hb7
  have G2 := V2.keep hb7
  have hs7 := hb7.size
  clear V0 V1 V2 own6 ownz
  go_upto_region 5 with fail
  rw [← hW7]
  clear hW7
  have G1c := G1.cell (i := 0) rfl
  go_wp2_with fail
  clear G1c
  obtain ⟨M, hM⟩ : ∃ M, M = w5.heap.size := ⟨_, rfl⟩
  obtain ⟨T0, hT0⟩ : ∃ T0, T0 = w6.heap.size := ⟨_, rfl⟩
  have hMw : w.heap.size + 1 + 1 < M := by rw [hM]; omega
  have hMg : w2.heap.size < M := by rw [hM]; omega
  have hMT : M < T0 := by rw [hM, hT0]; omega
  have hMW : M < W5.heap.size := by rw [hM]; exact hsM
  rw [← hM] at own7 K0 ⊢
  rw [← hT0] at K0 ⊢
  clear hsM
  obtain ⟨gm, hgm⟩ : ∃ gm, gm = w2.heap.size := ⟨_, rfl⟩
  rw [← hgm] at G0 hMg ⊢
  have ownz8 := own_low ownz7 bm.size
  have hWs := b7.size
  have hg2 : w.heap.size + 1 + 1 < gm := by rw [hgm]; omega
  clear G1 hM hT0 hgm P0 P1 P2 hb0 hb2 hbY hb4 hb5 hbm hb6 hb7 b2 bY b4 b5 bm b6 hA hU
  go_loopw [40] (fun i wr => ∃ k : Nat, k ≤ l.length ∧ i = .int .i64 k ∧ wr.ownsMap Tryz.prog 138 (plainElem (H := Unit) Tryz.prog 2) M k (mapW l k) ∧ wr.ownsRow w.heap.size 2 1 (.slice C z.length q) z.length (icells z) ∧ (C.isNone ∨ ∃ gz, C = some ⟨gz, 0, none⟩ ∧ M < gz) ∧ Bk wr gm 101 #[.int .i64 s, .slice A h.length c] ∧ Bk wr T0 104 #[.map (some M), .slice C z.length q] ∧ Bk wr (w.heap.size + 1 + 1) 106 #[.int .i64 0, .slice none 0 0, .map none, .slice none 0 0] ∧ Below w.heap.size w wr)
    (fun i _ => l.length - (intOf i).toNat)
  case atStart =>
    refine ⟨0, Nat.zero_le _, rfl, own7, ownz8, ?_, G0, K0, G2, b7⟩
    rcases ownz7.2 with ⟨e1, _⟩ | ⟨g', cap, cur, e1, hbz, _⟩
    · simp at e1; exact Or.inl (by rw [e1.1]; rfl)
    · simp at e1; exact Or.inr ⟨g', e1.1, Nat.lt_of_lt_of_le hMW hbz⟩
  case round =>
    obtain ⟨k, hk, rfl, own, ownz, hCz, m0, k0, z2, hb⟩ := hrel
    have HC := hide hCz
    clear hCz own7 ownz7 ownz8 G0 K0 G2
    have hsr := hb.size
    by_cases hlt : k < l.length
    · obtain ⟨pb, o, rfl, hbb, c1, c2, c3⟩ := hL k hlt
      have d1 := (hb.cell (p := ⟨pb, o + k * 3, none⟩) hbb).trans c1
      have d2 := (hb.cell (p := ⟨pb, o + k * 3 + 1, none⟩) hbb).trans c2
      have d3 := (hb.cell (p := ⟨pb, o + k * 3 + 2, none⟩) hbb).trans c3
      obtain ⟨m12, m34, m56⟩ := hlw k hlt
      have hMl := own.lt
      have hTl := k0.lt
      obtain ⟨Yk, hYk⟩ : ∃ Yk, Yk = wr.alloc (.cells #[.int .i8 (wnS l k), .int .i8 (wnT l k), .int .i64 (wnP l k)] 97) := ⟨_, rfl⟩
      have hyd : Below wr.heap.size wr Yk.drew := by rw [hYk]; exact ((Below.refl _ _).alloc (Nat.le_refl _) _).drew
      have B0 : Bk Yk.drew wr.heap.size 97 #[.int .i8 (wnS l k), .int .i8 (wnT l k), .int .i64 (wnP l k)] := by rw [hYk]; exact (Bk.new _ _ _ rfl).keep (Below.refl _ _).drew
      have ownD := map_keep own hyd
      have t0_ : Yk.drew.cell? ⟨T0, 0, none⟩ = some (.map (some M)) := (k0.keep hyd).cell (i := 0) rfl
      have t1_ : Yk.drew.cell? ⟨wr.heap.size, 0, none⟩ = some (.int .i8 (wnS l k)) := B0.cell (i := 0) rfl
      have t2_ : Yk.drew.cell? ⟨wr.heap.size, 1, none⟩ = some (.int .i8 (wnT l k)) := B0.cell (i := 1) rfl
      have t3_ : Yk.drew.cell? ⟨wr.heap.size, 2, none⟩ = some (.int .i64 (wnP l k)) := B0.cell (i := 2) rfl
      clear c1 c2 c3 hL
      go_wp2_with fail
      rw [← hYk]
      clear hYk
      refine wp_region_held_drew (S := fun w' => w'.cell? ⟨T0, 0, none⟩ = some (.map (some M)) ∧ w'.cell? ⟨wr.heap.size, 0, none⟩ = some (.int .i8 (wnS l k)) ∧ w'.cell? ⟨wr.heap.size, 1, none⟩ = some (.int .i8 (wnT l k)) ∧ w'.cell? ⟨wr.heap.size, 2, none⟩ = some (.int .i64 (wnP l k))) (by kernel_rfl) ⟨t0_, t1_, t2_, t3_⟩ fun hS1 => ?_
      refine wpAnyH_take (i := 0) (v := .pointer (some ⟨T0, 0, none⟩)) rfl (by kernel_rfl) (by kernel_rfl) (by kernel_rfl) (fun _ _ _ h => h) (Or.inl ⟨by rfl, fun w' _ => by go_simp⟩) hS1 ?_
      change wpAnyH _ _ _ _ _ _ _ (Act.put _ (some 44) _) _
      simp only [Act.put, List.setIfInBounds_toArray, List.set_cons_zero, List.set_cons_succ]
      refine wpAnyH_take (i := 1) (v := .map (some M)) rfl (by kernel_rfl) (by kernel_rfl) (by kernel_rfl) (fun _ _ _ h => h) (Or.inl ⟨by rfl, fun w' h => ?_⟩) hS1 ?_
      · have c0 := h.1
        clear h
        go_simp
      change wpAnyH _ _ _ _ _ _ _ (Act.put _ (some 45) _) _
      simp only [Act.put, List.setIfInBounds_toArray, List.set_cons_zero, List.set_cons_succ]
      refine wpAnyH_take (i := 2) (v := .agg #[.int .i8 (wnS l k), .int .i8 (wnT l k), .int .i64 (wnP l k)]) rfl (by kernel_rfl) (by kernel_rfl) (by kernel_rfl) (fun _ _ _ h => h) (Or.inl ⟨by rfl, fun w' h => ?_⟩) hS1 ?_
      · have c0 := h.2.1
        have c1 := h.2.2.1
        have c2 := h.2.2.2
        clear h
        go_simp
      change wpAnyH _ _ _ _ _ _ _ (Act.put _ (some 46) _) _
      simp only [Act.put, List.setIfInBounds_toArray, List.set_cons_zero, List.set_cons_succ]
      refine wpAnyH_take (i := 4) (v := .pointer (some ⟨wr.heap.size, 2, none⟩)) rfl (by kernel_rfl) (by kernel_rfl) (by kernel_rfl) (fun _ _ _ h => h) (Or.inl ⟨by rfl, fun w' _ => by go_simp⟩) hS1 ?_
      change wpAnyH _ _ _ _ _ _ _ (Act.put _ (some 48) _) _
      simp only [Act.put, List.setIfInBounds_toArray, List.set_cons_zero, List.set_cons_succ]
      refine wpAnyH_take (i := 5) (v := .int .i64 (wnP l k)) rfl (by kernel_rfl) (by kernel_rfl) (by kernel_rfl) (fun _ _ _ h => h) (Or.inl ⟨by rfl, fun w' h => ?_⟩) hS1 ?_
      · have c0 := h.2.2.2
        clear h
        go_simp
      change wpAnyH _ _ _ _ _ _ _ (Act.put _ (some 49) _) _
      simp only [Act.put, List.setIfInBounds_toArray, List.set_cons_zero, List.set_cons_succ]
      refine wpAnyH_ready (rs := [3]) (by kernel_rfl) (by simp) (AllReadyH.cons rfl ?_ AllReadyH.nil)
      intro K hK
      rw [if_pos (by rfl)]
      go_simp
      refine (wornAt_any _ _ _ _ m12 m34).mono ?_
      rintro e w8 ⟨rfl, hb8⟩
      have own8 := map_keep ownD hb8
      have u0_ := (hb8.cell (p := ⟨T0, 0, none⟩) (World.block_lt_of_cell? _ _ t0_)).trans t0_
      have u1_ := (hb8.cell (p := ⟨wr.heap.size, 0, none⟩) (World.block_lt_of_cell? _ _ t1_)).trans t1_
      have u2_ := (hb8.cell (p := ⟨wr.heap.size, 1, none⟩) (World.block_lt_of_cell? _ _ t2_)).trans t2_
      have u3_ := (hb8.cell (p := ⟨wr.heap.size, 2, none⟩) (World.block_lt_of_cell? _ _ t3_)).trans t3_
      refine hK.out _ _ ⟨u0_, u1_, u2_, u3_⟩ (fun hS2 => ?_)
      clear hK K hS1
      refine wpAnyH_ready (rs := [6]) (by kernel_rfl) (by simp) (AllReadyH.cons rfl ?_ AllReadyH.nil)
      intro K hK
      rw [if_pos (by rfl)]
      refine wp_mapUpdate_own (.tmp 45) (.tmp 47) (.tmp 49) 102 rfl 138 2 lawP Tryz.underlying102 _ M k (mapW l k) rfl own8 (by unfold maxLen; omega) _ _ _ rfl rfl (key_place _ _ (i64_of8 m12) (i64_of8 m34)) _ [] (plainElem_int Tryz.underlying2 (wf64 m56)) ?_
      intro w9 own9 hg9
      refine hK.out _ _ ⟨hg9.cell u0_ (fun e => by have e' : T0 = M := Option.some.inj e; omega), hg9.cell u1_ (fun e => by have e' : wr.heap.size = M := Option.some.inj e; omega), hg9.cell u2_ (fun e => by have e' : wr.heap.size = M := Option.some.inj e; omega), hg9.cell u3_ (fun e => by have e' : wr.heap.size = M := Option.some.inj e; omega)⟩ (fun hS3 => ?_)
      clear hK K hS2
      refine wpAnyH_done (by kernel_rfl) ?_ _
      have hy8 := hyd.trans (hb8.mono hyd.size)
      have hb8' := hb.trans (hy8.mono hsr)
      go_wp2_with fail
      go_roundw
      case rel => exact ⟨k + 1, hlt, by go_num, own9, own_keepM (own_keep ownz hy8) HC.out hg9, HC.out, (m0.keep hy8).grown hg9 (fun e => by have e' : M = gm := Option.some.inj e; omega), (k0.keep hy8).grown hg9 (fun e => by have e' : M = T0 := Option.some.inj e; omega), (z2.keep hy8).grown hg9 (fun e => by have e' : M = w.heap.size + 1 + 1 := Option.some.inj e; omega), hb8'.grown hg9 hb8'.size (fun j hj => by cases hj; omega)⟩
      case measure => simp [intOf]; omega
    · obtain rfl : k = l.length := by omega
      have HB := hide (show wr.heap[w.heap.size + 1 + 1]? = some (.cells #[.int .i64 0, .slice none 0 0, .map none, .slice none 0 0] 106 (0, 0)) from z2)
      have e0 := m0.cell (i := 0) rfl
      have e1 := m0.cell (i := 1) rfl
      have e2 := k0.cell (i := 0) rfl
      have e3 := k0.cell (i := 1) rfl
      have HNE := hide (show (Value.slice C z.length q).ownBlock ≠ some (w.heap.size + 1 + 1) by
        rcases HC.out with hc | ⟨gz, rfl, hgz⟩
        · cases C with
          | none => exact fun e => by cases e
          | some a => cases hc
        · intro e
          have e' : gz = w.heap.size + 1 + 1 := by simpa [Value.ownBlock] using e
          omega)
      go_wp2_with (first | (with_reducible refine wpList_store_row rfl 106 (.tmp 6) (.tmp 53) rfl (w.heap.size + 1 + 1) #[.int .i64 s, .slice A h.length c, .map (some M), .slice C z.length q] rfl rfl 106 #[.int .i64 0, .slice none 0 0, .map none, .slice none 0 0] HB.out (infoW4 _ _ _ _) (szW4 _ _ _ _ _ _ _ _) (oneW4 _ _ _ _ _ _ _ _) ?_))
      exact bodyPost_ret (v := .tuple #[.agg #[.int .i64 s, .slice A h.length c, .map (some M), .slice C z.length q], .bool true]) (results_w Tryz.results62 _ _ (w.heap.size + 1 + 1) _ #[.int .i64 s, .slice A h.length c, .map (some M), .slice C z.length q] _ rfl (by simp [Act.put]) (by simp [Act.put]) (setRow_heap _ _ _ _ _ _ HB.out)) rfl ⟨Or.inr ⟨HW.out, M, C, q, rfl, by omega, map_keepR own (by omega) _, own_keepM' ownz (Or.inr trivial) _ HNE.out⟩, below_setRow' hb (by omega)⟩
end Go.Proofs.YtcocfnjbgceidaaGreat
namespace Go.Proofs.YtcocfnjbgceidaaGreat
open Go.RowKit

set_option maxRecDepth 100000 in
set_option maxRecDepth 100000 in
theorem built0 : Tryz.prog.built 185 [] = some za := by kernel_rfl
set_option maxRecDepth 100000 in
set_option maxRecDepth 100000 in
theorem wpList_build0 {ops : Array Oper} {rest : List Oper} {o : Oper} {a : Act} {w : World} {Q : Exit → Act → World → Prop} (hg : o.guard = none) (ho : o.op = .build 185 #[])
    (h : wpList Tryz.prog ops Q rest (a.put o.dst (.agg (da fun _ => 0))) w) : wpList Tryz.prog ops Q (o :: rest) a w := by
  have e : (Tryz.prog.built 185 ((#[] : Array (Nat × Operand)).map fun (i, x) => (i, a.eval x)).toList) = some za := by simpa using built0
  refine wpList_build hg 185 #[] ho (by rw [e]; rfl) ?_
  rw [e, ← za_eq] at *
  exact h
theorem results_dr {fn : Func} {p q : Tmp} (h : fn.results = #[.cell p 185, .tmp q]) (tmps : Array Value) (w : World) (g : Nat) (t : TypeId) (r : Nat → Int) (c : Value)
    (hp : tmps.getD p undef = .pointer (some ⟨g, 0, none⟩)) (hq : tmps.getD q undef = c) (hg : w.heap[g]? = some (.cells (da r) t (0, 0))) :
    (results fn tmps).run Tryz.prog w = .ok (.tuple #[.agg (da r), c]) w := by
  have hp' : tmps[p]?.getD undef = .pointer (some ⟨g, 0, none⟩) := by simpa using hp
  have hq' : tmps[q]?.getD undef = c := by simpa using hq
  simp [results, h, hp', hq', asAddr, run_loadVar_row w g t 185 (da r) (0, 0) _ hg Tryz.underlying185 rfl (by rw [da_size]; exact info185)]
/-- a drum and a code come back; what there was is as it was -/
def DrC (r : Nat → Int) (c : Int) (w : World) (e : Ending) (w' : World) : Prop := e = .returned (.tuple #[.agg (da r), .int .i64 c]) ∧ Below w.heap.size w w'
/-- the code: as HasPin's, and ErrState where the pin is what it must not be -/
def wpC (s : Int) (l : List (Int × Int)) (d : Nat → Int) (x y : Int) (bad : Bool) : Int := if askB s l d then (if plB s l.length x y then (if pinB d x.toNat y.toNat = bad then 4 else 0) else 2) else 1
def wpD (s : Int) (l : List (Int × Int)) (d : Nat → Int) (x y : Int) (bad : Bool) : Nat → Int := if wpC s l d x y bad = 0 then togD d x.toNat y.toNat else fun _ => 0

end Go.Proofs.YtcocfnjbgceidaaGreat
namespace Go.Proofs.YtcocfnjbgceidaaGreat
open Go.RowKit Go.Maps
def dwC (s : Int) (h : List (Int × Int)) (l : List (Int × Int × Int)) (z : List Int) : Int := codeI (weB s h l z)
def dwR (s : Int) (h : List (Int × Int)) (l : List (Int × Int × Int)) (z : List Int) : Nat → Int := if weB s h l z then dwD l l.length else fun _ => 0
theorem or_set {l : List (Int × Int × Int)} {k a t : Nat} (ha : wnS l k = a) (ht : wnT l k = t) (i : Nat) : (if i = a then bits .or .u32 (dwD l k a) (2 ^ t % 4294967296) else dwD l k i) = dwD l (k + 1) i := by
  rw [dwD, orW, ha, ht]
  simp
end Go.Proofs.YtcocfnjbgceidaaGreat
namespace Go.Proofs.YtcocfnjbgceidaaGreat
open Go.RowKit Go.Maps
set_option maxRecDepth 20000 in
theorem place_inv : ∀ key kl, keyOf Tryz.prog 138 key = some kl → ∃ x : Int × Int, key = .agg #[.int .i64 x.1, .int .i64 x.2] := by
  intro key kl hk
  obtain ⟨d, hd⟩ := typesP
  unfold keyOf at hk
  rw [hd, Tryz.underlying138] at hk
  simp only [keyTypeP, Bool.true_and] at hk
  split at hk
  · rename_i hf
    cases key <;> simp [Value.formed, Tryz.underlying138] at hf
    rename_i cs
    rw [cellsP] at hf
    obtain ⟨ls⟩ := cs
    match ls, hf with
    | [a, b], _ =>
      simp [Program.keyLits, Tryz.underlying138, Tryz.underlying2, cellsPi, cellsP, Value.cells] at hk
      cases a with
      | int qa x =>
        by_cases ha : qa = IntKind.i64 ∧ (Lit.int .i64 x).wf = true
        · cases b with
          | int qb y =>
            by_cases hb : qb = IntKind.i64 ∧ (Lit.int .i64 y).wf = true
            · exact ⟨(x, y), by rw [ha.1, hb.1]⟩
            · simp [ha, hb] at hk
          | _ => simp [ha] at hk
        · simp [ha] at hk
      | _ => simp at hk
  · cases hk
theorem ranges_below {w w' : World} {k : TypeId} {R : Value → Option (DataW Unit × List MemPlace)} {b r n : Nat} {D : DataW Unit} {left : Lit → Bool} {cnt : Nat} (h : w.ranges Tryz.prog k R b r n D left cnt) (hb : Below w.heap.size w w') : w'.ranges Tryz.prog k R b r n D left cnt := by
  obtain ⟨es, clock, since, seen, c0, h1, h2, h3, h4, h5, hr⟩ := h
  exact ⟨es, clock, since, seen, c0, (hb.block _ (Array.getElem?_eq_some_iff.1 h1).1).trans h1, h2, h3, h4, (hb.block _ (Array.getElem?_eq_some_iff.1 h5).1).trans h5, hr⟩
theorem ranges_setRow {w : World} {k : TypeId} {R : Value → Option (DataW Unit × List MemPlace)} {b r n g : Nat} {D : DataW Unit} {left : Lit → Bool} {cnt : Nat} (h : w.ranges Tryz.prog k R b r n D left cnt) (hb : g ≠ b) (hr' : g ≠ r) (cs : Array Value) : (w.setRow g cs).ranges Tryz.prog k R b r n D left cnt := by
  obtain ⟨es, clock, since, seen, c0, h1, h2, h3, h4, h5, hr⟩ := h
  exact ⟨es, clock, since, seen, c0, (setRow_other _ _ _ _ (fun e => hb e.symm)).trans h1, h2, h3, h4, (setRow_other _ _ _ _ (fun e => hr' e.symm)).trans h5, hr⟩
theorem int_invW : ∀ (v : Value) (y : DataW Unit × List MemPlace), plainElem Tryz.prog 2 v = some y → ∃ c : Int, v = .int .i64 c := by
  intro v y hv
  obtain ⟨c, rfl, _⟩ := plainElem_int_inv Tryz.underlying2 hv
  exact ⟨c, rfl⟩
end Go.Proofs.YtcocfnjbgceidaaGreat
