import Derived.Test.YtakdnmakgblamaaSwe
import Derived.Deep.CutRange
namespace Go.Proofs.Ytakdnmakgblamaa
open Go.RowKit
set_option maxRecDepth 20000 in
set_option maxHeartbeats 1000000 in
theorem implSameWear_any (A : Option Addr) (c : Nat) (l : List (Int × Int × Int)) (U : Option Addr) (v : Nat) (z : List Int) (B : Option Addr) (d : Nat) (m : List (Int × Int × Int)) (V : Option Addr) (u : Nat) (y : List Int) (w : World)
    (hA : WnA w A l) (hU : SZ w U z) (hn : l.length ≤ 1048576) (hz : z.length ≤ 1048576) (_ : WnWF l) (_ : ZWF z) (hB : WnA w B m) (hV : SZ w V y) (hm : m.length ≤ 1048576) (hy : y.length ≤ 1048576) (_ : WnWF m) (_ : ZWF y) :
    Calls Try.prog 23 #[.agg #[.slice A l.length c, .slice U z.length v], .agg #[.slice B m.length d, .slice V y.length u]] w (Says (sameWe l m z y) w) := by
  obtain ⟨X, hX⟩ : ∃ X, X = (w.alloc (.cells #[.slice A l.length c, .slice U z.length v] 45)).alloc (.cells #[.slice B m.length d, .slice V y.length u] 45) := ⟨_, rfl⟩
  have hb0 : Below w.heap.size w X := by rw [hX]; exact ((Below.refl _ _).alloc (Nat.le_refl _) _).alloc (by simp) _
  have P0 : Bk X w.heap.size 45 #[.slice A l.length c, .slice U z.length v] := by rw [hX]; exact (Bk.new _ _ _ rfl).old _
  have P1 : Bk X (w.heap.size + 1) 45 #[.slice B m.length d, .slice V y.length u] := by rw [hX]; exact Bk.new _ _ _ (by simp)
  obtain ⟨r, hr⟩ : ∃ r, r = sameW l m := ⟨_, rfl⟩
  obtain ⟨q, hq⟩ : ∃ q, q = sameZ z y := ⟨_, rfl⟩
  have HQ : sameWe l m z y = (r && q) := by rw [hr, hq]; rfl
  have K1 := slicesEqualW_any A B c d l m X (hA.below hb0) (hB.below hb0) hn hm
  rw [← hr] at K1
  have K2 : ∀ W, Below w.heap.size w W → Calls Try.prog 60 #[.slice U z.length v, .slice V y.length u] W (Says q W) := fun W hb => by rw [hq]; exact slicesEqualZ_any U V v u z y W (hU.below hb) (hV.below hb) hz hy
  clear hr hq
  rw [HQ]
  clear HQ
  go_enter Try.func23, Try.ntmps23
  go_upto_region 1 with fail
  rw [← hX]
  clear hX
  have c0 := P0.cell (i := 0) rfl
  have c1 := P1.cell (i := 0) rfl
  go_wp2_with fail
  refine K1.mono ?_
  rintro e w2 ⟨rfl, hb2⟩
  have b2 := step_below hb2 hb0
  clear c0 c1
  have d0 := (P0.keep hb2).cell (i := 1) rfl
  have d1 := (P1.keep hb2).cell (i := 1) rfl
  cases r
  · go_wp2
    go_ret
    exact ⟨rfl, b2⟩
  · go_wp2_with fail
    refine (K2 _ b2).mono ?_
    rintro e w3 ⟨rfl, hb3⟩
    have b3 := step_below hb3 b2
    go_wp2
    go_ret
    exact ⟨rfl, b3⟩
set_option maxRecDepth 20000 in
set_option maxHeartbeats 2000000 in
theorem specSameWear_any (A : Option Addr) (c : Nat) (l : List (Int × Int × Int)) (U : Option Addr) (v : Nat) (z : List Int) (B : Option Addr) (d : Nat) (m : List (Int × Int × Int)) (V : Option Addr) (u : Nat) (y : List Int) (w : World)
    (hA : WnA w A l) (hU : SZ w U z) (hn : l.length ≤ 1048576) (hz : z.length ≤ 1048576) (_ : WnWF l) (_ : ZWF z) (hB : WnA w B m) (hV : SZ w V y) (hm : m.length ≤ 1048576) (hy : y.length ≤ 1048576) (_ : WnWF m) (_ : ZWF y) :
    Calls Try.prog 22 #[.agg #[.slice A l.length c, .slice U z.length v], .agg #[.slice B m.length d, .slice V y.length u]] w (Says (sameWe l m z y) w) := by
  obtain ⟨X, hX⟩ : ∃ X, X = (w.alloc (.cells #[.slice A l.length c, .slice U z.length v] 45)).alloc (.cells #[.slice B m.length d, .slice V y.length u] 45) := ⟨_, rfl⟩
  have hb0 : Below w.heap.size w X := by rw [hX]; exact ((Below.refl _ _).alloc (Nat.le_refl _) _).alloc (by simp) _
  have P0 : Bk X w.heap.size 45 #[.slice A l.length c, .slice U z.length v] := by rw [hX]; exact (Bk.new _ _ _ rfl).old _
  have P1 : Bk X (w.heap.size + 1) 45 #[.slice B m.length d, .slice V y.length u] := by rw [hX]; exact Bk.new _ _ _ (by simp)
  have hXs := hb0.size
  by_cases hlm : l.length = m.length
  · by_cases hzy : z.length = y.length
    · have HL := hide hlm
      have H1 : ((l.length : Int) != (m.length : Int)) = false := by simp [hlm]
      have H3 : ((z.length : Int) != (y.length : Int)) = false := by simp [hzy]
      have HZ := hide hzy
      have K2 : ∀ W, Below w.heap.size w W → Calls Try.prog 58 #[.slice U z.length v, .slice V y.length u] W (Says (sameZ z y) W) := fun W hb => l00Same_any U V v u z y W (hU.below hb) (hV.below hb) hz hy
      clear hlm hzy
      go_enter Try.func22, Try.ntmps22
      go_upto_region 1 with fail
      rw [← hX]
      clear hX
      have c0 := P0.cell (i := 0) rfl
      have c1 := P1.cell (i := 0) rfl
      have c2 := P0.cell (i := 1) rfl
      have c3 := P1.cell (i := 1) rfl
      have hA' := hA.below hb0
      have hB' := hB.below hb0
      clear hA hB
      go_wp2_with fail
      clear c0 c1 c2 c3
      go_loopw [5] (fun i wr => ∃ k : Nat, k ≤ l.length ∧ i = .int .i64 k ∧ (∀ j, j < k → wnS l j = wnS m j ∧ wnT l j = wnT m j ∧ wnP l j = wnP m j) ∧ Below X.heap.size X wr)
        (fun i _ => l.length - (intOf i).toNat)
      case atStart =>
        exact ⟨0, Nat.zero_le _, rfl, fun j hj => absurd hj (Nat.not_lt_zero _), Below.refl _ _⟩
      case round =>
        obtain ⟨k, hk, rfl, hG, hb⟩ := hrel
        have HG := hide hG
        clear hG
        have e0 := Later.cell ((P0.keep hb).cell (i := 0) rfl)
        have e1 := Later.cell ((P1.keep hb).cell (i := 0) rfl)
        have c0 := (P0.keep hb).cell (i := 0) rfl
        have hs := hb.size
        by_cases hlt : k < l.length
        · have hlt2 : k < m.length := by rw [← HL.out]; exact hlt
          obtain ⟨b, o, rfl, hbb, c1, c2, c5⟩ := hA' k hlt
          obtain ⟨b', o', rfl, hbb', c3, c4, c6⟩ := hB' k hlt2
          have d1 := Later.cell ((hb.cell (p := ⟨b, o + k * 3, none⟩) hbb).trans c1)
          have d2 := Later.cell ((hb.cell (p := ⟨b, o + k * 3 + 1, none⟩) hbb).trans c2)
          have d3 := Later.cell ((hb.cell (p := ⟨b', o' + k * 3, none⟩) hbb').trans c3)
          have d4 := Later.cell ((hb.cell (p := ⟨b', o' + k * 3 + 1, none⟩) hbb').trans c4)
          have d5 := Later.cell ((hb.cell (p := ⟨b, o + k * 3 + 2, none⟩) hbb).trans c5)
          have d6 := Later.cell ((hb.cell (p := ⟨b', o' + k * 3 + 2, none⟩) hbb').trans c6)
          have hne := fun v => run_neq_wn (wnS l k) (wnT l k) (wnP l k) (wnS m k) (wnT m k) (wnP m k) v
          clear c1 c2 c3 c4 c5 c6 hA' hB'
          by_cases he : wnS l k = wnS m k ∧ wnT l k = wnT m k ∧ wnP l k = wnP m k
          · have HE := hide he
            rw [decide_eq_true he, Bool.not_true] at hne
            clear he
            go_wp2_with fail
            refine wp_region_later (by kernel_rfl) (by kernel_rfl) ?_
            repeat (go_big_quiet_step (fail))
            refine wpQuiet_nil ?_
            rintro _ ⟨⟨wq, hq⟩, rfl⟩
            go_wp2
            go_roundw
            case rel => exact ⟨k + 1, by omega, by go_num, fun j hj => by
              rcases Nat.lt_or_ge j k with h1 | h1
              · exact HG.out j h1
              · rw [show j = k by omega]; exact HE.out, hb.trans (hq.mono hs)⟩
            case measure => simp [intOf]; omega
          · have HE := hide he
            rw [decide_eq_false he, Bool.not_false] at hne
            clear he
            go_wp2_with fail
            refine wp_region_later (by kernel_rfl) (by kernel_rfl) ?_
            repeat (go_big_quiet_step (fail))
            refine wpQuiet_nil ?_
            rintro _ ⟨⟨wq, hq⟩, rfl⟩
            go_wp2
            go_ret
            exact ⟨ret_bool (by rw [sameWe, wnsame_not l m k HE.out]; rfl), hb0.trans ((hb.trans (hq.mono hs)).mono hXs)⟩
        · obtain rfl : k = l.length := by omega
          have f0 := (P0.keep hb).cell (i := 1) rfl
          have f1 := (P1.keep hb).cell (i := 1) rfl
          have bb := step_below hb hb0
          go_wp2_with fail
          refine (K2 _ bb).mono ?_
          rintro e w3 ⟨rfl, hb3⟩
          have b3 := step_below hb3 bb
          go_wp2
          go_ret
          exact ⟨ret_bool (by rw [sameWe, wnsame_of l m HL.out HG.out]; rfl), b3⟩
    · have H1 : ((l.length : Int) != (m.length : Int)) = false := by simp [hlm]
      have H3 : ((z.length : Int) != (y.length : Int)) = true := by simp; omega
      have HZ := hide hzy
      clear hlm hzy
      go_enter Try.func22, Try.ntmps22
      go_upto_region 1 with fail
      rw [← hX]
      clear hX
      have c0 := P0.cell (i := 0) rfl
      have c1 := P1.cell (i := 0) rfl
      have c2 := P0.cell (i := 1) rfl
      have c3 := P1.cell (i := 1) rfl
      go_wp2
      go_ret
      exact ⟨ret_bool (by rw [sameWe, show sameZ z y = false from decide_eq_false fun e => HZ.out (by rw [e]), Bool.and_false]), hb0⟩
  · have H1 : ((l.length : Int) != (m.length : Int)) = true := by simp; omega
    have HL := hide hlm
    clear hlm
    go_enter Try.func22, Try.ntmps22
    go_upto_region 1 with fail
    rw [← hX]
    clear hX
    have c0 := P0.cell (i := 0) rfl
    have c1 := P1.cell (i := 0) rfl
    go_wp2
    go_ret
    exact ⟨ret_bool (by rw [sameWe, show sameW l m = false from decide_eq_false fun e => HL.out (by rw [e]), Bool.false_and]), hb0⟩
end Go.Proofs.Ytakdnmakgblamaa
