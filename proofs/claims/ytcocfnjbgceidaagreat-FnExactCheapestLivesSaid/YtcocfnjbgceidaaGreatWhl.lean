import Derived.Test.YtcocfnjbgceidaaGreatWow
import Derived.Test.YtcocfnjbgceidaaGreatGbl
namespace Go.Proofs.YtcocfnjbgceidaaGreat
open Go.RowKit Go.Maps
theorem whole_wo (T : List Wp) (z : List Int) (a b : Int) : wholeB T z a b = (decide ((woT T a).length = 0) && decide ((woK z b z.length).length = 0)) := by
  have e1 : decide ((woT T a).length = 0) = T.all (fun x => decide (x.2.2 ≤ a)) := by
    rw [Bool.eq_iff_iff]
    simp only [woT, decide_eq_true_eq, List.length_eq_zero_iff, List.filter_eq_nil_iff, List.all_eq_true]
    exact ⟨fun h x hx => by have := h x hx; omega, fun h x hx => by have := h x hx; omega⟩
  have e2 : decide ((woK z b z.length).length = 0) = z.all (fun y => decide (y ≤ b)) := by
    rw [Bool.eq_iff_iff]
    simp only [woK, decide_eq_true_eq, List.length_eq_zero_iff, List.map_eq_nil_iff, List.filter_eq_nil_iff, List.all_eq_true, List.mem_range]
    constructor
    · intro h y hy
      obtain ⟨k, hk, rfl⟩ := List.mem_iff_getElem.1 hy
      have := h k hk
      simp [zAt, List.getD, hk] at this
      exact this
    · intro h k hk
      have := h z[k] (List.getElem_mem hk)
      simp [zAt, List.getD, hk]
      exact this
  rw [wholeB, e1, e2]
set_option maxRecDepth 20000 in
set_option maxHeartbeats 2000000 in
theorem l06Whole_any (g : Nat) (P : Option Addr) (d : Nat) (T : List Wp) (U : Option Addr) (v : Nat) (z : List Int) (a b : Int) (w : World) (h1 : w.cell? ⟨g, 0, none⟩ = some (.slice P T.length d)) (h2 : w.cell? ⟨g, 1, none⟩ = some (.slice U z.length v)) (hL : WnA w P T) (hU : SZ w U z) (hl : T.length ≤ 1048576) (hz : z.length ≤ 1048576) :
    Calls Tryz.prog 90 #[.pointer (some ⟨g, 0, none⟩), .agg #[.int .i64 a, .int .i64 b]] w (Says (wholeB T z a b) w) := by
  have hgw : g < w.heap.size := World.block_lt_of_cell? w _ h1
  obtain ⟨X, hX⟩ : ∃ X, X = w.alloc (.cells #[.int .i64 a, .int .i64 b] 63) := ⟨_, rfl⟩
  have b0 : Below w.heap.size w X := by rw [hX]; exact (Below.refl _ _).alloc (Nat.le_refl _) _
  have P0 : Bk X w.heap.size 63 #[.int .i64 a, .int .i64 b] := by rw [hX]; exact Bk.new _ _ _ rfl
  have KW := l06Worn_any g P d T U v z a b X ((b0.cell (p := ⟨g, 0, none⟩) hgw).trans h1) ((b0.cell (p := ⟨g, 1, none⟩) hgw).trans h2) (hL.below b0) (hU.below b0) hl hz
  have HW := hide (whole_wo T z a b)
  go_enter Tryz.func90, Tryz.ntmps90
  go_upto_region 1 with fail
  rw [← hX]
  clear hX
  have c0 := P0.cell (i := 0) rfl
  have c1 := P0.cell (i := 1) rfl
  go_wp2_with fail
  refine KW.mono ?_
  rintro e w2 ⟨P1, q1, P2, q2, rfl, -, -, hb2⟩
  have b2 := step_below hb2 b0
  clear KW c0 c1
  by_cases hp : (woT T a).length = 0
  · by_cases hk : (woK z b z.length).length = 0
    · have HR := hide (show wholeB T z a b = true by rw [HW.out, hp, hk]; rfl)
      rw [hp, hk]
      clear hp hk
      go_wp2
      go_ret
      exact ⟨ret_bool HR.out.symm, b2⟩
    · have HR := hide (show wholeB T z a b = false by rw [HW.out, hp, decide_eq_false hk]; rfl)
      rw [hp]
      have hq : (((woK z b z.length).length : Int) == 0) = false := by rw [beq_eq_false_iff_ne]; omega
      clear hp hk
      generalize (woK z b z.length).length = m at *
      go_wp2
      go_ret
      exact ⟨ret_bool HR.out.symm, b2⟩
  · have HR := hide (show wholeB T z a b = false by rw [HW.out, decide_eq_false hp]; rfl)
    have hq : (((woT T a).length : Int) == 0) = false := by rw [beq_eq_false_iff_ne]; omega
    clear hp
    generalize (woT T a).length = m at *
    go_wp2
    go_ret
    exact ⟨ret_bool HR.out.symm, b2⟩
/-- the code of what is valid -/
def okC (b : Bool) : Int := if b then 0 else 1
set_option maxRecDepth 20000 in
set_option maxHeartbeats 2000000 in
theorem l06Lived_any (f g : Nat) (s : Int) (A : Option Addr) (c : Nat) (h : List (Int × Int)) (P : Option Addr) (d : Nat) (T : List Wp) (U : Option Addr) (v : Nat) (z : List Int) (a b : Int) (w : World) (hF : w.cell? ⟨f, 0, none⟩ = some (.int .i16 s) ∧ w.cell? ⟨f, 1, none⟩ = some (.slice A h.length c)) (h1 : w.cell? ⟨g, 0, none⟩ = some (.slice P T.length d)) (h2 : w.cell? ⟨g, 1, none⟩ = some (.slice U z.length v))
    (hA : HA w A h) (hL : WnA w P T) (hU : SZ w U z) (hn : h.length ≤ 1048576) (hl : T.length ≤ 1048576) (hz : z.length ≤ 1048576) (hwf : HWF h) (hs : -32768 ≤ s ∧ s ≤ 32767) (hlw : WnWF T) :
    Calls Tryz.prog 89 #[.pointer (some ⟨f, 0, none⟩), .pointer (some ⟨g, 0, none⟩), .agg #[.int .i64 a, .int .i64 b]] w fun e w' => e = .returned (.int .i64 (okC (fbV s h T z a b))) ∧ Below w.heap.size w w' := by
  have hgw : g < w.heap.size := World.block_lt_of_cell? w _ h1
  have hfw : f < w.heap.size := World.block_lt_of_cell? w _ hF.1
  obtain ⟨X, hX⟩ : ∃ X, X = w.alloc (.cells #[.int .i64 a, .int .i64 b] 63) := ⟨_, rfl⟩
  have b0 : Below w.heap.size w X := by rw [hX]; exact (Below.refl _ _).alloc (Nat.le_refl _) _
  have P0 : Bk X w.heap.size 63 #[.int .i64 a, .int .i64 b] := by rw [hX]; exact Bk.new _ _ _ rfl
  have KW := l06Ok_any f g s A c h P d T U v z X ⟨(b0.cell (p := ⟨f, 0, none⟩) hfw).trans hF.1, (b0.cell (p := ⟨f, 1, none⟩) hfw).trans hF.2⟩ ((b0.cell (p := ⟨g, 0, none⟩) hgw).trans h1) ((b0.cell (p := ⟨g, 1, none⟩) hgw).trans h2) (hA.below b0) (hL.below b0) (hU.below b0) hn hl hz hwf hs hlw
  go_enter Tryz.func89, Tryz.ntmps89
  go_upto_region 1 with fail
  rw [← hX]
  clear hX
  cases hw : weB s h T z
  · rw [hw] at KW
    have HR := hide (show okC (fbV s h T z a b) = 1 by rw [fbV, hw]; rfl)
    clear hw
    go_wp2_with fail
    refine KW.mono ?_
    rintro e w2 ⟨rfl, hb2⟩
    have b2 := step_below hb2 b0
    go_wp2
    go_ret
    exact ⟨by rw [HR.out]; rfl, b2⟩
  · rw [hw] at KW
    go_wp2_with fail
    refine KW.mono ?_
    rintro e w2 ⟨rfl, hb2⟩
    have b2 := step_below hb2 b0
    have P2 := P0.keep hb2
    have c0 := P2.cell (i := 0) rfl
    have c1 := P2.cell (i := 1) rfl
    have KL := l06Lives_any a b w2
    cases hv : lvB a b
    · rw [hv] at KL
      have HR := hide (show okC (fbV s h T z a b) = 1 by rw [fbV, hw, hv]; rfl)
      clear hw hv
      go_wp2_with fail
      refine KL.mono ?_
      rintro e w3 ⟨rfl, hb3⟩
      have b3 := step_below hb3 b2
      go_wp2
      go_ret
      exact ⟨by rw [HR.out]; rfl, b3⟩
    · rw [hv] at KL
      have HR := hide (show okC (fbV s h T z a b) = 0 by rw [fbV, hw, hv]; rfl)
      clear hw hv
      go_wp2_with fail
      refine KL.mono ?_
      rintro e w3 ⟨rfl, hb3⟩
      have b3 := step_below hb3 b2
      go_wp2
      go_ret
      exact ⟨by rw [HR.out]; rfl, b3⟩
/-- the code of acts ahead of them -/
def acE (s : Int) (h : List (Int × Int)) (T : List Wp) (z : List Int) (a b : Int) (n : Nat) : Int := if fbV s h T z a b then (if 60 < n then 3 else 0) else 1
set_option maxRecDepth 20000 in
set_option maxHeartbeats 2000000 in
theorem l06Acts_any (f g : Nat) (s : Int) (A : Option Addr) (c : Nat) (h : List (Int × Int)) (P : Option Addr) (d : Nat) (T : List Wp) (U : Option Addr) (v : Nat) (z : List Int) (a b : Int) (L : Option Addr) (m lc : Nat) (w : World) (hF : w.cell? ⟨f, 0, none⟩ = some (.int .i16 s) ∧ w.cell? ⟨f, 1, none⟩ = some (.slice A h.length c)) (h1 : w.cell? ⟨g, 0, none⟩ = some (.slice P T.length d)) (h2 : w.cell? ⟨g, 1, none⟩ = some (.slice U z.length v))
    (hA : HA w A h) (hL : WnA w P T) (hU : SZ w U z) (hn : h.length ≤ 1048576) (hl : T.length ≤ 1048576) (hz : z.length ≤ 1048576) (hwf : HWF h) (hs : -32768 ≤ s ∧ s ≤ 32767) (hlw : WnWF T) (hm : m ≤ 1048576) :
    Calls Tryz.prog 65 #[.pointer (some ⟨f, 0, none⟩), .pointer (some ⟨g, 0, none⟩), .agg #[.int .i64 a, .int .i64 b], .slice L m lc] w fun e w' => e = .returned (.int .i64 (acE s h T z a b m)) ∧ Below w.heap.size w w' := by
  have hgw : g < w.heap.size := World.block_lt_of_cell? w _ h1
  have hfw : f < w.heap.size := World.block_lt_of_cell? w _ hF.1
  obtain ⟨X, hX⟩ : ∃ X, X = w.alloc (.cells #[.int .i64 a, .int .i64 b] 63) := ⟨_, rfl⟩
  have b0 : Below w.heap.size w X := by rw [hX]; exact (Below.refl _ _).alloc (Nat.le_refl _) _
  have P0 : Bk X w.heap.size 63 #[.int .i64 a, .int .i64 b] := by rw [hX]; exact Bk.new _ _ _ rfl
  have KW := l06Lived_any f g s A c h P d T U v z a b X ⟨(b0.cell (p := ⟨f, 0, none⟩) hfw).trans hF.1, (b0.cell (p := ⟨f, 1, none⟩) hfw).trans hF.2⟩ ((b0.cell (p := ⟨g, 0, none⟩) hgw).trans h1) ((b0.cell (p := ⟨g, 1, none⟩) hgw).trans h2) (hA.below b0) (hL.below b0) (hU.below b0) hn hl hz hwf hs hlw
  have c0 := P0.cell (i := 0) rfl
  have c1 := P0.cell (i := 1) rfl
  go_enter Tryz.func65, Tryz.ntmps65
  go_upto_region 1 with fail
  rw [← hX]
  clear hX
  cases hv : fbV s h T z a b
  · have HR := hide (show acE s h T z a b m = 1 by rw [acE, hv]; rfl)
    rw [hv] at KW
    simp only [okC, Bool.false_eq_true, if_false] at KW
    clear hv
    go_wp2_with fail
    refine KW.mono ?_
    rintro e w2 ⟨rfl, hb2⟩
    have b2 := step_below hb2 b0
    clear c0 c1
    go_wp2
    go_ret
    exact ⟨by rw [HR.out]; rfl, b2⟩
  · rw [hv] at KW
    simp only [okC, if_true] at KW
    by_cases hlen : 60 < m
    · have HR := hide (show acE s h T z a b m = 3 by rw [acE, hv, if_pos hlen]; rfl)
      have hgt : (60 : Int) < (m : Int) := by omega
      clear hv hlen
      go_wp2_with fail
      refine KW.mono ?_
      rintro e w2 ⟨rfl, hb2⟩
      have b2 := step_below hb2 b0
      clear c0 c1
      go_wp2
      go_ret
      exact ⟨by rw [HR.out]; rfl, b2⟩
    · have HR := hide (show acE s h T z a b m = 0 by rw [acE, hv, if_neg hlen]; rfl)
      have hgt : ¬ (60 : Int) < (m : Int) := by omega
      clear hv hlen
      go_wp2_with fail
      refine KW.mono ?_
      rintro e w2 ⟨rfl, hb2⟩
      have b2 := step_below hb2 b0
      clear c0 c1
      go_wp2
      go_ret
      exact ⟨by rw [HR.out]; rfl, b2⟩
end Go.Proofs.YtcocfnjbgceidaaGreat
