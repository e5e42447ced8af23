import Derived.Test.YtfjcomemgbmohaaBkw
namespace Go.Proofs.Ytfjcomemgbmohaa
open Go.RowKit
/-- stretched -/
def srP (n d a q : Int) : Int × Int := (a * n / d, q)
def dvB (n d : Int) (l : List (Int × Int)) (k : Nat) : Bool := (List.range k).all fun i => decide ((nAt l i * n) % d = 0)
theorem dvB_succ (n d : Int) (l : List (Int × Int)) (k : Nat) : dvB n d l (k + 1) = (dvB n d l k && decide ((nAt l k * n) % d = 0)) := by simp [dvB, List.range_succ]
theorem dvB_no {n d : Int} {l : List (Int × Int)} {k m : Nat} (h : dvB n d l k = false) (hk : k ≤ m) : dvB n d l m = false := by
  simp only [dvB, List.all_eq_false, List.mem_range] at h ⊢
  obtain ⟨i, h1, h2⟩ := h
  exact ⟨i, by omega, h2⟩
theorem sr_num {x n d : Int} (hx : 0 ≤ x ∧ x ≤ 199) (hn : 1 ≤ n ∧ n ≤ 100) (hd : 1 ≤ d ∧ d ≤ 100) : (0 ≤ x * n ∧ x * n ≤ 19900) ∧ (0 ≤ x * n / d ∧ x * n / d ≤ 19900) ∧ (0 ≤ x * n % d ∧ x * n % d < 100) := by
  have h1 : 0 ≤ x * n := Int.mul_nonneg hx.1 (by omega)
  have h2 : x * n ≤ 199 * 100 := Int.le_trans (Int.mul_le_mul_of_nonneg_right hx.2 (by omega)) (Int.mul_le_mul_of_nonneg_left hn.2 (by omega))
  have h3 : 0 ≤ x * n / d := Int.ediv_nonneg h1 (by omega)
  have h4 : x * n / d ≤ x * n := Int.ediv_le_self _ h1
  have h5 := Int.emod_nonneg (x * n) (show d ≠ 0 by omega)
  have h6 := Int.emod_lt_of_pos (x * n) (show 0 < d by omega)
  omega
theorem sr_lt {x y n d : Int} (h : x < y) (hn : 1 ≤ n) (hd : 1 ≤ d) (h1 : x * n % d = 0) (h2 : y * n % d = 0) : x * n / d < y * n / d := by
  have e1 := Int.mul_ediv_add_emod (x * n) d
  have e2 := Int.mul_ediv_add_emod (y * n) d
  have h3 : x * n < y * n := Int.mul_lt_mul_of_pos_right h (by omega)
  rcases Int.lt_or_le (x * n / d) (y * n / d) with h4 | h4
  · exact h4
  · have h5 := Int.mul_le_mul_of_nonneg_left h4 (show 0 ≤ d by omega)
    omega
theorem sr_asc {n d : Int} {l : List (Int × Int)} (h : okB l = true) (hn : 1 ≤ n) (hd : 1 ≤ d) (hv : dvB n d l l.length = true) : AscN (chL (srP n d) l l.length) := by
  refine chL_asc (asc_of_ok h) fun x y hx hy hxy => ?_
  have hz : ∀ x, x ∈ l → (x.1 * n) % d = 0 := fun x hx => by
    obtain ⟨i, hi, rfl⟩ := List.mem_iff_getElem.1 hx
    simp only [dvB, List.all_eq_true, List.mem_range, decide_eq_true_eq] at hv
    have := hv i hi
    simpa [nAt, List.getD, hi] using this
  have h1 := hz x hx
  have h2 := hz y hy
  unfold ltN at hxy ⊢
  simp only [srP]
  rcases hxy with h3 | ⟨h3, h4⟩
  · exact Or.inl (sr_lt h3 hn hd h1 h2)
  · exact Or.inr ⟨by rw [h3], h4⟩
def srG (n d : Int) : Bool := inB n 1 100 && inB d 1 100
def srC (l : List (Int × Int)) (n d : Int) : Int := if okB l then (if srG n d then (if dvB n d l l.length then chC (srP n d) l else 4) else 2) else 1
def srV (l : List (Int × Int)) (n d : Int) : List (Int × Int) := if okB l && srG n d && dvB n d l l.length then chV (srP n d) l else []
theorem srV_le (l : List (Int × Int)) (n d : Int) : (srV l n d).length ≤ l.length := by
  unfold srV
  split
  · exact chV_len _ _
  · simp
set_option maxRecDepth 20000 in
theorem stretched1_any (g h : Nat) (n d a q : Int) (w : World) (h1 : Nb w g n) (h2 : Nb w h d) (hn : 1 ≤ n ∧ n ≤ 100) (hd : 1 ≤ d ∧ d ≤ 100) (ha : 0 ≤ a ∧ a ≤ 199) (hq : -128 ≤ q ∧ q ≤ 127) :
    Calls Try.prog 54 #[.int .i64 a, .int .i64 q, .pointer (some ⟨g, 0, none⟩), .pointer (some ⟨h, 0, none⟩)] w fun e w' => e = .returned (.tuple #[.int .i64 (a * n / d), .int .i64 q]) ∧ Below w.heap.size w w' := by
  have e1 := h1.1
  have e2 := h2.1
  obtain ⟨⟨b1, b2⟩, ⟨b3, b4⟩, _⟩ := sr_num ha hn hd
  have hne : (d == 0) = false := by simp; omega
  have hw1 : IntKind.i64.wrap (a * n) = a * n := IntWalk.i64_in _ (by omega)
  have hti : (a * n).tdiv d = a * n / d := Int.tdiv_eq_ediv_of_nonneg b1
  have hw2 : IntKind.i64.wrap (a * n / d) = a * n / d := IntWalk.i64_in _ (by omega)
  clear h1 h2
  go_enter Try.func54, Try.ntmps54
  go_wp2
  go_ret2
  exact ⟨rfl, Below.refl _ _⟩
set_option maxRecDepth 20000 in
set_option maxHeartbeats 4000000 in
theorem implStretched_any (A : Option Addr) (c : Nat) (l : List (Int × Int)) (n d : Int) (w : World) (hA : NA w A l) (hn : l.length ≤ 1048576) (hwf : WF l) :
    Calls Try.prog 31 #[.slice A l.length c, .int .i64 n, .int .i64 d] w (OwnN w (srV l n d) (srC l n d)) := by
  have hmf : ∀ (fn : Fn) (first cap : Array Value) (w : World), (Instr.makeFunc fn first cap).run Try.prog w = .ok (.func fn first cap) w := fun _ _ _ _ => rfl
  have eg : ∀ args w, (callFunc 54 args).run Try.prog w = .ok (.enter 54 args) w := fun _ _ => by kernel_rfl
  obtain ⟨X, hX⟩ : ∃ X, X = (w.alloc (.cells #[.int .i64 n] 2)).alloc (.cells #[.int .i64 d] 2) := ⟨_, rfl⟩
  have hb0 : Below w.heap.size w X := by rw [hX]; exact ((Below.refl _ _).alloc (Nat.le_refl _) _).alloc (by simp) _
  have N1 : Nb X w.heap.size n := by rw [hX]; exact ⟨by simp [go_sem, World.cell?_alloc_past], by simp; omega⟩
  have N2 : Nb X (w.heap.size + 1) d := by rw [hX]; exact ⟨by simp [go_sem], by simp⟩
  have KO := implValid_any A c l X (hA.below hb0) hn hwf
  cases ho : okB l
  · rw [ho] at KO
    have HX := hide (show srC l n d = 1 by simp [srC, ho])
    have HY := hide (show srV l n d = [] by simp [srV, ho])
    clear ho
    go_enter Try.func31, Try.ntmps31
    go_upto_region 1 with fail
    rw [← hX]
    clear hX
    go_wp2_with fail
    refine KO.mono ?_
    rintro e w1 ⟨rfl, hb1⟩
    have b1 := step_below hb1 hb0
    have c0 := (N1.keep hb1).1
    have c1 := (N2.keep hb1).1
    go_wp2
    go_ret2
    rw [HX.out, HY.out]
    exact ownN_nil none 0 1 ⟨rfl, Or.inl ⟨rfl, rfl⟩⟩ b1
  rw [ho] at KO
  cases h1 : inB n 1 100
  · have K1 : ∀ W, Calls Try.prog 47 #[.int .i64 n, .int .i64 1, .int .i64 100] W fun e w' => e = .returned (.bool false) ∧ W = w' := fun W => by rw [← h1]; exact within_any _ _ _ W
    have HX := hide (show srC l n d = 2 by simp [srC, srG, ho, h1])
    have HY := hide (show srV l n d = [] by simp [srV, srG, h1])
    clear ho h1
    go_enter Try.func31, Try.ntmps31
    go_upto_region 1 with fail
    rw [← hX]
    clear hX
    go_wp2_with fail
    refine KO.mono ?_
    rintro e w1 ⟨rfl, hb1⟩
    have b1 := step_below hb1 hb0
    have c0 := (N1.keep hb1).1
    have c1 := (N2.keep hb1).1
    go_wp2_with (go_at_call 47; with_reducible refine (K1 _).mono ?_; rintro e w' ⟨rfl, rfl⟩)
    go_ret2
    rw [HX.out, HY.out]
    exact ownN_nil none 0 2 ⟨rfl, Or.inl ⟨rfl, rfl⟩⟩ b1
  have K1 : ∀ W, Calls Try.prog 47 #[.int .i64 n, .int .i64 1, .int .i64 100] W fun e w' => e = .returned (.bool true) ∧ W = w' := fun W => by rw [← h1]; exact within_any _ _ _ W
  cases h2 : inB d 1 100
  · have K2 : ∀ W, Calls Try.prog 47 #[.int .i64 d, .int .i64 1, .int .i64 100] W fun e w' => e = .returned (.bool false) ∧ W = w' := fun W => by rw [← h2]; exact within_any _ _ _ W
    have HX := hide (show srC l n d = 2 by simp [srC, srG, ho, h2])
    have HY := hide (show srV l n d = [] by simp [srV, srG, h2])
    clear ho h1 h2
    go_enter Try.func31, Try.ntmps31
    go_upto_region 1 with fail
    rw [← hX]
    clear hX
    go_wp2_with fail
    refine KO.mono ?_
    rintro e w1 ⟨rfl, hb1⟩
    have b1 := step_below hb1 hb0
    have c0 := (N1.keep hb1).1
    have c1 := (N2.keep hb1).1
    go_wp2_with (first | (go_at_call 47; with_reducible refine (K1 _).mono ?_; rintro e w' ⟨rfl, rfl⟩) | (go_at_call 47; with_reducible refine (K2 _).mono ?_; rintro e w' ⟨rfl, rfl⟩))
    go_ret2
    rw [HX.out, HY.out]
    exact ownN_nil none 0 2 ⟨rfl, Or.inl ⟨rfl, rfl⟩⟩ b1
  have K2 : ∀ W, Calls Try.prog 47 #[.int .i64 d, .int .i64 1, .int .i64 100] W fun e w' => e = .returned (.bool true) ∧ W = w' := fun W => by rw [← h2]; exact within_any _ _ _ W
  have hnn : 1 ≤ n ∧ n ≤ 100 := by simpa [inB] using h1
  have hdd : 1 ≤ d ∧ d ≤ 100 := by simpa [inB] using h2
  have HIN := hide (fun k hk => ok_in ho k hk)
  have HASC := hide (fun hv => sr_asc ho hnn.1 hdd.1 hv)
  have HC := hide (show srC l n d = if dvB n d l l.length then chC (srP n d) l else 4 by simp [srC, srG, ho, h1, h2])
  have HV := hide (show srV l n d = if dvB n d l l.length then chV (srP n d) l else [] by simp [srV, srG, ho, h1, h2])
  clear ho h1 h2
  have KC : ∀ W, Below X.heap.size X W → Calls Try.prog 51 #[.slice A l.length c, .func (.func 54) #[] #[.pointer (some ⟨w.heap.size, 0, none⟩), .pointer (some ⟨w.heap.size + 1, 0, none⟩)]] W (OwnN W (chV (srP n d) l) (chC (srP n d) l)) := fun W hW =>
    changed_any 54 #[.pointer (some ⟨w.heap.size, 0, none⟩), .pointer (some ⟨w.heap.size + 1, 0, none⟩)] (srP n d) A c l W (hA.below (step_below hW hb0)) hn hwf eg fun V hV k hk => stretched1_any w.heap.size (w.heap.size + 1) n d (nAt l k) (nPi l k) V ((N1.keep hW).keep hV) ((N2.keep hW).keep hV) hnn hdd (HIN.out k hk).1 (hwf k hk).2
  obtain ⟨V, hV⟩ : ∃ V, V = chV (srP n d) l := ⟨_, rfl⟩
  obtain ⟨C, hC⟩ : ∃ C, C = chC (srP n d) l := ⟨_, rfl⟩
  rw [← hV] at KC HV
  rw [← hC] at KC HC
  have hne : (d == 0) = false := by simp; omega
  clear hV hC eg HASC
  go_enter Try.func31, Try.ntmps31
  go_upto_region 1 with fail
  rw [← hX]
  clear hX
  go_wp2_with fail
  refine KO.mono ?_
  rintro e w1 ⟨rfl, hb1⟩
  have b1 := step_below hb1 hb0
  have c0 := (N1.keep hb1).1
  have c1 := (N2.keep hb1).1
  go_wp2_with (first | (go_at_call 47; with_reducible refine (K1 _).mono ?_; rintro e w' ⟨rfl, rfl⟩) | (go_at_call 47; with_reducible refine (K2 _).mono ?_; rintro e w' ⟨rfl, rfl⟩))
  clear K1 K2 c0 c1 KO
  go_loopw [23] (fun i wr => ∃ k : Nat, k ≤ l.length ∧ i = .int .i64 k ∧ dvB n d l k = true ∧ Below X.heap.size X wr)
    (fun i _ => l.length - (intOf i).toNat)
  case atStart => exact ⟨0, Nat.zero_le _, rfl, rfl, hb1⟩
  case round =>
    obtain ⟨k, hk, rfl, hdv, hb⟩ := hrel
    by_cases hlt : k < l.length
    · obtain ⟨b, o, rfl, hbb, c1, c2⟩ := hA k hlt
      have hbw := step_below hb hb0
      have d1 := (hbw.cell (p := ⟨b, o + k * 2, none⟩) hbb).trans c1
      have d2 := (hbw.cell (p := ⟨b, o + k * 2 + 1, none⟩) hbb).trans c2
      have hsu := dvB_succ n d l k
      rw [hdv, Bool.true_and] at hsu
      have HS := hide hsu
      obtain ⟨⟨s1, s2⟩, ⟨s3, s4⟩, s5, s6⟩ := sr_num (HIN.out k hlt).1 hnn hdd
      obtain ⟨⟨x1, x2⟩, y1, y2⟩ := HIN.out k hlt
      have hti : (nAt l k * n).tmod d = nAt l k * n % d := Int.tmod_eq_emod_of_nonneg s1
      have hw1 : IntKind.i64.wrap (nAt l k * n) = nAt l k * n := IntWalk.i64_in _ (by omega)
      have hw2 : IntKind.i64.wrap (nAt l k * n % d) = nAt l k * n % d := IntWalk.i64_in _ (by omega)
      have hal : Below X.heap.size X (wr.alloc (.cells #[.int .i16 (nAt l k), .int .i8 (nPi l k)] 46)) := hb.alloc hb.size _
      have g1 := (N1.keep hb).1
      have g2 := (N2.keep hb).1
      have g3 := (N1.keep hal).1
      have g4 := (N2.keep hal).1
      have hg1 : w.heap.size < wr.heap.size := Nat.lt_of_lt_of_le N1.2 hb.size
      have hg2 : w.heap.size + 1 < wr.heap.size := Nat.lt_of_lt_of_le N2.2 hb.size
      clear c1 c2 hsu hdv
      by_cases hr : nAt l k * n % d = 0
      · have HOK := hide (HS.out.trans (show decide (nAt l k * n % d = 0) = true by simp [hr]))
        have hrb : (nAt l k * n % d != 0) = false := by simp [hr]
        go_wp2_with fail
        go_roundw
        case rel => exact ⟨k + 1, hlt, by go_num, HOK.out, hal⟩
        case measure => simp [intOf]; omega
      · have hcn := dvB_no (HS.out.trans (show decide (nAt l k * n % d = 0) = false by simp [hr])) hlt
        have HX := hide (show srC l n d = 4 by rw [HC.out, hcn]; rfl)
        have HY := hide (show srV l n d = [] by rw [HV.out, hcn]; rfl)
        have hrb : (nAt l k * n % d != 0) = true := by simp [hr]
        clear hcn
        go_wp2_with fail
        go_ret2
        rw [HX.out, HY.out]
        exact ownN_nil none 0 4 ⟨rfl, Or.inl ⟨rfl, rfl⟩⟩ (step_below hal hb0)
    · obtain rfl : k = l.length := by omega
      have HX := hide (show srC l n d = C by rw [HC.out, hdv]; rfl)
      have HY := hide (show srV l n d = V by rw [HV.out, hdv]; rfl)
      have KC1 := KC wr hb
      have bw := step_below hb hb0
      clear hdv
      go_wp2_with fail
      refine KC1.mono ?_
      rintro e w2 ⟨C1, q1, rfl, own2, hb2⟩
      go_wp2
      go_ret2
      rw [HX.out, HY.out]
      exact ⟨C1, q1, rfl, own_base own2 bw.size, step_below hb2 bw⟩
set_option maxRecDepth 20000 in
set_option maxHeartbeats 4000000 in
theorem specStretched_any (A : Option Addr) (c : Nat) (l : List (Int × Int)) (n d : Int) (w : World) (hA : NA w A l) (hn : l.length ≤ 1048576) (hwf : WF l) :
    Calls Try.prog 30 #[.slice A l.length c, .int .i64 n, .int .i64 d] w (OwnN w (srV l n d) (srC l n d)) := by
  obtain ⟨i0, hi, hz0, hz1, hz2⟩ := info_parts info46
  have KO := l01Ok_any A c l w hA hn hwf
  cases ho : okB l
  · rw [ho] at KO
    have HX := hide (show srC l n d = 1 by simp [srC, ho])
    have HY := hide (show srV l n d = [] by simp [srV, ho])
    clear ho
    go_enter Try.func30, Try.ntmps30
    go_wp2_with fail
    refine KO.mono ?_
    rintro e w1 ⟨rfl, hb1⟩
    have b1 := hb1
    go_wp2
    go_ret2
    rw [HX.out, HY.out]
    exact ownN_nil (some ⟨w1.heap.size, 0, none⟩) 0 1 (own_emptyT _ _ b1.size) (b1.alloc b1.size _)
  rw [ho] at KO
  cases h1 : inB n 1 100
  · have K1 : ∀ W, Calls Try.prog 44 #[.int .i64 n, .int .i64 1, .int .i64 100] W fun e w' => e = .returned (.bool false) ∧ W = w' := fun W => by rw [← h1]; exact l00In_any _ _ _ W
    have HX := hide (show srC l n d = 2 by simp [srC, srG, ho, h1])
    have HY := hide (show srV l n d = [] by simp [srV, srG, h1])
    clear ho h1
    go_enter Try.func30, Try.ntmps30
    go_wp2_with fail
    refine KO.mono ?_
    rintro e w1 ⟨rfl, hb1⟩
    have b1 := hb1
    go_wp2_with (go_at_call 44; with_reducible refine (K1 _).mono ?_; rintro e w' ⟨rfl, rfl⟩)
    go_ret2
    rw [HX.out, HY.out]
    exact ownN_nil (some ⟨w1.heap.size, 0, none⟩) 0 2 (own_emptyT _ _ b1.size) (b1.alloc b1.size _)
  have K1 : ∀ W, Calls Try.prog 44 #[.int .i64 n, .int .i64 1, .int .i64 100] W fun e w' => e = .returned (.bool true) ∧ W = w' := fun W => by rw [← h1]; exact l00In_any _ _ _ W
  cases h2 : inB d 1 100
  · have K2 : ∀ W, Calls Try.prog 44 #[.int .i64 d, .int .i64 1, .int .i64 100] W fun e w' => e = .returned (.bool false) ∧ W = w' := fun W => by rw [← h2]; exact l00In_any _ _ _ W
    have HX := hide (show srC l n d = 2 by simp [srC, srG, ho, h2])
    have HY := hide (show srV l n d = [] by simp [srV, srG, h2])
    clear ho h1 h2
    go_enter Try.func30, Try.ntmps30
    go_wp2_with fail
    refine KO.mono ?_
    rintro e w1 ⟨rfl, hb1⟩
    have b1 := hb1
    go_wp2_with (first | (go_at_call 44; with_reducible refine (K1 _).mono ?_; rintro e w' ⟨rfl, rfl⟩) | (go_at_call 44; with_reducible refine (K2 _).mono ?_; rintro e w' ⟨rfl, rfl⟩))
    go_ret2
    rw [HX.out, HY.out]
    exact ownN_nil (some ⟨w1.heap.size, 0, none⟩) 0 2 (own_emptyT _ _ b1.size) (b1.alloc b1.size _)
  have K2 : ∀ W, Calls Try.prog 44 #[.int .i64 d, .int .i64 1, .int .i64 100] W fun e w' => e = .returned (.bool true) ∧ W = w' := fun W => by rw [← h2]; exact l00In_any _ _ _ W
  have hnn : 1 ≤ n ∧ n ≤ 100 := by simpa [inB] using h1
  have hdd : 1 ≤ d ∧ d ≤ 100 := by simpa [inB] using h2
  have HIN := hide (fun k hk => ok_in ho k hk)
  have HASC := hide (fun hv => sr_asc ho hnn.1 hdd.1 hv)
  have HC := hide (show srC l n d = if dvB n d l l.length then chC (srP n d) l else 4 by simp [srC, srG, ho, h1, h2])
  have HV := hide (show srV l n d = if dvB n d l l.length then chV (srP n d) l else [] by simp [srV, srG, ho, h1, h2])
  clear ho h1 h2
  have hne : (d == 0) = false := by simp; omega
  go_enter Try.func30, Try.ntmps30
  go_wp2_with fail
  refine KO.mono ?_
  rintro e w1 ⟨rfl, hb1⟩
  have b1 := hb1
  have hal : Below w.heap.size w (w1.alloc (.cells #[] 46)) := hb1.alloc hb1.size _
  have hE : (w1.alloc (.cells #[] 46)).ownsRow w.heap.size 46 2 (.slice (some ⟨w1.heap.size, 0, none⟩) 0 0) 0 [] := own_emptyT _ _ hb1.size
  go_wp2_with (first | (go_at_call 44; with_reducible refine (K1 _).mono ?_; rintro e w' ⟨rfl, rfl⟩) | (go_at_call 44; with_reducible refine (K2 _).mono ?_; rintro e w' ⟨rfl, rfl⟩))
  clear K1 K2 KO
  go_loopw [8, 9] (fun v i wr => ∃ k : Nat, k ≤ l.length ∧ i = .int .i64 k ∧ chO (srP n d) l k = true ∧ dvB n d l k = true ∧ wr.ownsRow w.heap.size 46 2 v k (cellsOf (chL (srP n d) l k)) ∧ Below w.heap.size w wr)
    (fun _ i _ => l.length - (intOf i).toNat)
  case atStart => exact ⟨0, Nat.zero_le _, rfl, rfl, rfl, hE, hal⟩
  case round =>
    obtain ⟨k, hk, rfl, hok, hdv, hown, hb⟩ := hrel
    obtain ⟨A', c', rfl⟩ := own_shapeT hown
    by_cases hlt : k < l.length
    · obtain ⟨b, o, rfl, hbb, c1, c2⟩ := hA k hlt
      have d1 := (hb.cell (p := ⟨b, o + k * 2, none⟩) hbb).trans c1
      have d2 := (hb.cell (p := ⟨b, o + k * 2 + 1, none⟩) hbb).trans c2
      have hbk : b < wr.heap.size := Nat.lt_of_lt_of_le hbb hb.size
      have hsu := chO_succ (srP n d) l k
      rw [hok, Bool.true_and] at hsu
      have hsv := dvB_succ n d l k
      rw [hdv, Bool.true_and] at hsv
      have HL := hide (chL_succ (srP n d) l k)
      have hxy : srP n d (nAt l k) (nPi l k) = (nAt l k * n / d, nPi l k) := rfl
      rw [hxy] at hsu HL
      have HS := hide hsu
      have HSV := hide hsv
      obtain ⟨⟨x1, x2⟩, y1, y2⟩ := HIN.out k hlt
      obtain ⟨⟨s1, s2⟩, ⟨s3, s4⟩, s5, s6⟩ := sr_num (HIN.out k hlt).1 hnn hdd
      have hs := hb.size
      have hti : (nAt l k * n).tmod d = nAt l k * n % d := Int.tmod_eq_emod_of_nonneg s1
      have htq : (nAt l k * n).tdiv d = nAt l k * n / d := Int.tdiv_eq_ediv_of_nonneg s1
      obtain ⟨x, hx⟩ : ∃ x, x = nAt l k := ⟨_, rfl⟩
      obtain ⟨y, hy⟩ : ∃ y, y = nPi l k := ⟨_, rfl⟩
      obtain ⟨u, hu⟩ : ∃ u, u = nAt l k * n := ⟨_, rfl⟩
      obtain ⟨v, hv⟩ : ∃ v, v = nAt l k * n / d := ⟨_, rfl⟩
      obtain ⟨r, hr⟩ : ∃ r, r = nAt l k * n % d := ⟨_, rfl⟩
      have hw1 : IntKind.i64.wrap (x * n) = u := by rw [hx, hu]; exact IntWalk.i64_in _ (by omega)
      rw [← hv, ← hy] at HS HL
      rw [← hr] at hti HSV s5 s6
      rw [← hv] at htq s3 s4
      rw [← hu] at hti htq s1 s2
      rw [← hx] at d1 x1 x2
      rw [← hy] at d2 y1 y2
      clear hsu hsv hok hdv c1 c2 hxy hx hy hu hv hr
      have hwr : IntKind.i64.wrap r = r := IntWalk.i64_in _ (by omega)
      have hwv : IntKind.i64.wrap v = v := IntWalk.i64_in _ (by omega)
      by_cases hr : r = 0
      · have hrb : (r != 0) = false := by simp [hr]
        by_cases hv2 : 200 ≤ v
        · have hcn := chO_no (HS.out.trans (show noteB v y = false by simp [noteB]; omega)) hlt
          have HX := hide (show chC (srP n d) l = 4 by simp [chC, hcn])
          have HY := hide (show chV (srP n d) l = [] by simp [chV, hcn])
          clear hcn
          go_wp2
          go_ret2
          rw [HC.out, HV.out, HX.out, HY.out, ite_self, ite_self]
          exact ownN_nil (some ⟨wr.heap.size, 0, none⟩) 0 4 (own_emptyT _ _ hs) (hb.alloc hs _)
        · have HOK := hide (HS.out.trans (show noteB v y = true by simp [noteB]; omega))
          have HOV := hide (HSV.out.trans (show decide (r = 0) = true by simp [hr]))
          have hw16 : IntKind.i16.wrap v = v := by simp [IntKind.wrap, IntKind.signed, IntKind.bits]; omega
          have hdr : Below wr.heap.size wr wr.drew := (Below.refl _ _).drew
          have t1 := (hdr.cell (p := ⟨b, o + k * 2, none⟩) hbk).trans d1
          have t2 := (hdr.cell (p := ⟨b, o + k * 2 + 1, none⟩) hbk).trans d2
          obtain ⟨W5, hW5⟩ : ∃ W5, W5 = (wr.alloc (.cells #[.int .i16 v, .int .i8 y] 46)).drew := ⟨_, rfl⟩
          have hb5 : Below wr.heap.size wr W5 := by rw [hW5]; exact ((Below.refl _ _).alloc (Nat.le_refl _) _).drew
          have hnew5 : ∀ j u, ([.int .i16 v, .int .i8 y] : List Value)[j]? = some u → W5.cell? ((⟨wr.heap.size, 0, none⟩ : Addr).add j) = some u := fun j u hu => by
            rw [hW5]
            exact cell_two_new' wr (.int .i16 v) (.int .i8 y) 46 j u hu
          have q1 := (hb5.cell (p := ⟨b, o + k * 2, none⟩) hbk).trans d1
          have q2 := (hb5.cell (p := ⟨b, o + k * 2 + 1, none⟩) hbk).trans d2
          have own8 := own_keep hown hb5
          have hb8 := step_below hb5 hb
          have hszb8 := hb8.size
          go_wp2_with fail
          refine wp_region_held_drew (S := fun w' => w'.cell? ⟨b, o + k * 2, none⟩ = some (.int .i16 x) ∧ w'.cell? ⟨b, o + k * 2 + 1, none⟩ = some (.int .i8 y)) (by kernel_rfl) ⟨t1, t2⟩ fun hS1 => ?_
          refine wpAnyH_take (i := 0) (v := .slice A' k c') rfl (by kernel_rfl) (by kernel_rfl) (by kernel_rfl) (fun _ _ _ h => h) (Or.inl ⟨by rfl, fun w' _ => by go_simp⟩) hS1 ?_
          change wpAnyH _ _ _ _ _ _ _ (Act.put _ (some 50) _) _
          simp only [Act.put, List.setIfInBounds_toArray, List.set_cons_zero, List.set_cons_succ]
          refine wpAnyH_take (i := 1) (v := .int .i64 u) rfl (by kernel_rfl) (by kernel_rfl) (by kernel_rfl) (fun _ _ _ h => h) (Or.inl ⟨by rfl, fun w' _ => by go_simp⟩) hS1 ?_
          change wpAnyH _ _ _ _ _ _ _ (Act.put _ (some 51) _) _
          simp only [Act.put, List.setIfInBounds_toArray, List.set_cons_zero, List.set_cons_succ]
          refine wpAnyH_take (i := 2) (v := .int .i64 d) rfl (by kernel_rfl) (by kernel_rfl) (by kernel_rfl) (fun _ _ _ h => h) (Or.inl ⟨by rfl, fun w' _ => by go_simp⟩) hS1 ?_
          change wpAnyH _ _ _ _ _ _ _ (Act.put _ (some 52) _) _
          simp only [Act.put, List.setIfInBounds_toArray, List.set_cons_zero, List.set_cons_succ]
          refine wpAnyH_take (i := 3) (v := .int .i64 v) rfl (by kernel_rfl) (by kernel_rfl) (by kernel_rfl) (fun _ _ _ h => h) (Or.inl ⟨by rfl, fun w' _ => by go_simp; omega⟩) hS1 ?_
          change wpAnyH _ _ _ _ _ _ _ (Act.put _ (some 53) _) _
          simp only [Act.put, List.setIfInBounds_toArray, List.set_cons_zero, List.set_cons_succ]
          refine wpAnyH_take (i := 4) (v := .int .i16 v) rfl (by kernel_rfl) (by kernel_rfl) (by kernel_rfl) (fun _ _ _ h => h) (Or.inl ⟨by rfl, fun w' _ => by go_simp⟩) hS1 ?_
          change wpAnyH _ _ _ _ _ _ _ (Act.put _ (some 54) _) _
          simp only [Act.put, List.setIfInBounds_toArray, List.set_cons_zero, List.set_cons_succ]
          refine wpAnyH_take (i := 5) (v := .slice (some ⟨b, o, none⟩) l.length c) rfl (by kernel_rfl) (by kernel_rfl) (by kernel_rfl) (fun _ _ _ h => h) (Or.inl ⟨by rfl, fun w' _ => by go_simp⟩) hS1 ?_
          change wpAnyH _ _ _ _ _ _ _ (Act.put _ (some 55) _) _
          simp only [Act.put, List.setIfInBounds_toArray, List.set_cons_zero, List.set_cons_succ]
          refine wpAnyH_take (i := 6) (v := .int .i64 k) rfl (by kernel_rfl) (by kernel_rfl) (by kernel_rfl) (fun _ _ _ h => h) (Or.inl ⟨by rfl, fun w' _ => by go_simp⟩) hS1 ?_
          change wpAnyH _ _ _ _ _ _ _ (Act.put _ (some 56) _) _
          simp only [Act.put, List.setIfInBounds_toArray, List.set_cons_zero, List.set_cons_succ]
          refine wpAnyH_take (i := 7) (v := Value.pointer (some ⟨b, o + k * 2, none⟩)) rfl (by kernel_rfl) (by kernel_rfl) (by kernel_rfl) (fun _ _ _ h => h) (Or.inl ⟨by rfl, fun w' _ => by go_simp⟩) hS1 ?_
          change wpAnyH _ _ _ _ _ _ _ (Act.put _ (some 57) _) _
          simp only [Act.put, List.setIfInBounds_toArray, List.set_cons_zero, List.set_cons_succ]
          refine wpAnyH_take (i := 8) (v := Value.pointer (some ⟨b, o + k * 2 + 1, none⟩)) rfl (by kernel_rfl) (by kernel_rfl) (by kernel_rfl) (fun _ _ _ h => h) (Or.inl ⟨by rfl, fun w' _ => by go_simp⟩) hS1 ?_
          change wpAnyH _ _ _ _ _ _ _ (Act.put _ (some 58) _) _
          simp only [Act.put, List.setIfInBounds_toArray, List.set_cons_zero, List.set_cons_succ]
          refine wpAnyH_take (i := 9) (v := .int .i8 y) rfl (by kernel_rfl) (by kernel_rfl) (by kernel_rfl) (fun _ _ _ h => h) (Or.inl ⟨by rfl, fun w' h => ?_⟩) hS1 ?_
          · have c0 := h.2
            clear h
            go_simp
          change wpAnyH _ _ _ _ _ _ _ (Act.put _ (some 59) _) _
          simp only [Act.put, List.setIfInBounds_toArray, List.set_cons_zero, List.set_cons_succ]
          refine wpAnyH_take (i := 10) (v := .agg #[.int .i16 v, .int .i8 y]) rfl (by kernel_rfl) (by kernel_rfl) (by kernel_rfl) (fun _ _ _ h => h) (Or.inl ⟨by rfl, fun w' _ => by go_simp⟩) hS1 ?_
          change wpAnyH _ _ _ _ _ _ _ (Act.put _ (some 60) _) _
          simp only [Act.put, List.setIfInBounds_toArray, List.set_cons_zero, List.set_cons_succ]
          refine wpAnyH_ready (rs := [11]) (by kernel_rfl) (by simp) (AllReadyH.cons rfl ?_ AllReadyH.nil)
          intro K hK
          rw [if_pos (by rfl)]
          go_simp
          rw [← hW5]
          clear hW5
          refine hK.out _ _ ⟨q1, q2⟩ (fun hS2 => ?_)
          clear hK K hS1
          refine wpAnyH_ready (rs := [12]) (by kernel_rfl) (by simp) (AllReadyH.cons rfl ?_ AllReadyH.nil)
          intro K hK
          rw [if_pos (by rfl)]
          refine wp_append_own W5 (.tmp 50) (.tmp 61) 25 rfl w.heap.size 46 i0 (.agg #[.int .i16 0, .int .i8 0]) 2 4 Try.underlying25 hi hz0 hz1 hz2 rfl (by decide) _ _ _ rfl own8 ⟨wr.heap.size, 0, none⟩ 1 1 [.int .i16 v, .int .i8 y] rfl rfl hnew5 (fun x hx => by simp at hx; rcases hx with rfl | rfl <;> rfl) (by unfold maxLen; omega) (by omega) hb8.size ?_
          intro v6 w6 hown6 hgr6 hnil6
          have hb6 : Below w.heap.size w w6 := hb8.grown hgr6 hb8.size (fun j hj => (own8.lt j hj).1)
          have q3 := hgr6.cell q1 (fun e => by have h := (own8.lt b e.symm).1; omega)
          have q4 := hgr6.cell q2 (fun e => by have h := (own8.lt b e.symm).1; omega)
          refine hK.out _ _ ⟨q3, q4⟩ (fun hS3 => ?_)
          clear hK K hS2
          obtain ⟨A6, c6, rfl⟩ := own_shapeT hown6
          refine wpAnyH_take (i := 13) (v := .slice A6 (k + 1) c6) rfl (by kernel_rfl) (by kernel_rfl) (by kernel_rfl) (fun _ _ _ h => h) (Or.inl ⟨by rfl, fun w' _ => by go_simp⟩) hS3 ?_
          change wpAnyH _ _ _ _ _ _ _ (Act.put _ (some 8) _) _
          simp only [Act.put, List.setIfInBounds_toArray, List.set_cons_zero, List.set_cons_succ]
          refine wpAnyH_done (by kernel_rfl) ?_ _
          go_wp2
          go_roundw
          case rel => exact ⟨k + 1, hlt, by go_num, HOK.out, HOV.out, by rw [HL.out, cellsOf_append]; exact hown6, hb6⟩
          case measure => simp [intOf]; omega
      · have hrb : (r != 0) = true := by simp [hr]
        have hcn := dvB_no (HSV.out.trans (show decide (r = 0) = false by simp [hr])) hlt
        have HX := hide (show srC l n d = 4 by rw [HC.out, hcn]; rfl)
        have HY := hide (show srV l n d = [] by rw [HV.out, hcn]; rfl)
        clear hcn
        go_wp2
        go_ret2
        rw [HX.out, HY.out]
        exact ownN_nil (some ⟨wr.heap.size, 0, none⟩) 0 4 (own_emptyT _ _ hs) (hb.alloc hs _)
    · obtain rfl : k = l.length := by omega
      have HX := hide (show srC l n d = 0 by rw [HC.out, hdv]; simp [chC, hok])
      have HY := hide (show srV l n d = chL (srP n d) l l.length by rw [HV.out, hdv]; simp only [if_true]; rw [chV_asc (HASC.out hdv)]; simp [chW, hok])
      clear hdv hok
      go_wp2
      go_ret2
      rw [HX.out, HY.out]
      exact ownN_of A' c' 0 _ l.length (chL_len _ _ _) hown hb
end Go.Proofs.Ytfjcomemgbmohaa
