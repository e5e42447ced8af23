import Derived.Test.YtcocfnjbgceidaaWow
import Derived.Test.YtcocfnjbgceidaaGbq
import Derived.Test.YtcocfnjbgceidaaGbm
namespace Go.Proofs.Ytcocfnjbgceidaa
open Go.RowKit Go.Maps
theorem whole_wo (T : List Wp) (z : List Int) (a b : Int) : wholeB T z a b = (decide ((woT T a).length = 0) && decide ((woK z b z.length).length = 0)) := by
  have e1 : decide ((woT T a).length = 0) = T.all (fun x => decide (x.2.2 ≤ a)) := by
    rw [Bool.eq_iff_iff]
    simp only [woT, decide_eq_true_eq, List.length_eq_zero_iff, List.filter_eq_nil_iff, List.all_eq_true]
    exact ⟨fun h x hx => by have := h x hx; omega, fun h x hx => by have := h x hx; omega⟩
  have e2 : decide ((woK z b z.length).length = 0) = z.all (fun y => decide (y ≤ b)) := by
    rw [Bool.eq_iff_iff]
    simp only [woK, decide_eq_true_eq, List.length_eq_zero_iff, List.map_eq_nil_iff, List.filter_eq_nil_iff, List.all_eq_true, List.mem_range]
    constructor
    · intro h y hy
      obtain ⟨k, hk, rfl⟩ := List.mem_iff_getElem.1 hy
      have := h k hk
      simp [zAt, List.getD, hk] at this
      exact this
    · intro h k hk
      have := h z[k] (List.getElem_mem hk)
      simp [zAt, List.getD, hk]
      exact this
  rw [wholeB, e1, e2]
set_option maxRecDepth 20000 in
set_option maxHeartbeats 2000000 in
theorem l06Whole_any (g : Nat) (P : Option Addr) (d : Nat) (T : List Wp) (U : Option Addr) (v : Nat) (z : List Int) (a b : Int) (w : World) (h1 : w.cell? ⟨g, 0, none⟩ = some (.slice P T.length d)) (h2 : w.cell? ⟨g, 1, none⟩ = some (.slice U z.length v)) (hL : WnA w P T) (hU : SZ w U z) (hl : T.length ≤ 1048576) (hz : z.length ≤ 1048576) :
    Calls Try.prog 97 #[.pointer (some ⟨g, 0, none⟩), .agg #[.int .i64 a, .int .i64 b]] w (Says (wholeB T z a b) w) := by
  have hgw : g < w.heap.size := World.block_lt_of_cell? w _ h1
  obtain ⟨X, hX⟩ : ∃ X, X = w.alloc (.cells #[.int .i64 a, .int .i64 b] 66) := ⟨_, rfl⟩
  have b0 : Below w.heap.size w X := by rw [hX]; exact (Below.refl _ _).alloc (Nat.le_refl _) _
  have P0 : Bk X w.heap.size 66 #[.int .i64 a, .int .i64 b] := by rw [hX]; exact Bk.new _ _ _ rfl
  have KW := l06Worn_any g P d T U v z a b X ((b0.cell (p := ⟨g, 0, none⟩) hgw).trans h1) ((b0.cell (p := ⟨g, 1, none⟩) hgw).trans h2) (hL.below b0) (hU.below b0) hl hz
  have HW := hide (whole_wo T z a b)
  go_enter Try.func97, Try.ntmps97
  go_upto_region 1 with fail
  rw [← hX]
  clear hX
  have c0 := P0.cell (i := 0) rfl
  have c1 := P0.cell (i := 1) rfl
  go_wp2_with fail
  refine KW.mono ?_
  rintro e w2 ⟨P1, q1, P2, q2, rfl, -, -, hb2⟩
  have b2 := step_below hb2 b0
  clear KW c0 c1
  by_cases hp : (woT T a).length = 0
  · by_cases hk : (woK z b z.length).length = 0
    · have HR := hide (show wholeB T z a b = true by rw [HW.out, hp, hk]; rfl)
      rw [hp, hk]
      clear hp hk
      go_wp2
      go_ret
      exact ⟨ret_bool HR.out.symm, b2⟩
    · have HR := hide (show wholeB T z a b = false by rw [HW.out, hp, decide_eq_false hk]; rfl)
      rw [hp]
      have hq : (((woK z b z.length).length : Int) == 0) = false := by rw [beq_eq_false_iff_ne]; omega
      clear hp hk
      generalize (woK z b z.length).length = m at *
      go_wp2
      go_ret
      exact ⟨ret_bool HR.out.symm, b2⟩
  · have HR := hide (show wholeB T z a b = false by rw [HW.out, decide_eq_false hp]; rfl)
    have hq : (((woT T a).length : Int) == 0) = false := by rw [beq_eq_false_iff_ne]; omega
    clear hp
    generalize (woT T a).length = m at *
    go_wp2
    go_ret
    exact ⟨ret_bool HR.out.symm, b2⟩
/-- the code of what is valid -/
def okC (b : Bool) : Int := if b then 0 else 1
set_option maxRecDepth 20000 in
set_option maxHeartbeats 2000000 in
theorem l06Lived_any (f g : Nat) (s : Int) (A : Option Addr) (c : Nat) (h : List (Int × Int)) (P : Option Addr) (d : Nat) (T : List Wp) (U : Option Addr) (v : Nat) (z : List Int) (a b : Int) (w : World) (hF : w.cell? ⟨f, 0, none⟩ = some (.int .i16 s) ∧ w.cell? ⟨f, 1, none⟩ = some (.slice A h.length c)) (h1 : w.cell? ⟨g, 0, none⟩ = some (.slice P T.length d)) (h2 : w.cell? ⟨g, 1, none⟩ = some (.slice U z.length v))
    (hA : HA w A h) (hL : WnA w P T) (hU : SZ w U z) (hn : h.length ≤ 1048576) (hl : T.length ≤ 1048576) (hz : z.length ≤ 1048576) (hwf : HWF h) (hs : -32768 ≤ s ∧ s ≤ 32767) (hlw : WnWF T) :
    Calls Try.prog 75 #[.pointer (some ⟨f, 0, none⟩), .pointer (some ⟨g, 0, none⟩), .agg #[.int .i64 a, .int .i64 b]] w fun e w' => e = .returned (.int .i64 (okC (fbV s h T z a b))) ∧ Below w.heap.size w w' := by
  have hgw : g < w.heap.size := World.block_lt_of_cell? w _ h1
  have hfw : f < w.heap.size := World.block_lt_of_cell? w _ hF.1
  obtain ⟨X, hX⟩ : ∃ X, X = w.alloc (.cells #[.int .i64 a, .int .i64 b] 66) := ⟨_, rfl⟩
  have b0 : Below w.heap.size w X := by rw [hX]; exact (Below.refl _ _).alloc (Nat.le_refl _) _
  have P0 : Bk X w.heap.size 66 #[.int .i64 a, .int .i64 b] := by rw [hX]; exact Bk.new _ _ _ rfl
  have KW := l06Ok_any f g s A c h P d T U v z X ⟨(b0.cell (p := ⟨f, 0, none⟩) hfw).trans hF.1, (b0.cell (p := ⟨f, 1, none⟩) hfw).trans hF.2⟩ ((b0.cell (p := ⟨g, 0, none⟩) hgw).trans h1) ((b0.cell (p := ⟨g, 1, none⟩) hgw).trans h2) (hA.below b0) (hL.below b0) (hU.below b0) hn hl hz hwf hs hlw
  go_enter Try.func75, Try.ntmps75
  go_upto_region 1 with fail
  rw [← hX]
  clear hX
  cases hw : weB s h T z
  · rw [hw] at KW
    have HR := hide (show okC (fbV s h T z a b) = 1 by rw [fbV, hw]; rfl)
    clear hw
    go_wp2_with fail
    refine KW.mono ?_
    rintro e w2 ⟨rfl, hb2⟩
    have b2 := step_below hb2 b0
    go_wp2
    go_ret
    exact ⟨by rw [HR.out]; rfl, b2⟩
  · rw [hw] at KW
    go_wp2_with fail
    refine KW.mono ?_
    rintro e w2 ⟨rfl, hb2⟩
    have b2 := step_below hb2 b0
    have P2 := P0.keep hb2
    have c0 := P2.cell (i := 0) rfl
    have c1 := P2.cell (i := 1) rfl
    have KL := l06Lives_any a b w2
    cases hv : lvB a b
    · rw [hv] at KL
      have HR := hide (show okC (fbV s h T z a b) = 1 by rw [fbV, hw, hv]; rfl)
      clear hw hv
      go_wp2_with fail
      refine KL.mono ?_
      rintro e w3 ⟨rfl, hb3⟩
      have b3 := step_below hb3 b2
      go_wp2
      go_ret
      exact ⟨by rw [HR.out]; rfl, b3⟩
    · rw [hv] at KL
      have HR := hide (show okC (fbV s h T z a b) = 0 by rw [fbV, hw, hv]; rfl)
      clear hw hv
      go_wp2_with fail
      refine KL.mono ?_
      rintro e w3 ⟨rfl, hb3⟩
      have b3 := step_below hb3 b2
      go_wp2
      go_ret
      exact ⟨by rw [HR.out]; rfl, b3⟩
/-- the code of acts ahead of them -/
def acE (s : Int) (h : List (Int × Int)) (T : List Wp) (z : List Int) (a b : Int) (n : Nat) : Int := if fbV s h T z a b then (if 60 < n then 3 else 0) else 1
set_option maxRecDepth 20000 in
set_option maxHeartbeats 2000000 in
theorem l06Acts_any (f g : Nat) (s : Int) (A : Option Addr) (c : Nat) (h : List (Int × Int)) (P : Option Addr) (d : Nat) (T : List Wp) (U : Option Addr) (v : Nat) (z : List Int) (a b : Int) (L : Option Addr) (m lc : Nat) (w : World) (hF : w.cell? ⟨f, 0, none⟩ = some (.int .i16 s) ∧ w.cell? ⟨f, 1, none⟩ = some (.slice A h.length c)) (h1 : w.cell? ⟨g, 0, none⟩ = some (.slice P T.length d)) (h2 : w.cell? ⟨g, 1, none⟩ = some (.slice U z.length v))
    (hA : HA w A h) (hL : WnA w P T) (hU : SZ w U z) (hn : h.length ≤ 1048576) (hl : T.length ≤ 1048576) (hz : z.length ≤ 1048576) (hwf : HWF h) (hs : -32768 ≤ s ∧ s ≤ 32767) (hlw : WnWF T) (hm : m ≤ 1048576) :
    Calls Try.prog 65 #[.pointer (some ⟨f, 0, none⟩), .pointer (some ⟨g, 0, none⟩), .agg #[.int .i64 a, .int .i64 b], .slice L m lc] w fun e w' => e = .returned (.int .i64 (acE s h T z a b m)) ∧ Below w.heap.size w w' := by
  have hgw : g < w.heap.size := World.block_lt_of_cell? w _ h1
  have hfw : f < w.heap.size := World.block_lt_of_cell? w _ hF.1
  obtain ⟨X, hX⟩ : ∃ X, X = w.alloc (.cells #[.int .i64 a, .int .i64 b] 66) := ⟨_, rfl⟩
  have b0 : Below w.heap.size w X := by rw [hX]; exact (Below.refl _ _).alloc (Nat.le_refl _) _
  have P0 : Bk X w.heap.size 66 #[.int .i64 a, .int .i64 b] := by rw [hX]; exact Bk.new _ _ _ rfl
  have KW := l06Lived_any f g s A c h P d T U v z a b X ⟨(b0.cell (p := ⟨f, 0, none⟩) hfw).trans hF.1, (b0.cell (p := ⟨f, 1, none⟩) hfw).trans hF.2⟩ ((b0.cell (p := ⟨g, 0, none⟩) hgw).trans h1) ((b0.cell (p := ⟨g, 1, none⟩) hgw).trans h2) (hA.below b0) (hL.below b0) (hU.below b0) hn hl hz hwf hs hlw
  have c0 := P0.cell (i := 0) rfl
  have c1 := P0.cell (i := 1) rfl
  go_enter Try.func65, Try.ntmps65
  go_upto_region 1 with fail
  rw [← hX]
  clear hX
  cases hv : fbV s h T z a b
  · have HR := hide (show acE s h T z a b m = 1 by rw [acE, hv]; rfl)
    rw [hv] at KW
    simp only [okC, Bool.false_eq_true, if_false] at KW
    clear hv
    go_wp2_with fail
    refine KW.mono ?_
    rintro e w2 ⟨rfl, hb2⟩
    have b2 := step_below hb2 b0
    clear c0 c1
    go_wp2
    go_ret
    exact ⟨by rw [HR.out]; rfl, b2⟩
  · rw [hv] at KW
    simp only [okC, if_true] at KW
    by_cases hlen : 60 < m
    · have HR := hide (show acE s h T z a b m = 3 by rw [acE, hv, if_pos hlen]; rfl)
      have hgt : (60 : Int) < (m : Int) := by omega
      clear hv hlen
      go_wp2_with fail
      refine KW.mono ?_
      rintro e w2 ⟨rfl, hb2⟩
      have b2 := step_below hb2 b0
      clear c0 c1
      go_wp2
      go_ret
      exact ⟨by rw [HR.out]; rfl, b2⟩
    · have HR := hide (show acE s h T z a b m = 0 by rw [acE, hv, if_neg hlen]; rfl)
      have hgt : ¬ (60 : Int) < (m : Int) := by omega
      clear hv hlen
      go_wp2_with fail
      refine KW.mono ?_
      rintro e w2 ⟨rfl, hb2⟩
      have b2 := step_below hb2 b0
      clear c0 c1
      go_wp2
      go_ret
      exact ⟨by rw [HR.out]; rfl, b2⟩
end Go.Proofs.Ytcocfnjbgceidaa
namespace Go.Proofs.Ytcocfnjbgceidaa
open Go.RowKit Go.Maps
theorem ascW_back {l : List Wp} (h : AscL l) : AscW l l.length := fun j hj h0 => by
  have := List.pairwise_iff_getElem.1 h (j - 1) j (by omega) hj (by omega)
  rw [wn_get l (j - 1) (by omega), wn_get l j hj] at this
  exact this
theorem vt_okW {s : Int} {n : Nat} {l : List Wp} (h : VT s n l) : okW s n l = true := by
  simp only [okW, List.all_eq_true, List.mem_range]
  intro k hk
  have := h.2 l[k] (List.getElem_mem hk)
  rw [wn_get l k hk] at this
  obtain ⟨h1, h2, h3⟩ := this
  simp only at h1 h2 h3
  rw [wnOk, h1, Bool.true_and, inB]
  simp
  omega
theorem vz_strB {z : List Int} (h : VZ z) : strB z = true := by
  simp only [strB, List.all_eq_true, List.mem_range]
  intro k hk
  have := h z[k] (List.getElem_mem hk)
  have e : zAt z k = z[k] := by simp [zAt, List.getD, hk]
  rw [e, inB]
  simp
  omega
theorem weB_of {s : Int} {h : List (Int × Int)} {T : List Wp} {z : List Int} (hf : frB s h = true) (hV : VT s h.length T) (hZ : VZ z) (hz : z.length = h.length) : weB s h T z = true := by
  rw [weB, hf, pinsB_split, ascW_yes T (ascW_back hV.1), vt_okW hV, vz_strB hZ, hz]
  simp
theorem weB_frB {s : Int} {h : List (Int × Int)} {T : List Wp} {z : List Int} (hw : weB s h T z = true) : frB s h = true := by
  simp only [weB, Bool.and_eq_true] at hw
  exact hw.1.1.1
theorem tur_valid {s : Int} {n : Nat} {T : List Wp} {z : List Int} {t : Int} (hV : VT s n T) (hZ : VZ z) (ht : 0 ≤ t) (hw : wholeB (turT T t) (turZ T z t) 1000000 1000000 = true) : VT s n (turT T t) ∧ VZ (turZ T z t) := by
  simp only [wholeB, Bool.and_eq_true, List.all_eq_true, decide_eq_true_eq] at hw
  refine ⟨⟨?_, fun x hx => ?_⟩, fun y hy => ⟨?_, hw.2 y hy⟩⟩
  · have := turTd_asc hV.1 t (fun _ => true)
    rwa [turTd_all T t _ (fun _ _ => rfl)] at this
  · have h2 := hw.1 x hx
    obtain ⟨x0, hx0, rfl⟩ := List.mem_map.1 hx
    have h3 := hV.2 x0 hx0
    exact ⟨h3.1, by dsimp only; omega, h2⟩
  · obtain ⟨k, hk, rfl⟩ := List.mem_map.1 hy
    have hk' := List.mem_range.1 hk
    have h4 := hZ z[k] (List.getElem_mem hk')
    have h5 : zAt z k = z[k] := by simp [zAt, List.getD, hk']
    have h6 : 0 ≤ t * (cntP T (k : Int) : Int) := Int.mul_nonneg ht (by omega)
    rw [h5]
    omega
theorem ac_valid {s : Int} {n : Nat} {T : List Wp} {z : List Int} {k a b c d : Int} (hV : VT s n T) (hZ : VZ z) (hz : z.length = n) (h : acC s n T z k a b c d = 0) : VT s n (acT T k a b c d) ∧ VZ (acZ n T z k a b c d) ∧ (acZ n T z k a b c d).length = n := by
  unfold acC at h
  unfold acT acZ
  split at h
  · rename_i h0
    subst h0
    simp only [if_true]
    unfold trC at h
    split at h
    · rename_i hi
      unfold tuC at h
      split at h
      · rename_i hw
        obtain ⟨h1, h2⟩ := tur_valid hV hZ (by simp [inB] at hi; omega) hw
        exact ⟨h1, h2, by rw [turZ_len, hz]⟩
      · omega
    · omega
  · rename_i h0
    rw [if_neg h0, if_neg h0]
    split at h
    · rename_i h1
      rw [if_pos h1, if_pos h1]
      refine ⟨hV, ?_, ?_⟩
      · unfold rnZ
        split
        · exact vz_set hZ _
        · exact hZ
      · unfold rnZ
        split
        · rw [List.length_set, hz]
        · exact hz
    · rename_i h1
      rw [if_neg h1, if_neg h1]
      split at h
      · rename_i h2
        rw [if_pos h2, if_pos h2]
        unfold plC at h
        split at h
        · rename_i hp
          exact ⟨plT_vt hV hp, hZ, hz⟩
        · omega
      · rename_i h2
        rw [if_neg h2, if_neg h2]
        split at h
        · rename_i h3
          rw [if_pos h3, if_pos h3]
          unfold mvC at h
          split at h
          · rename_i hpq
            rw [Bool.and_eq_true] at hpq
            split at h
            · rename_i hh
              rw [Bool.and_eq_true, Bool.not_eq_true'] at hh
              exact ⟨mvT_vt hV hpq.2 hh.1 hh.2, hZ, hz⟩
            · omega
          · omega
        · omega
theorem dnC_zero {s : Int} {n : Nat} {T : List Wp} {z : List Int} {l : List (Int × Int × Int × Int × Int)} {a b : Int} {k : Nat} (h : dnC s n T z l a b k = 0) : dnA s n T z l k = 0 := by
  unfold dnC at h
  split at h
  · assumption
  · exact h
/-- a wear stays valid as long as the acts are done -/
theorem st_valid {s : Int} {n : Nat} {T : List Wp} {z : List Int} {l : List (Int × Int × Int × Int × Int)} {a b : Int} (hV : VT s n T) (hZ : VZ z) (hz : z.length = n) : ∀ k, (∀ j, j < k → dnC s n T z l a b j = 0) → VT s n (stA n T z l k).1 ∧ VZ (stA n T z l k).2 ∧ (stA n T z l k).2.length = n
  | 0, _ => ⟨hV, hZ, hz⟩
  | k + 1, h => by
    obtain ⟨h1, h2, h3⟩ := st_valid hV hZ hz k (fun j hj => h j (by omega))
    exact ac_valid h1 h2 h3 (dnC_zero (h k (by omega)))
theorem vt_wf {s : Int} {n : Nat} {T : List Wp} (h : VT s n T) (hs : s ≤ 96) (hn : n ≤ 24) : WnWF T := fun k hk => by
  have := h.2 (T)[k] (List.getElem_mem hk)
  rw [wn_get T k hk] at this
  obtain ⟨h1, h2, h3⟩ := this
  have h4 := plW_iff.1 h1
  simp only at h2 h3 h4
  refine ⟨?_, ?_, ?_⟩ <;> omega
theorem vz_wf {z : List Int} (h : VZ z) : ZWF z := fun k hk => by
  have := h z[k] (List.getElem_mem hk)
  have e : zAt z k = z[k] := by simp [zAt, List.getD, hk]
  rw [e]
  omega
end Go.Proofs.Ytcocfnjbgceidaa
