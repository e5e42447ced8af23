import Derived.Test.YtcocfnjbgceidaaCoc
import Derived.Test.YtcocfnjbgceidaaCoi
import Derived.Test.YtcocfnjbgceidaaRw
import Derived.Deep.RegionHeld3
import Derived.Deep.CutRange
namespace Go.Proofs.Ytcocfnjbgceidaa
open Go.RowKit
def coSum (a o s : Int) (l : List Xc) : Nat → Int
  | 0 => 0
  | k + 1 => coSum a o s l k + coX a o s (chA l k) (chL l k) (chO l k)
def cocC (a o s : Int) (l : List Xc) : Int := if coB a o s && xsB l then (if 120 < l.length then 3 else 0) else 1
def cocV (a o s : Int) (l : List Xc) : Int := if cocC a o s l = 0 then coSum a o s l l.length else 0
theorem xsB_at {l : List Xc} (h : xsB l = true) {k : Nat} (hk : k < l.length) : xcB (chA l k) (chL l k) (chO l k) (chT l k) = true := by
  have := List.all_eq_true.1 h l[k] (List.getElem_mem hk)
  rwa [ch_eta l k hk] at this
theorem coSum_bound {a o s : Int} {l : List Xc} (hc : coB a o s = true) (hx : xsB l = true) : ∀ k, k ≤ l.length → 0 ≤ coSum a o s l k ∧ coSum a o s l k ≤ 4000 * (k : Int)
  | 0, _ => by simp [coSum]
  | k + 1, hk => by
    have h1 := coSum_bound hc hx k (by omega)
    have h2 := coX_bound hc (xsB_at hx (show k < l.length by omega))
    rw [coSum]
    omega
set_option maxRecDepth 20000 in
set_option maxHeartbeats 4000000 in
theorem implCostOf_any (a o s : Int) (A : Option Addr) (c : Nat) (l : List Xc) (w : World) (hcw : CoWF a o s) (hA : ChA w A l) (hn : l.length ≤ 1048576) (hwf : ChWF l) :
    Calls Try.prog 20 #[.agg #[.int .i16 a, .int .i16 o, .int .i16 s], .slice A l.length c] w (Pair (.int .i64 (cocV a o s l)) (.int .i64 (cocC a o s l)) w) := by
  obtain ⟨X, hX⟩ : ∃ X, X = w.alloc (.cells #[.int .i16 a, .int .i16 o, .int .i16 s] 26) := ⟨_, rfl⟩
  have hb0 : Below w.heap.size w X := by rw [hX]; exact (Below.refl _ _).alloc (Nat.le_refl _) _
  have P0 : Bk X w.heap.size 26 #[.int .i16 a, .int .i16 o, .int .i16 s] := by rw [hX]; exact Bk.new _ _ _ rfl
  have KC : ∀ W, Calls Try.prog 13 #[.agg #[.int .i16 a, .int .i16 o, .int .i16 s]] W (Says (coB a o s) W) := fun W => implValidCosts_any a o s W hcw
  have KX : ∀ W, ChA W A l → Calls Try.prog 59 #[.slice A l.length c] W (Says (xsB l) W) := fun W hA => areChoices_any A c l W hA hn hwf
  go_enter Try.func20, Try.ntmps20
  go_upto_region 1 with fail
  rw [← hX]
  clear hX
  have c0 := P0.cell (i := 0) rfl
  have c1 := P0.cell (i := 1) rfl
  have c2 := P0.cell (i := 2) rfl
  cases hco : coB a o s
  · rw [hco] at KC
    have HC := hide (show cocC a o s l = 1 by simp [cocC, hco])
    have HV := hide (show cocV a o s l = 0 by rw [cocV, if_neg (by rw [HC.out]; decide)])
    clear hco
    go_wp2_with fail
    refine (KC _).mono ?_
    rintro e w2 ⟨rfl, hb2⟩
    have b2 := step_below hb2 hb0
    go_wp2
    go_ret2
    exact ⟨by rw [HC.out, HV.out]; rfl, b2⟩
  rw [hco] at KC
  go_wp2_with fail
  refine (KC _).mono ?_
  rintro e w2 ⟨rfl, hb2⟩
  have b2 := step_below hb2 hb0
  go_wp2_with fail
  refine (KX _ (hA.below b2)).mono ?_
  rintro e w3 ⟨rfl, hb3⟩
  have b3 := step_below hb3 b2
  have P3 := (P0.keep hb2).keep hb3
  clear KC KX c0 c1 c2
  cases hxs : xsB l
  · have HC := hide (show cocC a o s l = 1 by simp [cocC, hxs])
    have HV := hide (show cocV a o s l = 0 by rw [cocV, if_neg (by rw [HC.out]; decide)])
    clear hco hxs
    go_wp2
    go_ret2
    exact ⟨by rw [HC.out, HV.out]; rfl, b3⟩
  rcases Nat.lt_or_ge 120 l.length with hlen | hlen
  · have HC := hide (show cocC a o s l = 3 by simp [cocC, hxs, hco, hlen])
    have HV := hide (show cocV a o s l = 0 by rw [cocV, if_neg (by rw [HC.out]; decide)])
    have hl1 : (120 : Int) < (l.length : Int) := by omega
    clear hco hxs
    go_wp2
    go_ret2
    exact ⟨by rw [HC.out, HV.out]; rfl, b3⟩
  have HC := hide (show cocC a o s l = 0 by simp [cocC, hxs, hco]; omega)
  have HV := hide (show cocV a o s l = coSum a o s l l.length by rw [cocV, if_pos HC.out])
  have HCO := hide hco
  have HXS := hide hxs
  have hl1 : ¬ (120 : Int) < (l.length : Int) := by omega
  clear hco hxs
  go_wp2_with fail
  go_loopw [6, 22] (fun x i wr => ∃ k : Nat, k ≤ l.length ∧ i = .int .i64 k ∧ x = .int .i64 (coSum a o s l k) ∧ Below w3.heap.size w3 wr)
    (fun _ i _ => l.length - (intOf i).toNat)
  case atStart => exact ⟨0, Nat.zero_le _, rfl, rfl, Below.refl _ _⟩
  case round =>
    obtain ⟨k, hk, rfl, rfl, hb⟩ := hrel
    by_cases hlt : k < l.length
    · obtain ⟨b, off, rfl, hbb, c1, c2, c3, c4⟩ := hA k hlt
      have bw := b3.trans (hb.mono b3.size)
      have d1 := (bw.cell (p := ⟨b, off + k * 4, none⟩) hbb).trans c1
      have d2 := (bw.cell (p := ⟨b, off + k * 4 + 1, none⟩) hbb).trans c2
      have d3 := (bw.cell (p := ⟨b, off + k * 4 + 2, none⟩) hbb).trans c3
      have d4 := (bw.cell (p := ⟨b, off + k * 4 + 3, none⟩) hbb).trans c4
      have P4 := P3.keep hb
      have hs := hb.size
      have hsum := coSum_bound HCO.out HXS.out k hk
      have hx1 := coX_bound HCO.out (xsB_at HXS.out hlt)
      have HS := hide (show coSum a o s l (k + 1) = coSum a o s l k + coX a o s (chA l k) (chL l k) (chO l k) from rfl)
      obtain ⟨z, hz⟩ : ∃ z, z = coSum a o s l k := ⟨_, rfl⟩
      rw [← hz] at hsum HS ⊢
      have K1 := fun W => costOf1_any a o s (chA l k) (chL l k) (chO l k) (chT l k) W HCO.out (xsB_at HXS.out hlt)
      obtain ⟨y, hy⟩ : ∃ y, y = coX a o s (chA l k) (chL l k) (chO l k) := ⟨_, rfl⟩
      rw [← hy] at hx1 HS
      simp only [← hy] at K1
      have hwr : IntKind.i64.wrap (z + y) = z + y := IntWalk.i64_in _ (by omega)
      have hki : (k : Int) < (l.length : Int) := by omega
      clear c1 c2 c3 c4 hA hz hy 
      obtain ⟨Y, hY⟩ : ∃ Y, Y = wr.alloc (.cells #[.bool (chA l k), .int .i8 (chL l k), .int .i8 (chO l k), .int .i8 (chT l k)] 33) := ⟨_, rfl⟩
      have hbY : Below wr.heap.size wr Y := by rw [hY]; exact (Below.refl _ _).alloc (Nat.le_refl _) _
      have PY := P4.keep hbY
      have QY : Bk Y wr.heap.size 33 #[.bool (chA l k), .int .i8 (chL l k), .int .i8 (chO l k), .int .i8 (chT l k)] := by rw [hY]; exact Bk.new _ _ _ rfl
      go_upto_region 9 with fail
      rw [← hY]
      clear hY
      have e0 := PY.cell (i := 0) rfl
      have e1 := PY.cell (i := 1) rfl
      have e2 := PY.cell (i := 2) rfl
      have f0 := QY.cell (i := 0) rfl
      have f1 := QY.cell (i := 1) rfl
      have f2 := QY.cell (i := 2) rfl
      have f3 := QY.cell (i := 3) rfl
      go_wp2_with fail
      refine (K1 _).mono ?_
      rintro e w5 ⟨rfl, hb5⟩
      go_wp2
      go_roundw
      case rel => exact ⟨k + 1, hlt, by go_num, by rw [HS.out], hb.trans ((hbY.trans (hb5.mono hbY.size)).mono hs)⟩
      case measure => simp [intOf]; omega
    · obtain rfl : k = l.length := by omega
      go_wp2
      go_ret2
      exact ⟨by rw [HC.out, HV.out]; rfl, b3.trans (hb.mono b3.size)⟩
set_option maxRecDepth 20000 in
set_option maxHeartbeats 4000000 in
theorem specCostOf_any (a o s : Int) (A : Option Addr) (c : Nat) (l : List Xc) (w : World) (hcw : CoWF a o s) (hA : ChA w A l) (hn : l.length ≤ 1048576) (hwf : ChWF l) :
    Calls Try.prog 18 #[.agg #[.int .i16 a, .int .i16 o, .int .i16 s], .slice A l.length c] w (Pair (.int .i64 (cocV a o s l)) (.int .i64 (cocC a o s l)) w) := by
  obtain ⟨X, hX⟩ : ∃ X, X = w.alloc (.cells #[.int .i16 a, .int .i16 o, .int .i16 s] 26) := ⟨_, rfl⟩
  have hb0 : Below w.heap.size w X := by rw [hX]; exact (Below.refl _ _).alloc (Nat.le_refl _) _
  have P0 : Bk X w.heap.size 26 #[.int .i16 a, .int .i16 o, .int .i16 s] := by rw [hX]; exact Bk.new _ _ _ rfl
  have KC : ∀ W, Calls Try.prog 54 #[.agg #[.int .i16 a, .int .i16 o, .int .i16 s]] W (Says (coB a o s) W) := fun W => l07Costs_any a o s W hcw
  have KX : ∀ W, ChA W A l → Calls Try.prog 57 #[.slice A l.length c] W (Says (xsB l) W) := fun W hA => l07Choices_any A c l W hA hn hwf
  go_enter Try.func18, Try.ntmps18
  go_upto_region 1 with fail
  rw [← hX]
  clear hX
  have c0 := P0.cell (i := 0) rfl
  have c1 := P0.cell (i := 1) rfl
  have c2 := P0.cell (i := 2) rfl
  cases hco : coB a o s
  · rw [hco] at KC
    have HC := hide (show cocC a o s l = 1 by simp [cocC, hco])
    have HV := hide (show cocV a o s l = 0 by rw [cocV, if_neg (by rw [HC.out]; decide)])
    clear hco
    go_wp2_with fail
    refine (KC _).mono ?_
    rintro e w2 ⟨rfl, hb2⟩
    have b2 := step_below hb2 hb0
    go_wp2
    go_ret2
    exact ⟨by rw [HC.out, HV.out]; rfl, b2⟩
  rw [hco] at KC
  go_wp2_with fail
  refine (KC _).mono ?_
  rintro e w2 ⟨rfl, hb2⟩
  have b2 := step_below hb2 hb0
  go_wp2_with fail
  refine (KX _ (hA.below b2)).mono ?_
  rintro e w3 ⟨rfl, hb3⟩
  have b3 := step_below hb3 b2
  have P3 := (P0.keep hb2).keep hb3
  clear KC KX c0 c1 c2
  cases hxs : xsB l
  · have HC := hide (show cocC a o s l = 1 by simp [cocC, hxs])
    have HV := hide (show cocV a o s l = 0 by rw [cocV, if_neg (by rw [HC.out]; decide)])
    clear hco hxs
    go_wp2
    go_ret2
    exact ⟨by rw [HC.out, HV.out]; rfl, b3⟩
  rcases Nat.lt_or_ge 120 l.length with hlen | hlen
  · have HC := hide (show cocC a o s l = 3 by simp [cocC, hxs, hco, hlen])
    have HV := hide (show cocV a o s l = 0 by rw [cocV, if_neg (by rw [HC.out]; decide)])
    have hl1 : (120 : Int) < (l.length : Int) := by omega
    clear hco hxs
    go_wp2
    go_ret2
    exact ⟨by rw [HC.out, HV.out]; rfl, b3⟩
  have HC := hide (show cocC a o s l = 0 by simp [cocC, hxs, hco]; omega)
  have HV := hide (show cocV a o s l = coSum a o s l l.length by rw [cocV, if_pos HC.out])
  have HCO := hide hco
  have HXS := hide hxs
  have hl1 : ¬ (120 : Int) < (l.length : Int) := by omega
  clear hco hxs
  go_wp2_with fail
  go_loopw [6, 7] (fun x i wr => ∃ k : Nat, k ≤ l.length ∧ i = .int .i64 k ∧ x = .int .i64 (coSum a o s l k) ∧ Below w3.heap.size w3 wr)
    (fun _ i _ => l.length - (intOf i).toNat)
  case atStart => exact ⟨0, Nat.zero_le _, rfl, rfl, Below.refl _ _⟩
  case round =>
    obtain ⟨k, hk, rfl, rfl, hb⟩ := hrel
    by_cases hlt : k < l.length
    · obtain ⟨b, off, rfl, hbb, c1, c2, c3, c4⟩ := hA k hlt
      have bw := b3.trans (hb.mono b3.size)
      have d1 := (bw.cell (p := ⟨b, off + k * 4, none⟩) hbb).trans c1
      have d2 := (bw.cell (p := ⟨b, off + k * 4 + 1, none⟩) hbb).trans c2
      have d3 := (bw.cell (p := ⟨b, off + k * 4 + 2, none⟩) hbb).trans c3
      have d4 := (bw.cell (p := ⟨b, off + k * 4 + 3, none⟩) hbb).trans c4
      have P4 := P3.keep hb
      have hs := hb.size
      have hsum := coSum_bound HCO.out HXS.out k hk
      have hx1 := coX_bound HCO.out (xsB_at HXS.out hlt)
      have HS := hide (show coSum a o s l (k + 1) = coSum a o s l k + coX a o s (chA l k) (chL l k) (chO l k) from rfl)
      obtain ⟨z, hz⟩ : ∃ z, z = coSum a o s l k := ⟨_, rfl⟩
      rw [← hz] at hsum HS ⊢
      have K1 := fun W => l07Cost_any a o s (chA l k) (chL l k) (chO l k) (chT l k) W HCO.out (xsB_at HXS.out hlt)
      obtain ⟨y, hy⟩ : ∃ y, y = coX a o s (chA l k) (chL l k) (chO l k) := ⟨_, rfl⟩
      rw [← hy] at hx1 HS
      simp only [← hy] at K1
      have hwr : IntKind.i64.wrap (z + y) = z + y := IntWalk.i64_in _ (by omega)
      have hki : (k : Int) < (l.length : Int) := by omega
      clear c1 c2 c3 c4 hA hz hy 
      have e0 := Later.cell (P4.cell (i := 0) rfl)
      have e1 := Later.cell (P4.cell (i := 1) rfl)
      have e2 := Later.cell (P4.cell (i := 2) rfl)
      have f0 := Later.cell d1
      have f1 := Later.cell d2
      have f2 := Later.cell d3
      have f3 := Later.cell d4
      go_wp2_with fail
      refine wp_region_later (by kernel_rfl) (by kernel_rfl) ?_
      repeat (go_big_quiet_step ((go_at_call 58; exact Later.call (K1 _))))
      refine wpQuiet_nil ?_
      rintro _ ⟨⟨wq, hq⟩, rfl⟩
      go_wp2
      go_roundw
      case rel => exact ⟨k + 1, hlt, by go_num, by rw [HS.out], hb.trans (hq.mono hs)⟩
      case measure => simp [intOf]; omega
    · obtain rfl : k = l.length := by omega
      go_wp2
      go_ret2
      exact ⟨by rw [HC.out, HV.out]; rfl, b3.trans (hb.mono b3.size)⟩
end Go.Proofs.Ytcocfnjbgceidaa
