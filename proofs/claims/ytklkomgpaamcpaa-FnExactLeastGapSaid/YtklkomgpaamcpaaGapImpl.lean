import Derived.Test.YtklkomgpaamcpaaGap
namespace Go.Proofs.Ytklkomgpaamcpaa
open Go.RowKit Go.Maps

/-- the map's datum: of each pitch the last note among the first n -/
def LastM (D : DataW Unit) (l : List (Int × Int)) (n : Nat) : Prop :=
  (∀ p, Maps.has D (.int .i8 p) = true → ∃ j, j < n ∧ nPi l j = p ∧ (∀ i, i < n → nPi l i = p → i ≤ j) ∧ D.atKey (.int .i8 p) (.lit (.int .i64 0)) = .lit (.int .i64 (nAt l j))) ∧
  ∀ p, Maps.has D (.int .i8 p) = false → ∀ j, j < n → nPi l j ≠ p
theorem lastM_start (l : List (Int × Int)) : LastM (.map []) l 0 := ⟨fun p h => by simp [Maps.has] at h, fun p _ j hj => absurd hj (Nat.not_lt_zero _)⟩
theorem lastM_step {D : DataW Unit} {l : List (Int × Int)} {n : Nat} (hD : Maps.IsMap D) (h : LastM D l n) : LastM (D.put (.int .i8 (nPi l n)) (.lit (.int .i64 (nAt l n)))) l (n + 1) := by
  have hk : WideAt.IsKeyLit (.int .i8 (nPi l n)) := trivial
  refine ⟨fun p hp => ?_, fun p hp j hj => ?_⟩
  · by_cases e : p = nPi l n
    · subst e
      exact ⟨n, by omega, rfl, fun i hi _ => by omega, Maps.atKey_put_same hD hk _ _⟩
    · have hne : Lit.int .i8 p ≠ Lit.int .i8 (nPi l n) := fun he => e (by injection he)
      rw [Maps.has_put_other hne] at hp
      obtain ⟨j, h1, h2, h3, h4⟩ := h.1 p hp
      refine ⟨j, by omega, h2, fun i hi hpi => ?_, by rw [Maps.atKey_put_other hne]; exact h4⟩
      by_cases hin : i = n
      · subst hin; exact absurd hpi.symm e
      · exact h3 i (by omega) hpi
  · by_cases e : p = nPi l n
    · subst e
      rw [Maps.has_put_same hD hk] at hp
      cases hp
    · have hne : Lit.int .i8 p ≠ Lit.int .i8 (nPi l n) := fun he => e (by injection he)
      rw [Maps.has_put_other hne] at hp
      by_cases hjn : j = n
      · subst hjn; exact fun he => e he.symm
      · exact h.2 p hp j (by omega)

def Gt (l : List (Int × Int)) (n : Nat) (x p : Int) : Prop := (x = 200 ∧ p = 0 ∧ NoPr l n 0) ∨ (0 ≤ x ∧ x < 200 ∧ Least l n 0 x p)
theorem gt_range {l : List (Int × Int)} {n : Nat} {x p : Int} (h : Gt l n x p) : 0 ≤ x ∧ x ≤ 200 := by rcases h with ⟨h, _⟩ | ⟨h, h', _⟩ <;> omega
theorem gt_start (l : List (Int × Int)) : Gt l 0 200 0 := .inl ⟨rfl, rfl, fun k i h => by obtain ⟨h1, h2, _⟩ := h; omega⟩
theorem pr_next {l : List (Int × Int)} {n k i : Nat} (h : Pr l (n + 1) 0 k i) : Pr l n 0 k i ∨ (i = n ∧ k < n ∧ nPi l k = nPi l n) := by
  obtain ⟨h1, h2, h3⟩ := h
  by_cases e : i = n
  · subst e; exact .inr ⟨rfl, h1, h3⟩
  · exact .inl ⟨h1, .inl (by omega), h3⟩
theorem pr_old {l : List (Int × Int)} {n k i : Nat} (h : Pr l n 0 k i) : Pr l (n + 1) 0 k i := ⟨h.1, .inl (by have := h.2.1; omega), h.2.2⟩
theorem gt_new {l : List (Int × Int)} {n : Nat} {x p : Int} (h : Gt l n x p) (hn : ∀ j, j < n → nPi l j ≠ nPi l n) : Gt l (n + 1) x p := by
  rcases h with ⟨h1, h2, h3⟩ | ⟨h1, h2, ⟨k, i, a1, a2, a3⟩, b⟩
  · refine .inl ⟨h1, h2, fun k i hp => ?_⟩
    rcases pr_next hp with hp | ⟨_, hk, e⟩
    · exact h3 k i hp
    · exact hn k hk e
  · refine .inr ⟨h1, h2, ⟨k, i, pr_old a1, a2, a3⟩, fun k i hp => ?_⟩
    rcases pr_next hp with hp | ⟨_, hk, e⟩
    · exact b k i hp
    · exact absurd e (hn k hk)
theorem gt_take {l : List (Int × Int)} {n j : Nat} {x p : Int} (h : Gt l n x p) (hj : j < n) (he : nPi l j = nPi l n) (hg : 0 ≤ nAt l n - nAt l j) (hg2 : nAt l n - nAt l j < 200)
    (hl : ∀ i, i < n → nPi l i = nPi l n → nAt l i ≤ nAt l j) (hc : nAt l n - nAt l j < x ∨ (nAt l n - nAt l j = x ∧ nPi l n < p)) : Gt l (n + 1) (nAt l n - nAt l j) (nPi l n) := by
  refine .inr ⟨hg, hg2, ⟨j, n, ⟨hj, .inl (by omega), he⟩, rfl, rfl⟩, fun k i hp => ?_⟩
  rcases pr_next hp with hp | ⟨rfl, hk, e⟩
  · rcases h with ⟨_, _, h3⟩ | ⟨_, _, _, b⟩
    · exact absurd hp (h3 k i)
    · have := b k i hp
      omega
  · have := hl k hk e
    omega
theorem gt_keep {l : List (Int × Int)} {n j : Nat} {x p : Int} (h : Gt l n x p) (hg2 : nAt l n - nAt l j < 200)
    (hl : ∀ i, i < n → nPi l i = nPi l n → nAt l i ≤ nAt l j) (hc : ¬ (nAt l n - nAt l j < x ∨ (nAt l n - nAt l j = x ∧ nPi l n < p))) : Gt l (n + 1) x p := by
  rcases h with ⟨h1, _, _⟩ | ⟨h1, h2, ⟨k, i, a1, a2, a3⟩, b⟩
  · omega
  · refine .inr ⟨h1, h2, ⟨k, i, pr_old a1, a2, a3⟩, fun k i hp => ?_⟩
    rcases pr_next hp with hp | ⟨rfl, hk, e⟩
    · exact b k i hp
    · have := hl k hk e
      omega

theorem key8 : Keyed Try.prog 40 := int_keyed Try.underlying40
theorem zero64 (w : World) : (zeroValue 2).run Try.prog w = .ok (.int .i64 0) w := by kernel_rfl
theorem wf8 {p : Int} (h : 0 ≤ p ∧ p ≤ 47) : (Lit.int .i8 p).wf = true := WalkArith.wf_i8 (by omega)
theorem wf64 {p : Int} (h : 0 ≤ p ∧ p ≤ 199) : (Lit.int .i64 p).wf = true := WalkArith.wf_i64 (by omega)

set_option maxHeartbeats 4000000 in
set_option maxRecDepth 100000 in
theorem implGap_yes (A : Option Addr) (c : Nat) (l : List (Int × Int)) (g p cc : Int) (w : World) (hA : NA w A l) (hn : l.length ≤ 1048576) (hwf : WF l) (hok : okB l = true) (hG : GapIs l g p cc) :
    Calls Try.prog 29 #[.slice A l.length c] w (Trip (.int .i64 g) (.int .i8 p) (.int .i64 cc) w) := by
  have HIN := hide (inRange_of l hok)
  have HAS := hide (asc_of l hok)
  have HG := hide hG
  have HOK := hide hok
  have hmm := @run_makeMap Try.prog
  clear hG hok
  go_enter Try.func29, Try.ntmps29
  go_wp2_with fail
  refine (implValid_any A c l _ hA hn hwf).mono ?_
  rintro e w1 ⟨rfl, hb⟩
  rw [HOK.out]
  go_wp2_with fail
  clear hmm
  have HS := hide hb.size
  go_loopw [5, 6, 19] (fun x q i wr => ∃ (n : Nat) (xx qq : Int) (D : DataW Unit), n ≤ l.length ∧ i = .int .i64 n ∧ x = .int .i64 xx ∧ q = .int .i8 qq ∧ Gt l n xx qq ∧ LastM D l n ∧ wr.ownsMap Try.prog 40 (plainElem Try.prog 2) w1.heap.size n D ∧ Below w.heap.size w wr)
    (fun _ _ i _ => l.length - (intOf i).toNat)
  case atStart => exact ⟨0, 200, 0, .map [], Nat.zero_le _, rfl, rfl, rfl, gt_start l, lastM_start l, World.ownsMap_made _ _ _ _, hb.alloc hb.size _⟩
  case round =>
    obtain ⟨n, x, q, D, hnl, rfl, rfl, rfl, hGt, hLM, hown, hbr⟩ := hrel
    have HGT := hide hGt
    have HLM := hide hLM
    obtain ⟨hx0, hx1⟩ := gt_range hGt
    clear hGt hLM
    by_cases hlt : n < l.length
    · obtain ⟨b, o, rfl, hbb, c1, c2⟩ := hA n hlt
      have d1 := (hbr.cell (p := ⟨b, o + n * 2, none⟩) hbb).trans c1
      have d2 := (hbr.cell (p := ⟨b, o + n * 2 + 1, none⟩) hbb).trans c2
      obtain ⟨⟨e1, e2⟩, e3, e4⟩ : (0 ≤ nAt l n ∧ nAt l n ≤ 199) ∧ 0 ≤ nPi l n ∧ nPi l n ≤ 47 := by simpa [noteB] using HIN.out n hlt
      have hkey := keyOf_int_mk Try.underlying40 (wf8 ⟨e3, e4⟩)
      have hval := plainElem_int (H := Unit) Try.underlying2 (wf64 ⟨e1, e2⟩)
      have hbx := hbr.alloc hbr.size (.cells #[.int .i16 (nAt l n), .int .i8 (nPi l n)] 49)
      have hox := hown.alloc (.cells #[.int .i16 (nAt l n), .int .i8 (nPi l n)] 49)
      have hbB := hown.lt
      obtain ⟨v, ps, hlook, hv⟩ := hox.look_ok key8 Try.underlying60 (zero64 _) (plainElem_int (H := Unit) Try.underlying2 (wf64 ⟨Int.le_refl 0, by decide⟩)) hkey
      clear c1 c2 hA
      cases hh : Maps.has D (.int .i8 (nPi l n))
      · rw [Maps.atKey_of_not_has hh] at hv
        obtain ⟨c0, rfl, hc0, _⟩ := plainElem_int_inv Try.underlying2 hv
        obtain ⟨rfl, _⟩ : c0 = 0 ∧ ps = [] := by simpa using hc0.symm
        rw [hh] at hlook
        have HH := hide hh
        clear hh hv hc0
        go_wp2_with (at_mapUpdate; refine wpList_mapUpdate_own _ rfl _ _ _ 60 rfl 40 2 key8 Try.underlying60 _ w1.heap.size n D rfl hox (by unfold maxLen; omega) _ _ _ rfl rfl hkey _ [] hval ?_; intro w2 hown2 hgrow2; have k2 := hgrow2.cell (a := ⟨wr.heap.size, 1, none⟩) (v := .int .i8 (nPi l n)) (by simp [go_sem]) (by simp; omega); have k3 := Later.cell k2; have hb2 := hbx.grown hgrow2 hbx.size (fun j hj => by cases hj; exact HS.out))
        go_roundw
        case rel => exact ⟨n + 1, x, q, _, hlt, by go_num, rfl, rfl, gt_new HGT.out (HLM.out.2 _ HH.out), lastM_step hown.isMap HLM.out, hown2, hb2⟩
        case measure => simp [intOf]; omega
      · obtain ⟨j, hj, hpj, hlast, hat⟩ := HLM.out.1 _ hh
        rw [hat] at hv
        obtain ⟨c0, rfl, hc0, _⟩ := plainElem_int_inv Try.underlying2 hv
        obtain ⟨rfl, _⟩ : c0 = nAt l j ∧ ps = [] := by simpa using hc0.symm
        rw [hh] at hlook
        have HH := hide hh
        have HPJ := hide hpj
        obtain ⟨⟨e5, e6⟩, _, _⟩ : (0 ≤ nAt l j ∧ nAt l j ≤ 199) ∧ 0 ≤ nPi l j ∧ nPi l j ≤ 47 := by simpa [noteB] using HIN.out j (by omega)
        have HM := hide (asc_mono HAS.out j n (by omega) hlt)
        have HL := hide (show ∀ i, i < n → nPi l i = nPi l n → nAt l i ≤ nAt l j from fun i hi he => asc_mono HAS.out i j (hlast i hi he) (by omega))
        have h9 : 0 ≤ nAt l n - nAt l j := by have := HM.out; omega
        have H9 := hide h9
        have h8 : nAt l n - nAt l j < 200 := by omega
        have H8 := hide h8
        clear hh hv hc0 hat hpj hlast h9 h8
        have hs1 : IntKind.i64.wrap (nAt l n - nAt l j) = nAt l n - nAt l j := IntWalk.i64_in _ (by omega)
        by_cases q1 : nAt l n - nAt l j < x
        · have q2 : decide (nAt l n - nAt l j < x) = true := decide_eq_true q1
          go_wp2_with (at_mapUpdate; refine wpList_mapUpdate_own _ rfl _ _ _ 60 rfl 40 2 key8 Try.underlying60 _ w1.heap.size n D rfl hox (by unfold maxLen; omega) _ _ _ rfl rfl hkey _ [] hval ?_; intro w2 hown2 hgrow2; have k2 := hgrow2.cell (a := ⟨wr.heap.size, 1, none⟩) (v := .int .i8 (nPi l n)) (by simp [go_sem]) (by simp; omega); have k3 := Later.cell k2; have hb2 := hbx.grown hgrow2 hbx.size (fun j hj => by cases hj; exact HS.out))
          refine wp_region_later (by kernel_rfl) (by kernel_rfl) ?_
          repeat (go_big_quiet_step (fail))
          refine wpQuiet_nil ?_
          rintro wq ⟨⟨_, hq⟩, rfl⟩
          go_wp2
          go_roundw
          case rel => exact ⟨n + 1, _, _, _, hlt, by go_num, rfl, rfl, gt_take HGT.out hj HPJ.out H9.out H8.out HL.out (.inl q1), lastM_step hown.isMap HLM.out, hown2.kept (row := none) ⟨hq.os, hq.tape, hq.output, hq.size, fun k hk _ => hq.block k hk⟩ (by simp), hb2.trans (hq.mono hb2.size)⟩
          case measure => simp [intOf]; omega
        · have q2 : decide (nAt l n - nAt l j < x) = false := decide_eq_false q1
          by_cases q3 : nAt l n - nAt l j = x
          · have q4 : (nAt l n - nAt l j == x) = true := by simpa using q3
            have Q3 := hide q3
            clear q3
            by_cases q5 : nPi l n < q
            · have q6 : decide (nPi l n < q) = true := decide_eq_true q5
              go_wp2_with (at_mapUpdate; refine wpList_mapUpdate_own _ rfl _ _ _ 60 rfl 40 2 key8 Try.underlying60 _ w1.heap.size n D rfl hox (by unfold maxLen; omega) _ _ _ rfl rfl hkey _ [] hval ?_; intro w2 hown2 hgrow2; have k2 := hgrow2.cell (a := ⟨wr.heap.size, 1, none⟩) (v := .int .i8 (nPi l n)) (by simp [go_sem]) (by simp; omega); have k3 := Later.cell k2; have hb2 := hbx.grown hgrow2 hbx.size (fun j hj => by cases hj; exact HS.out))
              refine wp_region_later (by kernel_rfl) (by kernel_rfl) ?_
              repeat (go_big_quiet_step (fail))
              refine wpQuiet_nil ?_
              rintro wq ⟨⟨_, hq⟩, rfl⟩
              go_wp2
              go_roundw
              case rel => exact ⟨n + 1, _, _, _, hlt, by go_num, rfl, rfl, gt_take HGT.out hj HPJ.out H9.out H8.out HL.out (.inr ⟨Q3.out, q5⟩), lastM_step hown.isMap HLM.out, hown2.kept (row := none) ⟨hq.os, hq.tape, hq.output, hq.size, fun k hk _ => hq.block k hk⟩ (by simp), hb2.trans (hq.mono hb2.size)⟩
              case measure => simp [intOf]; omega
            · have q6 : decide (nPi l n < q) = false := decide_eq_false q5
              go_wp2_with (at_mapUpdate; refine wpList_mapUpdate_own _ rfl _ _ _ 60 rfl 40 2 key8 Try.underlying60 _ w1.heap.size n D rfl hox (by unfold maxLen; omega) _ _ _ rfl rfl hkey _ [] hval ?_; intro w2 hown2 hgrow2; have k2 := hgrow2.cell (a := ⟨wr.heap.size, 1, none⟩) (v := .int .i8 (nPi l n)) (by simp [go_sem]) (by simp; omega); have k3 := Later.cell k2; have hb2 := hbx.grown hgrow2 hbx.size (fun j hj => by cases hj; exact HS.out))
              go_roundw
              case rel => exact ⟨n + 1, x, q, _, hlt, by go_num, rfl, rfl, gt_keep HGT.out H8.out HL.out (by have := Q3.out; omega), lastM_step hown.isMap HLM.out, hown2, hb2⟩
              case measure => simp [intOf]; omega
          · have q4 : (nAt l n - nAt l j == x) = false := by simpa using q3
            go_wp2_with (at_mapUpdate; refine wpList_mapUpdate_own _ rfl _ _ _ 60 rfl 40 2 key8 Try.underlying60 _ w1.heap.size n D rfl hox (by unfold maxLen; omega) _ _ _ rfl rfl hkey _ [] hval ?_; intro w2 hown2 hgrow2; have k2 := hgrow2.cell (a := ⟨wr.heap.size, 1, none⟩) (v := .int .i8 (nPi l n)) (by simp [go_sem]) (by simp; omega); have k3 := Later.cell k2; have hb2 := hbx.grown hgrow2 hbx.size (fun j hj => by cases hj; exact HS.out))
            go_roundw
            case rel => exact ⟨n + 1, x, q, _, hlt, by go_num, rfl, rfl, gt_keep HGT.out H8.out HL.out (by omega), lastM_step hown.isMap HLM.out, hown2, hb2⟩
            case measure => simp [intOf]; omega
    · obtain rfl : n = l.length := by omega
      rcases HGT.out with ⟨h1, h2, h3⟩ | ⟨h1, h2, h3⟩
      · obtain ⟨rfl, rfl, rfl⟩ := gap_none HG.out HOK.out h3
        subst h1 h2
        go_wp2
        go_ret3
        exact ⟨rfl, hbr⟩
      · obtain ⟨rfl, rfl, rfl⟩ := gap_some HG.out HOK.out h3
        have q2 : (g == 200) = false := by simp; omega
        go_wp2
        go_ret3
        exact ⟨rfl, hbr⟩
end Go.Proofs.Ytklkomgpaamcpaa
