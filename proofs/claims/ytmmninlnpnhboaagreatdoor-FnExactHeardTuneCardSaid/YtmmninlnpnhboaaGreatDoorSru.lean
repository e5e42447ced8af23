import Derived.Test.YtmmninlnpnhboaaGreatDoorGbl
import Derived.Outline
namespace Go.Proofs.YtmmninlnpnhboaaGreatDoor
open Go.RowKit
set_option maxRecDepth 20000 in
set_option maxHeartbeats 4000000 in
theorem l01Sorted_any (A : Option Addr) (c : Nat) (l : List (Int × Int)) (w : World) (hA : NA w A l) (hn : l.length ≤ 1048576) (hwf : WF l) :
    Calls Tryz.prog 66 #[.slice A l.length c] w (OwnT w (sortU l)) := by
  obtain ⟨i0, hi, hz0, hz1, hz2⟩ := info_parts info65
  have hal0 : Below w.heap.size w (w.alloc (.cells #[] 65)) := (Below.refl _ _).alloc (Nat.le_refl _) _
  go_enter Tryz.func66, Tryz.ntmps66
  go_wp2_with fail
  go_loopw [3, 4] (fun v i wr => ∃ (k n g q : Nat), k ≤ l.length ∧ i = .int .i64 k ∧ n = (sortU (l.take k)).length ∧ v = .slice (some ⟨g, 0, none⟩) n q ∧ wr.ownsRow w.heap.size 65 2 (.slice (some ⟨g, 0, none⟩) n q) n (cellsOf (sortU (l.take k))) ∧ Below w.heap.size w wr)
    (fun _ i _ => l.length - (intOf i).toNat)
  case atStart => exact ⟨0, 0, w.heap.size, 0, Nat.zero_le _, rfl, rfl, rfl, own_emptyT _ _ (Nat.le_refl _), hal0⟩
  case round =>
    obtain ⟨k, n, g, q, hk, rfl, hnl, rfl, hown, hb⟩ := hrel
    obtain ⟨L, hL⟩ : ∃ L, L = sortU (l.take k) := ⟨_, rfl⟩
    rw [← hL] at hnl hown
    by_cases hlt : k < l.length
    · have hLL := sortU_le (l.take k)
      rw [← hL, List.length_take] at hLL
      have hnk : n ≤ k := by omega
      have HLS := hide (show sortU (l.take (k + 1)) = insU L (nAt l k, nPi l k) by rw [List.take_succ_eq_append_getElem hlt, sortU_snoc, hL]; congr 1; simp [nAt, nPi, List.getD, hlt])
      have HLEN := hide hnl
      have hgn := (hown.lt g rfl).1
      have hq : n ≤ q ∧ q ≤ maxLen := by
        rcases hown.2 with ⟨h', _⟩ | ⟨g', cap, cur, h', _, _, h3, h4, _⟩
        · simp at h'
        · simp only [Value.slice.injEq, Option.some.injEq, Addr.mk.injEq, and_true, true_and] at h'
          obtain ⟨rfl, rfl⟩ := h'
          exact ⟨h3, h4⟩
      unfold maxLen at hq
      obtain ⟨hq1, hq2⟩ := hq
      obtain ⟨b, o, rfl, hbb, c1, c2⟩ := hA k hlt
      obtain ⟨⟨n1, n2⟩, n3, n4⟩ := hwf k hlt
      obtain ⟨x, hx⟩ : ∃ x, x = nAt l k := ⟨_, rfl⟩
      obtain ⟨y, hy⟩ : ∃ y, y = nPi l k := ⟨_, rfl⟩
      rw [← hx] at c1 n1 n2 HLS
      rw [← hy] at c2 n3 n4 HLS
      clear hx hy hL hLL hnl
      have hple := posN_le (x, y) L
      have HPB := hide (posN_before (x, y) L)
      have HPS := hide (posN_stop (x, y) L)
      have HITH := hide (@insU_there L (x, y))
      have HIEL := hide (@insU_else L (x, y))
      rw [← HLEN.out] at hple
      obtain ⟨P, hP⟩ : ∃ P, P = posN (x, y) L := ⟨_, rfl⟩
      rw [← hP] at hple HPB HPS HITH HIEL
      clear hP
      have d1 := (hb.cell (p := ⟨b, o + k * 2, none⟩) hbb).trans c1
      have d2 := (hb.cell (p := ⟨b, o + k * 2 + 1, none⟩) hbb).trans c2
      obtain ⟨wo, hwo⟩ : ∃ wo : World, wo = wr := ⟨_, rfl⟩
      rw [← hwo] at hown hb d1 d2 ⊢
      clear hwo
      have hbo : b < wo.heap.size := Nat.lt_of_lt_of_le hbb hb.size
      go_wp2_with fail
      go_loopw [5] (fun j wi => ∃ jj : Nat, jj ≤ P ∧ j = .int .i64 jj ∧ Below wo.heap.size wo wi) (fun j _ => P - (intOf j).toNat)
      case atStart => exact ⟨0, Nat.zero_le _, rfl, Below.refl _ _⟩
      case round =>
        obtain ⟨jj, hj, rfl, hbi⟩ := hrel
        have own2 := own_keep hown hbi
        have e1 := Later.cell ((hbi.cell (p := ⟨b, o + k * 2, none⟩) hbo).trans d1)
        have e2 := Later.cell ((hbi.cell (p := ⟨b, o + k * 2 + 1, none⟩) hbo).trans d2)
        have hszi := hbi.size
        by_cases hjl : jj < n
        · have f1 := Later.cell ((own2.cellAt (jj * 2) (by omega)).trans (cellsOf_even L jj (by rw [← HLEN.out]; exact hjl)))
          have f2 := Later.cell ((own2.cellAt (jj * 2 + 1) (by omega)).trans (cellsOf_odd L jj (by rw [← HLEN.out]; exact hjl)))
          have hji : (jj : Int) < (n : Int) := by omega
          by_cases hjp : jj < P
          · have KB : ∀ W : Later wr, Calls Tryz.prog 88 #[.agg #[.int .i16 (nAt L jj), .int .i8 (nPi L jj)], .agg #[.int .i16 x, .int .i8 y]] W.w fun e w' => e = .returned (.bool true) ∧ ∃ q : Later wr, w' = q.w := fun W => by
              have h := l01Before_any (nAt L jj) (nPi L jj) x y W.w
              rw [HPB.out jj hjp] at h
              exact Later.call h
            go_wp2_with fail
            refine wp_region_later (by kernel_rfl) (by kernel_rfl) ?_
            repeat (go_big_quiet_step ((go_at_call 88; exact KB _)))
            refine wpQuiet_nil ?_
            rintro wz ⟨⟨_, hz⟩, rfl⟩
            go_wp2
            go_roundw
            case rel => exact ⟨jj + 1, hjp, by go_num, hbi.trans (hz.mono hszi)⟩
            case measure => simp [intOf]; omega
          · obtain rfl : jj = P := by omega
            have hst := HPS.out (by rw [← HLEN.out]; exact hjl)
            have KB : ∀ W : Later wr, Calls Tryz.prog 88 #[.agg #[.int .i16 (nAt L jj), .int .i8 (nPi L jj)], .agg #[.int .i16 x, .int .i8 y]] W.w fun e w' => e = .returned (.bool false) ∧ ∃ q : Later wr, w' = q.w := fun W => by
              have h := l01Before_any (nAt L jj) (nPi L jj) x y W.w
              rw [hst] at h
              exact Later.call h
            have HST := hide hst
            clear hst
            go_wp2_with fail
            refine wp_region_later (by kernel_rfl) (by kernel_rfl) ?_
            repeat (go_big_quiet_step ((go_at_call 88; exact KB _)))
            refine wpQuiet_nil ?_
            rintro wz ⟨⟨_, hz⟩, rfl⟩
            have hbz := hbi.trans (hz.mono hszi)
            have own5 := own_keep hown hbz
            have hszz := hbz.size
            have e1' := Later.cell ((hbz.cell (p := ⟨b, o + k * 2, none⟩) hbo).trans d1)
            have e2' := Later.cell ((hbz.cell (p := ⟨b, o + k * 2 + 1, none⟩) hbo).trans d2)
            have f1' := Later.cell ((own5.cellAt (jj * 2) (by omega)).trans (cellsOf_even L jj (by rw [← HLEN.out]; exact hjl)))
            have f2' := Later.cell ((own5.cellAt (jj * 2 + 1) (by omega)).trans (cellsOf_odd L jj (by rw [← HLEN.out]; exact hjl)))
            clear KB e1 e2 f1 f2
            have hne := fun v => run_eq_note (nAt L jj) (nPi L jj) x y v
            by_cases he : nAt L jj = x ∧ nPi L jj = y
            · have HE := hide (HITH.out (by rw [← HLEN.out]; exact hjl) he)
              rw [decide_eq_true he] at hne
              clear he
              go_wp2_with fail
              refine wp_region_later (by kernel_rfl) (by kernel_rfl) ?_
              repeat (go_big_quiet_step (fail))
              refine wpQuiet_nil ?_
              rintro wy ⟨⟨_, hy2⟩, rfl⟩
              go_wp2
              go_roundw
              case rel =>
                have hby := hbz.trans (hy2.mono hszz)
                exact ⟨k + 1, n, g, q, hlt, by go_num, by rw [HLS.out, HE.out]; exact HLEN.out, rfl, by rw [HLS.out, HE.out]; exact own_keep hown hby, hb.trans (hby.mono hb.size)⟩
              case measure => simp [intOf]; omega
            · have HE := hide (HIEL.out (fun _ => he))
              rw [decide_eq_false he] at hne
              clear he
              go_wp2_with fail
              refine wp_region_later (by kernel_rfl) (by kernel_rfl) ?_
              repeat (go_big_quiet_step (fail))
              refine wpQuiet_nil ?_
              rintro wy ⟨⟨_, hy2⟩, rfl⟩
              have hby := hbz.trans (hy2.mono hszz)
              have own6 := own_keep hown hby
              clear hne e1' e2' f1' f2' own5 own2 hbi hz hy2
              have ownE : (wy.alloc (.cells #[] 65)).ownsRow wy.heap.size 65 2 (.slice (some ⟨wy.heap.size, 0, none⟩) 0 0) 0 [] := own_emptyT _ _ (Nat.le_refl _)
              have hlN : (cellsOf (L.drop jj)).length = (n - jj) * 2 := by rw [cellsOf_length, List.length_drop, ← HLEN.out]
              have hnw : ∀ j u, (cellsOf (L.drop jj))[j]? = some u → (wy.alloc (.cells #[] 65)).cell? ((⟨g, jj * 2, none⟩ : Addr).add j) = some u := fun j u hu => by rw [Addr.add_lit]; exact (((Below.refl _ _).alloc (Nat.le_refl _) _).cell (p := ⟨g, jj * 2 + j, none⟩) (own6.lt g rfl).2).trans (own_from own6 jj j u hu)
              have hjq : jj < q := by omega
              have hjn : jj ≤ n := by omega
              have HJ := hide hjl
              clear hjl HPS
              go_wp2_with (at_builtin; refine wpList_append_own _ rfl _ _ 41 rfl wy.heap.size 65 i0 (.agg #[.int .i16 0, .int .i8 0]) 2 4 Tryz.underlying41 hi hz0 hz1 hz2 rfl (by decide) _ _ _ rfl ownE ⟨g, jj * 2, none⟩ (n - jj) (q - jj) (cellsOf (L.drop jj)) rfl hlN hnw (cellsOf_one _) (by unfold maxLen; omega) (by omega) (by simp) ?_; intro v' w3 hown3 hgrow3 hnil3)
              have hb3a : Below wy.heap.size wy (wy.alloc (.cells #[] 65)) := (Below.refl _ _).alloc (Nat.le_refl _) _
              have hb3 : Below wy.heap.size wy w3 := hb3a.grown hgrow3 hb3a.size (fun j hj => by cases hj; exact Nat.le_refl _)
              simp only [Nat.zero_add, List.nil_append] at hown3
              obtain ⟨r, rq, rfl, _, _, _, _⟩ := own_some hown3 (fun e => absurd (show Value.slice (some ⟨wy.heap.size, 0, none⟩) 0 0 = .slice none 0 0 from (hnil3.1 e).1) (fun h => by cases h))
              have orest := hown3
              clear hgrow3 hnil3 hown3
              have own7 := own_keep own6 hb3
              have hby3 : Below wo.heap.size wo w3 := hby.trans (hb3.mono hby.size)
              have hbw3 : Below w.heap.size w w3 := hb.trans (hby3.mono hb.size)
              have hgr0 : g < wy.heap.size := (own6.lt g rfl).2
              have hrr := orest.lt (r) rfl
              have hsz3 : wy.heap.size ≤ w3.heap.size := hb3.size
              have hdr : Below w3.heap.size w3 w3.drew := (Below.refl _ _).drew
              have t1 := ((step_below hdr hby3).cell (p := ⟨b, o + k * 2, none⟩) hbo).trans d1
              have t2 := ((step_below hdr hby3).cell (p := ⟨b, o + k * 2 + 1, none⟩) hbo).trans d2
              obtain ⟨W5, hW5⟩ : ∃ W5, W5 = (w3.alloc (.cells #[.int .i16 x, .int .i8 y] 65)).drew := ⟨_, rfl⟩
              have hb5 : Below w3.heap.size w3 W5 := by rw [hW5]; exact ((Below.refl _ _).alloc (Nat.le_refl _) _).drew
              have hnew5 : ∀ j u, ([.int .i16 x, .int .i8 y] : List Value)[j]? = some u → W5.cell? ((⟨w3.heap.size, 0, none⟩ : Addr).add j) = some u := fun j u hu => by
                rw [hW5]
                exact cell_two_new' w3 (.int .i16 x) (.int .i8 y) 65 j u hu
              have s1 := ((step_below hb5 hby3).cell (p := ⟨b, o + k * 2, none⟩) hbo).trans d1
              have s2 := ((step_below hb5 hby3).cell (p := ⟨b, o + k * 2 + 1, none⟩) hbo).trans d2
              have own8 := own_take (own_keep own7 hb5) jj hjn
              have orest8 := own_keep orest hb5
              have hb8 := step_below hb5 hbw3
              have hszw3 := hbw3.size
              have hszb8 := hb8.size
              have hlk : (cellsOf (L.take jj) ++ [.int .i16 x, .int .i8 y]) = cellsOf (L.take jj ++ [(x, y)]) := by rw [cellsOf_append]; rfl
              clear hown own6 own7 orest hb3 hby hbz
              refine wp_region_held_drew (S := fun w' => w'.cell? ⟨b, o + k * 2, none⟩ = some (.int .i16 x) ∧ w'.cell? ⟨b, o + k * 2 + 1, none⟩ = some (.int .i8 y)) (by kernel_rfl) ⟨t1, t2⟩ fun hS1 => ?_
              refine wpAnyH_take (i := 0) (v := .slice (some ⟨g, 0, none⟩) n q) rfl (by kernel_rfl) (by kernel_rfl) (by kernel_rfl) (fun _ _ _ h => h) (Or.inl ⟨by rfl, fun w' _ => by go_simp⟩) hS1 ?_
              change wpAnyH _ _ _ _ _ _ _ (Act.put _ (some 51) _) _
              simp only [Act.put, List.setIfInBounds_toArray, List.set_cons_zero, List.set_cons_succ]
              refine wpAnyH_take (i := 1) (v := .int .i64 jj) rfl (by kernel_rfl) (by kernel_rfl) (by kernel_rfl) (fun _ _ _ h => h) (Or.inl ⟨by rfl, fun w' _ => by go_simp⟩) hS1 ?_
              change wpAnyH _ _ _ _ _ _ _ (Act.put _ (some 52) _) _
              simp only [Act.put, List.setIfInBounds_toArray, List.set_cons_zero, List.set_cons_succ]
              refine wpAnyH_take (i := 9) (v := .slice (some ⟨r, 0, none⟩) (n - jj) rq) rfl (by kernel_rfl) (by kernel_rfl) (by kernel_rfl) (fun _ _ _ h => h) (Or.inl ⟨by rfl, fun w' _ => by go_simp⟩) hS1 ?_
              change wpAnyH _ _ _ _ _ _ _ (Act.put _ (some 60) _) _
              simp only [Act.put, List.setIfInBounds_toArray, List.set_cons_zero, List.set_cons_succ]
              refine wpAnyH_take (i := 3) (v := .slice (some ⟨b, o, none⟩) l.length c) rfl (by kernel_rfl) (by kernel_rfl) (by kernel_rfl) (fun _ _ _ h => h) (Or.inl ⟨by rfl, fun w' _ => by go_simp⟩) hS1 ?_
              change wpAnyH _ _ _ _ _ _ _ (Act.put _ (some 54) _) _
              simp only [Act.put, List.setIfInBounds_toArray, List.set_cons_zero, List.set_cons_succ]
              refine wpAnyH_take (i := 4) (v := .int .i64 k) rfl (by kernel_rfl) (by kernel_rfl) (by kernel_rfl) (fun _ _ _ h => h) (Or.inl ⟨by rfl, fun w' _ => by go_simp⟩) hS1 ?_
              change wpAnyH _ _ _ _ _ _ _ (Act.put _ (some 55) _) _
              simp only [Act.put, List.setIfInBounds_toArray, List.set_cons_zero, List.set_cons_succ]
              refine wpAnyH_take (i := 2) (v := .slice (some ⟨g, 0, none⟩) jj q) rfl (by kernel_rfl) (by kernel_rfl) (by kernel_rfl) (fun _ _ _ h => h) (Or.inl ⟨by rfl, fun w' _ => by go_simp <;> (intro hlt'; omega)⟩) hS1 ?_
              change wpAnyH _ _ _ _ _ _ _ (Act.put _ (some 53) _) _
              simp only [Act.put, List.setIfInBounds_toArray, List.set_cons_zero, List.set_cons_succ]
              refine wpAnyH_take (i := 5) (v := Value.pointer (some ⟨b, o + k * 2, none⟩)) rfl (by kernel_rfl) (by kernel_rfl) (by kernel_rfl) (fun _ _ _ h => h) (Or.inl ⟨by rfl, fun w' _ => by go_simp⟩) hS1 ?_
              change wpAnyH _ _ _ _ _ _ _ (Act.put _ (some 56) _) _
              simp only [Act.put, List.setIfInBounds_toArray, List.set_cons_zero, List.set_cons_succ]
              refine wpAnyH_take (i := 6) (v := .agg #[.int .i16 x, .int .i8 y]) rfl (by kernel_rfl) (by kernel_rfl) (by kernel_rfl) (fun _ _ _ h => h) (Or.inl ⟨by rfl, fun w' h => ?_⟩) hS1 ?_
              · have c0 := h.1
                have c1 := h.2
                clear h
                go_simp
              simp only [Act.put, List.setIfInBounds_toArray, List.set_cons_zero, List.set_cons_succ]
              refine wpAnyH_ready (rs := [7]) (by kernel_rfl) (by simp) (AllReadyH.cons rfl ?_ AllReadyH.nil)
              intro K hK
              rw [if_pos (by rfl)]
              go_simp
              rw [← hW5]
              clear hW5
              refine hK.out _ _ ⟨s1, s2⟩ (fun hS2 => ?_)
              clear hK K hS1
              refine wpAnyH_ready (rs := [8]) (by kernel_rfl) (by simp) (AllReadyH.cons rfl ?_ AllReadyH.nil)
              intro K hK
              rw [if_pos (by rfl)]
              refine wp_append_own W5 (.tmp 53) (.tmp 58) 41 rfl w.heap.size 65 i0 (.agg #[.int .i16 0, .int .i8 0]) 2 4 Tryz.underlying41 hi hz0 hz1 hz2 rfl (by decide) _ _ _ rfl own8 ⟨w3.heap.size, 0, none⟩ 1 1 [.int .i16 x, .int .i8 y] rfl rfl hnew5 (fun x hx => by simp at hx; rcases hx with rfl | rfl <;> rfl) (by unfold maxLen; omega) (by omega) hb8.size ?_
              intro v6 w6 hown6 hgr6 hnil6
              obtain ⟨g1, q1, rfl, hg1, hg2, _, _⟩ := own_some hown6 (fun e => absurd (show Value.slice (some ⟨g, 0, none⟩) jj q = .slice none 0 0 from (hnil6.1 e).1) (fun h => by cases h))
              have hb6 : Below w.heap.size w w6 := hb8.grown hgr6 hb8.size (fun j hj => by cases hj; exact hgn)
              have orest6 := orest8.kept hgr6 (Or.inr (fun e => by have e' : r = g := Option.some.inj e; omega))
              have s3 := hgr6.cell s1 (fun e => by have e' : b = g := Option.some.inj e; omega)
              have s4 := hgr6.cell s2 (fun e => by have e' : b = g := Option.some.inj e; omega)
              refine hK.out _ _ ⟨s3, s4⟩ (fun hS3 => ?_)
              clear hK K hS2
              refine wpAnyH_ready (rs := [10]) (by kernel_rfl) (by simp) (AllReadyH.cons rfl ?_ AllReadyH.nil)
              intro K hK
              rw [if_pos (by rfl)]
              refine wp_append_own w6 (.tmp 59) (.tmp 60) 41 rfl w.heap.size 65 i0 (.agg #[.int .i16 0, .int .i8 0]) 2 4 Tryz.underlying41 hi hz0 hz1 hz2 rfl (by decide) _ _ _ rfl hown6 ⟨r, 0, none⟩ (n - jj) rq (cellsOf (L.drop jj)) rfl hlN (orest6.cells rfl) (cellsOf_one _) (by unfold maxLen; omega) (by omega) hb6.size ?_
              intro v7 w7 hown7 hgr7 hnil7
              obtain ⟨g2, q2, rfl, hg3, hg4, _, _⟩ := own_some hown7 (fun e => absurd (show Value.slice (some ⟨g1, 0, none⟩) (jj + 1) q1 = .slice none 0 0 from (hnil7.1 e).1) (fun h => by cases h))
              have hb7 : Below w.heap.size w w7 := hb6.grown hgr7 hb6.size (fun j hj => by cases hj; exact hg1)
              have s5 := hgr7.cell s3 (fun e => by have e' : b = g1 := Option.some.inj e; omega)
              have s6 := hgr7.cell s4 (fun e => by have e' : b = g1 := Option.some.inj e; omega)
              refine hK.out _ _ ⟨s5, s6⟩ (fun hS4 => ?_)
              clear hK K hS3
              refine wpAnyH_take (i := 11) (v := .slice (some ⟨g2, 0, none⟩) (jj + 1 + (n - jj)) q2) rfl (by kernel_rfl) (by kernel_rfl) (by kernel_rfl) (fun _ _ _ h => h) (Or.inl ⟨by rfl, fun w' _ => by go_simp⟩) hS4 ?_
              change wpAnyH _ _ _ _ _ _ _ (Act.put _ (some 3) _) _
              simp only [Act.put, List.setIfInBounds_toArray, List.set_cons_zero, List.set_cons_succ]
              refine wpAnyH_done (by kernel_rfl) ?_ _
              go_wp2
              go_roundw
              case rel =>
                refine ⟨k + 1, jj + 1 + (n - jj), g2, q2, hlt, by go_num, ?_, rfl, ?_, hb7⟩
                · rw [HLS.out, HE.out, List.length_append, List.length_take, List.length_cons, List.length_drop, ← HLEN.out]; omega
                · rw [HLS.out, HE.out, show L.take jj ++ (x, y) :: L.drop jj = (L.take jj ++ [(x, y)]) ++ L.drop jj by simp, cellsOf_append, ← hlk]
                  exact hown7
              case measure => simp [intOf]; omega
        · have hjn0 : jj = n := by omega
          subst hjn0
          have hjP : jj = P := by omega
          have hnq : jj = q ∨ jj < q := by omega
          subst hjP
          rcases hnq with hnq | hnq
          · subst hnq
            have HE := hide (HIEL.out (fun h => absurd h (by rw [← HLEN.out]; omega)))
            go_wp2_with fail
            refine wp_region_later (by kernel_rfl) (by kernel_rfl) ?_
            repeat (go_big_quiet_step (fail))
            refine wpQuiet_nil ?_
            rintro wz ⟨⟨_, hz⟩, rfl⟩
            have hbz := hbi.trans (hz.mono hszi)
            have hszz := hbz.size
            go_wp2_with fail
            refine wp_region_later (by kernel_rfl) (by kernel_rfl) ?_
            repeat (go_big_quiet_step (fail))
            refine wpQuiet_nil ?_
            rintro wy ⟨⟨_, hy2⟩, rfl⟩
            have hby := hbz.trans (hy2.mono hszz)
            have own6 := own_keep hown hby
            have hlN : (cellsOf (L.drop jj)).length = 0 * 2 := by rw [cellsOf_length, List.length_drop, ← HLEN.out]; omega
            have hjn : jj ≤ jj := Nat.le_refl _
            clear own2 hbi hz hy2 e1 e2 HPS
            go_wp2_with fail
            obtain ⟨w3, hw3⟩ : ∃ w3, w3 = wy.alloc (.cells #[] 65) := ⟨_, rfl⟩
            have hb3 : Below wy.heap.size wy w3 := by rw [hw3]; exact (Below.refl _ _).alloc (Nat.le_refl _) _
            have orest : w3.ownsRow wy.heap.size 65 2 (.slice (some ⟨wy.heap.size, 0, none⟩) 0 0) 0 (cellsOf (L.drop jj)) := by
              rw [hw3, show cellsOf (L.drop jj) = [] from List.eq_nil_of_length_eq_zero hlN]
              exact own_emptyT _ _ (Nat.le_refl _)
            rw [← hw3]
            clear hw3
            have own7 := own_keep own6 hb3
            have hby3 : Below wo.heap.size wo w3 := hby.trans (hb3.mono hby.size)
            have hbw3 : Below w.heap.size w w3 := hb.trans (hby3.mono hb.size)
            have hgr0 : g < wy.heap.size := (own6.lt g rfl).2
            have hrr := orest.lt (wy.heap.size) rfl
            have hsz3 : wy.heap.size ≤ w3.heap.size := hb3.size
            have hdr : Below w3.heap.size w3 w3.drew := (Below.refl _ _).drew
            have t1 := ((step_below hdr hby3).cell (p := ⟨b, o + k * 2, none⟩) hbo).trans d1
            have t2 := ((step_below hdr hby3).cell (p := ⟨b, o + k * 2 + 1, none⟩) hbo).trans d2
            obtain ⟨W5, hW5⟩ : ∃ W5, W5 = (w3.alloc (.cells #[.int .i16 x, .int .i8 y] 65)).drew := ⟨_, rfl⟩
            have hb5 : Below w3.heap.size w3 W5 := by rw [hW5]; exact ((Below.refl _ _).alloc (Nat.le_refl _) _).drew
            have hnew5 : ∀ j u, ([.int .i16 x, .int .i8 y] : List Value)[j]? = some u → W5.cell? ((⟨w3.heap.size, 0, none⟩ : Addr).add j) = some u := fun j u hu => by
              rw [hW5]
              exact cell_two_new' w3 (.int .i16 x) (.int .i8 y) 65 j u hu
            have s1 := ((step_below hb5 hby3).cell (p := ⟨b, o + k * 2, none⟩) hbo).trans d1
            have s2 := ((step_below hb5 hby3).cell (p := ⟨b, o + k * 2 + 1, none⟩) hbo).trans d2
            have own8 := own_take (own_keep own7 hb5) jj hjn
            have orest8 := own_keep orest hb5
            have hb8 := step_below hb5 hbw3
            have hszw3 := hbw3.size
            have hszb8 := hb8.size
            have hlk : (cellsOf (L.take jj) ++ [.int .i16 x, .int .i8 y]) = cellsOf (L.take jj ++ [(x, y)]) := by rw [cellsOf_append]; rfl
            clear hown own6 own7 orest hb3 hby hbz
            refine wp_region_held_drew (S := fun w' => w'.cell? ⟨b, o + k * 2, none⟩ = some (.int .i16 x) ∧ w'.cell? ⟨b, o + k * 2 + 1, none⟩ = some (.int .i8 y)) (by kernel_rfl) ⟨t1, t2⟩ fun hS1 => ?_
            refine wpAnyH_take (i := 0) (v := .slice (some ⟨g, 0, none⟩) jj jj) rfl (by kernel_rfl) (by kernel_rfl) (by kernel_rfl) (fun _ _ _ h => h) (Or.inl ⟨by rfl, fun w' _ => by go_simp⟩) hS1 ?_
            change wpAnyH _ _ _ _ _ _ _ (Act.put _ (some 51) _) _
            simp only [Act.put, List.setIfInBounds_toArray, List.set_cons_zero, List.set_cons_succ]
            refine wpAnyH_take (i := 1) (v := .int .i64 jj) rfl (by kernel_rfl) (by kernel_rfl) (by kernel_rfl) (fun _ _ _ h => h) (Or.inl ⟨by rfl, fun w' _ => by go_simp⟩) hS1 ?_
            change wpAnyH _ _ _ _ _ _ _ (Act.put _ (some 52) _) _
            simp only [Act.put, List.setIfInBounds_toArray, List.set_cons_zero, List.set_cons_succ]
            refine wpAnyH_take (i := 9) (v := .slice (some ⟨wy.heap.size, 0, none⟩) (0) 0) rfl (by kernel_rfl) (by kernel_rfl) (by kernel_rfl) (fun _ _ _ h => h) (Or.inl ⟨by rfl, fun w' _ => by go_simp⟩) hS1 ?_
            change wpAnyH _ _ _ _ _ _ _ (Act.put _ (some 60) _) _
            simp only [Act.put, List.setIfInBounds_toArray, List.set_cons_zero, List.set_cons_succ]
            refine wpAnyH_take (i := 3) (v := .slice (some ⟨b, o, none⟩) l.length c) rfl (by kernel_rfl) (by kernel_rfl) (by kernel_rfl) (fun _ _ _ h => h) (Or.inl ⟨by rfl, fun w' _ => by go_simp⟩) hS1 ?_
            change wpAnyH _ _ _ _ _ _ _ (Act.put _ (some 54) _) _
            simp only [Act.put, List.setIfInBounds_toArray, List.set_cons_zero, List.set_cons_succ]
            refine wpAnyH_take (i := 4) (v := .int .i64 k) rfl (by kernel_rfl) (by kernel_rfl) (by kernel_rfl) (fun _ _ _ h => h) (Or.inl ⟨by rfl, fun w' _ => by go_simp⟩) hS1 ?_
            change wpAnyH _ _ _ _ _ _ _ (Act.put _ (some 55) _) _
            simp only [Act.put, List.setIfInBounds_toArray, List.set_cons_zero, List.set_cons_succ]
            refine wpAnyH_take (i := 2) (v := .slice (some ⟨g, 0, none⟩) jj jj) rfl (by kernel_rfl) (by kernel_rfl) (by kernel_rfl) (fun _ _ _ h => h) (Or.inl ⟨by rfl, fun w' _ => by go_simp <;> (intro hlt'; omega)⟩) hS1 ?_
            change wpAnyH _ _ _ _ _ _ _ (Act.put _ (some 53) _) _
            simp only [Act.put, List.setIfInBounds_toArray, List.set_cons_zero, List.set_cons_succ]
            refine wpAnyH_take (i := 5) (v := Value.pointer (some ⟨b, o + k * 2, none⟩)) rfl (by kernel_rfl) (by kernel_rfl) (by kernel_rfl) (fun _ _ _ h => h) (Or.inl ⟨by rfl, fun w' _ => by go_simp⟩) hS1 ?_
            change wpAnyH _ _ _ _ _ _ _ (Act.put _ (some 56) _) _
            simp only [Act.put, List.setIfInBounds_toArray, List.set_cons_zero, List.set_cons_succ]
            refine wpAnyH_take (i := 6) (v := .agg #[.int .i16 x, .int .i8 y]) rfl (by kernel_rfl) (by kernel_rfl) (by kernel_rfl) (fun _ _ _ h => h) (Or.inl ⟨by rfl, fun w' h => ?_⟩) hS1 ?_
            · have c0 := h.1
              have c1 := h.2
              clear h
              go_simp
            simp only [Act.put, List.setIfInBounds_toArray, List.set_cons_zero, List.set_cons_succ]
            refine wpAnyH_ready (rs := [7]) (by kernel_rfl) (by simp) (AllReadyH.cons rfl ?_ AllReadyH.nil)
            intro K hK
            rw [if_pos (by rfl)]
            go_simp
            rw [← hW5]
            clear hW5
            refine hK.out _ _ ⟨s1, s2⟩ (fun hS2 => ?_)
            clear hK K hS1
            refine wpAnyH_ready (rs := [8]) (by kernel_rfl) (by simp) (AllReadyH.cons rfl ?_ AllReadyH.nil)
            intro K hK
            rw [if_pos (by rfl)]
            refine wp_append_own W5 (.tmp 53) (.tmp 58) 41 rfl w.heap.size 65 i0 (.agg #[.int .i16 0, .int .i8 0]) 2 4 Tryz.underlying41 hi hz0 hz1 hz2 rfl (by decide) _ _ _ rfl own8 ⟨w3.heap.size, 0, none⟩ 1 1 [.int .i16 x, .int .i8 y] rfl rfl hnew5 (fun x hx => by simp at hx; rcases hx with rfl | rfl <;> rfl) (by unfold maxLen; omega) (by omega) hb8.size ?_
            intro v6 w6 hown6 hgr6 hnil6
            obtain ⟨g1, q1, rfl, hg1, hg2, _, _⟩ := own_some hown6 (fun e => absurd (show Value.slice (some ⟨g, 0, none⟩) jj jj = .slice none 0 0 from (hnil6.1 e).1) (fun h => by cases h))
            have hb6 : Below w.heap.size w w6 := hb8.grown hgr6 hb8.size (fun j hj => by cases hj; exact hgn)
            have orest6 := orest8.kept hgr6 (Or.inr (fun e => by have e' : wy.heap.size = g := Option.some.inj e; omega))
            have s3 := hgr6.cell s1 (fun e => by have e' : b = g := Option.some.inj e; omega)
            have s4 := hgr6.cell s2 (fun e => by have e' : b = g := Option.some.inj e; omega)
            refine hK.out _ _ ⟨s3, s4⟩ (fun hS3 => ?_)
            clear hK K hS2
            refine wpAnyH_ready (rs := [10]) (by kernel_rfl) (by simp) (AllReadyH.cons rfl ?_ AllReadyH.nil)
            intro K hK
            rw [if_pos (by rfl)]
            refine wp_append_own w6 (.tmp 59) (.tmp 60) 41 rfl w.heap.size 65 i0 (.agg #[.int .i16 0, .int .i8 0]) 2 4 Tryz.underlying41 hi hz0 hz1 hz2 rfl (by decide) _ _ _ rfl hown6 ⟨wy.heap.size, 0, none⟩ (0) 0 (cellsOf (L.drop jj)) rfl hlN (orest6.cells rfl) (cellsOf_one _) (by unfold maxLen; omega) (by omega) hb6.size ?_
            intro v7 w7 hown7 hgr7 hnil7
            obtain ⟨g2, q2, rfl, hg3, hg4, _, _⟩ := own_some hown7 (fun e => absurd (show Value.slice (some ⟨g1, 0, none⟩) (jj + 1) q1 = .slice none 0 0 from (hnil7.1 e).1) (fun h => by cases h))
            have hb7 : Below w.heap.size w w7 := hb6.grown hgr7 hb6.size (fun j hj => by cases hj; exact hg1)
            have s5 := hgr7.cell s3 (fun e => by have e' : b = g1 := Option.some.inj e; omega)
            have s6 := hgr7.cell s4 (fun e => by have e' : b = g1 := Option.some.inj e; omega)
            refine hK.out _ _ ⟨s5, s6⟩ (fun hS4 => ?_)
            clear hK K hS3
            refine wpAnyH_take (i := 11) (v := .slice (some ⟨g2, 0, none⟩) (jj + 1 + (0)) q2) rfl (by kernel_rfl) (by kernel_rfl) (by kernel_rfl) (fun _ _ _ h => h) (Or.inl ⟨by rfl, fun w' _ => by go_simp⟩) hS4 ?_
            change wpAnyH _ _ _ _ _ _ _ (Act.put _ (some 3) _) _
            simp only [Act.put, List.setIfInBounds_toArray, List.set_cons_zero, List.set_cons_succ]
            refine wpAnyH_done (by kernel_rfl) ?_ _
            go_wp2
            go_roundw
            case rel =>
              refine ⟨k + 1, jj + 1 + (0), g2, q2, hlt, by go_num, ?_, rfl, ?_, hb7⟩
              · rw [HLS.out, HE.out, List.length_append, List.length_take, List.length_cons, List.length_drop, ← HLEN.out]; omega
              · rw [HLS.out, HE.out, show L.take jj ++ (x, y) :: L.drop jj = (L.take jj ++ [(x, y)]) ++ L.drop jj by simp, cellsOf_append, ← hlk]
                exact hown7
            case measure => simp [intOf]; omega
          · have HE := hide (HIEL.out (fun h => absurd h (by rw [← HLEN.out]; omega)))
            go_wp2_with fail
            refine wp_region_later (by kernel_rfl) (by kernel_rfl) ?_
            repeat (go_big_quiet_step (fail))
            refine wpQuiet_nil ?_
            rintro wz ⟨⟨_, hz⟩, rfl⟩
            have hbz := hbi.trans (hz.mono hszi)
            have hszz := hbz.size
            go_wp2_with fail
            refine wp_region_later (by kernel_rfl) (by kernel_rfl) ?_
            repeat (go_big_quiet_step (fail))
            refine wpQuiet_nil ?_
            rintro wy ⟨⟨_, hy2⟩, rfl⟩
            have hby := hbz.trans (hy2.mono hszz)
            have own6 := own_keep hown hby
            have hlN : (cellsOf (L.drop jj)).length = 0 * 2 := by rw [cellsOf_length, List.length_drop, ← HLEN.out]; omega
            have hjn : jj ≤ jj := Nat.le_refl _
            clear own2 hbi hz hy2 e1 e2 HPS
            go_wp2_with fail
            obtain ⟨w3, hw3⟩ : ∃ w3, w3 = wy.alloc (.cells #[] 65) := ⟨_, rfl⟩
            have hb3 : Below wy.heap.size wy w3 := by rw [hw3]; exact (Below.refl _ _).alloc (Nat.le_refl _) _
            have orest : w3.ownsRow wy.heap.size 65 2 (.slice (some ⟨wy.heap.size, 0, none⟩) 0 0) 0 (cellsOf (L.drop jj)) := by
              rw [hw3, show cellsOf (L.drop jj) = [] from List.eq_nil_of_length_eq_zero hlN]
              exact own_emptyT _ _ (Nat.le_refl _)
            rw [← hw3]
            clear hw3
            have own7 := own_keep own6 hb3
            have hby3 : Below wo.heap.size wo w3 := hby.trans (hb3.mono hby.size)
            have hbw3 : Below w.heap.size w w3 := hb.trans (hby3.mono hb.size)
            have hgr0 : g < wy.heap.size := (own6.lt g rfl).2
            have hrr := orest.lt (wy.heap.size) rfl
            have hsz3 : wy.heap.size ≤ w3.heap.size := hb3.size
            have hdr : Below w3.heap.size w3 w3.drew := (Below.refl _ _).drew
            have t1 := ((step_below hdr hby3).cell (p := ⟨b, o + k * 2, none⟩) hbo).trans d1
            have t2 := ((step_below hdr hby3).cell (p := ⟨b, o + k * 2 + 1, none⟩) hbo).trans d2
            obtain ⟨W5, hW5⟩ : ∃ W5, W5 = (w3.alloc (.cells #[.int .i16 x, .int .i8 y] 65)).drew := ⟨_, rfl⟩
            have hb5 : Below w3.heap.size w3 W5 := by rw [hW5]; exact ((Below.refl _ _).alloc (Nat.le_refl _) _).drew
            have hnew5 : ∀ j u, ([.int .i16 x, .int .i8 y] : List Value)[j]? = some u → W5.cell? ((⟨w3.heap.size, 0, none⟩ : Addr).add j) = some u := fun j u hu => by
              rw [hW5]
              exact cell_two_new' w3 (.int .i16 x) (.int .i8 y) 65 j u hu
            have s1 := ((step_below hb5 hby3).cell (p := ⟨b, o + k * 2, none⟩) hbo).trans d1
            have s2 := ((step_below hb5 hby3).cell (p := ⟨b, o + k * 2 + 1, none⟩) hbo).trans d2
            have own8 := own_take (own_keep own7 hb5) jj hjn
            have orest8 := own_keep orest hb5
            have hb8 := step_below hb5 hbw3
            have hszw3 := hbw3.size
            have hszb8 := hb8.size
            have hlk : (cellsOf (L.take jj) ++ [.int .i16 x, .int .i8 y]) = cellsOf (L.take jj ++ [(x, y)]) := by rw [cellsOf_append]; rfl
            clear hown own6 own7 orest hb3 hby hbz
            refine wp_region_held_drew (S := fun w' => w'.cell? ⟨b, o + k * 2, none⟩ = some (.int .i16 x) ∧ w'.cell? ⟨b, o + k * 2 + 1, none⟩ = some (.int .i8 y)) (by kernel_rfl) ⟨t1, t2⟩ fun hS1 => ?_
            refine wpAnyH_take (i := 0) (v := .slice (some ⟨g, 0, none⟩) jj q) rfl (by kernel_rfl) (by kernel_rfl) (by kernel_rfl) (fun _ _ _ h => h) (Or.inl ⟨by rfl, fun w' _ => by go_simp⟩) hS1 ?_
            change wpAnyH _ _ _ _ _ _ _ (Act.put _ (some 51) _) _
            simp only [Act.put, List.setIfInBounds_toArray, List.set_cons_zero, List.set_cons_succ]
            refine wpAnyH_take (i := 1) (v := .int .i64 jj) rfl (by kernel_rfl) (by kernel_rfl) (by kernel_rfl) (fun _ _ _ h => h) (Or.inl ⟨by rfl, fun w' _ => by go_simp⟩) hS1 ?_
            change wpAnyH _ _ _ _ _ _ _ (Act.put _ (some 52) _) _
            simp only [Act.put, List.setIfInBounds_toArray, List.set_cons_zero, List.set_cons_succ]
            refine wpAnyH_take (i := 9) (v := .slice (some ⟨wy.heap.size, 0, none⟩) (0) 0) rfl (by kernel_rfl) (by kernel_rfl) (by kernel_rfl) (fun _ _ _ h => h) (Or.inl ⟨by rfl, fun w' _ => by go_simp⟩) hS1 ?_
            change wpAnyH _ _ _ _ _ _ _ (Act.put _ (some 60) _) _
            simp only [Act.put, List.setIfInBounds_toArray, List.set_cons_zero, List.set_cons_succ]
            refine wpAnyH_take (i := 3) (v := .slice (some ⟨b, o, none⟩) l.length c) rfl (by kernel_rfl) (by kernel_rfl) (by kernel_rfl) (fun _ _ _ h => h) (Or.inl ⟨by rfl, fun w' _ => by go_simp⟩) hS1 ?_
            change wpAnyH _ _ _ _ _ _ _ (Act.put _ (some 54) _) _
            simp only [Act.put, List.setIfInBounds_toArray, List.set_cons_zero, List.set_cons_succ]
            refine wpAnyH_take (i := 4) (v := .int .i64 k) rfl (by kernel_rfl) (by kernel_rfl) (by kernel_rfl) (fun _ _ _ h => h) (Or.inl ⟨by rfl, fun w' _ => by go_simp⟩) hS1 ?_
            change wpAnyH _ _ _ _ _ _ _ (Act.put _ (some 55) _) _
            simp only [Act.put, List.setIfInBounds_toArray, List.set_cons_zero, List.set_cons_succ]
            refine wpAnyH_take (i := 2) (v := .slice (some ⟨g, 0, none⟩) jj q) rfl (by kernel_rfl) (by kernel_rfl) (by kernel_rfl) (fun _ _ _ h => h) (Or.inl ⟨by rfl, fun w' _ => by go_simp <;> (intro hlt'; omega)⟩) hS1 ?_
            change wpAnyH _ _ _ _ _ _ _ (Act.put _ (some 53) _) _
            simp only [Act.put, List.setIfInBounds_toArray, List.set_cons_zero, List.set_cons_succ]
            refine wpAnyH_take (i := 5) (v := Value.pointer (some ⟨b, o + k * 2, none⟩)) rfl (by kernel_rfl) (by kernel_rfl) (by kernel_rfl) (fun _ _ _ h => h) (Or.inl ⟨by rfl, fun w' _ => by go_simp⟩) hS1 ?_
            change wpAnyH _ _ _ _ _ _ _ (Act.put _ (some 56) _) _
            simp only [Act.put, List.setIfInBounds_toArray, List.set_cons_zero, List.set_cons_succ]
            refine wpAnyH_take (i := 6) (v := .agg #[.int .i16 x, .int .i8 y]) rfl (by kernel_rfl) (by kernel_rfl) (by kernel_rfl) (fun _ _ _ h => h) (Or.inl ⟨by rfl, fun w' h => ?_⟩) hS1 ?_
            · have c0 := h.1
              have c1 := h.2
              clear h
              go_simp
            simp only [Act.put, List.setIfInBounds_toArray, List.set_cons_zero, List.set_cons_succ]
            refine wpAnyH_ready (rs := [7]) (by kernel_rfl) (by simp) (AllReadyH.cons rfl ?_ AllReadyH.nil)
            intro K hK
            rw [if_pos (by rfl)]
            go_simp
            rw [← hW5]
            clear hW5
            refine hK.out _ _ ⟨s1, s2⟩ (fun hS2 => ?_)
            clear hK K hS1
            refine wpAnyH_ready (rs := [8]) (by kernel_rfl) (by simp) (AllReadyH.cons rfl ?_ AllReadyH.nil)
            intro K hK
            rw [if_pos (by rfl)]
            refine wp_append_own W5 (.tmp 53) (.tmp 58) 41 rfl w.heap.size 65 i0 (.agg #[.int .i16 0, .int .i8 0]) 2 4 Tryz.underlying41 hi hz0 hz1 hz2 rfl (by decide) _ _ _ rfl own8 ⟨w3.heap.size, 0, none⟩ 1 1 [.int .i16 x, .int .i8 y] rfl rfl hnew5 (fun x hx => by simp at hx; rcases hx with rfl | rfl <;> rfl) (by unfold maxLen; omega) (by omega) hb8.size ?_
            intro v6 w6 hown6 hgr6 hnil6
            obtain ⟨g1, q1, rfl, hg1, hg2, _, _⟩ := own_some hown6 (fun e => absurd (show Value.slice (some ⟨g, 0, none⟩) jj q = .slice none 0 0 from (hnil6.1 e).1) (fun h => by cases h))
            have hb6 : Below w.heap.size w w6 := hb8.grown hgr6 hb8.size (fun j hj => by cases hj; exact hgn)
            have orest6 := orest8.kept hgr6 (Or.inr (fun e => by have e' : wy.heap.size = g := Option.some.inj e; omega))
            have s3 := hgr6.cell s1 (fun e => by have e' : b = g := Option.some.inj e; omega)
            have s4 := hgr6.cell s2 (fun e => by have e' : b = g := Option.some.inj e; omega)
            refine hK.out _ _ ⟨s3, s4⟩ (fun hS3 => ?_)
            clear hK K hS2
            refine wpAnyH_ready (rs := [10]) (by kernel_rfl) (by simp) (AllReadyH.cons rfl ?_ AllReadyH.nil)
            intro K hK
            rw [if_pos (by rfl)]
            refine wp_append_own w6 (.tmp 59) (.tmp 60) 41 rfl w.heap.size 65 i0 (.agg #[.int .i16 0, .int .i8 0]) 2 4 Tryz.underlying41 hi hz0 hz1 hz2 rfl (by decide) _ _ _ rfl hown6 ⟨wy.heap.size, 0, none⟩ (0) 0 (cellsOf (L.drop jj)) rfl hlN (orest6.cells rfl) (cellsOf_one _) (by unfold maxLen; omega) (by omega) hb6.size ?_
            intro v7 w7 hown7 hgr7 hnil7
            obtain ⟨g2, q2, rfl, hg3, hg4, _, _⟩ := own_some hown7 (fun e => absurd (show Value.slice (some ⟨g1, 0, none⟩) (jj + 1) q1 = .slice none 0 0 from (hnil7.1 e).1) (fun h => by cases h))
            have hb7 : Below w.heap.size w w7 := hb6.grown hgr7 hb6.size (fun j hj => by cases hj; exact hg1)
            have s5 := hgr7.cell s3 (fun e => by have e' : b = g1 := Option.some.inj e; omega)
            have s6 := hgr7.cell s4 (fun e => by have e' : b = g1 := Option.some.inj e; omega)
            refine hK.out _ _ ⟨s5, s6⟩ (fun hS4 => ?_)
            clear hK K hS3
            refine wpAnyH_take (i := 11) (v := .slice (some ⟨g2, 0, none⟩) (jj + 1 + (0)) q2) rfl (by kernel_rfl) (by kernel_rfl) (by kernel_rfl) (fun _ _ _ h => h) (Or.inl ⟨by rfl, fun w' _ => by go_simp⟩) hS4 ?_
            change wpAnyH _ _ _ _ _ _ _ (Act.put _ (some 3) _) _
            simp only [Act.put, List.setIfInBounds_toArray, List.set_cons_zero, List.set_cons_succ]
            refine wpAnyH_done (by kernel_rfl) ?_ _
            go_wp2
            go_roundw
            case rel =>
              refine ⟨k + 1, jj + 1 + (0), g2, q2, hlt, by go_num, ?_, rfl, ?_, hb7⟩
              · rw [HLS.out, HE.out, List.length_append, List.length_take, List.length_cons, List.length_drop, ← HLEN.out]; omega
              · rw [HLS.out, HE.out, show L.take jj ++ (x, y) :: L.drop jj = (L.take jj ++ [(x, y)]) ++ L.drop jj by simp, cellsOf_append, ← hlk]
                exact hown7
            case measure => simp [intOf]; omega
    · obtain rfl : k = l.length := by omega
      rw [List.take_length] at hL
      go_wp2
      go_ret
      rw [← hL]
      exact ownT_of (some ⟨g, 0, none⟩) q _ n hnl hown hb
end Go.Proofs.YtmmninlnpnhboaaGreatDoor
