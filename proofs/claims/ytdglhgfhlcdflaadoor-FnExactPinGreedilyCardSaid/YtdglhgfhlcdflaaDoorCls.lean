import Derived.Test.YtdglhgfhlcdflaaDoorGbb
import Derived.WalkMore
namespace Go.Proofs.YtdglhgfhlcdflaaDoor
open Go.RowKit Go.Shelf
attribute [local go_sem] Oper.semAt_some

theorem cells_own' {B b : Nat} {W W' : World} {row : Option Nat} {cs : Array Value} {t : TypeId} {fr : Nat × Nat} (h : W.heap[b]? = some (.cells cs t fr)) (hg : W.grownBy W' row) (hr : ∀ r, row = some r → B ≤ r ∧ ∃ o : Obj, W.heap[r]? = some o ∧ o.isCells = false) : W'.heap[b]? = some (.cells cs t fr) := by
  refine (hg.block b (Array.getElem?_eq_some_iff.1 h).1 ?_).trans h
  intro e
  obtain ⟨_, o, ho, hc⟩ := hr b e.symm
  rw [h] at ho
  cases ho
  cases hc
theorem keeps_below {W W' : World} (hb : Below W.heap.size W W') : KeepsOthers W W' := ⟨hb.size, fun k _ hk _ => (hb.block k (Array.getElem?_eq_some_iff.1 hk).1).trans hk⟩

set_option maxHeartbeats 4000000 in
set_option maxRecDepth 100000 in
theorem clashes_any (S : Nat) (A : Option Addr) (c : Nat) (l : List (Int × Int)) (d : Nat → Int) (w : World) (hA : HA w A l) (hS2 : 2 ≤ S ∧ S ≤ 96) (hl24 : l.length ≤ 24) (hG : HG S l l.length) (hdr : drB S l.length d = true) (hd : DWF d) (hT : TabW w) :
    Calls Tryd.prog 61 #[.agg #[.int .i64 S, .slice A l.length c], .agg (da d)] w fun e w' => e = .returned (.agg (da (clD S d l))) ∧ Below w.heap.size w w' := by
  have hz := zeroDrum
  have hb0 : Below w.heap.size w ((((w.alloc (.cells #[.int .i64 S, .slice A l.length c] 70)).alloc (.cells (da d) 43)).alloc (.cells za 43)).alloc (.cells za 43)) := ((((Below.refl _ _).alloc (Nat.le_refl _) _).alloc (by simp) _).alloc (by simp; omega) _).alloc (by simp; omega) _
  have D0 : Dr ((((w.alloc (.cells #[.int .i64 S, .slice A l.length c] 70)).alloc (.cells (da d) 43)).alloc (.cells za 43)).alloc (.cells za 43)) (w.heap.size + 1) 43 d := heap_old' (heap_old' (heap_new' _ _ _ (by simp)))
  have HR0 := hide D0.range
  refine (callsIn_wide (n := 5)).1 ?_
  refine callsIn_of_wp_marks Tryd.func61 rfl trivial ?_ rfl
  simp only [Tryd.ntmps61, List.size_toArray, List.length_cons, List.length_nil, Nat.reduceAdd, Nat.reduceSub, Array.replicate_succ, Array.replicate_zero, List.push_toArray, List.append_toArray, List.nil_append, List.cons_append]
  refine wpIn_wide.2 ?_
  go_wp2_with fail
  go_step3
  go_wp2_with fail
  go_step3
  go_wp2_with (first | (with_reducible refine wpList_load_da rfl 43 (.tmp 3) rfl (w.heap.size + 1) 0 rfl d _ HR0.out Tryd.underlying43 rfl (dInfo d) ?_) | (go_at_call 78; refine (pins_call _ _).mono ?_; rintro e w5 ⟨rfl, rfl⟩))
  clear hz
  obtain ⟨W0, hW0⟩ : ∃ W0, (((((w.alloc (.cells #[.int .i64 S, .slice A l.length c] 70)).alloc (.cells (da d) 43)).alloc (.cells za 43)).alloc (.cells za 43)).alloc (.cells (da d) 43)) = W0 := ⟨_, rfl⟩
  obtain ⟨G, hGe⟩ : ∃ G, w.heap.size = G := ⟨_, rfl⟩
  have hs0 : W0.heap.size = G + 5 := by rw [← hW0, ← hGe]; simp
  have M0 : W0.heap[G]? = some (.cells #[.int .i64 S, .slice A l.length c] 70 (0, 0)) := by rw [← hW0, ← hGe]; exact heap_old' (heap_old' (heap_old' (heap_old' (heap_new' _ _ _ rfl))))
  have D1 : Dr W0 (G + 1) 43 d := by rw [← hW0, ← hGe]; exact heap_old' D0
  have Z1 : Dr W0 (G + 1 + 1) 43 (fun _ => 0) := by rw [← hW0, ← hGe, za_eq]; exact heap_old' (heap_old' (heap_new' _ _ _ (by simp)))
  have Z2 : Dr W0 (G + 1 + 1 + 1) 43 (fun _ => 0) := by rw [← hW0, ← hGe, za_eq]; exact heap_old' (heap_new' _ _ _ (by simp))
  have P0 : Dr W0 (G + 1 + 1 + 1 + 1) 43 d := by rw [← hW0, ← hGe]; exact heap_new' _ _ _ (by simp)
  have bW : Below w.heap.size w W0 := by rw [← hW0]; exact hb0.alloc hb0.size _
  have hTW := hT.keep bW
  have hG7 : 7 < G := by rw [← hGe]; exact hT.lt
  have HGG := hide hG
  simp only [hW0, hGe]
  rw [hGe] at bW
  clear hb0 D0 HR0 hG
  refine (wpIn_wide (n := 5)).1 ?_
  refine wpIn_rangeFunc_ownF rfl (by omega) (gf := 86) (lb := #[.pointer (some ⟨G + 1 + 1 + 1 + 1, 0, none⟩)]) rfl trivial (enters_of Tryd.func86 (by kernel_rfl) rfl)
    (pins_stops (5 - 1) (by omega) (G + 1 + 1 + 1 + 1) d hd W0 P0 hTW)
    (fun h1 h2 h => h2 (h1 h)) (fun W r o o' _ ho hc _ h => TabW.kb r o' ho hc h) (Below.refl _ _) (fun _ => rfl)
    (fun pre W => (W.heap[G]? = some (.cells #[.int .i64 S, .slice A l.length c] 70 (0, 0)) ∧ Dr W (G + 1) 43 d ∧ Dr W (G + 1 + 1) 43 (fun _ => 0) ∧ Dr W (G + 1 + 1 + 1) 43 (togL (fun _ => 0) (clsF S d l (pre.map fun x : PinOf d => x.1)))) ∧ Below G w W)
    (fun _ _ _ => False)
    (OwnFrom.and (fun s U V row hs hg hr => ⟨cells_own' hs.1 hg hr, cells_own' hs.2.1 hg hr, cells_own' hs.2.2.1 hg hr, cells_own' hs.2.2.2 hg hr⟩) (ownFrom_below (by omega) (by omega)))
    (fun _ _ _ _ _ hs _ _ => hs)
    ⟨⟨M0, D1, Z1, Z2⟩, bW⟩ ?a1 ?assign ?body ?done ?stop
  case assign =>
    intro l x W K hK
    gi_wp2
    exact hK
  case body =>
    rintro r pre ⟨⟨k, t⟩, hx1, hx2, hx3⟩ W ⟨⟨M, D, Z, C⟩, hBel⟩ hlen
    dsimp only at hx1 hx2 hx3
    obtain ⟨hin1, hin2⟩ := pin_in hdr hd hx1 hx3
    have m1 := cell_of_row _ _ 0 _ _ _ M
    have m2 := cell_of_row _ _ 1 _ _ _ M
    simp at m1 m2
    have hBel' : Below w.heap.size w W := by rw [hGe]; exact hBel
    have hAW := hA.below hBel'
    by_cases hr1 : hRe l t = 1
    · have KS := hide (striker_quick A c l t W hAW hin2 hl24 hr1)
      have t1 := fun v => ta_quick v W
      clear hAW
      have HC := hide (show clsF S d l ((pre ++ [(⟨(k, t), hx1, hx2, hx3⟩ : PinOf d)]).map fun x : PinOf d => x.1) = clsF S d l (pre.map fun x : PinOf d => x.1) by
        rw [map_snoc, clsF_snoc, hr1]
        have : nextB S d k t 1 = false := nextB_zero S d k t
        simp [this])
      gi_wp2_with (refine ⟨trivial, ?_⟩; gi_at_call 79; refine (CallsIn.inRound r (callsIn_wide.2 KS.out)).mono ?_; rintro e w' ⟨rfl, rfl⟩)
      refine ⟨KeepsOthers.alloc _ _, fun h => h.keep (al_below _ _), ⟨heap_old' M, D.keep (al_below _ _), Z.keep (al_below _ _), ?_⟩, hBel.alloc (by have := hBel.size; omega) _⟩
      rw [HC.out]
      exact C.keep (al_below _ _)
    · obtain ⟨_, e1, e2, e3⟩ := HGG.out.at hin2
      obtain ⟨R, hR⟩ : ∃ R : Nat, hRe l t = (R : Int) := ⟨(hRe l t).toNat, by omega⟩
      have hRn : (hRe l t).toNat = R := by omega
      have KS := hide (striker_slow A c l t W hAW hin2 hl24 hr1)
      rw [hR] at KS e1 e2 e3
      obtain ⟨pp, hpp⟩ : ∃ pp, hPi l t = pp := ⟨_, rfl⟩
      rw [hpp] at KS
      have t1 := fun v => ta_not v W
      have t2 := fun v => ta_slow v W
      have hR2 : 2 ≤ R := by omega
      have HA0 := hide (clsF_snoc S d l (pre.map fun x : PinOf d => x.1) (k, t))
      rw [hRn] at HA0
      have hwR : IntKind.i64.wrap (R : Int) = (R : Int) := IntWalk.i64_in _ (by omega)
      have hGs : G ≤ W.heap.size := by have := C.lt; omega
      clear hAW hpp hr1 hR hRn
      gi_wp2_with (refine ⟨trivial, ?_⟩; gi_at_call 79; refine (CallsIn.inRound r (callsIn_wide.2 KS.out)).mono ?_; rintro e w' ⟨rfl, rfl⟩)
      clear KS t1 t2
      have hb1 : Below W.heap.size W (W.alloc (.cells #[.int .i8 pp, .int .i8 R] 139)) := al_below _ _
      have B1 : (W.alloc (.cells #[.int .i8 pp, .int .i8 R] 139)).heap[W.heap.size]? = some (.cells #[.int .i8 pp, .int .i8 R] 139 (0, 0)) := heap_new' _ _ _ rfl
      gi_loopw [10] (fun i wq => ∃ g : Nat, 1 ≤ g ∧ g ≤ R ∧ i = .int .i64 g ∧ nextB S d k t g = false ∧ wq.heap[W.heap.size]? = some (.cells #[.int .i8 pp, .int .i8 R] 139 (0, 0)) ∧ Below W.heap.size W wq) (fun i _ => R - (intOf i).toNat)
      case atStart => exact ⟨1, Nat.le_refl _, by omega, rfl, nextB_zero S d k t, B1, hb1⟩
      case round =>
        obtain ⟨g, hg1, hgR, rfl, hN, B2, hb2⟩ := hrel
        have HN := hide hN
        have u1 := cell_of_row _ _ 1 _ _ _ B2
        simp at u1
        clear hN B1 hb1
        by_cases hlt : g < R
        · obtain ⟨y, hye⟩ : ∃ y, (k + g) % S = y := ⟨_, rfl⟩
          have hy : y < 96 := by rw [← hye]; exact Nat.lt_of_lt_of_le (Nat.mod_lt _ (by omega)) (by omega)
          have KA : ∀ W', Calls Tryd.prog 81 #[.agg #[.int .i64 S, .slice A l.length c], .int .i64 ((k : Int) + (g : Int))] W' fun e w' => e = .returned (.int .i64 (y : Int)) ∧ Below W'.heap.size W' w' := fun W' => by
            have h := around_any S (k + g) A l.length c W' hS2 (by omega)
            rw [hye, Int.natCast_add] at h
            exact h
          have q0 := Later.cell ((hb2.cell (p := ⟨G, 0, none⟩) (World.block_lt_of_cell? _ _ m1)).trans m1)
          have q1 := Later.cell ((hb2.cell (p := ⟨G, 1, none⟩) (World.block_lt_of_cell? _ _ m2)).trans m2)
          have D2 := D.keep hb2
          have HL := hide D2.later
          have hsz := hb2.size
          have hwa : IntKind.i64.wrap ((k : Int) + (g : Int)) = (k : Int) + (g : Int) := IntWalk.i64_in _ (by omega)
          have hgi : (g : Int) < (R : Int) := by omega
          have hns := nextB_succ S d k t g hg1
          rw [HN.out, hye, Bool.false_or] at hns
          have hhit := fun h => nextB_hit (S := S) (d := d) (k := k) (t := t) hg1 hlt (by rw [hye]; exact h)
          clear hye
          cases hp : pinB d y t
          · have H1 : ∀ W', Calls Tryd.prog 80 #[.agg (da d), .int .i64 (y : Int), .int .i64 t] W' fun e w' => e = .returned (.bool false) ∧ Below W'.heap.size W' w' := fun W' => by rw [← hp]; exact has_any y t d W' hy (by omega) hd
            have HX := hide (hns.trans hp)
            clear hp hns hhit
            gi_wp2_with fail
            refine wpIn_region_later (by kernel_rfl) (by kernel_rfl) (by kernel_rfl) (by rintro ⟨_, _, h⟩; exact h) ?_
            repeat (first | (go_big_quiet_want; with_reducible refine quiet_load_da 43 (.tmp 3) rfl (.pointer (some ⟨G + 1, 0, none⟩)) rfl (.agg (da d)) (by rintro _ ⟨p, rfl⟩; exact HL.out p) ?_; go_simp; go_big_quiet_on) | go_big_quiet_step (first | (go_at_call 81; with_reducible exact Later.call (KA _)) | (go_at_call 80; with_reducible exact Later.call (H1 _))))
            refine wpQuiet_nil ?_
            rintro wz ⟨⟨_, hq⟩, rfl⟩
            gi_wp2
            go_roundw
            case rel => exact ⟨g + 1, by omega, hlt, by go_num, HX.out, (hq.block _ (Array.getElem?_eq_some_iff.1 B2).1).trans B2, hb2.trans (hq.mono hsz)⟩
            case measure => simp [intOf]; omega
          · have H1 : ∀ W', Calls Tryd.prog 80 #[.agg (da d), .int .i64 (y : Int), .int .i64 t] W' fun e w' => e = .returned (.bool true) ∧ Below W'.heap.size W' w' := fun W' => by rw [← hp]; exact has_any y t d W' hy (by omega) hd
            have HX := hide (hhit hp)
            clear hp hns hhit
            gi_wp2_with fail
            refine wpIn_region_later (by kernel_rfl) (by kernel_rfl) (by kernel_rfl) (by rintro ⟨_, _, h⟩; exact h) ?_
            repeat (first | (go_big_quiet_want; with_reducible refine quiet_load_da 43 (.tmp 3) rfl (.pointer (some ⟨G + 1, 0, none⟩)) rfl (.agg (da d)) (by rintro _ ⟨p, rfl⟩; exact HL.out p) ?_; go_simp; go_big_quiet_on) | go_big_quiet_step (first | (go_at_call 81; with_reducible exact Later.call (KA _)) | (go_at_call 80; with_reducible exact Later.call (H1 _))))
            refine wpQuiet_nil ?_
            rintro wz ⟨⟨_, hq⟩, rfl⟩
            have hb3 : Below W.heap.size W wz := hb2.trans (hq.mono hsz)
            have C3 := C.keep hb3
            have HRc := hide C3.range
            obtain ⟨cur, hcur⟩ : ∃ cur, togL (fun _ => 0) (clsF S d l (pre.map fun x : PinOf d => x.1)) = cur := ⟨_, rfl⟩
            have hcw : DWF cur := by rw [← hcur]; exact togL_wf zero_wf _
            have HCU := hide hcur
            rw [hcur] at C3 HRc
            clear hcur
            have KT := hide (toggled_any k t cur wz (by omega) (by omega) hcw)
            clear KA H1 HL
            gi_wp2_with (first | (with_reducible refine wpListIn_load_da rfl 43 (.tmp 5) rfl (G + 1 + 1 + 1) 0 rfl cur _ HRc.out Tryd.underlying43 rfl (dInfo cur) ?_) | (refine ⟨trivial, ?_⟩; gi_at_call 54; refine (CallsIn.inRound r (callsIn_wide.2 KT.out)).mono ?_; rintro e w9 ⟨rfl, hb9⟩; have C9 := C3.keep hb9) | (with_reducible refine wpListIn_store_dr rfl 43 (.tmp 5) (.tmp 44) rfl rfl (G + 1 + 1 + 1) cur (togD cur k t) rfl rfl 43 C9 info43 ?_))
            have hb10 : Below W.heap.size W w9 := hb3.trans (hb9.mono hb3.size)
            have hG9 : Below G w w9 := by have := step_below hb10 hBel'; rw [hGe] at this; exact this
            refine ⟨(keeps_below hb10).trans (keeps_row C9 _), fun h => ?_, ⟨?_, ?_, ?_, ?_⟩, below_setRow hG9 (by omega)⟩
            · exact fun j hj => (cell_setRow_other _ _ _ _ (by dsimp only; omega)).trans (h.keep hb10 j hj)
            · rw [setRow_other _ _ _ _ (by omega)]; exact (hb10.block _ (Array.getElem?_eq_some_iff.1 M).1).trans M
            · exact (setRow_other _ _ _ _ (by omega)).trans (D.keep hb10)
            · exact (setRow_other _ _ _ _ (by omega)).trans (Z.keep hb10)
            · have e : togL (fun _ => 0) (clsF S d l ((pre ++ [(⟨(k, t), hx1, hx2, hx3⟩ : PinOf d)]).map fun x : PinOf d => x.1)) = togD cur k t := by
                rw [map_snoc, HA0.out, if_pos HX.out, togL_snoc, HCU.out]
              rw [e]
              exact C9.row _
        · obtain rfl : g = R := by omega
          gi_wp2
          refine ⟨keeps_below hb2, fun h => h.keep hb2, ⟨(hb2.block _ (Array.getElem?_eq_some_iff.1 M).1).trans M, D.keep hb2, Z.keep hb2, ?_⟩, by have := step_below hb2 hBel'; rw [hGe] at this; exact this⟩
          have e : clsF S d l ((pre ++ [(⟨(k, t), hx1, hx2, hx3⟩ : PinOf d)]).map fun x : PinOf d => x.1) = clsF S d l (pre.map fun x : PinOf d => x.1) := by
            rw [map_snoc, HA0.out, HN.out]; simp
          rw [e]
          exact C.keep hb2
  case done =>
    rintro D ys W hD hS ⟨⟨M, D9, Z, C⟩, hBel⟩ hK
    rw [hS] at C
    have HRc := hide C.range
    have R2 : W.heap[G + 1 + 1]? = some (.cells (da fun _ => 0) 43 (0, 0)) := Z
    have HRz := hide R2
    go_wp2_with (first | (with_reducible refine wpList_load_da rfl 43 (.tmp 5) rfl (G + 1 + 1 + 1) 0 rfl (togL (fun _ => 0) (clsF S d l (pinsL d))) _ HRc.out Tryd.underlying43 rfl (dInfo _) ?_) | (with_reducible refine wpList_store_row rfl 43 (.tmp 4) (.tmp 45) rfl (G + 1 + 1) (da (togL (fun _ => 0) (clsF S d l (pinsL d)))) rfl rfl 43 _ HRz.out (by rw [da_size]; exact info43) (by rw [da_size, da_size]) (da_one _) ?_))
    rw [Exit.noGoto_ret]
    have hD5 : G + 5 ≤ D := by omega
    have hKr : (W.setRow (G + 1 + 1) (da (togL (fun _ => 0) (clsF S d l (pinsL d))))).heap[D]? = some (.deferred (some [])) := (setRow_other _ _ _ _ (by omega)).trans hK
    have hres : ((W.setRow (G + 1 + 1) (da (togL (fun _ => 0) (clsF S d l (pinsL d))))).putObj D (.deferred none)).heap[G + 1 + 1]? = some (.cells (da (togL (fun _ => 0) (clsF S d l (pinsL d)))) 43 (0, 0)) := (World.putObj_heap_other (by omega)).trans (setRow_heap _ _ _ _ _ _ R2)
    refine ⟨by simp, .inl ⟨_, _, rfl, run_takeDeferred hKr, ?_⟩⟩
    refine ⟨_, results_cell_row Tryd.results61 _ _ (G + 1 + 1) 43 (da (togL (fun _ => 0) (clsF S d l (pinsL d)))) (0, 0) _ (by simp [Act.put]) hres Tryd.underlying43 rfl (by rw [da_size]; exact info43), rfl, ?_⟩
    have hf : Below G w (W.setRow (G + 1 + 1) (da (togL (fun _ => 0) (clsF S d l (pinsL d))))) := below_setRow hBel (by omega)
    rw [hGe]
    exact hf.trans (belowK_b (w := w) (by omega) _ D _ _ (by omega) hKr rfl rfl)
  case stop =>
    rintro D c pre W _ _ h _
    exact h.elim
end Go.Proofs.YtdglhgfhlcdflaaDoor
