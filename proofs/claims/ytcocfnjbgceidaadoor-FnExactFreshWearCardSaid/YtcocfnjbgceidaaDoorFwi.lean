import Derived.Test.YtcocfnjbgceidaaDoorGbp
import Derived.Maps.OwnIn
import Derived.RangeFuncWrites
namespace Go.Proofs.YtcocfnjbgceidaaDoor
open Go.RowKit Go.Maps Go.Shelf
attribute [local go_sem] Oper.semAt_some
theorem own_low_kept {w w' : World} {base B : Nat} {e : TypeId} {size n : Nat} {v : Value} {xs : List Value} {row : Option Nat} (h : w.ownsRow base e size v n xs) (hg : w.grownBy w' row) (hB : ∀ g, v.ownBlock = some g → g < B) (hr : ∀ r, row = some r → B ≤ r) : w'.ownsRow base e size v n xs :=
  h.kept hg (by
    cases hv : v.ownBlock with
    | none => exact Or.inl rfl
    | some g => exact Or.inr (fun e => by have h1 := hB g hv; have h2 := hr g e.symm; omega))
set_option maxHeartbeats 8000000 in
set_option maxRecDepth 100000 in
theorem implFreshWear_any (s : Int) (A : Option Addr) (c : Nat) (l : List (Int × Int)) (d : Nat → Int) (w : World) (hA : HA w A l) (hn : l.length ≤ 1048576) (hwf : HWF l) (hs : -32768 ≤ s ∧ s ≤ 32767) (hd : DWF d) (hT : TabW w) :
    Calls Tryd.prog 8 #[.agg #[.int .i16 s, .slice A l.length c], .agg (da d)] w (WeC (fwT s l d) (fwZ s l d) (codeI (askB s l d)) w) := by
  obtain ⟨i0, hi, hz0, hz1, hz2⟩ := info_parts info2
  obtain ⟨X, hX⟩ : ∃ X, ((w.alloc (.cells #[.int .i16 s, .slice A l.length c] 37)).alloc (.cells (da d) 39)).alloc (.cells #[.slice none 0 0, .slice none 0 0] 32) = X := ⟨_, rfl⟩
  have hb0 : Below w.heap.size w X := by rw [← hX]; exact (((Below.refl _ _).alloc (Nat.le_refl _) _).alloc (by simp) _).alloc (by simp; omega) _
  have P0 : Bk X w.heap.size 37 #[.int .i16 s, .slice A l.length c] := by rw [← hX]; exact ((Bk.new _ _ _ rfl).old _).old _
  have D0 : Dr X (w.heap.size + 1) 39 d := by rw [← hX]; exact heap_old' (heap_new' _ _ _ (by simp))
  have P3 : Bk X (w.heap.size + 1 + 1) 32 #[.slice none 0 0, .slice none 0 0] := by rw [← hX]; exact Bk.new _ _ _ (by simp)
  have hX3 := P3.lt
  have HR0 := hide D0.range
  refine (callsIn_wide (n := 5)).1 ?_
  refine callsIn_of_wp_marks Tryd.func8 rfl trivial ?_ rfl
  simp only [Tryd.ntmps8, List.size_toArray, List.length_cons, List.length_nil, Nat.reduceAdd, Nat.reduceSub, Array.replicate_succ, Array.replicate_zero, List.push_toArray, List.append_toArray, List.nil_append, List.cons_append]
  refine wpIn_wide.2 ?_
  go_upto_region 1 with fail
  try rw [hX]
  clear hX
  have c0 := P0.cell (i := 0) rfl
  have c1 := P0.cell (i := 1) rfl
  go_wp2_with (first | (with_reducible refine wpList_load_da rfl 39 (.tmp 3) rfl (w.heap.size + 1) 0 rfl d _ HR0.out Tryd.underlying39 rfl (dInfo d) ?_) | (with_reducible refine wpList_build1 rfl (.tmp 13) rfl d rfl ?_))
  have bX1 : Below X.heap.size X (X.alloc (.cells (da d) 39)) := (Below.refl _ _).alloc (Nat.le_refl _) _
  refine (machine1_any s A c l d X (hA.below hb0) hn hwf hs hd _ rfl).mono ?_
  rintro e w2 ⟨rfl, hb2⟩
  have b1 := step_below bX1 hb0
  have b2 := step_below hb2 b1
  obtain ⟨Y, hY⟩ : ∃ Y, Y = w2.alloc (.cells #[.int .i64 s, .slice A l.length c] 57) := ⟨_, rfl⟩
  have hbY : Below w2.heap.size w2 Y := by rw [hY]; exact (Below.refl _ _).alloc (Nat.le_refl _) _
  have bY := step_below hbY b2
  have M3 : Bk Y w2.heap.size 57 #[.int .i64 s, .slice A l.length c] := by rw [hY]; exact Bk.new _ _ _ rfl
  have D3 := ((D0.keep bX1).keep hb2).keep hbY
  have Q3 := ((P3.keep bX1).keep hb2).keep hbY
  have hQM := Q3.lt
  go_upto_region 2 with fail
  rw [← hY]
  clear hY c0 c1 HR0 D0 P0 bX1 hbY hb2
  cases ha : askB s l d
  · have HX := hide (show codeI (askB s l d) = 1 by rw [ha]; rfl)
    have HT := hide (show fwT s l d = [] by rw [fwT, ha]; rfl)
    have HZZ := hide (show fwZ s l d = [] by rw [fwZ, ha]; rfl)
    have HZ := hide (show Y.heap[w.heap.size + 1 + 1]? = some (.cells #[.slice none 0 0, .slice none 0 0] 32 (0, 0)) from Q3)
    clear ha
    go_wp2_with (first | (with_reducible refine wpList_build0 rfl rfl ?_) | (with_reducible refine wpList_store_row rfl 32 (.tmp 4) (.tmp 20) rfl (w.heap.size + 1 + 1) #[.slice none 0 0, .slice none 0 0] rfl rfl 32 _ HZ.out (infoWear _ _) (szWear _ _ _ _) (oneWear _ _ _ _ _ _) ?_))
    exact bodyM_ret (v := .tuple #[.agg #[.slice none 0 0, .slice none 0 0], .int .i64 1]) (results_we Tryd.results8 _ _ (w.heap.size + 1 + 1) 32 #[.slice none 0 0, .slice none 0 0] _ rfl (by simp [Act.put]) (by simp [Act.put]) (setRow_heap _ _ _ _ _ _ HZ.out)) rfl ⟨none, 0, none, 0, by rw [HX.out, HT.out, HZZ.out]; rfl, by rw [HT.out]; exact World.ownsRow_nil _ _ _ _, by rw [HZZ.out]; exact World.ownsRow_nil _ _ _ _, below_setRow bY (by omega)⟩
  have hfa := ask_all ha
  have HV := hide hfa.2.2.2
  have HX := hide (show codeI (askB s l d) = 0 by rw [ha]; rfl)
  have HTT := hide (show fwT s l d = fwP (pinsL d) by rw [fwT, ha]; rfl)
  have HZZ := hide (show fwZ s l d = List.replicate l.length 0 by rw [fwZ, ha]; rfl)
  have hTY := hT.keep bY
  clear ha hfa
  have hmm := @run_makeMap Tryd.prog
  obtain ⟨W5, hW5⟩ : ∃ W5, W5 = Y.alloc (.map #[] 0) := ⟨_, rfl⟩
  have hbm : Below Y.heap.size Y W5 := by rw [hW5]; exact (Below.refl _ _).alloc (Nat.le_refl _) _
  have own5 : W5.ownsMap Tryd.prog 68 (plainElem (H := Unit) Tryd.prog 2) Y.heap.size 0 (.map []) := by rw [hW5]; exact World.ownsMap_made _ _ _ _
  have bm := step_below hbm bY
  have D5 := D3.keep hbm
  have Q5 := Q3.keep hbm
  have hT5 := hTY.keep hbm
  have hsM : Y.heap.size < W5.heap.size := by rw [hW5]; simp
  have S1c : (Y.alloc (.map #[] 0)).cell? ⟨w2.heap.size, 1, none⟩ = some (.slice A l.length c) := by rw [← hW5]; exact (M3.keep hbm).cell (i := 1) rfl
  go_wp2_with fail
  rw [← hW5]
  refine (tracks_any A l.length c hn _).mono ?_
  rintro e w' ⟨rfl, rfl⟩
  clear hmm hW5 S1c
  go_upto_region 5 with (at_make; refine wpList_make_full _ rfl _ _ 30 rfl W5.heap.size 2 i0 _ 1 Tryd.underlying30 hi hz0 hz1 _ _ _ _ l.length rfl rfl (by omega) (by omega) (by rw [hz2]; omega) (by unfold maxLen; omega) (by simp) ?_; intro w4 hown4 hgrow4)
  have hb4 : Below W5.heap.size W5 w4 := (Below.refl _ _).grown hgrow4 (Nat.le_refl _) (fun j e => by cases e)
  clear hgrow4
  rw [Nat.mul_one] at hown4
  have hown5 : w4.ownsRow W5.heap.size 2 1 (.slice (some ⟨W5.heap.size, 0, none⟩) l.length l.length) l.length (icells (List.replicate l.length 0)) := by rw [icells_replicate]; exact hown4
  have hg5 := (hown4.lt W5.heap.size rfl).2
  obtain ⟨W8, hW8⟩ : ∃ W8, W8 = w4.alloc (.cells #[.map (some Y.heap.size), .slice (some ⟨W5.heap.size, 0, none⟩) l.length l.length] 63) := ⟨_, rfl⟩
  have hb8 : Below w4.heap.size w4 W8 := by rw [hW8]; exact (Below.refl _ _).alloc (Nat.le_refl _) _
  have K8 : Bk W8 w4.heap.size 63 #[.map (some Y.heap.size), .slice (some ⟨W5.heap.size, 0, none⟩) l.length l.length] := by rw [hW8]; exact Bk.new _ _ _ rfl
  have hb48 := step_below hb8 hb4
  have b8 := step_below hb48 bm
  have own8 := map_keep own5 hb48
  have row8 := own_keep hown5 hb8
  have D8 := D5.keep hb48
  have Q8 := Q5.keep hb48
  have hT8 := hT5.keep hb48
  have HR8 := hide D8.range
  rw [← hW8]
  clear hW8 own5 hown4 hown5 D3 D5 Q3 Q5 hT hT5 hTY M3 hb4 hbm bY b1
  go_wp2_with (first | (with_reducible refine wpList_load_da rfl 39 (.tmp 3) rfl (w.heap.size + 1) 0 rfl d _ HR8.out Tryd.underlying39 rfl (dInfo d) ?_) | (go_at_call 20; refine (pins_call _ _).mono ?_; rintro e w5 ⟨rfl, rfl⟩))
  obtain ⟨W0, hW0⟩ : ∃ W0, W8.alloc (.cells (da d) 39) = W0 := ⟨_, rfl⟩
  have hbW : Below W8.heap.size W8 W0 := by rw [← hW0]; exact (Below.refl _ W8).alloc (Nat.le_refl _) _
  have DW : Dr W0 W8.heap.size 39 d := by rw [← hW0]; exact heap_new' _ _ _ rfl
  have b0 := step_below hbW b8
  have own0 := map_keep own8 hbW
  have row0 := own_keep row8 hbW
  have K0 := K8.keep hbW
  have Q0 := Q8.keep hbW
  have hT0 := hT8.keep hbW
  obtain ⟨M, hM⟩ : ∃ M, M = Y.heap.size := ⟨_, rfl⟩
  obtain ⟨Gz, hGz⟩ : ∃ g, g = W5.heap.size := ⟨_, rfl⟩
  obtain ⟨Gm, hGm⟩ : ∃ g, g = w4.heap.size := ⟨_, rfl⟩
  have hMz : M < Gz := by omega
  have hzm : Gz < Gm := by omega
  have hm8 : Gm < W8.heap.size := by rw [hGm]; exact K8.lt
  have h80 := hbW.size
  rw [← hM] at own0 K0 ⊢
  rw [← hGz] at row0 K0 ⊢
  rw [← hGm] at K0 ⊢
  simp only [hW0]
  have hbs := b0.size
  have hMB : M < W0.heap.size := by omega
  have hg2B : w.heap.size + 1 + 1 < W0.heap.size := by omega
  have hwM : w.heap.size + 1 + 1 < M := by omega
  have hwB : w.heap.size ≤ W0.heap.size := by omega
  clear hW0 hM hGz hGm own8 row8 K8 Q8 hT8 D8 HR8 hb8 hb48 b8 bm hbW hsM hg5 b2 hb0 hX3
  refine (wpIn_wide (n := 5)).1 ?_
  refine wpIn_rangeFunc_ownG rfl (by omega) (gf := 36) (lb := #[.pointer (some ⟨W8.heap.size, 0, none⟩)]) rfl trivial (enters_of Tryd.func36 (by kernel_rfl) rfl)
    (pins_stops (5 - 1) (by omega) W8.heap.size d hd W0 DW hT0)
    (fun h1 h2 h => h2 (h1 h)) (fun W r o o' _ ho hc _ h => TabW.kb r o' ho hc h) (Below.refl _ _) (fun _ => rfl)
    (fun pre W => ((∃ D : DataW Unit, W.ownsMap Tryd.prog 68 (plainElem (H := Unit) Tryd.prog 2) M pre.length D ∧ ReadsW D (fwP (pre.map fun x : PinOf d => x.1)) ∧ IsMap D) ∧ (Bk W Gm 63 #[.map (some M), .slice (some ⟨Gz, 0, none⟩) l.length l.length] ∧ Bk W (w.heap.size + 1 + 1) 32 #[.slice none 0 0, .slice none 0 0] ∧ W.ownsRow Gz 2 1 (.slice (some ⟨Gz, 0, none⟩) l.length l.length) l.length (icells (List.replicate l.length 0))) ∧ TabW W) ∧ Below w.heap.size w W)
    (fun _ _ _ => False)
    ?own
    (fun _ _ _ _ _ hs _ _ => hs)
    ⟨⟨⟨.map [], own0, ?rd, own0.isMap⟩, ⟨K0, Q0, row0⟩, hT0⟩, b0⟩ ?a1 ?assign ?body ?done ?stop
  case rd => exact ⟨fun x hx => absurd hx (by simp [fwP]), fun x hx => absurd hx (by simp [fwP]), fun kl h => by cases h⟩
  case own =>
    rintro pre W W' row ⟨⟨⟨D, hm, hr, hI⟩, ⟨hK, hQ, hrow⟩, hTb⟩, hBel⟩ hg hro
    have hlo : ∀ r, row = some r → W0.heap.size ≤ r := fun r e => (hro r e).1
    exact ⟨⟨⟨D, hm.kept hg (fun e => by have := hlo M e.symm; omega), hr, hI⟩, ⟨hK.grown hg (fun e => by have := hlo Gm e; omega), hQ.grown hg (fun e => by have := hlo _ e; omega), own_low_kept hrow hg (B := W0.heap.size) (fun g e => by have e1 : Gz = g := Option.some.inj e; omega) hlo⟩, fun j hj => cell_kept (hTb j hj) hg (fun r e => (hro r e).2)⟩, hBel.grown hg hBel.size (fun j e => by have := hlo j e; omega)⟩
  case assign =>
    intro l x W K hK
    gi_wp2
    exact hK
  case body =>
    rintro r pre x W ⟨⟨⟨D, hm, hr, hI⟩, ⟨hK, hQ, hrow⟩, hTb⟩, hBel⟩ hlen
    obtain ⟨hx1, hx2, hx3⟩ := x.2
    have f1 := hK.cell (i := 0) rfl
    have hkey := key_place (x.1.1 : Int) (x.1.2 : Int) (by omega) (by omega)
    have HR := hide (readsW_fw hr hI (p := x.1) (fun q hq => by
      rcases List.mem_append.1 hq with h | h
      · obtain ⟨y, _, rfl⟩ := List.mem_map.1 h
        exact ⟨y.2.1, y.2.2.1⟩
      · simp at h
        subst h
        exact ⟨hx1, hx2⟩))
    have hncl : ∃ o : Obj, W.heap[M]? = some o ∧ o.isCells = false := by
      obtain ⟨es, clock, h1, _⟩ := hm
      exact ⟨_, h1, rfl⟩
    have HI := hide hI
    clear hI hr
    gi_wp2_with (gi_at_mapUpdate; refine wpListIn_mapUpdate_own _ rfl _ _ _ 60 rfl 68 2 lawP Tryd.underlying60 _ M pre.length D rfl hm (by unfold maxLen; omega) _ _ _ rfl rfl hkey _ [] (plainElem_int Tryd.underlying2 (by decide)) ?_; intro w3 hown3 hgrow3)
    refine ⟨KeepsFrom.of_grownBy hgrow3 (fun j e => by cases e; omega), fun h j hj => cell_kept (h j hj) hgrow3 (fun r e => by cases e; exact hncl), ⟨⟨_, by simpa using hown3, by simpa using HR.out, HI.out.put _ _⟩, ⟨hK.grown hgrow3 (fun e => by have e' : M = Gm := Option.some.inj e; omega), hQ.grown hgrow3 (fun e => by have e' : M = w.heap.size + 1 + 1 := Option.some.inj e; omega), hrow.kept hgrow3 (Or.inr (fun e => by have e' : Gz = M := Option.some.inj e; omega))⟩, fun j hj => cell_kept (hTb j hj) hgrow3 (fun r e => by cases e; exact hncl)⟩, hBel.grown hgrow3 hBel.size (fun j e => by cases e; omega)⟩
  case done =>
    rintro D' ys W hD hS ⟨⟨⟨D, hm, hr, hI⟩, ⟨hK, hQ, hrow⟩, hTb⟩, hBel⟩ hKd
    rw [hS] at hr
    have hyl : ys.length ≤ 4000 := by
      have h1 := congrArg List.length hS
      rw [List.length_map] at h1
      have := pinsL_len d
      omega
    have KM := madeWear_any M (some ⟨Gz, 0, none⟩) (List.replicate l.length 0) l.length ys.length D (fwP (pinsL d)) W hm hr (Nat.le_trans hm.size_le (by omega)) (fwP_asc d) (in8_fw fun p hp => by
      have := (pinsT_mem (k := p.1) (t := p.2) hd 96 (Nat.le_refl _)).1 hp
      exact ⟨this.1, this.2.1⟩) (SZ.of_own (c := l.length) (by rw [List.length_replicate]; exact hrow)) (by rw [List.length_replicate]; exact hn)
    obtain ⟨T', hT'⟩ : ∃ T', T' = fwP (pinsL d) := ⟨_, rfl⟩
    obtain ⟨z', hz'⟩ : ∃ z', z' = List.replicate l.length (0 : Int) := ⟨_, rfl⟩
    have hzl : z'.length = l.length := by rw [hz', List.length_replicate]
    rw [← hT'] at KM HTT
    rw [← hz'] at KM HZZ
    rw [hzl] at KM
    have HZL := hide hzl
    have f0 := hK.cell (i := 0) rfl
    have f1 := hK.cell (i := 1) rfl
    have hDW : D' < W.heap.size := (Array.getElem?_eq_some_iff.1 hKd).1
    have hbsW := hBel.size
    clear hr hm hI hrow hT' hz' hzl hTb hyl hS
    go_wp2_with fail
    refine KM.mono ?_
    rintro e w6 ⟨P1, q1, P2, q2, rfl, ownP, ownC, hb6⟩
    rw [HZL.out] at ownC ⊢
    have b6 := step_below hb6 hBel
    have HZ := hide (show w6.heap[w.heap.size + 1 + 1]? = some (.cells #[.slice none 0 0, .slice none 0 0] 32 (0, 0)) from hQ.keep hb6)
    have hKd6 : w6.heap[D']? = some (.deferred (some [])) := (hb6.block D' hDW).trans hKd
    have owP := own_base (own_keepW ownP (show w.heap.size + 1 + 1 < W.heap.size by omega) #[.slice P1 T'.length q1, .slice P2 l.length q2]) (show w.heap.size ≤ W.heap.size by omega)
    have owC := own_base (own_keepW ownC (show w.heap.size + 1 + 1 < W.heap.size by omega) #[.slice P1 T'.length q1, .slice P2 l.length q2]) (show w.heap.size ≤ W.heap.size by omega)
    have hKd7 : (w6.setRow (w.heap.size + 1 + 1) #[.slice P1 T'.length q1, .slice P2 l.length q2]).heap[D']? = some (.deferred (some [])) := (setRow_other _ _ _ _ (by omega)).trans hKd6
    have hR7 := setRow_heap _ _ _ #[.slice P1 T'.length q1, .slice P2 l.length q2] _ _ HZ.out
    clear f0 f1 KM hQ hK
    go_wp2_with (with_reducible refine wpList_store_row rfl 32 (.tmp 4) (.tmp 37) rfl (w.heap.size + 1 + 1) #[.slice P1 T'.length q1, .slice P2 l.length q2] rfl rfl 32 _ HZ.out (infoWear _ _) (szWear _ _ _ _) (oneWear _ _ _ _ _ _) ?_)
    refine ⟨by simp, .inl ⟨_, _, rfl, run_takeDeferred hKd7, ?_⟩⟩
    refine ⟨.tuple #[.agg #[.slice P1 T'.length q1, .slice P2 l.length q2], .int .i64 0], results_we Tryd.results8 _ _ (w.heap.size + 1 + 1) 32 #[.slice P1 T'.length q1, .slice P2 l.length q2] _ rfl (by simp [Act.put]) (by simp [Act.put]) ((World.putObj_heap_other (by omega)).trans hR7), ?_⟩
    refine ⟨P1, q1, P2, q2, by rw [HX.out, HTT.out, HZZ.out, HZL.out], ?_, ?_, (below_setRow b6 (by omega)).trans (belowK_b (w := w) (Nat.le_refl _) _ D' _ _ (by omega) hKd7 rfl rfl)⟩
    · rw [HTT.out]
      exact ownsRow_putObj owP _ hKd7 rfl
    · rw [HZZ.out, HZL.out]
      exact ownsRow_putObj owC _ hKd7 rfl
  case stop =>
    rintro D c pre W _ _ h _
    exact h.elim
end Go.Proofs.YtcocfnjbgceidaaDoor
