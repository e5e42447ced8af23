import Derived.Test.YtmmninlnpnhboaaGreatDoorGbj
import Derived.Test.YtmmninlnpnhboaaGreatDoorGbh
import Derived.Test.YtmmninlnpnhboaaGreatDoorGbl
namespace Go.Proofs.YtmmninlnpnhboaaGreatDoor
open Go.RowKit Go.Shelf
attribute [local go_sem] Oper.semAt_some
/-- the notes of some pins -/
def noL (l : List (Int × Int)) (ps : List (Nat × Nat)) : List (Int × Int) := ps.map fun p => ((p.1 : Int), hPi l p.2)
theorem noL_len (l : List (Int × Int)) (ps : List (Nat × Nat)) : (noL l ps).length = ps.length := by simp [noL]
theorem noL_snoc (l : List (Int × Int)) (ps : List (Nat × Nat)) (p : Nat × Nat) : noL l (ps ++ [p]) = noL l ps ++ [((p.1 : Int), hPi l p.2)] := by simp [noL]
theorem bxn_keep {W W' : World} {b : Nat} {t : TypeId} {v : Value} (h : Boxed W b t v) (hb : Below W.heap.size W W') : Boxed W' b t v := (hb.block b h.lt).trans h
theorem kon_below {W W' : World} (hb : Below W.heap.size W W') : KeepsOthers W W' := ⟨hb.size, fun k _ hk _ => (hb.block k (Array.getElem?_eq_some_iff.1 hk).1).trans hk⟩
theorem cell_two_newN (w : World) (x y : Value) (t : TypeId) : ∀ j u, ([x, y] : List Value)[j]? = some u → (w.alloc (.cells #[x, y] t)).cell? ((⟨w.heap.size, 0, none⟩ : Addr).add j) = some u := by
  intro j u hu
  rw [Addr.add_lit]
  match j, hu with
  | 0, hu => simp at hu; subst hu; simp [go_sem]
  | 1, hu => simp at hu; subst hu; simp [go_sem]
theorem own_shapeN {w : World} {base : Nat} {e : TypeId} {size n : Nat} {v : Value} {xs : List Value} (h : w.ownsRow base e size v n xs) : ∃ A c, v = .slice A n c := by
  rcases h.2 with ⟨rfl, _⟩ | ⟨g, cap, cur, rfl, _⟩
  · have := h.1
    exact ⟨none, 0, by simp_all⟩
  · exact ⟨_, _, rfl⟩
set_option maxHeartbeats 4000000 in
set_option maxRecDepth 100000 in
theorem notes_any (S : Nat) (A : Option Addr) (c : Nat) (l : List (Int × Int)) (d : Nat → Int) (w : World) (hA : HA w A l) (hS2 : 2 ≤ S ∧ S ≤ 96) (hl24 : l.length ≤ 24) (hwf : HWF l) (hdr : drB S l.length d = true) (hd : DWF d) (hT : TabW w) :
    Calls Tryz.prog 68 #[.agg #[.int .i64 S, .slice A l.length c], .agg (da d)] w (OwnT w (noL l (pinsL d))) := by
  obtain ⟨i0, hi, hz0, hz1, hz2⟩ := info_parts info65
  have HR0 := hide (show Dr (((w.alloc (.cells #[.int .i64 S, .slice A l.length c] 100)).alloc (.cells (da d) 33)).alloc (.cells #[.slice none 0 0] 41)) (w.heap.size + 1) 33 d from heap_old' (heap_new' _ _ _ (by simp))).range
  refine (callsIn_wide (n := 5)).1 ?_
  refine callsIn_of_wp_marks Tryz.func68 rfl trivial ?_ rfl
  simp only [Tryz.ntmps68, List.size_toArray, List.length_cons, List.length_nil, Nat.reduceAdd, Nat.reduceSub, Array.replicate_succ, Array.replicate_zero, List.push_toArray, List.append_toArray, List.nil_append, List.cons_append]
  refine wpIn_wide.2 ?_
  go_wp2_with (first | (with_reducible refine wpList_load_da rfl 33 (.tmp 3) rfl (w.heap.size + 1) 0 rfl d _ HR0.out Tryz.underlying33 rfl (dInfo d) ?_) | (go_at_call 96; refine (pins_call _ _).mono ?_; rintro e w5 ⟨rfl, rfl⟩))
  obtain ⟨W0, hW0⟩ : ∃ W0, ((((w.alloc (.cells #[.int .i64 S, .slice A l.length c] 100)).alloc (.cells (da d) 33)).alloc (.cells #[.slice none 0 0] 41)).alloc (.cells (da d) 33)) = W0 := ⟨_, rfl⟩
  have hs0 : W0.heap.size = w.heap.size + 1 + 1 + 1 + 1 := by rw [← hW0]; simp
  have hbW : Below w.heap.size w W0 := by rw [← hW0]; exact ((((Below.refl _ _).alloc (Nat.le_refl _) _).alloc (by simp) _).alloc (by simp; omega) _).alloc (by simp; omega) _
  have M0 : W0.heap[w.heap.size]? = some (.cells #[.int .i64 S, .slice A l.length c] 100 (0, 0)) := by rw [← hW0]; exact heap_old' (heap_old' (heap_old' (heap_new' _ _ _ rfl)))
  have Bx0 : Boxed W0 (w.heap.size + 1 + 1) 41 (.slice none 0 0) := by rw [← hW0]; exact heap_old' (heap_new' _ _ _ (by simp))
  have DW : Dr W0 (w.heap.size + 1 + 1 + 1) 33 d := by rw [← hW0]; exact heap_new' _ _ _ (by simp)
  have M1 : W0.cell? ⟨w.heap.size, 1, none⟩ = some (.slice A l.length c) := by rw [cell_of_row _ _ 1 _ _ _ M0]; rfl
  have hTW : TabW W0 := hT.keep hbW
  have hTl := hT.lt
  simp only [hW0]
  clear hW0 HR0 M0
  refine (wpIn_wide (n := 5)).1 ?_
  refine wpIn_rangeFunc_ownF rfl (by omega) (gf := 113) (lb := #[.pointer (some ⟨w.heap.size + 1 + 1 + 1, 0, none⟩)]) rfl trivial (enters_of Tryz.func113 (by kernel_rfl) rfl)
    (pins_stops (5 - 1) (by omega) (w.heap.size + 1 + 1 + 1) d hd W0 DW hTW)
    (fun h1 h2 h => h2 (h1 h)) (fun W r o o' _ ho hc _ h => TabW.kb r o' ho hc h) (Below.refl _ _) (fun _ => rfl)
    (fun pre W => ((((∃ v, Boxed W (w.heap.size + 1 + 1) 41 v ∧ W.ownsRow (w.heap.size + 1 + 1) 65 2 v pre.length (cellsOf (noL l (pre.map fun x : PinOf d => x.1))) ∧ True) ∧ W.cell? ⟨w.heap.size, 1, none⟩ = some (.slice A l.length c)) ∧ w.heap.size + 1 + 1 + 1 ≤ W.heap.size) ∧ TabW W) ∧ Below w.heap.size w W)
    (fun _ _ _ => False)
    (OwnFrom.and (OwnFrom.and (OwnFrom.and (OwnFrom.and ((holdsRow_own (w.heap.size + 1 + 1) (w.heap.size + 1 + 1) 41 65 2 (fun pre : List (PinOf d) => pre.length) (fun pre : List (PinOf d) => cellsOf (noL l (pre.map fun x : PinOf d => x.1))) (fun _ _ => True)).from _) (fun _ _ _ _ hs hg hr => cell_kept hs hg (fun r e => (hr r e).2))) (fun _ _ _ _ hs hg _ => Nat.le_trans hs hg.size)) (fun _ _ _ _ hs hg hr j hj => cell_kept (hs j hj) hg (fun r e => (hr r e).2))) (ownFrom_below (Nat.le_refl _) (by omega)))
    (fun _ _ _ _ _ hs _ _ => hs)
    ⟨⟨⟨⟨⟨_, Bx0, ⟨rfl, Or.inl ⟨rfl, rfl⟩⟩, trivial⟩, M1⟩, by omega⟩, hTW⟩, hbW⟩ ?a1 ?assign ?body ?done ?stop
  case assign =>
    intro l x W K hK
    gi_wp2
    exact hK
  case body =>
    rintro r pre x W ⟨⟨⟨⟨⟨v, hv, hown, -⟩, hM⟩, hsz⟩, hTb⟩, hBel⟩ hlen
    obtain ⟨⟨k, t⟩, hx1, hx2, hx3⟩ := x
    dsimp only at hx1 hx2 hx3
    obtain ⟨hin1, hin2⟩ := pin_in hdr hd hx1 hx3
    obtain ⟨A1, c1, rfl⟩ := own_shapeN hown
    have hAW := hA.below hBel
    obtain ⟨p, hp⟩ : ∃ p, p = hPi l t := ⟨_, rfl⟩
    have hpw : -128 ≤ p ∧ p ≤ 127 := by rw [hp]; exact (hwf t hin2).1
    obtain ⟨R, hR⟩ : ∃ R, R = hRe l t := ⟨_, rfl⟩
    have HSN := hide (show noL l ((pre ++ [(⟨(k, t), hx1, hx2, hx3⟩ : PinOf d)]).map fun x : PinOf d => x.1) = noL l (pre.map fun x : PinOf d => x.1) ++ [((k : Int), p)] by rw [List.map_append, List.map_cons, List.map_nil, noL_snoc, hp])
    have hk96 : (k : Int) < 200 := by omega
    have KS : ∃ ty, (∀ W', Below W.heap.size W W' → Calls Tryz.prog 97 #[.slice A l.length c, .int .i64 t] W' fun e w' => e = .returned (.iface ty (.agg #[.int .i8 p, .int .i8 R])) ∧ W' = w') ∧ (∀ (k : Nat) W, (method (k + 1) ty (.agg #[.int .i8 p, .int .i8 R]) "loop.example/g01311/impl.noteAt").run Tryz.prog W = .ok (158, .agg #[.int .i8 p, .int .i8 R]) W) := by
      by_cases h1 : hRe l t = 1
      · exact ⟨195, fun W' hb => by rw [hp, hR]; exact striker_quick A c l t W' (hAW.below hb) hin2 hl24 h1, fun k W => meth_quick p R k W⟩
      · exact ⟨196, fun W' hb => by rw [hp, hR]; exact striker_slow A c l t W' (hAW.below hb) hin2 hl24 h1, fun k W => meth_slow p R k W⟩
    obtain ⟨ty, KS, hme⟩ := KS
    have KS := hide KS
    obtain ⟨n, hn⟩ : ∃ n, pre.length = n := ⟨_, rfl⟩
    obtain ⟨N, hN⟩ : ∃ N, N = noL l (pre.map fun x : PinOf d => x.1) := ⟨_, rfl⟩
    rw [← hN] at hown HSN
    rw [hn] at hown hlen hv
    have HN := hide hn
    clear hN hn hp hR hAW hin2
    refine wpIn_block ?_
    refine wpIn_region_held_drew (S := fun w' => w'.cell? ⟨w.heap.size, 1, none⟩ = some (.slice A l.length c)) (by kernel_rfl) (by kernel_rfl) ?hq (((Below.refl W.heap.size W).drew.cell (p := ⟨w.heap.size, 1, none⟩) (World.block_lt_of_cell? _ _ hM)).trans hM) fun hS1 => ?_
    case hq => rintro ⟨_, _, h⟩; exact h
    have hb1 : Below W.heap.size W W.drew := (Below.refl _ _).drew
    have bx1 := bxn_keep hv hb1
    have ow1 := own_keep hown hb1
    have T1 := hTb.keep hb1
    generalize W.drew = W1 at *

    refine wpAnyH_take (i := 1) (v := .pointer (some ⟨w.heap.size, 1, none⟩)) rfl (by kernel_rfl) (by kernel_rfl) (by kernel_rfl) (fun _ _ _ h => h) (Or.inl ⟨by rfl, fun w' _ => by go_simp⟩) hS1 ?_
    change wpAnyH _ _ _ _ _ _ _ (Act.put _ (some 13) _) _
    simp only [Act.put, List.setIfInBounds_toArray, List.set_cons_zero, List.set_cons_succ]
    refine wpAnyH_take (i := 2) (v := .slice A l.length c) rfl (by kernel_rfl) (by kernel_rfl) (by kernel_rfl) (fun _ _ _ h => h) (Or.inl ⟨by rfl, fun w' h => ?_⟩) hS1 ?_
    · have c0 := h
      clear h
      go_simp
    change wpAnyH _ _ _ _ _ _ _ (Act.put _ (some 14) _) _
    simp only [Act.put, List.setIfInBounds_toArray, List.set_cons_zero, List.set_cons_succ]
    refine wpAnyH_take (i := 3) (v := .int .i64 (t : Int)) rfl (by kernel_rfl) (by kernel_rfl) (by kernel_rfl) (fun _ _ _ h => h) (Or.inl ⟨by rfl, fun w' _ => by go_simp⟩) hS1 ?_
    change wpAnyH _ _ _ _ _ _ _ (Act.put _ (some 15) _) _
    simp only [Act.put, List.setIfInBounds_toArray, List.set_cons_zero, List.set_cons_succ]
    refine wpAnyH_take (i := 5) (v := .int .i64 (k : Int)) rfl (by kernel_rfl) (by kernel_rfl) (by kernel_rfl) (fun _ _ _ h => h) (Or.inl ⟨by rfl, fun w' _ => by go_simp⟩) hS1 ?_
    change wpAnyH _ _ _ _ _ _ _ (Act.put _ (some 17) _) _
    simp only [Act.put, List.setIfInBounds_toArray, List.set_cons_zero, List.set_cons_succ]
    refine wpAnyH_ready (rs := [0, 4]) (by kernel_rfl) (by simp) (AllReadyH.cons rfl ?_ (AllReadyH.cons rfl ?_ AllReadyH.nil))
    · intro K hK
      have pc0 := bx1.cell
      rw [if_pos (by rfl)]
      go_simp
      refine hK.out _ _ hS1 (fun hS2 => ?_)
      clear hK K pc0
      try (change wpAnyH _ _ _ _ _ _ _ (Act.put _ (some 12) _) _)
      try simp only [Act.put, List.setIfInBounds_toArray, List.set_cons_zero, List.set_cons_succ]
      refine wpAnyH_ready (rs := [4]) (by kernel_rfl) (by simp) (AllReadyH.cons rfl ?_ AllReadyH.nil)
      · intro K hK
        rw [if_pos (by rfl)]
        go_simp
        refine (KS.out _ hb1).mono ?_
        rintro e w4 ⟨rfl, rfl⟩
        refine hK.out _ _ hS1 (fun hS3 => ?_)
        clear hK K
        try (change wpAnyH _ _ _ _ _ _ _ (Act.put _ (some 16) _) _)
        try simp only [Act.put, List.setIfInBounds_toArray, List.set_cons_zero, List.set_cons_succ]
        refine wpAnyH_ready (rs := [6]) (by kernel_rfl) (by simp) (AllReadyH.cons rfl ?_ AllReadyH.nil)
        · intro K hK
          rw [if_pos (by rfl)]
          go_simp
          refine (noteAt_any p R k _ (by omega)).mono ?_
          rintro e w6 ⟨rfl, hb6'⟩
          have bx6 := bxn_keep bx1 hb6'
          have ow6 := own_keep ow1 hb6'
          have T6 := T1.keep hb6'
          have hb6 := hb1.trans (hb6'.mono hb1.size)
          have hs6 := hb6.size
          have m6 := (hb6'.cell (p := ⟨w.heap.size, 1, none⟩) (World.block_lt_of_cell? _ _ hS1)).trans hS1
          refine hK.out _ _ m6 (fun hS4 => ?_)
          clear hK K
          try (change wpAnyH _ _ _ _ _ _ _ (Act.put _ (some 18) _) _)
          try simp only [Act.put, List.setIfInBounds_toArray, List.set_cons_zero, List.set_cons_succ]
          refine wpAnyH_ready (rs := [7]) (by kernel_rfl) (by simp) (AllReadyH.cons rfl ?_ AllReadyH.nil)
          · intro K hK
            rw [if_pos (by rfl)]
            go_simp
            have m7 := (al_below w6 (.cells #[.int .i16 (k : Int), .int .i8 p] 65)).cell (p := ⟨w.heap.size, 1, none⟩) (World.block_lt_of_cell? _ _ m6) |>.trans m6
            have bx7 := bxn_keep bx6 (al_below w6 (.cells #[.int .i16 (k : Int), .int .i8 p] 65))
            refine hK.out _ _ m7 (fun hS5 => ?_)
            clear hK K
            try (change wpAnyH _ _ _ _ _ _ _ (Act.put _ (some 19) _) _)
            try simp only [Act.put, List.setIfInBounds_toArray, List.set_cons_zero, List.set_cons_succ]
            refine wpAnyH_ready (rs := [8]) (by kernel_rfl) (by simp) (AllReadyH.cons rfl ?_ AllReadyH.nil)
            have own7 := ow6.alloc (.cells #[.int .i16 (k : Int), .int .i8 p] 65)
            have hnew := cell_two_newN w6 (.int .i16 (k : Int)) (.int .i8 p) 65
            intro K hK
            rw [if_pos (by rfl)]
            refine wp_append_own _ (.tmp 12) (.tmp 19) 41 rfl (w.heap.size + 1 + 1) 65 i0 (.agg #[.int .i16 0, .int .i8 0]) 2 4 Tryz.underlying41 hi hz0 hz1 hz2 rfl (by decide) _ _ _ rfl own7 ⟨w6.heap.size, 0, none⟩ 1 1 [.int .i16 (k : Int), .int .i8 p] rfl rfl hnew (fun x hx => by simp at hx; rcases hx with rfl | rfl <;> rfl) (by unfold maxLen; omega) (by omega) (by simp; omega) ?_
            intro v8 w8 hown8 hgrow8 hnil8
            obtain ⟨A8, c8, rfl⟩ := own_shapeN hown8
            obtain ⟨u1, u2, u3, u4, u5⟩ := bx6.appended (by decide) ow6 (by omega) (Nat.le_refl _) hown8 hgrow8
            have m8 := hgrow8.cell m7 (fun e => by have h := (own7.lt w.heap.size e.symm).1; omega)
            refine hK.out _ _ m8 (fun hS8 => ?_)
            clear hK K
            try (change wpAnyH _ _ _ _ _ _ _ (Act.put _ (some 20) _) _)
            try simp only [Act.put, List.setIfInBounds_toArray, List.set_cons_zero, List.set_cons_succ]
            refine wpAnyH_ready (rs := [9]) (by kernel_rfl) (by simp) (AllReadyH.cons rfl ?_ AllReadyH.nil)
            have f2 := u1.cell
            have f3 := u1.frozen
            intro K hK
            rw [if_pos (by rfl)]
            go_simp
            refine hK.out _ _ ((World.cell?_setCell_far _ ⟨w.heap.size + 1 + 1, 0, none⟩ ⟨w.heap.size, 1, none⟩ _ (show w.heap.size + 1 + 1 ≠ w.heap.size by omega)).trans m8) (fun hS9 => ?_)
            clear hK K f2 f3
            refine wpAnyH_done (by kernel_rfl) ?_ _
            have T9 : TabW (w8.setCell ⟨w.heap.size + 1 + 1, 0, none⟩ (.slice A8 (n + 1) c8)) := fun j hj => (u5.cell (p := ⟨_, j, none⟩) (by dsimp only; omega)).trans (T6 j hj)
            refine ⟨(kon_below hb6).trans u4, fun _ => T9, ⟨⟨⟨⟨_, u2, ?_, trivial⟩, hS9⟩, ?_⟩, T9⟩, (step_below hb6 hBel).trans (u5.mono (by omega))⟩
            · rw [HSN.out, cellsOf_append, List.length_append, HN.out]
              exact u3
            · have := hb6.size
              have := u5.size
              omega
    · intro K hK
      rw [if_pos (by rfl)]
      go_simp
      refine (KS.out _ hb1).mono ?_
      rintro e w4 ⟨rfl, rfl⟩
      refine hK.out _ _ hS1 (fun hS3 => ?_)
      clear hK K
      try (change wpAnyH _ _ _ _ _ _ _ (Act.put _ (some 16) _) _)
      try simp only [Act.put, List.setIfInBounds_toArray, List.set_cons_zero, List.set_cons_succ]
      refine wpAnyH_ready (rs := [0, 6]) (by kernel_rfl) (by simp) (AllReadyH.cons rfl ?_ (AllReadyH.cons rfl ?_ AllReadyH.nil))
      · intro K hK
        have pc0 := bx1.cell
        rw [if_pos (by rfl)]
        go_simp
        refine hK.out _ _ hS1 (fun hS2 => ?_)
        clear hK K pc0
        try (change wpAnyH _ _ _ _ _ _ _ (Act.put _ (some 12) _) _)
        try simp only [Act.put, List.setIfInBounds_toArray, List.set_cons_zero, List.set_cons_succ]
        refine wpAnyH_ready (rs := [6]) (by kernel_rfl) (by simp) (AllReadyH.cons rfl ?_ AllReadyH.nil)
        · intro K hK
          rw [if_pos (by rfl)]
          go_simp
          refine (noteAt_any p R k _ (by omega)).mono ?_
          rintro e w6 ⟨rfl, hb6'⟩
          have bx6 := bxn_keep bx1 hb6'
          have ow6 := own_keep ow1 hb6'
          have T6 := T1.keep hb6'
          have hb6 := hb1.trans (hb6'.mono hb1.size)
          have hs6 := hb6.size
          have m6 := (hb6'.cell (p := ⟨w.heap.size, 1, none⟩) (World.block_lt_of_cell? _ _ hS1)).trans hS1
          refine hK.out _ _ m6 (fun hS4 => ?_)
          clear hK K
          try (change wpAnyH _ _ _ _ _ _ _ (Act.put _ (some 18) _) _)
          try simp only [Act.put, List.setIfInBounds_toArray, List.set_cons_zero, List.set_cons_succ]
          refine wpAnyH_ready (rs := [7]) (by kernel_rfl) (by simp) (AllReadyH.cons rfl ?_ AllReadyH.nil)
          · intro K hK
            rw [if_pos (by rfl)]
            go_simp
            have m7 := (al_below w6 (.cells #[.int .i16 (k : Int), .int .i8 p] 65)).cell (p := ⟨w.heap.size, 1, none⟩) (World.block_lt_of_cell? _ _ m6) |>.trans m6
            have bx7 := bxn_keep bx6 (al_below w6 (.cells #[.int .i16 (k : Int), .int .i8 p] 65))
            refine hK.out _ _ m7 (fun hS5 => ?_)
            clear hK K
            try (change wpAnyH _ _ _ _ _ _ _ (Act.put _ (some 19) _) _)
            try simp only [Act.put, List.setIfInBounds_toArray, List.set_cons_zero, List.set_cons_succ]
            refine wpAnyH_ready (rs := [8]) (by kernel_rfl) (by simp) (AllReadyH.cons rfl ?_ AllReadyH.nil)
            have own7 := ow6.alloc (.cells #[.int .i16 (k : Int), .int .i8 p] 65)
            have hnew := cell_two_newN w6 (.int .i16 (k : Int)) (.int .i8 p) 65
            intro K hK
            rw [if_pos (by rfl)]
            refine wp_append_own _ (.tmp 12) (.tmp 19) 41 rfl (w.heap.size + 1 + 1) 65 i0 (.agg #[.int .i16 0, .int .i8 0]) 2 4 Tryz.underlying41 hi hz0 hz1 hz2 rfl (by decide) _ _ _ rfl own7 ⟨w6.heap.size, 0, none⟩ 1 1 [.int .i16 (k : Int), .int .i8 p] rfl rfl hnew (fun x hx => by simp at hx; rcases hx with rfl | rfl <;> rfl) (by unfold maxLen; omega) (by omega) (by simp; omega) ?_
            intro v8 w8 hown8 hgrow8 hnil8
            obtain ⟨A8, c8, rfl⟩ := own_shapeN hown8
            obtain ⟨u1, u2, u3, u4, u5⟩ := bx6.appended (by decide) ow6 (by omega) (Nat.le_refl _) hown8 hgrow8
            have m8 := hgrow8.cell m7 (fun e => by have h := (own7.lt w.heap.size e.symm).1; omega)
            refine hK.out _ _ m8 (fun hS8 => ?_)
            clear hK K
            try (change wpAnyH _ _ _ _ _ _ _ (Act.put _ (some 20) _) _)
            try simp only [Act.put, List.setIfInBounds_toArray, List.set_cons_zero, List.set_cons_succ]
            refine wpAnyH_ready (rs := [9]) (by kernel_rfl) (by simp) (AllReadyH.cons rfl ?_ AllReadyH.nil)
            have f2 := u1.cell
            have f3 := u1.frozen
            intro K hK
            rw [if_pos (by rfl)]
            go_simp
            refine hK.out _ _ ((World.cell?_setCell_far _ ⟨w.heap.size + 1 + 1, 0, none⟩ ⟨w.heap.size, 1, none⟩ _ (show w.heap.size + 1 + 1 ≠ w.heap.size by omega)).trans m8) (fun hS9 => ?_)
            clear hK K f2 f3
            refine wpAnyH_done (by kernel_rfl) ?_ _
            have T9 : TabW (w8.setCell ⟨w.heap.size + 1 + 1, 0, none⟩ (.slice A8 (n + 1) c8)) := fun j hj => (u5.cell (p := ⟨_, j, none⟩) (by dsimp only; omega)).trans (T6 j hj)
            refine ⟨(kon_below hb6).trans u4, fun _ => T9, ⟨⟨⟨⟨_, u2, ?_, trivial⟩, hS9⟩, ?_⟩, T9⟩, (step_below hb6 hBel).trans (u5.mono (by omega))⟩
            · rw [HSN.out, cellsOf_append, List.length_append, HN.out]
              exact u3
            · have := hb6.size
              have := u5.size
              omega
      · intro K hK
        rw [if_pos (by rfl)]
        go_simp
        refine (noteAt_any p R k _ (by omega)).mono ?_
        rintro e w6 ⟨rfl, hb6'⟩
        have bx6 := bxn_keep bx1 hb6'
        have ow6 := own_keep ow1 hb6'
        have T6 := T1.keep hb6'
        have hb6 := hb1.trans (hb6'.mono hb1.size)
        have hs6 := hb6.size
        have m6 := (hb6'.cell (p := ⟨w.heap.size, 1, none⟩) (World.block_lt_of_cell? _ _ hS1)).trans hS1
        refine hK.out _ _ m6 (fun hS4 => ?_)
        clear hK K
        try (change wpAnyH _ _ _ _ _ _ _ (Act.put _ (some 18) _) _)
        try simp only [Act.put, List.setIfInBounds_toArray, List.set_cons_zero, List.set_cons_succ]
        refine wpAnyH_ready (rs := [0, 7]) (by kernel_rfl) (by simp) (AllReadyH.cons rfl ?_ (AllReadyH.cons rfl ?_ AllReadyH.nil))
        · intro K hK
          have pc0 := bx6.cell
          rw [if_pos (by rfl)]
          go_simp
          refine hK.out _ _ m6 (fun hS2 => ?_)
          clear hK K pc0
          try (change wpAnyH _ _ _ _ _ _ _ (Act.put _ (some 12) _) _)
          try simp only [Act.put, List.setIfInBounds_toArray, List.set_cons_zero, List.set_cons_succ]
          refine wpAnyH_ready (rs := [7]) (by kernel_rfl) (by simp) (AllReadyH.cons rfl ?_ AllReadyH.nil)
          · intro K hK
            rw [if_pos (by rfl)]
            go_simp
            have m7 := (al_below w6 (.cells #[.int .i16 (k : Int), .int .i8 p] 65)).cell (p := ⟨w.heap.size, 1, none⟩) (World.block_lt_of_cell? _ _ m6) |>.trans m6
            have bx7 := bxn_keep bx6 (al_below w6 (.cells #[.int .i16 (k : Int), .int .i8 p] 65))
            refine hK.out _ _ m7 (fun hS5 => ?_)
            clear hK K
            try (change wpAnyH _ _ _ _ _ _ _ (Act.put _ (some 19) _) _)
            try simp only [Act.put, List.setIfInBounds_toArray, List.set_cons_zero, List.set_cons_succ]
            refine wpAnyH_ready (rs := [8]) (by kernel_rfl) (by simp) (AllReadyH.cons rfl ?_ AllReadyH.nil)
            have own7 := ow6.alloc (.cells #[.int .i16 (k : Int), .int .i8 p] 65)
            have hnew := cell_two_newN w6 (.int .i16 (k : Int)) (.int .i8 p) 65
            intro K hK
            rw [if_pos (by rfl)]
            refine wp_append_own _ (.tmp 12) (.tmp 19) 41 rfl (w.heap.size + 1 + 1) 65 i0 (.agg #[.int .i16 0, .int .i8 0]) 2 4 Tryz.underlying41 hi hz0 hz1 hz2 rfl (by decide) _ _ _ rfl own7 ⟨w6.heap.size, 0, none⟩ 1 1 [.int .i16 (k : Int), .int .i8 p] rfl rfl hnew (fun x hx => by simp at hx; rcases hx with rfl | rfl <;> rfl) (by unfold maxLen; omega) (by omega) (by simp; omega) ?_
            intro v8 w8 hown8 hgrow8 hnil8
            obtain ⟨A8, c8, rfl⟩ := own_shapeN hown8
            obtain ⟨u1, u2, u3, u4, u5⟩ := bx6.appended (by decide) ow6 (by omega) (Nat.le_refl _) hown8 hgrow8
            have m8 := hgrow8.cell m7 (fun e => by have h := (own7.lt w.heap.size e.symm).1; omega)
            refine hK.out _ _ m8 (fun hS8 => ?_)
            clear hK K
            try (change wpAnyH _ _ _ _ _ _ _ (Act.put _ (some 20) _) _)
            try simp only [Act.put, List.setIfInBounds_toArray, List.set_cons_zero, List.set_cons_succ]
            refine wpAnyH_ready (rs := [9]) (by kernel_rfl) (by simp) (AllReadyH.cons rfl ?_ AllReadyH.nil)
            have f2 := u1.cell
            have f3 := u1.frozen
            intro K hK
            rw [if_pos (by rfl)]
            go_simp
            refine hK.out _ _ ((World.cell?_setCell_far _ ⟨w.heap.size + 1 + 1, 0, none⟩ ⟨w.heap.size, 1, none⟩ _ (show w.heap.size + 1 + 1 ≠ w.heap.size by omega)).trans m8) (fun hS9 => ?_)
            clear hK K f2 f3
            refine wpAnyH_done (by kernel_rfl) ?_ _
            have T9 : TabW (w8.setCell ⟨w.heap.size + 1 + 1, 0, none⟩ (.slice A8 (n + 1) c8)) := fun j hj => (u5.cell (p := ⟨_, j, none⟩) (by dsimp only; omega)).trans (T6 j hj)
            refine ⟨(kon_below hb6).trans u4, fun _ => T9, ⟨⟨⟨⟨_, u2, ?_, trivial⟩, hS9⟩, ?_⟩, T9⟩, (step_below hb6 hBel).trans (u5.mono (by omega))⟩
            · rw [HSN.out, cellsOf_append, List.length_append, HN.out]
              exact u3
            · have := hb6.size
              have := u5.size
              omega
        · intro K hK
          rw [if_pos (by rfl)]
          go_simp
          have m7 := (al_below w6 (.cells #[.int .i16 (k : Int), .int .i8 p] 65)).cell (p := ⟨w.heap.size, 1, none⟩) (World.block_lt_of_cell? _ _ m6) |>.trans m6
          have bx7 := bxn_keep bx6 (al_below w6 (.cells #[.int .i16 (k : Int), .int .i8 p] 65))
          refine hK.out _ _ m7 (fun hS5 => ?_)
          clear hK K
          try (change wpAnyH _ _ _ _ _ _ _ (Act.put _ (some 19) _) _)
          try simp only [Act.put, List.setIfInBounds_toArray, List.set_cons_zero, List.set_cons_succ]
          refine wpAnyH_ready (rs := [0]) (by kernel_rfl) (by simp) (AllReadyH.cons rfl ?_ AllReadyH.nil)
          · intro K hK
            have pc0 := bx7.cell
            rw [if_pos (by rfl)]
            go_simp
            refine hK.out _ _ m7 (fun hS2 => ?_)
            clear hK K pc0
            try (change wpAnyH _ _ _ _ _ _ _ (Act.put _ (some 12) _) _)
            try simp only [Act.put, List.setIfInBounds_toArray, List.set_cons_zero, List.set_cons_succ]
            refine wpAnyH_ready (rs := [8]) (by kernel_rfl) (by simp) (AllReadyH.cons rfl ?_ AllReadyH.nil)
            have own7 := ow6.alloc (.cells #[.int .i16 (k : Int), .int .i8 p] 65)
            have hnew := cell_two_newN w6 (.int .i16 (k : Int)) (.int .i8 p) 65
            intro K hK
            rw [if_pos (by rfl)]
            refine wp_append_own _ (.tmp 12) (.tmp 19) 41 rfl (w.heap.size + 1 + 1) 65 i0 (.agg #[.int .i16 0, .int .i8 0]) 2 4 Tryz.underlying41 hi hz0 hz1 hz2 rfl (by decide) _ _ _ rfl own7 ⟨w6.heap.size, 0, none⟩ 1 1 [.int .i16 (k : Int), .int .i8 p] rfl rfl hnew (fun x hx => by simp at hx; rcases hx with rfl | rfl <;> rfl) (by unfold maxLen; omega) (by omega) (by simp; omega) ?_
            intro v8 w8 hown8 hgrow8 hnil8
            obtain ⟨A8, c8, rfl⟩ := own_shapeN hown8
            obtain ⟨u1, u2, u3, u4, u5⟩ := bx6.appended (by decide) ow6 (by omega) (Nat.le_refl _) hown8 hgrow8
            have m8 := hgrow8.cell m7 (fun e => by have h := (own7.lt w.heap.size e.symm).1; omega)
            refine hK.out _ _ m8 (fun hS8 => ?_)
            clear hK K
            try (change wpAnyH _ _ _ _ _ _ _ (Act.put _ (some 20) _) _)
            try simp only [Act.put, List.setIfInBounds_toArray, List.set_cons_zero, List.set_cons_succ]
            refine wpAnyH_ready (rs := [9]) (by kernel_rfl) (by simp) (AllReadyH.cons rfl ?_ AllReadyH.nil)
            have f2 := u1.cell
            have f3 := u1.frozen
            intro K hK
            rw [if_pos (by rfl)]
            go_simp
            refine hK.out _ _ ((World.cell?_setCell_far _ ⟨w.heap.size + 1 + 1, 0, none⟩ ⟨w.heap.size, 1, none⟩ _ (show w.heap.size + 1 + 1 ≠ w.heap.size by omega)).trans m8) (fun hS9 => ?_)
            clear hK K f2 f3
            refine wpAnyH_done (by kernel_rfl) ?_ _
            have T9 : TabW (w8.setCell ⟨w.heap.size + 1 + 1, 0, none⟩ (.slice A8 (n + 1) c8)) := fun j hj => (u5.cell (p := ⟨_, j, none⟩) (by dsimp only; omega)).trans (T6 j hj)
            refine ⟨(kon_below hb6).trans u4, fun _ => T9, ⟨⟨⟨⟨_, u2, ?_, trivial⟩, hS9⟩, ?_⟩, T9⟩, (step_below hb6 hBel).trans (u5.mono (by omega))⟩
            · rw [HSN.out, cellsOf_append, List.length_append, HN.out]
              exact u3
            · have := hb6.size
              have := u5.size
              omega
  case done =>
    rintro D ys W hD hS ⟨⟨⟨⟨⟨v, hv, hown, -⟩, _⟩, _⟩, _⟩, hBel⟩ hK
    have hl2 : ys.length = (noL l (pinsL d)).length := by rw [noL_len, ← hS, List.length_map]
    rw [hS, hl2] at hown
    obtain ⟨A1, c1, rfl⟩ := own_shapeN hown
    have f1 := hv.cell
    go_wp2_with fail
    refine ⟨by simp, .inl ⟨_, _, rfl, run_takeDeferred hK, ?_⟩⟩
    refine ⟨_, results_tmp (fn := Tryz.f68) rfl _ _ _, ?_⟩
    exact ⟨A1, c1, rfl, own_base (ownsRow_putObj hown _ hK rfl) (by omega), hBel.trans (belowK_b (w := w) (Nat.le_refl _) W D _ _ (by omega) hK rfl rfl)⟩
  case stop =>
    rintro D c pre W _ _ h _
    exact h.elim
end Go.Proofs.YtmmninlnpnhboaaGreatDoor
