import Derived.Test.YtklkomgpaamcpaaBsArr
namespace Go.Proofs.Ytklkomgpaamcpaa
open Go.RowKit Go.Maps Go.Shelf
attribute [local go_sem] Oper.semAt_some

def Bx (W : World) (b : Nat) (v : Value) : Prop := W.heap[b]? = some (.cells #[v] 2 (0, 0))
theorem Bx.lt {w : World} {b : Nat} {v : Value} (h : Bx w b v) : b < w.heap.size := (Array.getElem?_eq_some_iff.1 h).1
theorem Bx.cell {w : World} {b : Nat} {v : Value} (h : Bx w b v) : w.cell? ⟨b, 0, none⟩ = some v := by rw [cell_of_row w b 0 _ _ _ h]; rfl
theorem Bx.frozen {w : World} {b : Nat} {v : Value} (h : Bx w b v) : w.frozen? ⟨b, 0, none⟩ = false := frozen_of_row w b 0 _ _ h
theorem Bx.set {w : World} {b : Nat} {v : Value} (h : Bx w b v) (v' : Value) : Bx (w.setCell ⟨b, 0, none⟩ v') b v' := by
  have := heap_setCell_same w b 0 _ _ v' h
  unfold Bx
  rw [this]
  rfl
theorem Bx.other {w : World} {b g i : Nat} {v : Value} (h : Bx w b v) (hne : b ≠ g) (v' : Value) : Bx (w.setCell ⟨g, i, none⟩ v') b v := (heap_setCell_other w ⟨g, i, none⟩ b v' hne).trans h
theorem Arr.other {w : World} {b g i : Nat} {f : Nat → Nat} (h : Arr w b f) (hne : b ≠ g) (v' : Value) : Arr (w.setCell ⟨g, i, none⟩ v') b f := (heap_setCell_other w ⟨g, i, none⟩ b v' hne).trans h
theorem cells_own {B b : Nat} {W W' : World} {row : Option Nat} {cs : Array Value} {t : TypeId} {fr : Nat × Nat} (h : W.heap[b]? = some (.cells cs t fr)) (hg : W.grownBy W' row) (hr : ∀ r, row = some r → B ≤ r ∧ ∃ o : Obj, W.heap[r]? = some o ∧ o.isCells = false) : W'.heap[b]? = some (.cells cs t fr) := by
  refine (hg.block b (Array.getElem?_eq_some_iff.1 h).1 ?_).trans h
  intro e
  obtain ⟨_, o, ho, hc⟩ := hr b e.symm
  rw [h] at ho
  cases ho
  cases hc

theorem outward_call (w : World) : Calls Try.prog 51 #[.int .i64 200] w fun e w' => e = .returned (.func (.func 56) #[] #[.pointer (some ⟨w.heap.size, 0, none⟩)]) ∧ w' = w.alloc (.cells #[.int .i64 200] 2) := by
  go_enter Try.func51, Try.ntmps51
  go_wp2
  go_ret
  exact ⟨rfl, rfl⟩

set_option maxHeartbeats 4000000 in
set_option maxRecDepth 100000 in
theorem implShift_yes (A B : Option Addr) (c d : Nat) (l m : List (Int × Int)) (w : World) (hA : NA w A l) (hB : NA w B m) (hn : l.length ≤ 1048576) (hn' : m.length ≤ 1048576) (hwf : WF l) (hwg : WF m) (hok : okB l = true) (hok' : okB m = true) :
    Calls Try.prog 35 #[.slice A l.length c, .slice B m.length d] w (Trip (.int .i64 (bst (bsF l m) 401).1) (.int .i64 ((bst (bsF l m) 401).2 : Nat)) (.int .i64 0) w) := by
  have HIN := hide (inRange_of l hok)
  have HIM := hide (inRange_of m hok')
  have HOK := hide hok
  have HOM := hide hok'
  have hl := len_of l hok
  have hm := len_of m hok'
  have hz := zero401
  clear hok hok'
  refine (callsIn_wide (n := 5)).1 ?_
  refine callsIn_of_wp_marks Try.func35 rfl trivial ?_ rfl
  simp only [Try.ntmps35, List.size_toArray, List.length_cons, List.length_nil, Nat.reduceAdd, Nat.reduceSub, Array.replicate_succ, Array.replicate_zero, List.push_toArray, List.append_toArray, List.nil_append, List.cons_append]
  refine wpIn_wide.2 ?_
  go_wp2_with fail
  refine (implValid_any A c l _ hA hn hwf).mono ?_
  rintro e w1 ⟨rfl, hb⟩
  rw [HOK.out]
  go_wp2_with fail
  refine (implValid_any B d m _ (hB.below hb) hn' hwg).mono ?_
  rintro e w2 ⟨rfl, hb2⟩
  rw [HOM.out]
  have hbw := hb.trans (hb2.mono hb.size)
  go_wp2_with fail
  have hc0 : Arr (w2.alloc (.cells zs401 66)) w2.heap.size (cF l m 0 0) := by rw [zs401_eq, cF_start]; exact heap_alloc_new w2 _
  have hb0 : Below w.heap.size w (w2.alloc (.cells zs401 66)) := hbw.alloc hbw.size _
  have HS := hide hbw.size
  clear hz
  go_loopw [26] (fun i wr => ∃ n : Nat, n ≤ l.length ∧ i = .int .i64 n ∧ Arr wr w2.heap.size (cF l m n 0) ∧ Below w.heap.size w wr)
    (fun i _ => l.length - (intOf i).toNat)
  case atStart => exact ⟨0, Nat.zero_le _, rfl, hc0, hb0⟩
  case round =>
    obtain ⟨n, hnl, rfl, hc, hbr⟩ := hrel
    clear hc0 hb0
    by_cases hlt : n < l.length
    · obtain ⟨b, o, rfl, hbb, c1, c2⟩ := hA n hlt
      have d1 := (hbr.cell (p := ⟨b, o + n * 2, none⟩) hbb).trans c1
      have d2 := (hbr.cell (p := ⟨b, o + n * 2 + 1, none⟩) hbb).trans c2
      obtain ⟨⟨e1, e2⟩, _, _⟩ : (0 ≤ nAt l n ∧ nAt l n ≤ 199) ∧ 0 ≤ nPi l n ∧ nPi l n ≤ 47 := by simpa [noteB] using HIN.out n hlt
      have hbx : Below w.heap.size w (wr.alloc (.cells #[.int .i16 (nAt l n), .int .i8 (nPi l n)] 49)) := hbr.alloc hbr.size _
      have hcx : Arr (wr.alloc (.cells #[.int .i16 (nAt l n), .int .i8 (nPi l n)] 49)) w2.heap.size (cF l m n 0) := hc.keep ((Below.refl _ _).alloc (Nat.le_refl _) _)
      have hox : Box (wr.alloc (.cells #[.int .i16 (nAt l n), .int .i8 (nPi l n)] 49)) wr.heap.size (nAt l n) (nPi l n) := heap_alloc_new wr _
      have hgl := hc.lt
      have hsl : IntKind.i64.wrap (200 + nAt l n) = 200 + nAt l n := IntWalk.i64_in _ (by omega)
      clear c1 c2 hA
      go_wp2_with fail
      obtain ⟨bx, hbxe⟩ : ∃ bx, wr.heap.size = bx := ⟨_, rfl⟩
      rw [hbxe] at hox hgl ⊢
      go_loopw [32] (fun i wq => ∃ k : Nat, k ≤ m.length ∧ i = .int .i64 k ∧ Arr wq w2.heap.size (cF l m n k) ∧ Box wq bx (nAt l n) (nPi l n) ∧ Below w.heap.size w wq)
        (fun i _ => m.length - (intOf i).toNat)
      case atStart => exact ⟨0, Nat.zero_le _, rfl, hcx, hox, hbx⟩
      case round =>
        obtain ⟨k, hkm, rfl, hc2, ho2, hbq⟩ := hrel
        clear hcx hox hbx
        by_cases hlt2 : k < m.length
        · obtain ⟨b', o', rfl, hbb', c3, c4⟩ := hB k hlt2
          have d3 := (hbq.cell (p := ⟨b', o' + k * 2, none⟩) hbb').trans c3
          have d4 := (hbq.cell (p := ⟨b', o' + k * 2 + 1, none⟩) hbb').trans c4
          obtain ⟨⟨e3, e4⟩, _, _⟩ : (0 ≤ nAt m k ∧ nAt m k ≤ 199) ∧ 0 ≤ nPi m k ∧ nPi m k ≤ 47 := by simpa [noteB] using HIM.out k hlt2
          obtain ⟨a, hae⟩ : ∃ a : Nat, 200 + nAt l n - nAt m k = (a : Int) := ⟨(200 + nAt l n - nAt m k).toNat, by omega⟩
          have HAE := hide hae
          have ha : a < 401 := by omega
          have hs2 : IntKind.i64.wrap (200 + nAt l n - nAt m k) = (a : Int) := by rw [hae]; exact IntWalk.i64_in _ (by omega)
          have hby : Below w.heap.size w (wr.alloc (.cells #[.int .i16 (nAt m k), .int .i8 (nPi m k)] 49)) := hbq.alloc hbq.size _
          have hcy : Arr (wr.alloc (.cells #[.int .i16 (nAt m k), .int .i8 (nPi m k)] 49)) w2.heap.size (cF l m n k) := hc2.keep ((Below.refl _ _).alloc (Nat.le_refl _) _)
          have hoy : Box (wr.alloc (.cells #[.int .i16 (nAt m k), .int .i8 (nPi m k)] 49)) bx (nAt l n) (nPi l n) := ho2.keep ((Below.refl _ _).alloc (Nat.le_refl _) _)
          have f1 := hcy.cell ha
          have f2 := hcy.frozen a
          have f3 := hoy.cell0
          have f4 := hoy.cell1
          have hcb := cF_bound l m n k a (by omega) hm (by omega)
          have hs3 : IntKind.i64.wrap ((cF l m n k a : Int) + 1) = (cF l m n k a : Int) + 1 := IntWalk.i64_in _ (by omega)
          clear c3 c4 hB hae
          by_cases hp : nPi l n = nPi m k
          · have p1 : (nPi l n == nPi m k) = true := by simpa using hp
            have HP := hide hp
            clear hp
            go_wp2_with fail
            go_roundw
            case rel => exact ⟨k + 1, hlt2, by go_num, hcy.step fun i _ => cF_take l m n k a HP.out HAE.out i, hoy.set (by omega) _, hby.setCell (p := ⟨w2.heap.size, _, none⟩) HS.out _⟩
            case measure => simp [intOf]; omega
          · have p1 : (nPi l n == nPi m k) = false := by simpa using hp
            have HP := hide hp
            clear hp
            go_wp2_with fail
            go_roundw
            case rel => exact ⟨k + 1, hlt2, by go_num, by rw [cF_skip l m n k HP.out]; exact hcy, hoy, hby⟩
            case measure => simp [intOf]; omega
        · obtain rfl : k = m.length := by omega
          go_wp2_with fail
          go_roundw
          case rel => exact ⟨n + 1, hlt, by go_num, by rw [cF_row]; exact hc2, hbq⟩
          case measure => simp [intOf]; omega
    · obtain rfl : n = l.length := by omega
      go_wp2_with fail
      refine (outward_call _).mono ?_
      rintro e w5 ⟨rfl, rfl⟩
      go_wp2_with fail
      have hgl := hc.lt
      obtain ⟨G, hG⟩ : ∃ G, wr.heap.size = G := ⟨_, rfl⟩
      obtain ⟨W0, hW0⟩ : ∃ W0, ((wr.alloc (.cells #[.int .i64 0] 2)).alloc (.cells #[.int .i64 0] 2)).alloc (.cells #[.int .i64 200] 2) = W0 := ⟨_, rfl⟩
      have hs0 : W0.heap.size = G + 3 := by rw [← hW0, ← hG]; simp
      have hb1 : Below wr.heap.size wr W0 := by rw [← hW0]; exact (((Below.refl _ wr).alloc (Nat.le_refl _) _).alloc (by simp only [World.size_alloc]; omega) _).alloc (by simp only [World.size_alloc]; omega) _
      have q1 : Bx W0 G (.int .i64 0) := by
        rw [← hW0, ← hG]
        exact (Below.heap_alloc _ _ _ (by simp only [World.size_alloc]; omega)).trans ((Below.heap_alloc _ _ _ (by simp only [World.size_alloc]; omega)).trans (heap_alloc_new wr _))
      have q2 : Bx W0 (G + 1) (.int .i64 0) := by
        rw [← hW0, ← hG]
        have h := heap_alloc_new (wr.alloc (.cells #[.int .i64 0] 2)) (.cells #[.int .i64 0] 2)
        simp only [World.size_alloc] at h
        exact (Below.heap_alloc _ _ _ (by simp only [World.size_alloc]; omega)).trans h
      have q3 : Bx W0 (G + 2) (.int .i64 200) := by
        rw [← hW0, ← hG]
        have h := heap_alloc_new ((wr.alloc (.cells #[.int .i64 0] 2)).alloc (.cells #[.int .i64 0] 2)) (.cells #[.int .i64 200] 2)
        simp only [World.size_alloc] at h
        exact h
      have hc9 : Arr W0 w2.heap.size (cF l m l.length 0) := hc.keep hb1
      have hbz : Below w.heap.size w W0 := hbr.trans (hb1.mono hbr.size)
      have hGw : w.heap.size ≤ G := by rw [← hG]; exact hbr.size
      have hgG : w2.heap.size < G := by rw [← hG]; exact hgl
      simp only [hG, hW0]
      refine (wpIn_wide (n := 5)).1 ?_
      refine wpIn_rangeFunc_ownF rfl (by omega) (gf := 56) (lb := #[.pointer (some ⟨G + 2, 0, none⟩)]) rfl trivial (enters_of Try.func56 (by kernel_rfl) rfl)
        (outward_stops Fence.wide (5 - 1) trivial rfl (by omega) (G + 2) W0 q3)
        (fun h1 h2 => h2.trans h1) (fun W r o o1 hr _ _ _ => World.putObj_heap_other (show G + 2 ≠ r by omega)) (Below.refl _ _) (fun _ => rfl)
        (fun pre W => (Arr W w2.heap.size (cF l m l.length 0) ∧ Bx W G (.int .i64 (bstL (bsF l m) (pre.map fun x : Sh => x.1)).1) ∧ Bx W (G + 1) (.int .i64 ((bstL (bsF l m) (pre.map fun x : Sh => x.1)).2 : Nat))) ∧ Below w.heap.size w W)
        (fun _ _ _ => False)
        (OwnFrom.and (fun (s : List Sh) U V row hs hg hr => ⟨cells_own (W' := V) (show U.heap[w2.heap.size]? = _ from hs.1) hg hr, cells_own (W' := V) (show U.heap[G]? = _ from hs.2.1) hg hr, cells_own (W' := V) (show U.heap[G + 1]? = _ from hs.2.2) hg hr⟩) (ownFrom_below (Nat.le_refl _) (by omega)))
        (fun _ _ _ _ _ hs _ _ => hs)
        ⟨⟨hc9, q1, q2⟩, hbz⟩ ?a1 ?assign ?body ?done ?stop
      case assign =>
        intro l x W K hK
        gi_wp2
        exact hK
      case body =>
        rintro r pre x W ⟨⟨hArr, b1, b2⟩, hBel⟩ hlen
        have hx := x.2
        obtain ⟨a, hae⟩ : ∃ a : Nat, 200 + x.1 = (a : Int) := ⟨(200 + x.1).toNat, by omega⟩
        have ha : a < 401 := by omega
        have hs2 : IntKind.i64.wrap (200 + x.1) = (a : Int) := by rw [hae]; exact IntWalk.i64_in _ (by omega)
        have f1 := hArr.cell ha
        have f2 := b2.cell
        have f4 := b2.frozen
        have f5 := b1.cell
        have f6 := b1.frozen
        have hv : cF l m l.length 0 a = bsF l m x.1 := by
          unfold cF bsF
          rw [show (a : Int) - 200 = x.1 by omega]
          simp [rowC]
        rw [hv] at f1
        by_cases hcmp : (bstL (bsF l m) (pre.map fun x : Sh => x.1)).2 < bsF l m x.1
        · have hd : decide (((bstL (bsF l m) (pre.map fun x : Sh => x.1)).2 : Int) < (bsF l m x.1 : Int)) = true := decide_eq_true (by omega)
          have HC := hide hcmp
          clear hcmp
          gi_wp2
          refine ⟨(KeepsOthers.setCell _ _ _).trans (KeepsOthers.setCell _ _ _), ?_, ⟨(hArr.other (by omega) _).other (by omega) _, ?_, ?_⟩, (hBel.setCell (p := ⟨G, 0, none⟩) hGw _).setCell (p := ⟨G + 1, 0, none⟩) (show w.heap.size ≤ G + 1 by omega) _⟩
          · exact (heap_setCell_other _ ⟨G + 1, 0, none⟩ (G + 2) _ (show G + 2 ≠ G + 1 by omega)).trans (heap_setCell_other _ ⟨G, 0, none⟩ (G + 2) _ (show G + 2 ≠ G by omega))
          · rw [List.map_append]
            show Bx _ G (.int .i64 (bstL (bsF l m) (_ ++ [x.1])).1)
            rw [bstL_snoc, if_pos HC.out]
            exact (b1.set _).other (by omega) _
          · rw [List.map_append]
            show Bx _ (G + 1) (.int .i64 ((bstL (bsF l m) (_ ++ [x.1])).2 : Nat))
            rw [bstL_snoc, if_pos HC.out]
            exact (b2.other (by omega) _).set _
        · have hd : decide (((bstL (bsF l m) (pre.map fun x : Sh => x.1)).2 : Int) < (bsF l m x.1 : Int)) = false := decide_eq_false (by omega)
          have HC := hide hcmp
          clear hcmp
          gi_wp2
          refine ⟨KeepsOthers.refl _, rfl, ⟨hArr, ?_, ?_⟩, hBel⟩
          · rw [List.map_append]
            show Bx _ G (.int .i64 (bstL (bsF l m) (_ ++ [x.1])).1)
            rw [bstL_snoc, if_neg HC.out]
            exact b1
          · rw [List.map_append]
            show Bx _ (G + 1) (.int .i64 ((bstL (bsF l m) (_ ++ [x.1])).2 : Nat))
            rw [bstL_snoc, if_neg HC.out]
            exact b2
      case done =>
        rintro D ys W hD hS ⟨⟨hArr, b1, b2⟩, hBel⟩ hK
        rw [hS, bstL_ords] at b1 b2
        have f2 := Later.cell b2.cell
        have f5 := Later.cell b1.cell
        go_wp2_with fail
        refine wp_region_later (by kernel_rfl) (by kernel_rfl) ?_
        repeat (go_big_quiet_step (fail))
        refine wpQuiet_nil ?_
        rintro wq ⟨⟨_, hq⟩, rfl⟩
        have hDW : D < W.heap.size := (Array.getElem?_eq_some_iff.1 hK).1
        have hK2 := (hq.block D hDW).trans hK
        have hBq := hBel.trans (hq.mono hBel.size)
        go_wp2_with fail
        refine ⟨by simp, .inl ⟨_, _, rfl, run_takeDeferred hK2, ?_⟩⟩
        exact ⟨_, results_tmp3 (fn := Try.f35) rfl _ _ _, ⟨rfl, hBq.trans (belowK_b (w := w) (Nat.le_refl _) wq D _ _ (by omega) hK2 rfl rfl)⟩⟩
      case stop =>
        rintro D c pre W _ _ h _
        exact h.elim
end Go.Proofs.Ytklkomgpaamcpaa
