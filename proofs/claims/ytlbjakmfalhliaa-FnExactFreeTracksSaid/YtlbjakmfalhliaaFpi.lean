import Derived.Test.YtlbjakmfalhliaaFps
namespace Go.Proofs.Ytlbjakmfalhliaa
open Go.RowKit

set_option maxRecDepth 20000 in
set_option maxHeartbeats 2000000 in
theorem implFreePlaces_any (s : Int) (A : Option Addr) (c : Nat) (l : List (Int × Int)) (d : Nat → Int) (x : Int) (w : World) (hA : HA w A l) (hn : l.length ≤ 1048576) (hwf : HWF l) (hs : -32768 ≤ s ∧ s ≤ 32767) (hd : DWF d) :
    Calls Try.prog 41 #[.agg #[.int .i16 s, .slice A l.length c], .agg (da d), .int .i64 x] w (OwnP w (fpL s l d x) (fpC s l d x)) := by
  obtain ⟨i0, hi, hz0, hz1, hz2⟩ := info_parts info2
  have hb0 : Below w.heap.size w ((w.alloc (.cells #[.int .i16 s, .slice A l.length c] 30)).alloc (.cells (da d) 37)) := ((Below.refl _ _).alloc (Nat.le_refl _) _).alloc (by simp) _
  have D0 : Dr ((w.alloc (.cells #[.int .i16 s, .slice A l.length c] 30)).alloc (.cells (da d) 37)) (w.heap.size + 1) 37 d := heap_new' _ _ _ (by simp)
  have HR0 := hide D0.range
  go_enter Try.func41, Try.ntmps41
  go_wp2_with (first | (with_reducible refine wpList_load_da rfl 37 (.tmp 4) rfl (w.heap.size + 1) 0 rfl d _ HR0.out Try.underlying37 rfl (dInfo d) ?_) | (with_reducible refine wpList_build1 rfl (.tmp 14) rfl d rfl ?_))
  refine (machine1_any s A c l d _ (hA.below hb0) hn hwf hs hd _ (by simp)).mono ?_
  rintro e w2 ⟨rfl, hb2⟩
  have hx0 : Below ((w.alloc (.cells #[.int .i16 s, .slice A l.length c] 30)).alloc (.cells (da d) 37)).heap.size ((w.alloc (.cells #[.int .i16 s, .slice A l.length c] 30)).alloc (.cells (da d) 37)) (((w.alloc (.cells #[.int .i16 s, .slice A l.length c] 30)).alloc (.cells (da d) 37)).alloc (.cells (da d) 37)) := (Below.refl _ _).alloc (Nat.le_refl _) _
  have b2 := step_below hb2 (hb0.alloc hb0.size (.cells (da d) 37))
  have hy : Below w2.heap.size w2 (w2.alloc (.cells #[.int .i64 s, .slice A l.length c] 71)) := (Below.refl _ _).alloc (Nat.le_refl _) _
  have M3 : (w2.alloc (.cells #[.int .i64 s, .slice A l.length c] 71)).heap[w2.heap.size]? = some (.cells #[.int .i64 s, .slice A l.length c] 71 (0, 0)) := heap_alloc_new _ _
  have b3 := b2.alloc b2.size (.cells #[.int .i64 s, .slice A l.length c] 71)
  have D3 := ((D0.keep hx0).keep hb2).keep hy
  cases ha : askB s l d
  · 
    have hcc : fpC s l d x = 1 := by simp [fpC, cod3, ha]
    have HX := hide hcc
    have HY := hide (show fpL s l d x = [] by simp [fpL, hcc])
    clear hcc ha
    go_wp2
    go_ret2
    exact ⟨none, 0, by rw [HX.out, HY.out]; rfl, by rw [HY.out]; exact ⟨rfl, Or.inl ⟨rfl, rfl⟩⟩, b3⟩
  have hfa := ask_all ha
  go_wp2_with fail
  refine (hasTrack_any s x A l.length c _ hn).mono ?_
  rintro e w3 ⟨rfl, hb3⟩
  have b4 := step_below hb3 b3
  have D4 := D3.keep hb3
  have M4 := (hb3.block _ (Array.getElem?_eq_some_iff.1 M3).1).trans M3
  cases hp : inB x 0 ((l.length : Int) - 1)
  · 
    have hcc : fpC s l d x = 2 := by simp [fpC, cod3, ha, hp]
    have HX := hide hcc
    have HY := hide (show fpL s l d x = [] by simp [fpL, hcc])
    clear hcc ha hp
    go_wp2
    go_ret2
    exact ⟨none, 0, by rw [HX.out, HY.out]; rfl, by rw [HY.out]; exact ⟨rfl, Or.inl ⟨rfl, rfl⟩⟩, b4⟩
  obtain ⟨S, hSs⟩ : ∃ S : Nat, s = (S : Int) := ⟨s.toNat, by omega⟩
  have hxb : 0 ≤ x ∧ x ≤ (l.length : Int) - 1 := by simpa [inB] using hp
  obtain ⟨t, ht⟩ : ∃ t : Nat, x = (t : Int) := ⟨x.toNat, by omega⟩
  have hS2 : 2 ≤ S ∧ S ≤ 96 := by omega
  have htl : t < l.length := by omega
  have hl24 := hfa.2.1.2
  have HGG := hide hfa.2.2.1
  have hSn : s.toNat = S := by omega
  have htn : x.toNat = t := by omega
  have hcc : fpC s l d x = 0 := by simp [fpC, cod3, ha, hp]
  have HX := hide hcc
  have HY := hide (show fpL s l d x = frl S d (hRe l t).toNat t S by simp [fpL, hcc, hSn, htn])
  clear hcc ha hp hfa hxb hSn htn
  subst hSs ht
  obtain ⟨r, hr⟩ : ∃ r, (hRe l t).toNat = r := ⟨_, rfl⟩
  have hA4 := hA.below b4
  have m1 := cell_of_row _ _ 0 _ _ _ M4
  have m2 := cell_of_row _ _ 1 _ _ _ M4
  simp at m1 m2
  go_wp2_with fail
  go_loopw [10, 11, 27] (fun v _ i wr => ∃ k : Nat, k ≤ S ∧ i = .int .i64 k ∧ wr.ownsRow w3.heap.size 2 1 v (frl S d r t k).length (tcells (frl S d r t k)) ∧ Below w3.heap.size w3 wr)
    (fun _ _ i _ => S - (intOf i).toNat)
  case atStart => exact ⟨0, Nat.zero_le _, rfl, ⟨rfl, Or.inl ⟨rfl, rfl⟩⟩, Below.refl _ _⟩
  case round =>
    obtain ⟨k, hk, rfl, hown, hb⟩ := hrel
    obtain ⟨A', c', rfl⟩ := own_shape hown
    have D5 := D4.keep hb
    have HR5 := hide D5.range
    have hA5 := hA4.below hb
    have e1 := (hb.cell (p := ⟨w2.heap.size, 0, none⟩) (World.block_lt_of_cell? _ _ m1)).trans m1
    have e2 := (hb.cell (p := ⟨w2.heap.size, 1, none⟩) (World.block_lt_of_cell? _ _ m2)).trans m2
    by_cases hlt : k < S
    · have hlen := frl_len S d r t k
      go_wp2_with (with_reducible refine wpList_load_da rfl 37 (.tmp 4) rfl (w.heap.size + 1) 0 rfl d _ HR5.out Try.underlying37 rfl (dInfo d) ?_)
      refine (isFree_any S A c l d k t wr hA5 hS2 hl24 HGG.out hlt htl hd).mono ?_
      rintro e w6 ⟨rfl, hb6⟩
      rw [hr]
      have hown6 := own_keep hown hb6
      have hbb := step_below hb6 hb
      cases hf : freeB S d r k t
      · have HT := hide (frl_no hf)
        clear hf
        go_wp2
        go_roundw
        case rel => exact ⟨k + 1, hlt, by go_num, by rw [HT.out]; exact hown6, hbb⟩
        case measure => simp [intOf]; omega
      · have HT := hide (frl_yes hf)
        clear hf
        have hnew : ∀ j u, ([.int .i64 (k : Int)] : List Value)[j]? = some u → (w6.alloc (.cells #[.int .i64 (k : Int)] 2)).cell? ((⟨w6.heap.size, 0, none⟩ : Addr).add j) = some u := cell_one_new w6 (.int .i64 (k : Int)) 2
        have own7 := hown6.alloc (.cells #[.int .i64 (k : Int)] 2)
        go_wp2_with (at_builtin; refine wpList_append_own _ rfl _ _ 58 rfl w3.heap.size 2 i0 (.int .i64 0) 1 8 Try.underlying58 hi hz0 hz1 hz2 rfl (by decide) _ _ _ rfl own7 ⟨w6.heap.size, 0, none⟩ 1 1 [.int .i64 (k : Int)] rfl rfl hnew (fun x hx => by simp at hx; subst hx; rfl) (by unfold maxLen; omega) (by omega) (by simp; have := hbb.size; omega) ?_; intro v' w8 hown8 hgrow8 hnil8)
        have hb8 := (hbb.alloc hbb.size (.cells #[.int .i64 (k : Int)] 2)).grown hgrow8 (by simp; have := hbb.size; omega) (fun j hj => (hown.lt j hj).1)
        go_roundw
        case rel => exact ⟨k + 1, hlt, by go_num, by rw [HT.out, List.length_append, tcells, List.map_append]; exact hown8, hb8⟩
        case measure => simp [intOf]; omega
    · obtain rfl : k = S := by omega
      go_wp2
      go_ret2
      exact ⟨A', c', by rw [HX.out, HY.out, hr]; rfl, by rw [HY.out, hr]; exact own_base hown b4.size, step_below hb b4⟩
end Go.Proofs.Ytlbjakmfalhliaa
