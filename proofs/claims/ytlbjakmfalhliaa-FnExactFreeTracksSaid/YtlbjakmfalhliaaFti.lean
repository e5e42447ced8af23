import Derived.Test.YtlbjakmfalhliaaFts
import Derived.Test.YtlbjakmfalhliaaOwz
namespace Go.Proofs.Ytlbjakmfalhliaa
open Go.RowKit

/-- the free ones of the first k tracks of a list -/
def fro (S : Nat) (d : Nat → Int) (l : List (Int × Int)) (x : Nat) (tl : List Nat) (k : Nat) : List Nat := (tl.take k).filter fun j => freeB S d (hRe l j).toNat x j
theorem fro_len (S : Nat) (d : Nat → Int) (l : List (Int × Int)) (x : Nat) (tl : List Nat) (k : Nat) : (fro S d l x tl k).length ≤ k :=
  Nat.le_trans (List.length_filter_le _ _) (by rw [List.length_take]; omega)
theorem fro_yes {S : Nat} {d : Nat → Int} {l : List (Int × Int)} {x : Nat} {tl : List Nat} {k : Nat} (hk : k < tl.length) (h : freeB S d (hRe l tl[k]).toNat x tl[k] = true) : fro S d l x tl (k + 1) = fro S d l x tl k ++ [tl[k]] := by
  rw [fro, List.take_succ_eq_append_getElem hk, List.filter_append]; simp [h, fro]
theorem fro_no {S : Nat} {d : Nat → Int} {l : List (Int × Int)} {x : Nat} {tl : List Nat} {k : Nat} (hk : k < tl.length) (h : freeB S d (hRe l tl[k]).toNat x tl[k] = false) : fro S d l x tl (k + 1) = fro S d l x tl k := by
  rw [fro, List.take_succ_eq_append_getElem hk, List.filter_append]; simp [h, fro]
theorem fro_all (S : Nat) (d : Nat → Int) (l : List (Int × Int)) (p : Int) (x n : Nat) : fro S d l x (trk l p n) (trk l p n).length = ftl S d l p x n := by
  rw [fro, List.take_length, trk, ftl, List.filter_filter]
  congr 1
  funext j
  rw [ftB, Bool.and_comm]
theorem trk_at {l : List (Int × Int)} {p : Int} {n k : Nat} (hk : k < (trk l p n).length) : (trk l p n)[k] < n := by
  have h2 : (trk l p n)[k] ∈ (List.range n).filter (fun j => decide (hPi l j = p)) := List.getElem_mem hk
  exact List.mem_range.1 (List.mem_filter.1 h2).1

theorem ftL_len (s : Int) (l : List (Int × Int)) (d : Nat → Int) (x p : Int) (hn : l.length ≤ 1048576) : (ftL s l d x p).length ≤ 1048576 := by
  unfold ftL
  split
  · have := ftl_len s.toNat d l p x.toNat l.length; omega
  · simp

set_option maxRecDepth 20000 in
set_option maxHeartbeats 2000000 in
theorem implFreeTracks_any (s : Int) (A : Option Addr) (c : Nat) (l : List (Int × Int)) (d : Nat → Int) (x p : Int) (w : World) (hA : HA w A l) (hn : l.length ≤ 1048576) (hwf : HWF l) (hs : -32768 ≤ s ∧ s ≤ 32767) (hd : DWF d) :
    Calls Try.prog 47 #[.agg #[.int .i16 s, .slice A l.length c], .agg (da d), .int .i64 x, .int .i64 p] w (OwnP w (ftL s l d x p) (ftC s l d x p)) := by
  obtain ⟨i0, hi, hz0, hz1, hz2⟩ := info_parts info2
  have hb0 : Below w.heap.size w ((w.alloc (.cells #[.int .i16 s, .slice A l.length c] 30)).alloc (.cells (da d) 37)) := ((Below.refl _ _).alloc (Nat.le_refl _) _).alloc (by simp) _
  have D0 : Dr ((w.alloc (.cells #[.int .i16 s, .slice A l.length c] 30)).alloc (.cells (da d) 37)) (w.heap.size + 1) 37 d := heap_new' _ _ _ (by simp)
  have HR0 := hide D0.range
  go_enter Try.func47, Try.ntmps47
  go_wp2_with (first | (with_reducible refine wpList_load_da rfl 37 (.tmp 5) rfl (w.heap.size + 1) 0 rfl d _ HR0.out Try.underlying37 rfl (dInfo d) ?_) | (with_reducible refine wpList_build1 rfl (.tmp 17) rfl d rfl ?_))
  refine (machine1_any s A c l d _ (hA.below hb0) hn hwf hs hd _ (by simp)).mono ?_
  rintro e w2 ⟨rfl, hb2⟩
  have hx0 : Below ((w.alloc (.cells #[.int .i16 s, .slice A l.length c] 30)).alloc (.cells (da d) 37)).heap.size ((w.alloc (.cells #[.int .i16 s, .slice A l.length c] 30)).alloc (.cells (da d) 37)) (((w.alloc (.cells #[.int .i16 s, .slice A l.length c] 30)).alloc (.cells (da d) 37)).alloc (.cells (da d) 37)) := (Below.refl _ _).alloc (Nat.le_refl _) _
  have b2 := step_below hb2 (hb0.alloc hb0.size (.cells (da d) 37))
  have hy : Below w2.heap.size w2 (w2.alloc (.cells #[.int .i64 s, .slice A l.length c] 71)) := (Below.refl _ _).alloc (Nat.le_refl _) _
  have M3 : (w2.alloc (.cells #[.int .i64 s, .slice A l.length c] 71)).heap[w2.heap.size]? = some (.cells #[.int .i64 s, .slice A l.length c] 71 (0, 0)) := heap_alloc_new _ _
  have b3 := b2.alloc b2.size (.cells #[.int .i64 s, .slice A l.length c] 71)
  have D3 := ((D0.keep hx0).keep hb2).keep hy
  cases ha : askB s l d
  · have hcc : ftC s l d x p = 1 := by simp [ftC, cod3, ha]
    have HX := hide hcc
    have HY := hide (show ftL s l d x p = [] by simp [ftL, hcc])
    clear hcc ha
    go_wp2
    go_ret2
    exact ⟨none, 0, by rw [HX.out, HY.out]; rfl, by rw [HY.out]; exact ⟨rfl, Or.inl ⟨rfl, rfl⟩⟩, b3⟩
  have hfa := ask_all ha
  go_wp2_with fail
  refine (hasStep_any s x A l.length c _ hs).mono ?_
  rintro e w3 ⟨rfl, hb3⟩
  have b4 := step_below hb3 b3
  have D4 := D3.keep hb3
  have M4 := (hb3.block _ (Array.getElem?_eq_some_iff.1 M3).1).trans M3
  cases hp : inB x 0 (s - 1)
  · have hcc : ftC s l d x p = 2 := by simp [ftC, cod3, ha, hp]
    have HX := hide hcc
    have HY := hide (show ftL s l d x p = [] by simp [ftL, hcc])
    clear hcc ha hp
    go_wp2
    go_ret2
    exact ⟨none, 0, by rw [HX.out, HY.out]; rfl, by rw [HY.out]; exact ⟨rfl, Or.inl ⟨rfl, rfl⟩⟩, b4⟩
  cases hq : inB p 0 47
  · have K1 : ∀ W, Calls Try.prog 56 #[.int .i64 p, .int .i64 0, .int .i64 47] W fun e w' => e = .returned (.bool false) ∧ W = w' := fun W => by rw [← hq]; exact within_any _ _ _ W
    have hcc : ftC s l d x p = 2 := by simp [ftC, cod3, ha, hp, hq]
    have HX := hide hcc
    have HY := hide (show ftL s l d x p = [] by simp [ftL, hcc])
    clear hcc ha hp hq
    go_wp2_with (go_at_call 56; with_reducible refine (K1 _).mono ?_; rintro e w' ⟨rfl, rfl⟩)
    go_ret2
    exact ⟨none, 0, by rw [HX.out, HY.out]; rfl, by rw [HY.out]; exact ⟨rfl, Or.inl ⟨rfl, rfl⟩⟩, b4⟩
  have K1 : ∀ W, Calls Try.prog 56 #[.int .i64 p, .int .i64 0, .int .i64 47] W fun e w' => e = .returned (.bool true) ∧ W = w' := fun W => by rw [← hq]; exact within_any _ _ _ W
  obtain ⟨S, hSs⟩ : ∃ S : Nat, s = (S : Int) := ⟨s.toNat, by omega⟩
  have hxb : 0 ≤ x ∧ x ≤ s - 1 := by simpa [inB] using hp
  obtain ⟨t, ht⟩ : ∃ t : Nat, x = (t : Int) := ⟨x.toNat, by omega⟩
  have hS2 : 2 ≤ S ∧ S ≤ 96 := by omega
  have htl : t < S := by omega
  have hl24 := hfa.2.1.2
  have HGG := hide hfa.2.2.1
  have hSn : s.toNat = S := by omega
  have htn : x.toNat = t := by omega
  have hcc : ftC s l d x p = 0 := by simp [ftC, cod3, ha, hp, hq]
  have HX := hide hcc
  have HY := hide (show ftL s l d x p = ftl S d l p t l.length by simp [ftL, hcc, hSn, htn])
  clear hcc ha hp hq hfa hxb hSn htn
  subst hSs ht
  have hA4 := hA.below b4
  have m1 := cell_of_row _ _ 0 _ _ _ M4
  have m2 := cell_of_row _ _ 1 _ _ _ M4
  simp at m1 m2
  go_wp2_with (go_at_call 56; with_reducible refine (K1 _).mono ?_; rintro e w' ⟨rfl, rfl⟩)
  refine (tracksFor_any S p A c l w3 hA4 hl24 HGG.out).mono ?_
  rintro e w4 ⟨A7, c7, rfl, own7, hb4⟩
  have b5 := step_below hb4 b4
  have D5 := D4.keep hb4
  have hA5 := hA4.below hb4
  have n1 := (hb4.cell (p := ⟨w2.heap.size, 0, none⟩) (World.block_lt_of_cell? _ _ m1)).trans m1
  have n2 := (hb4.cell (p := ⟨w2.heap.size, 1, none⟩) (World.block_lt_of_cell? _ _ m2)).trans m2
  have SI0 : SI w4 w4.heap.size A7 ((trk l p l.length).map fun (x : Nat) => (x : Int)) := SI.of_own (base := w3.heap.size) (c := c7) (by rw [List.length_map, ← tcells_icells]; exact own7)
  have hT24 := trk_len l p l.length
  have hfa := fro_all S d l p t l.length
  have htk := fun k (hk : k < (trk l p l.length).length) => trk_at hk
  rw [← hfa] at HY
  clear hfa own7
  generalize trk l p l.length = tl at *
  go_wp2_with fail
  go_loopw [12, 14, 38] (fun v _ i wr => ∃ k : Nat, k ≤ tl.length ∧ i = .int .i64 k ∧ wr.ownsRow w4.heap.size 2 1 v (fro S d l t tl k).length (tcells (fro S d l t tl k)) ∧ Below w4.heap.size w4 wr)
    (fun _ _ i _ => tl.length - (intOf i).toNat)
  case atStart => exact ⟨0, Nat.zero_le _, rfl, ⟨rfl, Or.inl ⟨rfl, rfl⟩⟩, Below.refl _ _⟩
  case round =>
    obtain ⟨k, hk, rfl, hown, hb⟩ := hrel
    obtain ⟨A', c', rfl⟩ := own_shape hown
    have D6 := D5.keep hb
    have HR6 := hide D6.range
    have hA6 := hA5.below hb
    have e1 := (hb.cell (p := ⟨w2.heap.size, 0, none⟩) (World.block_lt_of_cell? _ _ n1)).trans n1
    have e2 := (hb.cell (p := ⟨w2.heap.size, 1, none⟩) (World.block_lt_of_cell? _ _ n2)).trans n2
    by_cases hlt : k < tl.length
    · have hlen := fro_len S d l t tl k
      obtain ⟨b, rfl, hbb, e3'⟩ := (SI0.below hb) k (by simpa using hlt)
      have e3 : wr.cell? ⟨b, k, none⟩ = some (.int .i64 ((tl[k] : Nat) : Int)) := by rw [e3']; simp [zAt, hlt]
      clear e3'
      have hj := htk k hlt
      have hy1 := fun h => fro_yes (S := S) (d := d) (l := l) (x := t) hlt h
      have hy2 := fun h => fro_no (S := S) (d := d) (l := l) (x := t) hlt h
      generalize tl[k] = j at *
      go_wp2_with (with_reducible refine wpList_load_da rfl 37 (.tmp 5) rfl (w.heap.size + 1) 0 rfl d _ HR6.out Try.underlying37 rfl (dInfo d) ?_)
      refine (isFree_any S A c l d t j wr hA6 hS2 hl24 HGG.out htl hj hd).mono ?_
      rintro e w6 ⟨rfl, hb6⟩
      have hown6 := own_keep hown hb6
      have hbb := step_below hb6 hb
      cases hf : freeB S d (hRe l j).toNat t j
      · have HT := hide (hy2 hf)
        clear hf hy1 hy2
        go_wp2
        go_roundw
        case rel => exact ⟨k + 1, hlt, by go_num, by rw [HT.out]; exact hown6, hbb⟩
        case measure => simp [intOf]; omega
      · have HT := hide (hy1 hf)
        clear hf hy1 hy2
        have hnew : ∀ i u, ([.int .i64 (j : Int)] : List Value)[i]? = some u → (w6.alloc (.cells #[.int .i64 (j : Int)] 2)).cell? ((⟨w6.heap.size, 0, none⟩ : Addr).add i) = some u := cell_one_new w6 (.int .i64 (j : Int)) 2
        have own7 := hown6.alloc (.cells #[.int .i64 (j : Int)] 2)
        go_wp2_with (at_builtin; refine wpList_append_own _ rfl _ _ 58 rfl w4.heap.size 2 i0 (.int .i64 0) 1 8 Try.underlying58 hi hz0 hz1 hz2 rfl (by decide) _ _ _ rfl own7 ⟨w6.heap.size, 0, none⟩ 1 1 [.int .i64 (j : Int)] rfl rfl hnew (fun x hx => by simp at hx; subst hx; rfl) (by unfold maxLen; omega) (by omega) (by simp; have := hbb.size; omega) ?_; intro v' w8 hown8 hgrow8 hnil8)
        have hb8 := (hbb.alloc hbb.size (.cells #[.int .i64 (j : Int)] 2)).grown hgrow8 (by simp; have := hbb.size; omega) (fun j hj => (hown.lt j hj).1)
        go_roundw
        case rel => exact ⟨k + 1, hlt, by go_num, by rw [HT.out, List.length_append, tcells, List.map_append]; exact hown8, hb8⟩
        case measure => simp [intOf]; omega
    · obtain rfl : k = tl.length := by omega
      go_wp2
      go_ret2
      exact ⟨A', c', by rw [HX.out, HY.out]; rfl, by rw [HY.out]; exact own_base hown b5.size, step_below hb b5⟩
end Go.Proofs.Ytlbjakmfalhliaa
