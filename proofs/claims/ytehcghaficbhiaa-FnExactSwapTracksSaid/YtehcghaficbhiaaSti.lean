import Derived.Test.YtehcghaficbhiaaWi
import Derived.Test.YtehcghaficbhiaaSwp
import Derived.Test.YtehcghaficbhiaaRw
import Derived.Deep.CutRange
import Derived.StillTailTactics
namespace Go.Proofs.Ytehcghaficbhiaa
open Go.RowKit
def swC (s : Int) (l : List (Int × Int)) (d : Nat → Int) (x y : Int) : Int := if askB s l d then (if plB s l.length 0 x && plB s l.length 0 y then 0 else 2) else 1
/-- two hammers exchanged -/
def exL (l : List (Int × Int)) (a b : Nat) : List (Int × Int) := (l.set a (l.getD b (0, 0))).set b (l.getD a (0, 0))
def swS (s : Int) (l : List (Int × Int)) (d : Nat → Int) (x y : Int) : Int := if swC s l d x y = 0 then s else 0
def swL (s : Int) (l : List (Int × Int)) (d : Nat → Int) (x y : Int) : List (Int × Int) := if swC s l d x y = 0 then exL l x.toNat y.toNat else []
def swR (s : Int) (l : List (Int × Int)) (d : Nat → Int) (x y : Int) : Nat → Int := if swC s l d x y = 0 then swD d x.toNat y.toNat 96 else fun _ => 0
theorem exL_length (l : List (Int × Int)) (a b : Nat) : (exL l a b).length = l.length := by simp [exL]

set_option maxRecDepth 20000 in
set_option maxHeartbeats 4000000 in
theorem implSwapTracks_any (s : Int) (A : Option Addr) (_c : Nat) (l : List (Int × Int)) (d : Nat → Int) (x y : Int) (w : World) (hA : HA w A l) (hn : l.length ≤ 1048576) (hwf : HWF l) (hs : -32768 ≤ s ∧ s ≤ 32767) (hd : DWF d) :
    Calls Try.prog 9 #[.agg #[.int .i16 s, .slice A l.length l.length], .agg (da d), .int .i64 x, .int .i64 y] w (FdC (swS s l d x y) (swL s l d x y) (swR s l d x y) (swC s l d x y) w) := by
  have hz := zeroDrum
  obtain ⟨X0, hX0⟩ : ∃ X, X = (((w.alloc (.cells #[.int .i16 s, .slice A l.length l.length] 31)).alloc (.cells (da d) 32)).alloc (.cells #[.int .i16 0, .slice none 0 0] 31)).alloc (.cells za 32) := ⟨_, rfl⟩
  have b0 : Below w.heap.size w X0 := by rw [hX0]; exact ((((Below.refl _ _).alloc (Nat.le_refl _) _).alloc (by simp) _).alloc (by simp; omega) _).alloc (by simp; omega) _
  have rA : X0.heap[w.heap.size]? = some (.cells #[.int .i16 s, .slice A l.length l.length] 31 (0, 0)) := by rw [hX0]; exact heap_old' (heap_old' (heap_old' (heap_alloc_new _ _)))
  have D0 : Dr X0 (w.heap.size + 1) 32 d := by rw [hX0]; exact heap_old' (heap_old' (heap_new' _ _ _ (by simp)))
  have RF0 : X0.heap[w.heap.size + 1 + 1]? = some (.cells #[.int .i16 0, .slice none 0 0] 31 (0, 0)) := by rw [hX0]; exact heap_old' (heap_new' _ _ _ (by simp))
  have RD0 : X0.heap[w.heap.size + 1 + 1 + 1]? = some (.cells (da fun _ => 0) 32 (0, 0)) := by rw [hX0, za_eq]; exact heap_new' _ _ _ (by simp)
  have hA0 := hA.below b0
  go_enter Try.func9, Try.ntmps9
  go_upto_region 1 with fail
  rw [← hX0]
  clear hX0 hz
  have R0 : Bk X0 w.heap.size 31 #[.int .i16 s, .slice A l.length l.length] := rA
  have HR0 := hide D0.range
  have c0 := R0.cell (i := 0) rfl
  have c1 := R0.cell (i := 1) rfl
  go_wp2_with (first | (with_reducible refine wpList_load_da rfl 32 (.tmp 5) rfl (w.heap.size + 1) 0 rfl d _ HR0.out Try.underlying32 rfl (dInfo d) ?_) | (with_reducible refine wpList_build1 rfl (.tmp 15) rfl d rfl ?_))
  refine (machine1_any s A l.length l d X0 hA0 hn hwf hs hd _ rfl).mono ?_
  rintro e w2 ⟨rfl, hb2⟩
  clear c0 c1
  have hx0 : Below X0.heap.size X0 (X0.alloc (.cells (da d) 32)) := (Below.refl _ _).alloc (Nat.le_refl _) _
  have b2 := step_below hb2 (b0.alloc b0.size (.cells (da d) 32))
  obtain ⟨w3, hw3⟩ : ∃ X, X = w2.alloc (.cells #[.int .i64 s, .slice A l.length l.length] 55) := ⟨_, rfl⟩
  have hy : Below w2.heap.size w2 w3 := by rw [hw3]; exact (Below.refl _ _).alloc (Nat.le_refl _) _
  have M3 : Bk w3 w2.heap.size 55 #[.int .i64 s, .slice A l.length l.length] := by rw [hw3]; exact Bk.new _ _ _ rfl
  have b3 := b2.trans (hy.mono b2.size)
  have hbx : Below X0.heap.size X0 w3 := (step_below hb2 hx0).trans (hy.mono (step_below hb2 hx0).size)
  have R3 := R0.keep hbx
  have D3 := D0.keep hbx
  have RF3 := (hbx.block _ (Array.getElem?_eq_some_iff.1 RF0).1).trans RF0
  have RD3 := (hbx.block _ (Array.getElem?_eq_some_iff.1 RD0).1).trans RD0
  have hA3 := hA0.below hbx
  go_upto_region 2 with fail
  rw [← hw3]
  clear hw3 hb2 hx0 hy HR0 rA R0
  cases ha : askB s l d
  · skip
    have hcc : swC s l d x y = 1 := by simp [swC, ha]
    have HX := hide hcc
    have HS := hide (show swS s l d x y = 0 by simp [swS, hcc])
    have HL := hide (show swL s l d x y = [] by simp [swL, hcc])
    have HY := hide (show swR s l d x y = fun _ => 0 by simp [swR, hcc])
    have hgl : w.heap.size + 1 + 1 + 1 < w3.heap.size := (Array.getElem?_eq_some_iff.1 RD3).1
    have RD9 : (w3.setRow (w.heap.size + 1 + 1) #[.int .i16 0, .slice none 0 0]).heap[w.heap.size + 1 + 1 + 1]? = some (.cells (da fun _ => 0) 32 (0, 0)) := (setRow_other _ _ _ _ (by omega)).trans RD3
    have HF := hide RF3
    have HZ := hide RD9
    have bE := below_setRow (cs := da fun _ => 0) (g := w.heap.size + 1 + 1 + 1) (below_setRow (cs := #[.int .i16 0, .slice none 0 0]) (g := w.heap.size + 1 + 1) b3 (by omega)) (by omega)
    clear hcc RD9 RF3 RD3 RF0 RD0 ha
    go_wp2_with (first | (with_reducible refine wpList_build0 rfl rfl ?_) | (with_reducible refine wpList_store_row rfl 31 (.tmp 8) (.tmp 22) rfl (w.heap.size + 1 + 1) #[.int .i16 0, .slice none 0 0] rfl rfl 31 _ HF.out (infoF2 _ _) (sz22 _ _ _ _) (oneF _ _ _ _) ?_) | (with_reducible refine wpList_store_row rfl 32 (.tmp 9) (.tmp 23) rfl (w.heap.size + 1 + 1 + 1) (da fun _ => 0) rfl rfl 32 _ HZ.out (by rw [da_size]; exact info32) (by simp only [da_size]) (da_one _) ?_))
    exact bodyPost_ret (v := .tuple #[.agg #[.int .i16 0, .slice none 0 0], .agg (da fun _ => 0), .int .i64 1]) (results_fd Try.results9 _ _ (w.heap.size + 1 + 1) (w.heap.size + 1 + 1 + 1) _ _ #[.int .i16 0, .slice none 0 0] _ _ rfl (by simp [Act.put]) (by simp [Act.put]) (by simp [Act.put]) ((setRow_other _ _ _ _ (by omega)).trans (setRow_heap _ _ _ _ _ _ HF.out)) (setRow_heap _ _ _ _ _ _ HZ.out)) rfl ⟨none, 0, by rw [HY.out, HX.out, HS.out, HL.out]; rfl, by rw [HL.out]; exact World.ownsRow_nil _ _ _ _, bE⟩
  have hfa := ask_all ha
  have n1 := M3.cell (i := 0) rfl
  have n2 := M3.cell (i := 1) rfl
  go_wp2_with fail
  clear n1 n2
  refine (hasTrack_any s x A l.length l.length _ hn).mono ?_
  rintro e w4 ⟨rfl, hb4⟩
  have b4 := step_below hb4 b3
  have R4 := R3.keep hb4
  have D4 := D3.keep hb4
  have RF4 := (hb4.block _ (Array.getElem?_eq_some_iff.1 RF3).1).trans RF3
  have RD4 := (hb4.block _ (Array.getElem?_eq_some_iff.1 RD3).1).trans RD3
  have hA4 := hA3.below hb4
  have M4 := M3.keep hb4
  rw [← pl_step0 ha]
  cases hp : plB s l.length 0 x
  · skip
    have hcc : swC s l d x y = 2 := by simp [swC, ha, hp]
    have HX := hide hcc
    have HS := hide (show swS s l d x y = 0 by simp [swS, hcc])
    have HL := hide (show swL s l d x y = [] by simp [swL, hcc])
    have HY := hide (show swR s l d x y = fun _ => 0 by simp [swR, hcc])
    have hgl : w.heap.size + 1 + 1 + 1 < w4.heap.size := (Array.getElem?_eq_some_iff.1 RD4).1
    have RD9 : (w4.setRow (w.heap.size + 1 + 1) #[.int .i16 0, .slice none 0 0]).heap[w.heap.size + 1 + 1 + 1]? = some (.cells (da fun _ => 0) 32 (0, 0)) := (setRow_other _ _ _ _ (by omega)).trans RD4
    have HF := hide RF4
    have HZ := hide RD9
    have bE := below_setRow (cs := da fun _ => 0) (g := w.heap.size + 1 + 1 + 1) (below_setRow (cs := #[.int .i16 0, .slice none 0 0]) (g := w.heap.size + 1 + 1) b4 (by omega)) (by omega)
    clear hcc RD9 RF4 RD4 RF0 RD0 RF3 RD3 ha hp
    go_wp2_with (first | (with_reducible refine wpList_build0 rfl rfl ?_) | (with_reducible refine wpList_store_row rfl 31 (.tmp 8) (.tmp 34) rfl (w.heap.size + 1 + 1) #[.int .i16 0, .slice none 0 0] rfl rfl 31 _ HF.out (infoF2 _ _) (sz22 _ _ _ _) (oneF _ _ _ _) ?_) | (with_reducible refine wpList_store_row rfl 32 (.tmp 9) (.tmp 35) rfl (w.heap.size + 1 + 1 + 1) (da fun _ => 0) rfl rfl 32 _ HZ.out (by rw [da_size]; exact info32) (by simp only [da_size]) (da_one _) ?_))
    exact bodyPost_ret (v := .tuple #[.agg #[.int .i16 0, .slice none 0 0], .agg (da fun _ => 0), .int .i64 2]) (results_fd Try.results9 _ _ (w.heap.size + 1 + 1) (w.heap.size + 1 + 1 + 1) _ _ #[.int .i16 0, .slice none 0 0] _ _ rfl (by simp [Act.put]) (by simp [Act.put]) (by simp [Act.put]) ((setRow_other _ _ _ _ (by omega)).trans (setRow_heap _ _ _ _ _ _ HF.out)) (setRow_heap _ _ _ _ _ _ HZ.out)) rfl ⟨none, 0, by rw [HY.out, HX.out, HS.out, HL.out]; rfl, by rw [HL.out]; exact World.ownsRow_nil _ _ _ _, bE⟩
  have n1 := M4.cell (i := 0) rfl
  have n2 := M4.cell (i := 1) rfl
  go_wp2_with fail
  clear n1 n2
  refine (hasTrack_any s y A l.length l.length _ hn).mono ?_
  rintro e w5 ⟨rfl, hb5⟩
  have b5 := step_below hb5 b4
  have R5 := R4.keep hb5
  have D5 := D4.keep hb5
  have RF5 := (hb5.block _ (Array.getElem?_eq_some_iff.1 RF4).1).trans RF4
  have RD5 := (hb5.block _ (Array.getElem?_eq_some_iff.1 RD4).1).trans RD4
  have hA5 := hA4.below hb5
  rw [← pl_step0 ha]
  cases hq : plB s l.length 0 y
  · skip
    have hcc : swC s l d x y = 2 := by simp [swC, ha, hp, hq]
    have HX := hide hcc
    have HS := hide (show swS s l d x y = 0 by simp [swS, hcc])
    have HL := hide (show swL s l d x y = [] by simp [swL, hcc])
    have HY := hide (show swR s l d x y = fun _ => 0 by simp [swR, hcc])
    have hgl : w.heap.size + 1 + 1 + 1 < w5.heap.size := (Array.getElem?_eq_some_iff.1 RD5).1
    have RD9 : (w5.setRow (w.heap.size + 1 + 1) #[.int .i16 0, .slice none 0 0]).heap[w.heap.size + 1 + 1 + 1]? = some (.cells (da fun _ => 0) 32 (0, 0)) := (setRow_other _ _ _ _ (by omega)).trans RD5
    have HF := hide RF5
    have HZ := hide RD9
    have bE := below_setRow (cs := da fun _ => 0) (g := w.heap.size + 1 + 1 + 1) (below_setRow (cs := #[.int .i16 0, .slice none 0 0]) (g := w.heap.size + 1 + 1) b5 (by omega)) (by omega)
    clear hcc RD9 RF5 RD5 RF4 RD4 RF0 RD0 RF3 RD3 ha hp hq
    go_wp2_with (first | (with_reducible refine wpList_build0 rfl rfl ?_) | (with_reducible refine wpList_store_row rfl 31 (.tmp 8) (.tmp 34) rfl (w.heap.size + 1 + 1) #[.int .i16 0, .slice none 0 0] rfl rfl 31 _ HF.out (infoF2 _ _) (sz22 _ _ _ _) (oneF _ _ _ _) ?_) | (with_reducible refine wpList_store_row rfl 32 (.tmp 9) (.tmp 35) rfl (w.heap.size + 1 + 1 + 1) (da fun _ => 0) rfl rfl 32 _ HZ.out (by rw [da_size]; exact info32) (by simp only [da_size]) (da_one _) ?_))
    exact bodyPost_ret (v := .tuple #[.agg #[.int .i16 0, .slice none 0 0], .agg (da fun _ => 0), .int .i64 2]) (results_fd Try.results9 _ _ (w.heap.size + 1 + 1) (w.heap.size + 1 + 1 + 1) _ _ #[.int .i16 0, .slice none 0 0] _ _ rfl (by simp [Act.put]) (by simp [Act.put]) (by simp [Act.put]) ((setRow_other _ _ _ _ (by omega)).trans (setRow_heap _ _ _ _ _ _ HF.out)) (setRow_heap _ _ _ _ _ _ HZ.out)) rfl ⟨none, 0, by rw [HY.out, HX.out, HS.out, HL.out]; rfl, by rw [HL.out]; exact World.ownsRow_nil _ _ _ _, bE⟩
  obtain ⟨k0, t, hk0, hxt, _, htl⟩ := plB_nat hp
  obtain ⟨k1, u, hk1, hyu, _, hul⟩ := plB_nat hq
  have ht24 : t < 24 := by omega
  have hu24 : u < 24 := by omega
  have hcc : swC s l d x y = 0 := by simp [swC, ha, hp, hq]
  have HX := hide hcc
  have HS := hide (show swS s l d x y = s by simp [swS, hcc])
  have HL := hide (show swL s l d x y = exL l t u by rw [swL, if_pos hcc, show x.toNat = t by omega, show y.toNat = u by omega])
  have HY := hide (show swR s l d x y = swD d t u 96 by rw [swR, if_pos hcc, show x.toNat = t by omega, show y.toNat = u by omega])
  clear hk0 hk1 hcc ha hp hq hfa RF0 RD0 RF3 RD3 RF4 RD4 M3 M4 R3 R4
  subst hxt hyu
  have c1 := R5.cell (i := 1) rfl
  go_wp2_with fail
  clear c1
  refine (cloneH_any A l.length l _ hA5 hn).mono ?_
  rintro e w6 ⟨C, q, rfl, own6, hb6⟩
  have b6 := step_below hb6 b5
  have R6 := R5.keep hb6
  have D6 := D5.keep hb6
  have RF6 := (hb6.block _ (Array.getElem?_eq_some_iff.1 RF5).1).trans RF5
  have RD6 := (hb6.block _ (Array.getElem?_eq_some_iff.1 RD5).1).trans RD5
  have hg5 : w.heap.size + 1 + 1 + 1 < w5.heap.size := (Array.getElem?_eq_some_iff.1 RD5).1
  obtain ⟨gc, rfl, hgc⟩ : ∃ gc, C = some ⟨gc, 0, none⟩ ∧ w5.heap.size ≤ gc := by
    rcases own6.2 with ⟨h', h0⟩ | ⟨g', cap, cur, h', hgb, _⟩
    · omega
    · simp at h'
      exact ⟨g', h'.1, hgb⟩
  clear RF5 RD5 R5 D5 hA5
  obtain ⟨W7, hW7⟩ : ∃ W7, W7 = w6.setCell ⟨w.heap.size, 1, none⟩ (.slice (some ⟨gc, 0, none⟩) l.length q) := ⟨_, rfl⟩
  have b7 : Below w.heap.size w W7 := by rw [hW7]; exact b6.setCell (p := ⟨_, _, none⟩) (Nat.le_refl _) _
  have R7 : Bk W7 w.heap.size 31 #[.int .i16 s, .slice (some ⟨gc, 0, none⟩) l.length q] := by rw [hW7]; exact heap_setCell_same w6 _ 1 _ _ _ R6
  have D7 : Dr W7 (w.heap.size + 1) 32 d := by rw [hW7]; exact (heap_setCell_other _ _ _ _ (by dsimp only; omega)).trans D6
  have RF7 : W7.heap[w.heap.size + 1 + 1]? = some (.cells #[.int .i16 0, .slice none 0 0] 31 (0, 0)) := by rw [hW7]; exact (heap_setCell_other _ _ _ _ (by dsimp only; omega)).trans RF6
  have RD7 : W7.heap[w.heap.size + 1 + 1 + 1]? = some (.cells (da fun _ => 0) 32 (0, 0)) := by rw [hW7]; exact (heap_setCell_other _ _ _ _ (by dsimp only; omega)).trans RD6
  have own7 : W7.ownsRow w5.heap.size 49 2 (.slice (some ⟨gc, 0, none⟩) l.length q) l.length (hcells l) := by rw [hW7]; exact own_other own6 (heap_setCell_other _ _ _ _ (by dsimp only; omega))
  have f6 := R6.frozen 1
  have g6 := R6.cell (i := 1) rfl
  clear own6 RF6 RD6 D6 hb6 b6
  go_upto_region 7 with fail
  rw [← hW7]
  clear hW7 f6 g6 R6
  have hd1 : Below W7.heap.size W7 W7.drew := (Below.refl _ _).drew
  have p1 : W7.drew.cell? ⟨w.heap.size, 1, none⟩ = some (.slice (some ⟨gc, 0, none⟩) l.length q) := (R7.keep hd1).cell (i := 1) rfl
  have hti : (t : Int) < (l.length : Int) := by omega
  have hui : (u : Int) < (l.length : Int) := by omega
  have own8 := own_keep own7 hd1
  have hb8 := b7.drew
  have ht0 := (own8.cellAt (t * 2) (by omega)).trans (hcells_even l t htl)
  have ht1 := (own8.cellAt (t * 2 + 1) (by omega)).trans (hcells_odd l t htl)
  have hu0 := (own8.cellAt (u * 2) (by omega)).trans (hcells_even l u hul)
  have hu1 := (own8.cellAt (u * 2 + 1) (by omega)).trans (hcells_odd l u hul)
  go_wp2_with fail
  refine wp_region_held_drew (S := fun w' => w'.cell? ⟨w.heap.size, 1, none⟩ = some (.slice (some ⟨gc, 0, none⟩) l.length q)) (by kernel_rfl) p1 fun hS1 => ?_
  refine wpAnyH_take (i := 0) (v := .pointer (some ⟨w.heap.size, 1, none⟩)) rfl (by kernel_rfl) (by kernel_rfl) (by kernel_rfl) (fun _ _ _ h => h) (Or.inl ⟨by rfl, fun w' _ => by go_simp⟩) hS1 ?_
  change wpAnyH _ _ _ _ _ _ _ (Act.put _ (some 40) _) _
  simp only [Act.put, List.setIfInBounds_toArray, List.set_cons_zero, List.set_cons_succ]
  refine wpAnyH_take (i := 1) (v := .slice (some ⟨gc, 0, none⟩) l.length q) rfl (by kernel_rfl) (by kernel_rfl) (by kernel_rfl) (fun _ _ _ h => h) (Or.inl ⟨by rfl, fun w' h => ?_⟩) hS1 ?_
  · have c0 := h
    clear h
    go_simp
  change wpAnyH _ _ _ _ _ _ _ (Act.put _ (some 41) _) _
  simp only [Act.put, List.setIfInBounds_toArray, List.set_cons_zero, List.set_cons_succ]
  refine wpAnyH_take (i := 2) (v := .int .i64 t) rfl (by kernel_rfl) (by kernel_rfl) (by kernel_rfl) (fun _ _ _ h => h) (Or.inl ⟨by rfl, fun w' _ => by go_simp⟩) hS1 ?_
  change wpAnyH _ _ _ _ _ _ _ (Act.put _ (some 42) _) _
  simp only [Act.put, List.setIfInBounds_toArray, List.set_cons_zero, List.set_cons_succ]
  refine wpAnyH_take (i := 3) (v := .pointer (some ⟨w.heap.size, 1, none⟩)) rfl (by kernel_rfl) (by kernel_rfl) (by kernel_rfl) (fun _ _ _ h => h) (Or.inl ⟨by rfl, fun w' _ => by go_simp⟩) hS1 ?_
  change wpAnyH _ _ _ _ _ _ _ (Act.put _ (some 43) _) _
  simp only [Act.put, List.setIfInBounds_toArray, List.set_cons_zero, List.set_cons_succ]
  refine wpAnyH_take (i := 4) (v := .slice (some ⟨gc, 0, none⟩) l.length q) rfl (by kernel_rfl) (by kernel_rfl) (by kernel_rfl) (fun _ _ _ h => h) (Or.inl ⟨by rfl, fun w' h => ?_⟩) hS1 ?_
  · have c0 := h
    clear h
    go_simp
  change wpAnyH _ _ _ _ _ _ _ (Act.put _ (some 44) _) _
  simp only [Act.put, List.setIfInBounds_toArray, List.set_cons_zero, List.set_cons_succ]
  refine wpAnyH_take (i := 5) (v := .int .i64 u) rfl (by kernel_rfl) (by kernel_rfl) (by kernel_rfl) (fun _ _ _ h => h) (Or.inl ⟨by rfl, fun w' _ => by go_simp⟩) hS1 ?_
  change wpAnyH _ _ _ _ _ _ _ (Act.put _ (some 45) _) _
  simp only [Act.put, List.setIfInBounds_toArray, List.set_cons_zero, List.set_cons_succ]
  refine wpAnyH_take (i := 6) (v := .pointer (some ⟨w.heap.size, 1, none⟩)) rfl (by kernel_rfl) (by kernel_rfl) (by kernel_rfl) (fun _ _ _ h => h) (Or.inl ⟨by rfl, fun w' _ => by go_simp⟩) hS1 ?_
  change wpAnyH _ _ _ _ _ _ _ (Act.put _ (some 46) _) _
  simp only [Act.put, List.setIfInBounds_toArray, List.set_cons_zero, List.set_cons_succ]
  refine wpAnyH_take (i := 7) (v := .slice (some ⟨gc, 0, none⟩) l.length q) rfl (by kernel_rfl) (by kernel_rfl) (by kernel_rfl) (fun _ _ _ h => h) (Or.inl ⟨by rfl, fun w' h => ?_⟩) hS1 ?_
  · have c0 := h
    clear h
    go_simp
  change wpAnyH _ _ _ _ _ _ _ (Act.put _ (some 47) _) _
  simp only [Act.put, List.setIfInBounds_toArray, List.set_cons_zero, List.set_cons_succ]
  refine wpAnyH_take (i := 8) (v := .int .i64 u) rfl (by kernel_rfl) (by kernel_rfl) (by kernel_rfl) (fun _ _ _ h => h) (Or.inl ⟨by rfl, fun w' _ => by go_simp⟩) hS1 ?_
  change wpAnyH _ _ _ _ _ _ _ (Act.put _ (some 48) _) _
  simp only [Act.put, List.setIfInBounds_toArray, List.set_cons_zero, List.set_cons_succ]
  refine wpAnyH_take (i := 9) (v := .pointer (some ⟨gc, u * 2, none⟩)) rfl (by kernel_rfl) (by kernel_rfl) (by kernel_rfl) (fun _ _ _ h => h) (Or.inl ⟨by rfl, fun w' _ => by go_simp⟩) hS1 ?_
  change wpAnyH _ _ _ _ _ _ _ (Act.put _ (some 49) _) _
  simp only [Act.put, List.setIfInBounds_toArray, List.set_cons_zero, List.set_cons_succ]
  refine wpAnyH_take (i := 11) (v := .pointer (some ⟨w.heap.size, 1, none⟩)) rfl (by kernel_rfl) (by kernel_rfl) (by kernel_rfl) (fun _ _ _ h => h) (Or.inl ⟨by rfl, fun w' _ => by go_simp⟩) hS1 ?_
  change wpAnyH _ _ _ _ _ _ _ (Act.put _ (some 51) _) _
  simp only [Act.put, List.setIfInBounds_toArray, List.set_cons_zero, List.set_cons_succ]
  refine wpAnyH_take (i := 12) (v := .slice (some ⟨gc, 0, none⟩) l.length q) rfl (by kernel_rfl) (by kernel_rfl) (by kernel_rfl) (fun _ _ _ h => h) (Or.inl ⟨by rfl, fun w' h => ?_⟩) hS1 ?_
  · have c0 := h
    clear h
    go_simp
  change wpAnyH _ _ _ _ _ _ _ (Act.put _ (some 52) _) _
  simp only [Act.put, List.setIfInBounds_toArray, List.set_cons_zero, List.set_cons_succ]
  refine wpAnyH_take (i := 13) (v := .int .i64 t) rfl (by kernel_rfl) (by kernel_rfl) (by kernel_rfl) (fun _ _ _ h => h) (Or.inl ⟨by rfl, fun w' _ => by go_simp⟩) hS1 ?_
  change wpAnyH _ _ _ _ _ _ _ (Act.put _ (some 53) _) _
  simp only [Act.put, List.setIfInBounds_toArray, List.set_cons_zero, List.set_cons_succ]
  refine wpAnyH_take (i := 14) (v := .pointer (some ⟨gc, t * 2, none⟩)) rfl (by kernel_rfl) (by kernel_rfl) (by kernel_rfl) (fun _ _ _ h => h) (Or.inl ⟨by rfl, fun w' _ => by go_simp⟩) hS1 ?_
  change wpAnyH _ _ _ _ _ _ _ (Act.put _ (some 54) _) _
  simp only [Act.put, List.setIfInBounds_toArray, List.set_cons_zero, List.set_cons_succ]
  clear p1
  obtain ⟨W8, hW8⟩ : ∃ X, X = W7.drew := ⟨_, rfl⟩
  have ht0 : W8.cell? ⟨gc, t * 2, none⟩ = some (.int .i8 (hPi l t)) := by rw [hW8]; exact ht0
  have ht1 : W8.cell? ⟨gc, t * 2 + 1, none⟩ = some (.int .i8 (hRe l t)) := by rw [hW8]; exact ht1
  have hu0 : W8.cell? ⟨gc, u * 2, none⟩ = some (.int .i8 (hPi l u)) := by rw [hW8]; exact hu0
  have hu1 : W8.cell? ⟨gc, u * 2 + 1, none⟩ = some (.int .i8 (hRe l u)) := by rw [hW8]; exact hu1
  have R8 := R7.keep hd1
  have D8 := D7.keep hd1
  have RF8 := (hd1.block _ (Array.getElem?_eq_some_iff.1 RF7).1).trans RF7
  have RD8 := (hd1.block _ (Array.getElem?_eq_some_iff.1 RD7).1).trans RD7
  rw [← hW8] at hS1 hb8 own8 R8 D8 RF8 RD8 ⊢
  have hsz5 : w.heap.size + 1 + 1 + 1 < gc := by omega
  clear R7 D7 RF7 RD7 own7 hd1 b7
  clear hW8
  refine wpAnyH_ready (rs := [10, 15]) (by kernel_rfl) (by simp) (AllReadyH.cons rfl ?_ (AllReadyH.cons rfl ?_ AllReadyH.nil))
  · intro K hK
    rw [if_pos (by rfl)]
    go_simp
    refine hK.out _ _ hS1 (fun hS2 => ?_)
    clear hK K
    refine wpAnyH_ready (rs := [15]) (by kernel_rfl) (by simp) (AllReadyH.cons rfl ?_ AllReadyH.nil)
    intro K hK
    rw [if_pos (by rfl)]
    go_simp
    refine hK.out _ _ hS1 (fun hS3 => ?_)
    clear hK K hS2
    refine wpAnyH_take (i := 16) (v := .pointer (some ⟨gc, t * 2, none⟩)) rfl (by kernel_rfl) (by kernel_rfl) (by kernel_rfl) (fun _ _ _ h => h) (Or.inl ⟨by rfl, fun w' _ => by go_simp⟩) hS3 ?_
    change wpAnyH _ _ _ _ _ _ _ (Act.put _ (some 56) _) _
    simp only [Act.put, List.setIfInBounds_toArray, List.set_cons_zero, List.set_cons_succ]
    have fa := own8.frozenAt (t * 2)
    have fb := own8.frozenAt (t * 2 + 1)
    refine wpAnyH_ready (rs := [17]) (by kernel_rfl) (by simp) (AllReadyH.cons rfl ?_ AllReadyH.nil)
    intro K hK
    rw [if_pos (by rfl)]
    go_simp
    obtain ⟨W9, hW9⟩ : ∃ X, X = (W8.setCell ⟨gc, t * 2, none⟩ (.int .i8 (hPi l u))).setCell ⟨gc, t * 2 + 1, none⟩ (.int .i8 (hRe l u)) := ⟨_, rfl⟩
    have own9 : W9.ownsRow w5.heap.size 49 2 (.slice (some ⟨gc, 0, none⟩) l.length q) l.length (hcells (l.set t (hPi l u, hRe l u))) := by rw [hW9]; exact hown_set2 own8 t _ _
    have b9 : Below w.heap.size w W9 := by rw [hW9]; exact (hb8.setCell (p := ⟨gc, _, none⟩) (by dsimp only; omega) _).setCell (p := ⟨gc, _, none⟩) (by dsimp only; omega) _
    have R9 : Bk W9 w.heap.size 31 #[.int .i16 s, .slice (some ⟨gc, 0, none⟩) l.length q] := by rw [hW9]; exact (R8.other (by omega) _).other (by omega) _
    have D9 : Dr W9 (w.heap.size + 1) 32 d := by rw [hW9]; exact (D8.other (by omega) _).other (by omega) _
    have RF9 : W9.heap[w.heap.size + 1 + 1]? = some (.cells #[.int .i16 0, .slice none 0 0] 31 (0, 0)) := by rw [hW9]; exact (heap_setCell_other _ _ _ _ (by dsimp only; omega)).trans ((heap_setCell_other _ _ _ _ (by dsimp only; omega)).trans RF8)
    have RD9 : W9.heap[w.heap.size + 1 + 1 + 1]? = some (.cells (da fun _ => 0) 32 (0, 0)) := by rw [hW9]; exact (heap_setCell_other _ _ _ _ (by dsimp only; omega)).trans ((heap_setCell_other _ _ _ _ (by dsimp only; omega)).trans RD8)
    rw [← hW9]
    clear hW9 fa fb ht0 ht1 hu0 hu1 own8 R8 D8 RF8 RD8
    have hS4 : W9.cell? ⟨w.heap.size, 1, none⟩ = some (.slice (some ⟨gc, 0, none⟩) l.length q) := R9.cell (i := 1) rfl
    refine hK.out _ _ hS4 (fun hS5 => ?_)
    clear hK K hS3
    refine wpAnyH_take (i := 18) (v := .pointer (some ⟨gc, u * 2, none⟩)) rfl (by kernel_rfl) (by kernel_rfl) (by kernel_rfl) (fun _ _ _ h => h) (Or.inl ⟨by rfl, fun w' _ => by go_simp⟩) hS5 ?_
    change wpAnyH _ _ _ _ _ _ _ (Act.put _ (some 57) _) _
    simp only [Act.put, List.setIfInBounds_toArray, List.set_cons_zero, List.set_cons_succ]
    have ga : W9.cell? ⟨gc, u * 2, none⟩ = some _ := (own9.cellAt (u * 2) (by omega)).trans (hcells_even _ u (by simp; omega))
    have gb : W9.cell? ⟨gc, u * 2 + 1, none⟩ = some _ := (own9.cellAt (u * 2 + 1) (by omega)).trans (hcells_odd _ u (by simp; omega))
    have fa := own9.frozenAt (u * 2)
    have fb := own9.frozenAt (u * 2 + 1)
    refine wpAnyH_ready (rs := [19]) (by kernel_rfl) (by simp) (AllReadyH.cons rfl ?_ AllReadyH.nil)
    intro K hK
    rw [if_pos (by rfl)]
    go_simp
    obtain ⟨W10, hW10⟩ : ∃ X, X = (W9.setCell ⟨gc, u * 2, none⟩ (.int .i8 (hPi l t))).setCell ⟨gc, u * 2 + 1, none⟩ (.int .i8 (hRe l t)) := ⟨_, rfl⟩
    have own10 : W10.ownsRow w5.heap.size 49 2 (.slice (some ⟨gc, 0, none⟩) l.length q) l.length (hcells (exL l t u)) := by rw [hW10]; exact hown_set2 own9 u _ _
    have b10 : Below w.heap.size w W10 := by rw [hW10]; exact (b9.setCell (p := ⟨gc, _, none⟩) (by dsimp only; omega) _).setCell (p := ⟨gc, _, none⟩) (by dsimp only; omega) _
    have R10 : Bk W10 w.heap.size 31 #[.int .i16 s, .slice (some ⟨gc, 0, none⟩) l.length q] := by rw [hW10]; exact (R9.other (by omega) _).other (by omega) _
    have D10 : Dr W10 (w.heap.size + 1) 32 d := by rw [hW10]; exact (D9.other (by omega) _).other (by omega) _
    have RF10 : W10.heap[w.heap.size + 1 + 1]? = some (.cells #[.int .i16 0, .slice none 0 0] 31 (0, 0)) := by rw [hW10]; exact (heap_setCell_other _ _ _ _ (by dsimp only; omega)).trans ((heap_setCell_other _ _ _ _ (by dsimp only; omega)).trans RF9)
    have RD10 : W10.heap[w.heap.size + 1 + 1 + 1]? = some (.cells (da fun _ => 0) 32 (0, 0)) := by rw [hW10]; exact (heap_setCell_other _ _ _ _ (by dsimp only; omega)).trans ((heap_setCell_other _ _ _ _ (by dsimp only; omega)).trans RD9)
    rw [← hW10]
    clear hW10 fa fb ga gb own9 R9 D9 RF9 RD9 b9
    have hS6 : W10.cell? ⟨w.heap.size, 1, none⟩ = some (.slice (some ⟨gc, 0, none⟩) l.length q) := R10.cell (i := 1) rfl
    refine hK.out _ _ hS6 (fun hS7 => ?_)
    clear hK K hS4 hS5
    refine wpAnyH_done (by kernel_rfl) ?_ _
    clear hS6 hS7
    have hd2 : Below W10.heap.size W10 W10.drew := (Below.refl _ _).drew
    have p1 : W10.drew.cell? ⟨w.heap.size, 0, none⟩ = some (.int .i16 s) := (R10.keep hd2).cell (i := 0) rfl
    have p2 : W10.drew.cell? ⟨w.heap.size, 1, none⟩ = some (.slice (some ⟨gc, 0, none⟩) l.length q) := (R10.keep hd2).cell (i := 1) rfl
    have p3 := (D10.keep hd2).range
    have KD := fun W => swapped_any t u d W ht24 hu24 hd
    have HRF := hide RF10
    have HRD := hide RD10
    clear RF10 RD10
    go_wp2_with fail
    refine wp_region_held_drew (S := fun w' => w'.cell? ⟨w.heap.size, 0, none⟩ = some (.int .i16 s) ∧ w'.cell? ⟨w.heap.size, 1, none⟩ = some (.slice (some ⟨gc, 0, none⟩) l.length q) ∧ w'.rangeAt (w.heap.size + 1) 0 (dv d)) (by kernel_rfl) ⟨p1, p2, p3⟩ fun hS1 => ?_
    clear p1 p2 p3
    refine wpAnyH_take (i := 0) (v := .agg #[.int .i16 s, .slice (some ⟨gc, 0, none⟩) l.length q]) rfl (by kernel_rfl) (by kernel_rfl) (by kernel_rfl) (fun _ _ _ h => h) (Or.inl ⟨by rfl, fun w' h => ?_⟩) hS1 ?_
    · have c0 := h.1
      have c1 := h.2.1
      clear h
      go_simp
    simp only [Act.put, List.setIfInBounds_toArray, List.set_cons_zero, List.set_cons_succ]
    refine wpAnyH_take (i := 1) rfl (by kernel_rfl) (by kernel_rfl) (by kernel_rfl) (fun _ _ _ h => h) (yieldsIf_load_mid (by rfl) _ _ rfl (w.heap.size + 1) 0 rfl (dv d) _ (fun _ h => h.2.2) Try.underlying32 rfl (dInfo d)) hS1 ?_
    simp only [Act.put, List.setIfInBounds_toArray, List.set_cons_zero, List.set_cons_succ]
    refine wpAnyH_take (i := 2) (v := .int .i64 t) rfl (by kernel_rfl) (by kernel_rfl) (by kernel_rfl) (fun _ _ _ h => h) (Or.inl ⟨by rfl, fun w' _ => by go_simp⟩) hS1 ?_
    change wpAnyH _ _ _ _ _ _ _ (Act.put _ (some 60) _) _
    simp only [Act.put, List.setIfInBounds_toArray, List.set_cons_zero, List.set_cons_succ]
    refine wpAnyH_take (i := 3) (v := .int .i64 u) rfl (by kernel_rfl) (by kernel_rfl) (by kernel_rfl) (fun _ _ _ h => h) (Or.inl ⟨by rfl, fun w' _ => by go_simp⟩) hS1 ?_
    change wpAnyH _ _ _ _ _ _ _ (Act.put _ (some 61) _) _
    simp only [Act.put, List.setIfInBounds_toArray, List.set_cons_zero, List.set_cons_succ]
    refine wpAnyH_ready (rs := [4]) (by kernel_rfl) (by simp) (AllReadyH.cons rfl ?_ AllReadyH.nil)
    intro K hK
    rw [if_pos (by rfl)]
    go_simp
    refine (KD _).mono ?_
    rintro e w11 ⟨rfl, hb11'⟩
    have hb11 := step_below hb11' hd2
    have own11 := own_keep (own_keep own10 hd2) hb11'
    have b11 := step_below hb11 b10
    have R11 := R10.keep hb11
    have D11 := D10.keep hb11
    have RF11 := (hb11.block _ (Array.getElem?_eq_some_iff.1 HRF.out).1).trans HRF.out
    have RD11 := (hb11.block _ (Array.getElem?_eq_some_iff.1 HRD.out).1).trans HRD.out
    refine hK.out _ _ ⟨R11.cell (i := 0) rfl, R11.cell (i := 1) rfl, D11.range⟩ (fun hS2 => ?_)
    clear hK K hS1 KD HRF HRD own10 R10 D10
    refine wpAnyH_ready (rs := [5]) (by kernel_rfl) (by simp) (AllReadyH.cons rfl ?_ AllReadyH.nil)
    intro K hK
    rw [if_pos (by rfl)]
    refine wp_store_row 31 (.tmp 8) (.tmp 58) rfl (w.heap.size + 1 + 1) #[.int .i16 s, .slice (some ⟨gc, 0, none⟩) l.length q] rfl rfl 31 _ RF11 (infoF2 _ _) (sz22 _ _ _ _) (oneF _ _ _ _) ?_
    have RF12 := setRow_heap _ _ _ #[.int .i16 s, .slice (some ⟨gc, 0, none⟩) l.length q] _ _ RF11
    have RD12 : (w11.setRow (w.heap.size + 1 + 1) #[.int .i16 s, .slice (some ⟨gc, 0, none⟩) l.length q]).heap[w.heap.size + 1 + 1 + 1]? = some (.cells (da fun _ => 0) 32 (0, 0)) := (setRow_other _ _ _ _ (by omega)).trans RD11
    have D12 : Dr (w11.setRow (w.heap.size + 1 + 1) #[.int .i16 s, .slice (some ⟨gc, 0, none⟩) l.length q]) (w.heap.size + 1) 32 d := (setRow_other _ _ _ _ (by omega)).trans D11
    have R12 : Bk (w11.setRow (w.heap.size + 1 + 1) #[.int .i16 s, .slice (some ⟨gc, 0, none⟩) l.length q]) w.heap.size 31 #[.int .i16 s, .slice (some ⟨gc, 0, none⟩) l.length q] := (setRow_other _ _ _ _ (by omega)).trans R11
    refine hK.out _ _ ⟨R12.cell (i := 0) rfl, R12.cell (i := 1) rfl, D12.range⟩ (fun hS3 => ?_)
    clear hK K hS2
    refine wpAnyH_ready (rs := [6]) (by kernel_rfl) (by simp) (AllReadyH.cons rfl ?_ AllReadyH.nil)
    intro K hK
    rw [if_pos (by rfl)]
    refine wp_store_row 32 (.tmp 9) (.tmp 62) rfl (w.heap.size + 1 + 1 + 1) (da (swD d t u 96)) rfl rfl 32 _ RD12 (by rw [da_size]; exact info32) (by simp only [da_size]) (da_one _) ?_
    have RF13 : ((w11.setRow (w.heap.size + 1 + 1) #[.int .i16 s, .slice (some ⟨gc, 0, none⟩) l.length q]).setRow (w.heap.size + 1 + 1 + 1) (da (swD d t u 96))).heap[w.heap.size + 1 + 1]? = some (.cells #[.int .i16 s, .slice (some ⟨gc, 0, none⟩) l.length q] 31 (0, 0)) := (setRow_other _ _ _ _ (by omega)).trans RF12
    have RD13 := setRow_heap _ _ _ (da (swD d t u 96)) _ _ RD12
    have D13 : Dr ((w11.setRow (w.heap.size + 1 + 1) #[.int .i16 s, .slice (some ⟨gc, 0, none⟩) l.length q]).setRow (w.heap.size + 1 + 1 + 1) (da (swD d t u 96))) (w.heap.size + 1) 32 d := (setRow_other _ _ _ _ (by omega)).trans D12
    have R13 : Bk ((w11.setRow (w.heap.size + 1 + 1) #[.int .i16 s, .slice (some ⟨gc, 0, none⟩) l.length q]).setRow (w.heap.size + 1 + 1 + 1) (da (swD d t u 96))) w.heap.size 31 #[.int .i16 s, .slice (some ⟨gc, 0, none⟩) l.length q] := (setRow_other _ _ _ _ (by omega)).trans R12
    refine hK.out _ _ ⟨R13.cell (i := 0) rfl, R13.cell (i := 1) rfl, D13.range⟩ (fun hS4 => ?_)
    clear hK K hS3
    refine wpAnyH_take (i := 7) (v := .int .i64 0) rfl (by kernel_rfl) (by kernel_rfl) (by kernel_rfl) (fun _ _ _ h => h) (Or.inl ⟨by rfl, fun w' _ => by go_simp⟩) hS4 ?_
    change wpAnyH _ _ _ _ _ _ _ (Act.put _ (some 10) _) _
    simp only [Act.put, List.setIfInBounds_toArray, List.set_cons_zero, List.set_cons_succ]
    refine wpAnyH_done (by kernel_rfl) ?_ _
    have HF9 := hide RF13
    have HZ9 := hide RD13
    have bE := below_setRow (cs := da (swD d t u 96)) (g := w.heap.size + 1 + 1 + 1) (below_setRow (cs := #[.int .i16 s, .slice (some ⟨gc, 0, none⟩) l.length q]) (g := w.heap.size + 1 + 1) b11 (by omega)) (by omega)
    have ow := own_base (own_keepR (own_keepR own11 (by omega : w.heap.size + 1 + 1 < w5.heap.size) #[.int .i16 s, .slice (some ⟨gc, 0, none⟩) l.length q]) (by omega : w.heap.size + 1 + 1 + 1 < w5.heap.size) (da (swD d t u 96))) (by omega : w.heap.size ≤ w5.heap.size)
    clear RF13 RD13 D13 R13 RF12 RD12 D12 R12 RF11 RD11 R11 D11
    go_wp2
    exact bodyPost_ret (v := .tuple #[.agg #[.int .i16 s, .slice (some ⟨gc, 0, none⟩) l.length q], .agg (da (swD d t u 96)), .int .i64 0]) (results_fd Try.results9 _ _ (w.heap.size + 1 + 1) (w.heap.size + 1 + 1 + 1) _ _ #[.int .i16 s, .slice (some ⟨gc, 0, none⟩) l.length q] _ _ rfl (by simp [Act.put]) (by simp [Act.put]) (by simp [Act.put]) HF9.out HZ9.out) rfl ⟨some ⟨gc, 0, none⟩, q, by rw [HY.out, HX.out, HS.out, HL.out, exL_length], by rw [HL.out, exL_length]; exact ow, bE⟩
  · intro K hK
    rw [if_pos (by rfl)]
    go_simp
    refine hK.out _ _ hS1 (fun hS2 => ?_)
    clear hK K
    refine wpAnyH_ready (rs := [10]) (by kernel_rfl) (by simp) (AllReadyH.cons rfl ?_ AllReadyH.nil)
    intro K hK
    rw [if_pos (by rfl)]
    go_simp
    refine hK.out _ _ hS1 (fun hS3 => ?_)
    clear hK K hS2
    refine wpAnyH_take (i := 16) (v := .pointer (some ⟨gc, t * 2, none⟩)) rfl (by kernel_rfl) (by kernel_rfl) (by kernel_rfl) (fun _ _ _ h => h) (Or.inl ⟨by rfl, fun w' _ => by go_simp⟩) hS3 ?_
    change wpAnyH _ _ _ _ _ _ _ (Act.put _ (some 56) _) _
    simp only [Act.put, List.setIfInBounds_toArray, List.set_cons_zero, List.set_cons_succ]
    have fa := own8.frozenAt (t * 2)
    have fb := own8.frozenAt (t * 2 + 1)
    refine wpAnyH_ready (rs := [17]) (by kernel_rfl) (by simp) (AllReadyH.cons rfl ?_ AllReadyH.nil)
    intro K hK
    rw [if_pos (by rfl)]
    go_simp
    obtain ⟨W9, hW9⟩ : ∃ X, X = (W8.setCell ⟨gc, t * 2, none⟩ (.int .i8 (hPi l u))).setCell ⟨gc, t * 2 + 1, none⟩ (.int .i8 (hRe l u)) := ⟨_, rfl⟩
    have own9 : W9.ownsRow w5.heap.size 49 2 (.slice (some ⟨gc, 0, none⟩) l.length q) l.length (hcells (l.set t (hPi l u, hRe l u))) := by rw [hW9]; exact hown_set2 own8 t _ _
    have b9 : Below w.heap.size w W9 := by rw [hW9]; exact (hb8.setCell (p := ⟨gc, _, none⟩) (by dsimp only; omega) _).setCell (p := ⟨gc, _, none⟩) (by dsimp only; omega) _
    have R9 : Bk W9 w.heap.size 31 #[.int .i16 s, .slice (some ⟨gc, 0, none⟩) l.length q] := by rw [hW9]; exact (R8.other (by omega) _).other (by omega) _
    have D9 : Dr W9 (w.heap.size + 1) 32 d := by rw [hW9]; exact (D8.other (by omega) _).other (by omega) _
    have RF9 : W9.heap[w.heap.size + 1 + 1]? = some (.cells #[.int .i16 0, .slice none 0 0] 31 (0, 0)) := by rw [hW9]; exact (heap_setCell_other _ _ _ _ (by dsimp only; omega)).trans ((heap_setCell_other _ _ _ _ (by dsimp only; omega)).trans RF8)
    have RD9 : W9.heap[w.heap.size + 1 + 1 + 1]? = some (.cells (da fun _ => 0) 32 (0, 0)) := by rw [hW9]; exact (heap_setCell_other _ _ _ _ (by dsimp only; omega)).trans ((heap_setCell_other _ _ _ _ (by dsimp only; omega)).trans RD8)
    rw [← hW9]
    clear hW9 fa fb ht0 ht1 hu0 hu1 own8 R8 D8 RF8 RD8
    have hS4 : W9.cell? ⟨w.heap.size, 1, none⟩ = some (.slice (some ⟨gc, 0, none⟩) l.length q) := R9.cell (i := 1) rfl
    refine hK.out _ _ hS4 (fun hS5 => ?_)
    clear hK K hS3
    refine wpAnyH_take (i := 18) (v := .pointer (some ⟨gc, u * 2, none⟩)) rfl (by kernel_rfl) (by kernel_rfl) (by kernel_rfl) (fun _ _ _ h => h) (Or.inl ⟨by rfl, fun w' _ => by go_simp⟩) hS5 ?_
    change wpAnyH _ _ _ _ _ _ _ (Act.put _ (some 57) _) _
    simp only [Act.put, List.setIfInBounds_toArray, List.set_cons_zero, List.set_cons_succ]
    have ga : W9.cell? ⟨gc, u * 2, none⟩ = some _ := (own9.cellAt (u * 2) (by omega)).trans (hcells_even _ u (by simp; omega))
    have gb : W9.cell? ⟨gc, u * 2 + 1, none⟩ = some _ := (own9.cellAt (u * 2 + 1) (by omega)).trans (hcells_odd _ u (by simp; omega))
    have fa := own9.frozenAt (u * 2)
    have fb := own9.frozenAt (u * 2 + 1)
    refine wpAnyH_ready (rs := [19]) (by kernel_rfl) (by simp) (AllReadyH.cons rfl ?_ AllReadyH.nil)
    intro K hK
    rw [if_pos (by rfl)]
    go_simp
    obtain ⟨W10, hW10⟩ : ∃ X, X = (W9.setCell ⟨gc, u * 2, none⟩ (.int .i8 (hPi l t))).setCell ⟨gc, u * 2 + 1, none⟩ (.int .i8 (hRe l t)) := ⟨_, rfl⟩
    have own10 : W10.ownsRow w5.heap.size 49 2 (.slice (some ⟨gc, 0, none⟩) l.length q) l.length (hcells (exL l t u)) := by rw [hW10]; exact hown_set2 own9 u _ _
    have b10 : Below w.heap.size w W10 := by rw [hW10]; exact (b9.setCell (p := ⟨gc, _, none⟩) (by dsimp only; omega) _).setCell (p := ⟨gc, _, none⟩) (by dsimp only; omega) _
    have R10 : Bk W10 w.heap.size 31 #[.int .i16 s, .slice (some ⟨gc, 0, none⟩) l.length q] := by rw [hW10]; exact (R9.other (by omega) _).other (by omega) _
    have D10 : Dr W10 (w.heap.size + 1) 32 d := by rw [hW10]; exact (D9.other (by omega) _).other (by omega) _
    have RF10 : W10.heap[w.heap.size + 1 + 1]? = some (.cells #[.int .i16 0, .slice none 0 0] 31 (0, 0)) := by rw [hW10]; exact (heap_setCell_other _ _ _ _ (by dsimp only; omega)).trans ((heap_setCell_other _ _ _ _ (by dsimp only; omega)).trans RF9)
    have RD10 : W10.heap[w.heap.size + 1 + 1 + 1]? = some (.cells (da fun _ => 0) 32 (0, 0)) := by rw [hW10]; exact (heap_setCell_other _ _ _ _ (by dsimp only; omega)).trans ((heap_setCell_other _ _ _ _ (by dsimp only; omega)).trans RD9)
    rw [← hW10]
    clear hW10 fa fb ga gb own9 R9 D9 RF9 RD9 b9
    have hS6 : W10.cell? ⟨w.heap.size, 1, none⟩ = some (.slice (some ⟨gc, 0, none⟩) l.length q) := R10.cell (i := 1) rfl
    refine hK.out _ _ hS6 (fun hS7 => ?_)
    clear hK K hS4 hS5
    refine wpAnyH_done (by kernel_rfl) ?_ _
    clear hS6 hS7
    have hd2 : Below W10.heap.size W10 W10.drew := (Below.refl _ _).drew
    have p1 : W10.drew.cell? ⟨w.heap.size, 0, none⟩ = some (.int .i16 s) := (R10.keep hd2).cell (i := 0) rfl
    have p2 : W10.drew.cell? ⟨w.heap.size, 1, none⟩ = some (.slice (some ⟨gc, 0, none⟩) l.length q) := (R10.keep hd2).cell (i := 1) rfl
    have p3 := (D10.keep hd2).range
    have KD := fun W => swapped_any t u d W ht24 hu24 hd
    have HRF := hide RF10
    have HRD := hide RD10
    clear RF10 RD10
    go_wp2_with fail
    refine wp_region_held_drew (S := fun w' => w'.cell? ⟨w.heap.size, 0, none⟩ = some (.int .i16 s) ∧ w'.cell? ⟨w.heap.size, 1, none⟩ = some (.slice (some ⟨gc, 0, none⟩) l.length q) ∧ w'.rangeAt (w.heap.size + 1) 0 (dv d)) (by kernel_rfl) ⟨p1, p2, p3⟩ fun hS1 => ?_
    clear p1 p2 p3
    refine wpAnyH_take (i := 0) (v := .agg #[.int .i16 s, .slice (some ⟨gc, 0, none⟩) l.length q]) rfl (by kernel_rfl) (by kernel_rfl) (by kernel_rfl) (fun _ _ _ h => h) (Or.inl ⟨by rfl, fun w' h => ?_⟩) hS1 ?_
    · have c0 := h.1
      have c1 := h.2.1
      clear h
      go_simp
    simp only [Act.put, List.setIfInBounds_toArray, List.set_cons_zero, List.set_cons_succ]
    refine wpAnyH_take (i := 1) rfl (by kernel_rfl) (by kernel_rfl) (by kernel_rfl) (fun _ _ _ h => h) (yieldsIf_load_mid (by rfl) _ _ rfl (w.heap.size + 1) 0 rfl (dv d) _ (fun _ h => h.2.2) Try.underlying32 rfl (dInfo d)) hS1 ?_
    simp only [Act.put, List.setIfInBounds_toArray, List.set_cons_zero, List.set_cons_succ]
    refine wpAnyH_take (i := 2) (v := .int .i64 t) rfl (by kernel_rfl) (by kernel_rfl) (by kernel_rfl) (fun _ _ _ h => h) (Or.inl ⟨by rfl, fun w' _ => by go_simp⟩) hS1 ?_
    change wpAnyH _ _ _ _ _ _ _ (Act.put _ (some 60) _) _
    simp only [Act.put, List.setIfInBounds_toArray, List.set_cons_zero, List.set_cons_succ]
    refine wpAnyH_take (i := 3) (v := .int .i64 u) rfl (by kernel_rfl) (by kernel_rfl) (by kernel_rfl) (fun _ _ _ h => h) (Or.inl ⟨by rfl, fun w' _ => by go_simp⟩) hS1 ?_
    change wpAnyH _ _ _ _ _ _ _ (Act.put _ (some 61) _) _
    simp only [Act.put, List.setIfInBounds_toArray, List.set_cons_zero, List.set_cons_succ]
    refine wpAnyH_ready (rs := [4]) (by kernel_rfl) (by simp) (AllReadyH.cons rfl ?_ AllReadyH.nil)
    intro K hK
    rw [if_pos (by rfl)]
    go_simp
    refine (KD _).mono ?_
    rintro e w11 ⟨rfl, hb11'⟩
    have hb11 := step_below hb11' hd2
    have own11 := own_keep (own_keep own10 hd2) hb11'
    have b11 := step_below hb11 b10
    have R11 := R10.keep hb11
    have D11 := D10.keep hb11
    have RF11 := (hb11.block _ (Array.getElem?_eq_some_iff.1 HRF.out).1).trans HRF.out
    have RD11 := (hb11.block _ (Array.getElem?_eq_some_iff.1 HRD.out).1).trans HRD.out
    refine hK.out _ _ ⟨R11.cell (i := 0) rfl, R11.cell (i := 1) rfl, D11.range⟩ (fun hS2 => ?_)
    clear hK K hS1 KD HRF HRD own10 R10 D10
    refine wpAnyH_ready (rs := [5]) (by kernel_rfl) (by simp) (AllReadyH.cons rfl ?_ AllReadyH.nil)
    intro K hK
    rw [if_pos (by rfl)]
    refine wp_store_row 31 (.tmp 8) (.tmp 58) rfl (w.heap.size + 1 + 1) #[.int .i16 s, .slice (some ⟨gc, 0, none⟩) l.length q] rfl rfl 31 _ RF11 (infoF2 _ _) (sz22 _ _ _ _) (oneF _ _ _ _) ?_
    have RF12 := setRow_heap _ _ _ #[.int .i16 s, .slice (some ⟨gc, 0, none⟩) l.length q] _ _ RF11
    have RD12 : (w11.setRow (w.heap.size + 1 + 1) #[.int .i16 s, .slice (some ⟨gc, 0, none⟩) l.length q]).heap[w.heap.size + 1 + 1 + 1]? = some (.cells (da fun _ => 0) 32 (0, 0)) := (setRow_other _ _ _ _ (by omega)).trans RD11
    have D12 : Dr (w11.setRow (w.heap.size + 1 + 1) #[.int .i16 s, .slice (some ⟨gc, 0, none⟩) l.length q]) (w.heap.size + 1) 32 d := (setRow_other _ _ _ _ (by omega)).trans D11
    have R12 : Bk (w11.setRow (w.heap.size + 1 + 1) #[.int .i16 s, .slice (some ⟨gc, 0, none⟩) l.length q]) w.heap.size 31 #[.int .i16 s, .slice (some ⟨gc, 0, none⟩) l.length q] := (setRow_other _ _ _ _ (by omega)).trans R11
    refine hK.out _ _ ⟨R12.cell (i := 0) rfl, R12.cell (i := 1) rfl, D12.range⟩ (fun hS3 => ?_)
    clear hK K hS2
    refine wpAnyH_ready (rs := [6]) (by kernel_rfl) (by simp) (AllReadyH.cons rfl ?_ AllReadyH.nil)
    intro K hK
    rw [if_pos (by rfl)]
    refine wp_store_row 32 (.tmp 9) (.tmp 62) rfl (w.heap.size + 1 + 1 + 1) (da (swD d t u 96)) rfl rfl 32 _ RD12 (by rw [da_size]; exact info32) (by simp only [da_size]) (da_one _) ?_
    have RF13 : ((w11.setRow (w.heap.size + 1 + 1) #[.int .i16 s, .slice (some ⟨gc, 0, none⟩) l.length q]).setRow (w.heap.size + 1 + 1 + 1) (da (swD d t u 96))).heap[w.heap.size + 1 + 1]? = some (.cells #[.int .i16 s, .slice (some ⟨gc, 0, none⟩) l.length q] 31 (0, 0)) := (setRow_other _ _ _ _ (by omega)).trans RF12
    have RD13 := setRow_heap _ _ _ (da (swD d t u 96)) _ _ RD12
    have D13 : Dr ((w11.setRow (w.heap.size + 1 + 1) #[.int .i16 s, .slice (some ⟨gc, 0, none⟩) l.length q]).setRow (w.heap.size + 1 + 1 + 1) (da (swD d t u 96))) (w.heap.size + 1) 32 d := (setRow_other _ _ _ _ (by omega)).trans D12
    have R13 : Bk ((w11.setRow (w.heap.size + 1 + 1) #[.int .i16 s, .slice (some ⟨gc, 0, none⟩) l.length q]).setRow (w.heap.size + 1 + 1 + 1) (da (swD d t u 96))) w.heap.size 31 #[.int .i16 s, .slice (some ⟨gc, 0, none⟩) l.length q] := (setRow_other _ _ _ _ (by omega)).trans R12
    refine hK.out _ _ ⟨R13.cell (i := 0) rfl, R13.cell (i := 1) rfl, D13.range⟩ (fun hS4 => ?_)
    clear hK K hS3
    refine wpAnyH_take (i := 7) (v := .int .i64 0) rfl (by kernel_rfl) (by kernel_rfl) (by kernel_rfl) (fun _ _ _ h => h) (Or.inl ⟨by rfl, fun w' _ => by go_simp⟩) hS4 ?_
    change wpAnyH _ _ _ _ _ _ _ (Act.put _ (some 10) _) _
    simp only [Act.put, List.setIfInBounds_toArray, List.set_cons_zero, List.set_cons_succ]
    refine wpAnyH_done (by kernel_rfl) ?_ _
    have HF9 := hide RF13
    have HZ9 := hide RD13
    have bE := below_setRow (cs := da (swD d t u 96)) (g := w.heap.size + 1 + 1 + 1) (below_setRow (cs := #[.int .i16 s, .slice (some ⟨gc, 0, none⟩) l.length q]) (g := w.heap.size + 1 + 1) b11 (by omega)) (by omega)
    have ow := own_base (own_keepR (own_keepR own11 (by omega : w.heap.size + 1 + 1 < w5.heap.size) #[.int .i16 s, .slice (some ⟨gc, 0, none⟩) l.length q]) (by omega : w.heap.size + 1 + 1 + 1 < w5.heap.size) (da (swD d t u 96))) (by omega : w.heap.size ≤ w5.heap.size)
    clear RF13 RD13 D13 R13 RF12 RD12 D12 R12 RF11 RD11 R11 D11
    go_wp2
    exact bodyPost_ret (v := .tuple #[.agg #[.int .i16 s, .slice (some ⟨gc, 0, none⟩) l.length q], .agg (da (swD d t u 96)), .int .i64 0]) (results_fd Try.results9 _ _ (w.heap.size + 1 + 1) (w.heap.size + 1 + 1 + 1) _ _ #[.int .i16 s, .slice (some ⟨gc, 0, none⟩) l.length q] _ _ rfl (by simp [Act.put]) (by simp [Act.put]) (by simp [Act.put]) HF9.out HZ9.out) rfl ⟨some ⟨gc, 0, none⟩, q, by rw [HY.out, HX.out, HS.out, HL.out, exL_length], by rw [HL.out, exL_length]; exact ow, bE⟩
end Go.Proofs.Ytehcghaficbhiaa
