import Derived.Test.YtcepjiglhlmgdaaDoorDrs
import Derived.StillTailTactics
import Derived.Test.YtcepjiglhlmgdaaDoorGab
import Derived.Test.YtcepjiglhlmgdaaDoorRows
import Derived.ProofKit
import Derived.Deep.SlicePairs
import Derived.OpenShut
import Derived.ChangeSlices
import Derived.Test.YtcepjiglhlmgdaaDoorFre
namespace Go.Proofs.YtcepjiglhlmgdaaDoor
open Go.RowKit

/-- what is kept of a step: the bits of the tracks that there are -/
def keptI (n : Nat) (x : Int) : Int := bits .and .u32 x ((2 ^ n - 1) % 4294967296)
def keptD (s : Int) (n : Nat) (d : Nat → Int) (i : Nat) : Int := if (i : Int) < s then keptI n (d i) else 0

set_option maxRecDepth 20000 in
set_option maxHeartbeats 1000000 in
theorem cut_any (s : Int) (A : Option Addr) (n c : Nat) (d : Nat → Int) (w : World) (hn : n ≤ 24) (hs : 2 ≤ s ∧ s ≤ 96) (hd : DWF d) :
    Calls Tryd.prog 63 #[.agg #[.int .i64 s, .slice A n c], .agg (da d)] w fun e w' => e = .returned (.agg (da (keptD s n d))) ∧ Below w.heap.size w w' := by
  have hz := zeroDrum
  have HT := fun W => tracks_any A n c (by omega) W
  obtain ⟨hs1, hs2⟩ := hs
  obtain ⟨S, hS⟩ : ∃ S : Nat, s = (S : Int) := ⟨s.toNat, by omega⟩
  subst hS
  go_enter Tryd.func63, Tryd.ntmps63
  go_wp2_with fail
  clear hz
  have hb0 : Below w.heap.size w ((((w.alloc (.cells #[.int .i64 S, .slice A n c] 65)).alloc (.cells (da d) 49)).alloc (.cells za 49)).alloc (.cells za 49)) := ((((Below.refl _ _).alloc (Nat.le_refl _) _).alloc (by simp) _).alloc (by simp; omega) _).alloc (by simp; omega) _
  go_loopw [6, 9] (fun _ i wr => ∃ k : Nat, k ≤ S ∧ i = .int .i64 k ∧ wr.cell? ⟨w.heap.size, 1, none⟩ = some (.slice A n c) ∧ Dr wr (w.heap.size + 1) 49 d ∧ Dr wr (w.heap.size + 1 + 1) 49 (fun _ => 0) ∧ Dr wr (w.heap.size + 1 + 1 + 1) 49 (fun i => if i < k then keptI n (d i) else 0) ∧ Below w.heap.size w wr)
    (fun _ i _ => S - (intOf i).toNat)
  case atStart => exact ⟨0, Nat.zero_le _, rfl, by simp [go_sem], heap_old' (heap_old' (heap_new' _ _ _ (by simp))), by rw [za_eq]; exact heap_old' (heap_new' _ _ _ (by simp)), by rw [za_eq]; exact heap_new' _ _ _ (by simp), hb0⟩
  case round =>
    obtain ⟨k, hk, rfl, c0, D1, D2, D3, hb⟩ := hrel
    by_cases hlt : k < S
    · have hk96 : k < 96 := by omega
      have c1 := D1.cell hk96
      have c3 := D3.cell hk96
      have f3 := D3.frozen k
      obtain ⟨x1, x2⟩ := hd k hk96
      go_wp2_with fail
      refine wp_region_still_tail 11 (by kernel_rfl) (by kernel_rfl) ?_
      change wpStill _ _ wr.drew (fun a' => wpList _ _ _ _ a' wr.drew) _ _
      simp only [List.take_succ_cons, List.take_zero, List.drop_succ_cons, List.drop_zero]
      have hdr : Below wr.heap.size wr wr.drew := (Below.refl _ _).drew
      have c0d : wr.drew.cell? ⟨w.heap.size, 1, none⟩ = some (.slice A n c) := c0
      have D1d := D1.keep hdr
      have D2d := D2.keep hdr
      have D3d := D3.keep hdr
      have hbd := hb.drew
      have hki : (k : Int) < 96 := by omega
      have HTd : Calls Tryd.prog 47 #[.slice A n c] wr.drew fun e w' => e = .returned (.int .i64 n) ∧ w' = wr.drew := (HT _).mono fun e w' ⟨a, b⟩ => ⟨a, b.symm⟩
      clear c0 D1 D2 D3 hb hdr c1 c3 f3
      generalize wr.drew = wd at *
      have c1 := D1d.cell hk96
      have c3 := D3d.cell hk96
      have f3 := D3d.frozen k
      repeat (first | still_call HTd | still_step)
      refine wpStill_nil ?_
      go_wp2
      go_roundw
      case rel =>
        refine ⟨k + 1, hlt, by go_num, by simp [go_sem, c0d], D1d.other (by omega) _, D2d.other (by omega) _, (D3d.set k _).congr fun i hi => ?_, hbd.setCell (p := ⟨_, _, none⟩) (by dsimp only; omega) _⟩
        change (if i = k then keptI n (d k) else _) = _
        by_cases e : i = k
        · subst e; rw [if_pos rfl, if_pos (by omega)]
        · rw [if_neg e]
          by_cases h2 : i < k
          · rw [if_pos h2, if_pos (by omega)]
          · rw [if_neg h2, if_neg (by omega)]
      case measure => simp [intOf]; omega
    · obtain rfl : k = S := by omega
      have R2 : wr.heap[w.heap.size + 1 + 1]? = some (.cells (da fun _ => 0) 49 (0, 0)) := D2
      have R3 : wr.heap[w.heap.size + 1 + 1 + 1]? = some (.cells (da (keptD k n d)) 49 (0, 0)) := (D3.congr (d' := keptD k n d) fun i hi => by unfold keptD; by_cases h : i < k <;> simp [h] : Dr _ _ _ _)
      have HR2 := hide R2
      have HR3 := hide R3
      clear R2 R3
      go_wp2_with (first | (with_reducible refine wpList_load_row rfl 49 (.tmp 5) rfl (w.heap.size + 1 + 1 + 1) rfl 49 (da (keptD k n d)) (0, 0) _ HR3.out Tryd.underlying49 rfl (by rw [da_size]; exact info49) ?_) | (with_reducible refine wpList_store_row rfl 49 (.tmp 4) (.tmp 24) rfl (w.heap.size + 1 + 1) (da (keptD k n d)) rfl rfl 49 _ HR2.out (by rw [da_size]; exact info49) (by rw [da_size, da_size]) (da_one _) ?_))
      exact bodyPost_ret (v := .agg (da (keptD k n d))) (results_cell_row Tryd.results63 _ _ (w.heap.size + 1 + 1) 49 (da (keptD k n d)) (0, 0) _ (by simp [Act.put]) (setRow_heap _ _ _ _ _ _ HR2.out) Tryd.underlying49 rfl (by rw [da_size]; exact info49)) rfl ⟨rfl, below_setRow hb (by omega)⟩
end Go.Proofs.YtcepjiglhlmgdaaDoor
namespace Go.Proofs.YtcepjiglhlmgdaaDoor
open Go.ChangeShapes Go.WideShapes Go.ChangeAt Go.RowKit Go.Deep Go.Proofs.YtcepjiglhlmgdaaDoor

theorem Tryd.own : ownKnob Tryd.prog.godebug = none := by kernel_rfl
theorem Tryd.laidOut : laidOutB Tryd.prog = true := by kernel_rfl
theorem Tryd.cells22 : Tryd.prog.cellsOf 22 = 1 := by kernel_rfl
theorem Tryd.cells26 : Tryd.prog.cellsOf 26 = 1 := by kernel_rfl
theorem Tryd.cells2 : Tryd.prog.cellsOf 2 = 1 := by kernel_rfl
end Go.Proofs.YtcepjiglhlmgdaaDoor
namespace Go.Proofs.YtcepjiglhlmgdaaDoor
open Go.ChangeShapes Go.WideShapes Go.ChangeAt Go.RowKit Go.Deep Go.Proofs.YtcepjiglhlmgdaaDoor

theorem Tryd.cells97 : Tryd.prog.cellsOf 97 = 2 := by kernel_rfl
theorem Tryd.cells25 : Tryd.prog.cellsOf 25 = 2 := by kernel_rfl
theorem Tryd.cells23 : Tryd.prog.cellsOf 23 = 1 := by kernel_rfl

theorem hams_of {H : Type} {enc : TypeId × Value → H} {W : World} {base : Nat} {spare : Nat → Bool} {held : Bool} {fuel : Nat} {y : Value} {x : DataW H × List MemPlace}
    (h : DataW.trod enc Tryd.prog W base spare held fuel 23 [y] = some x) :
    ∃ (A : Option Addr) (cap : Nat) (l : List (Int × Int)), y = .slice A l.length cap ∧ l.length ≤ maxLen ∧ HA W A l ∧ HWF l := by
  rcases open_slice_pairs Tryd.underlying23 Tryd.underlying97 Tryd.cells97 rfl rfl Tryd.cells26 Tryd.cells26 h with ⟨hcs, _⟩ | ⟨a, len, cap, m, n, V0, V1, D0, D1, P0, P1, hcs, _, hl, hm, hmm, _, hi⟩
  · simp at hcs
    subst hcs
    exact ⟨none, 0, [], rfl, by decide, fun k hk => absurd hk (by simp), fun k hk => absurd hk (by simp)⟩
  · simp at hcs
    subst hcs
    have hlm : len ≤ m := by rw [hmm]; split <;> omega
    have each : ∀ i, i < len → ∃ a0 p0 : Int, V0 i = .int .i8 a0 ∧ V1 i = .int .i8 p0 ∧ (-128 ≤ a0 ∧ a0 ≤ 127) ∧ (-128 ≤ p0 ∧ p0 ≤ 127) := by
      intro i hilt
      obtain ⟨_, _, g0, g1⟩ := hi i (by omega)
      obtain ⟨a0, e0, _, w0⟩ := DataW.trod_int Tryd.underlying26 g0
      obtain ⟨p0, e1, _, w1⟩ := DataW.trod_int Tryd.underlying26 g1
      simp only [List.cons.injEq, and_true] at e0 e1
      exact ⟨a0, p0, e0, e1, bounds_i8 w0, bounds_i8 w1⟩
    refine ⟨some a, cap, (List.range len).map fun i => (intOf (V0 i), intOf (V1 i)), by simp, by simp; omega, ?_, ?_⟩
    · intro k hk
      have hk' : k < len := by simpa using hk
      obtain ⟨a0, p0, e0, e1, _⟩ := each k hk'
      obtain ⟨c0, c1, _⟩ := hi k (by omega)
      obtain ⟨z0, _, _⟩ := hi 0 (by omega)
      obtain ⟨b, off, spot⟩ := a
      have hspot : spot = none := by simpa [Addr.add] using World.cell?_spot z0
      subst hspot
      have hlt := World.block_lt_of_cell? W _ z0
      refine ⟨b, off, rfl, by simpa [Addr.add] using hlt, ?_, ?_⟩
      · rw [Addr.add_lit] at c0
        rw [c0, e0]; simp [hPi, List.getD, hk', e0, intOf]
      · rw [Addr.add_lit] at c1
        rw [← Nat.add_assoc] at c1
        rw [c1, e1]; simp [hRe, List.getD, hk', e1, intOf]
    · intro k hk
      have hk' : k < len := by simpa using hk
      obtain ⟨a0, p0, e0, e1, b0, b1⟩ := each k hk'
      simp [hPi, hRe, List.getD, hk', e0, e1, intOf]
      exact ⟨b0, b1⟩

set_option maxRecDepth 100000 in
theorem frame_of {H : Type} {enc : TypeId × Value → H} {W : World} {base b0 : Nat} {r : Reach} {spare : Nat → Bool} {held : Bool} {fuel : Nat} {v : Value} {x : DataW H × List MemPlace}
    (hv : Value.okWide Tryd.prog W r b0 25 v) (h : DataW.trod enc Tryd.prog W base spare held fuel 25 v.cells.toList = some x) :
    ∃ (s : Int) (A : Option Addr) (cap : Nat) (l : List (Int × Int)), v = .agg #[.int .i16 s, .slice A l.length cap] ∧ l.length ≤ maxLen ∧ HA W A l ∧ HWF l ∧ (-32768 ≤ s ∧ s ≤ 32767) := by
  obtain ⟨cs, rfl, hcs⟩ := okWide_struct Tryd.underlying25 hv
  rw [Tryd.cells25] at hcs
  obtain ⟨y0, y1, n, _, _, h0, h1⟩ := trod_struct2 Tryd.underlying25 h
  obtain ⟨a, b, hab⟩ : ∃ a b, cs = #[a, b] := by
    obtain ⟨ls⟩ := cs
    match ls, hcs with
    | [a, b], _ => exact ⟨a, b, rfl⟩
  subst hab
  simp only [Value.cells, List.drop_zero, Tryd.cells22, Tryd.cells23] at h0 h1
  obtain ⟨s, e0, _, w0⟩ := DataW.trod_int Tryd.underlying22 h0
  obtain ⟨A, cap, l, rfl, hl, hA, hwf⟩ := hams_of h1
  simp at e0
  subst e0
  exact ⟨s, A, cap, l, rfl, hl, hA, hwf, bounds_i16 w0⟩
end Go.Proofs.YtcepjiglhlmgdaaDoor
