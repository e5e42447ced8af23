import Derived.Test.YtcocfnjbgceidaaGaj
import Derived.Test.YtcocfnjbgceidaaGad
import Derived.Deep.MidRow
import Derived.Great.Ranges
import Derived.Great.BuildSlice
import Derived.Test.YtcocfnjbgceidaaGae
import Derived.StillTailTactics
import Derived.Test.YtcocfnjbgceidaaGaa
import Derived.Test.YtcocfnjbgceidaaRows
import Derived.ProofKit
import Derived.Deep.SlicePairs
import Derived.OpenShut
import Derived.ChangeSlices
namespace Go.Proofs.Ytcocfnjbgceidaa
open Go.RowKit Go.Shelf Go.Lib
open Go.Sort (SWO HoldsK PermIn SortedIn pdq pdq_sorts sorted_unique_holds)
theorem cmpLaysW (g n : Nat) (w : World) : CmpLays Try.prog 111 #[] encW 3 cfW g 0 n w :=
  fun _ _ _ _ x y => compareWornPins_grow x.1 x.2.1 x.2.2 y.1 y.2.1 y.2.2 _
/-- what slices.SortFunc leaves of notes -/
def SortedW (base : Nat) (C : Option Addr) (q : Nat) (l T : List (Int × Int × Int)) (w : World) (e : Ending) (w' : World) : Prop :=
  e = .returned (.tuple #[]) ∧ w'.ownsRow base 136 3 (.slice C l.length q) l.length (wnC T) ∧ Below base w w' ∧ w.grownBy w' (Value.slice C l.length q).ownBlock
set_option maxHeartbeats 2000000 in
set_option maxRecDepth 100000 in
theorem sortFuncW_any (C : Option Addr) (q : Nat) (l T : List (Int × Int × Int)) (base : Nat) (w : World) (h : w.ownsRow base 136 3 (.slice C l.length q) l.length (wnC l)) (hn : l.length ≤ 1048576) (hbase : base ≤ w.heap.size) (hT : AscL T) (hTp : T.Perm l) :
    Calls Try.prog 150 #[.slice C l.length q, .func (.func 111) #[] #[]] w (SortedW base C q l T w) := by
  by_cases h0 : l = []
  · subst h0
    have hp : ∀ lim W, Calls Try.prog 177 #[.slice C 0 q, .int .i64 0, .int .i64 0, .int .i64 lim, .func (.func 111) #[] #[]] W fun e w' => e = .returned (.tuple #[]) ∧ w' = W := fun lim W => AnyF.pdqsortCmpFunc_none (P := Try.prog) (ρ := sortRenW) sortLaysW C q lim (.func (.func 111) #[] #[]) W
    have hl : ∀ W, Calls Try.prog 178 #[.int .u64 0] W fun e w' => e = .returned (.int .i64 (Lib.bitLen 0 : Nat)) ∧ w' = W := fun W => Any.bits_Len (SlLaysF0.n15.bits (P := Try.prog) (ρ := sortRenW) { sortLaysW with }) 0 W (by omega) (by omega)
    have HO := hide h
    clear h
    go_enter Try.func150, Try.ntmps150
    go_wp2_with (first | (go_at_call 178; refine (hl _).mono ?_; rintro e w' ⟨rfl, rfl⟩) | (go_at_call 177; refine (hp _ _).mono ?_; rintro e w' ⟨rfl, rfl⟩))
    go_end0
    obtain rfl : T = [] := List.perm_nil.1 hTp
    exact ⟨rfl, HO.out, Below.refl _ _, rfl, rfl, rfl, Nat.le_refl _, fun _ _ _ => rfl⟩
  · have hpos : 0 < l.length := by
      rcases Nat.eq_zero_or_pos l.length with e | e
      · exact absurd (List.eq_nil_of_length_eq_zero e) h0
      · exact e
    rcases h.2 with ⟨h', e0⟩ | ⟨g, cap, cur, h', hgb, hg, _⟩
    · omega
    · simp only [Value.slice.injEq, true_and] at h'
      obtain ⟨rfl, rfl⟩ := h'
      have hblk : g < w.heap.size := (Array.getElem?_eq_some_iff.1 hg).1
      have hsz : l.toArray.size = l.length := by simp
      have eg : ∀ args w, (callFunc 111 args).run Try.prog w = .ok (.enter 111 args) w := enters_of Try.func111 (by kernel_rfl) rfl
      have aE : ∀ w, (isAgg 136).run Try.prog w = .ok true w := Try.isAgg136
      have zE : ∀ w, (Go.sizeOf 136).run Try.prog w = .ok 3 w := Try.sizeOf136
      have hH := holds_ownW h
      have hp := AnyQ.pdqsortCmpFunc_all (P := Try.prog) (ρ := sortRenW) sortLaysW 3 aE zE encW cfW 111 #[] cfW_swo g 0 q l.toArray w eg (cmpLaysW g _ w) ⟨encW_len, encW_one, hH, hblk⟩ (l.toArray.size + 1) 0 l.toArray.size (Lib.bitLen l.toArray.size) l.toArray w (by omega) rfl (SWK.start hH) (Nat.zero_le _) (Nat.le_refl _) (by rw [hsz]; omega) (Nat.lt_of_le_of_lt (Lib.bitLen_le l.toArray.size 62 (by omega) (by rw [hsz]; omega)) (by omega)) (Or.inl rfl)
      have hl : Calls Try.prog 178 #[.int .u64 (l.toArray.size : Int)] w fun e w' => e = .returned (.int .i64 (Lib.bitLen l.toArray.size : Nat)) ∧ w' = w := by
        have h := Any.bits_Len (SlLaysF0.n15.bits (P := Try.prog) (ρ := sortRenW) { sortLaysW with }) (l.toArray.size : Int) w (by omega) (by rw [hsz]; omega)
        rwa [Int.toNat_natCast] at h
      have hs := pdq_sorts (ltOf cfW) cfW_swo l.toArray 0 l.toArray.size (Lib.bitLen l.toArray.size) true true (Nat.zero_le _) (Nat.le_refl _) (Or.inl rfl)
      have hD : (pdq (ltOf cfW) l.toArray 0 l.toArray.size (Lib.bitLen l.toArray.size) true true) = T.toArray := Array.ext' (sortedW_unique hT hTp hs.1 hs.2)
      rw [hD] at hp
      rw [hsz] at hp hl
      have hp' : Calls Try.prog 177 #[.slice (some ⟨g, 0, none⟩) l.length q, .int .i64 0, .int .i64 l.length, .int .i64 (Lib.bitLen l.length : Nat), .func (.func 111) #[] #[]] w fun e w' => e = .returned (.tuple #[]) ∧ w'.ownsRow base 136 3 (.slice (some ⟨g, 0, none⟩) l.length q) l.length (wnC T) ∧ Below base w w' ∧ w.grownBy w' (some g) := by
        refine Calls.mono hp fun e w' ⟨he, m, os, hw⟩ => ⟨he, ?_, ?_, by rw [hw]; exact sorted_grownW⟩
        · rw [hw]
          exact sorted_ownW h hTp.length_eq
        · rw [hw]
          exact sorted_belowW hgb hbase
      have wr : IntKind.u64.wrap (l.length : Int) = l.length := by simp [IntKind.wrap, IntKind.bits, IntKind.signed]; omega
      clear hp hs hH h hg eg aE zE hsz h0
      obtain ⟨bl, hbl⟩ : ∃ bl : Nat, bl = Lib.bitLen l.length := ⟨_, rfl⟩
      rw [← hbl] at hp' hl
      clear hbl
      go_enter Try.func150, Try.ntmps150
      go_wp2_with (first | (go_at_call 178; refine hl.mono ?_; rintro e w' ⟨rfl, rfl⟩) | (go_at_call 177; refine hp'.mono ?_; rintro e w' ⟨rfl, ho, hb, hgr⟩))
      go_end0
      exact ⟨rfl, ho, hb, hgr⟩
end Go.Proofs.Ytcocfnjbgceidaa
namespace Go.Proofs.Ytcocfnjbgceidaa
open Go.RowKit

/-- a drum's cells -/
def dv (d : Nat → Int) : List Value := (List.range 96).map fun i => .int .u32 (d i)
theorem dv_length (d : Nat → Int) : (dv d).length = 96 := by simp [dv]
theorem dv_get (d : Nat → Int) (i : Nat) (h : i < 96) : (dv d)[i]? = some (.int .u32 (d i)) := by simp [dv, h]
theorem dv_one (d : Nat → Int) : ∀ v ∈ dv d, v.oneCell' = true := by
  intro v hv
  simp only [dv, List.mem_map] at hv
  obtain ⟨i, _, rfl⟩ := hv
  rfl
theorem dv_set (d : Nat → Int) (k : Nat) (x : Int) : (dv d).set k (.int .u32 x) = dv (fun i => if i = k then x else d i) := by
  apply List.ext_getElem?
  intro i
  by_cases hi : i < 96
  · rw [dv_get _ _ hi, List.getElem?_set, dv_get _ _ hi, dv_length]
    by_cases e : k = i
    · subst e; simp [hi]
    · rw [if_neg e, if_neg (fun h => e h.symm)]
  · rw [List.getElem?_eq_none (by rw [List.length_set, dv_length]; omega), List.getElem?_eq_none (by rw [dv_length]; omega)]
theorem dv_congr {d d' : Nat → Int} (h : ∀ i, i < 96 → d i = d' i) : dv d = dv d' := by
  apply List.map_congr_left
  intro i hi
  rw [h i (List.mem_range.1 hi)]
/-- as an array -/
def da (d : Nat → Int) : Array Value := (dv d).toArray
theorem da_one (d : Nat → Int) : (da d).all (·.oneCell') = true := all_oneCell_toArray (dv_one d)
theorem da_size (d : Nat → Int) : (da d).size = 96 := by simp [da, dv_length]
/-- block g holds a drum, as a row of a type -/
def Dr (w : World) (g : Nat) (t : TypeId) (d : Nat → Int) : Prop := w.heap[g]? = some (.cells (da d) t (0, 0))
theorem Dr.lt {w : World} {g : Nat} {t : TypeId} {d : Nat → Int} (h : Dr w g t d) : g < w.heap.size := (Array.getElem?_eq_some_iff.1 h).1
theorem Dr.cell {w : World} {g : Nat} {t : TypeId} {d : Nat → Int} (h : Dr w g t d) {i : Nat} (hi : i < 96) : w.cell? ⟨g, i, none⟩ = some (.int .u32 (d i)) := by
  rw [cell_of_row w g i _ _ _ h]
  simpa [da] using dv_get d i hi
theorem Dr.frozen {w : World} {g : Nat} {t : TypeId} {d : Nat → Int} (h : Dr w g t d) (i : Nat) : w.frozen? ⟨g, i, none⟩ = false := frozen_of_row w g i _ _ h
theorem Dr.keep {w w' : World} {g : Nat} {t : TypeId} {d : Nat → Int} (h : Dr w g t d) (hb : Below w.heap.size w w') : Dr w' g t d := (hb.block g h.lt).trans h
theorem Dr.set {w : World} {g : Nat} {t : TypeId} {d : Nat → Int} (h : Dr w g t d) (k : Nat) (x : Int) : Dr (w.setCell ⟨g, k, none⟩ (.int .u32 x)) g t (fun i => if i = k then x else d i) := by
  have := heap_setCell_same w g k _ _ (.int .u32 x) h
  unfold Dr
  rw [this, da, da, ← dv_set]
  simp
theorem Dr.other {w : World} {g b k : Nat} {t : TypeId} {d : Nat → Int} (h : Dr w g t d) (hne : g ≠ b) (v : Value) : Dr (w.setCell ⟨b, k, none⟩ v) g t d := by
  unfold Dr at h ⊢
  rw [← h]
  exact heap_setCell_other w ⟨b, k, none⟩ g v hne
theorem Dr.congr {w : World} {g : Nat} {t : TypeId} {d d' : Nat → Int} (h : Dr w g t d) (he : ∀ i, i < 96 → d i = d' i) : Dr w g t d' := by
  unfold Dr da at *
  rw [h, dv_congr he]

def za : Array Value := (List.replicate 96 (.int .u32 0)).toArray
theorem rep_range (n : Nat) (v : Value) : List.replicate n v = (List.range n).map fun _ => v := by simp [List.map_const']
theorem za_eq : za = da fun _ => 0 := by
  unfold za da dv
  rw [rep_range]
theorem below_setRow {B g : Nat} {w w' : World} {cs : Array Value} (h : Below B w w') (hg : B ≤ g) : Below B w (w'.setRow g cs) :=
  h.trans ⟨rfl, rfl, rfl, by simp, fun k hk => setRow_other _ _ _ _ (by omega)⟩
theorem zeroDrum (w : World) : (zeroValue 248).run Try.prog w = .ok (.agg za) w := by kernel_rfl
theorem info248 : (Try.prog.info? 248).map (·.size) = some 96 := by kernel_rfl
theorem info247 : (Try.prog.info? 247).map (·.size) = some 96 := by kernel_rfl

end Go.Proofs.Ytcocfnjbgceidaa
namespace Go.Proofs.Ytcocfnjbgceidaa
open Go.RowKit

/-- the pins of a step are where there may be pins -/
def stepB (s : Int) (n : Nat) (d : Nat → Int) (k : Nat) : Bool := decide (d k / 2 ^ n = 0) && (decide ((k : Int) < s) || decide (d k = 0))
def drB (s : Int) (n : Nat) (d : Nat → Int) : Bool := (List.range 96).all (stepB s n d)
def DG (s : Int) (n : Nat) (d : Nat → Int) (k : Nat) : Prop := ∀ j, j < k → stepB s n d j = true
theorem DG_succ {s : Int} {n : Nat} {d : Nat → Int} {k : Nat} (h : DG s n d k) (h' : stepB s n d k = true) : DG s n d (k + 1) := fun j hj => by
  rcases Nat.lt_or_ge j k with h1 | h1
  · exact h j h1
  · rw [show j = k by omega]; exact h'
theorem drB_yes {s : Int} {n : Nat} {d : Nat → Int} (h : DG s n d 96) : drB s n d = true := by simp only [drB, List.all_eq_true, List.mem_range]; exact h
theorem drB_no {s : Int} {n : Nat} {d : Nat → Int} {k : Nat} (hk : k < 96) (h : stepB s n d k = false) : drB s n d = false := by
  rw [drB, List.all_eq_false]
  exact ⟨k, List.mem_range.2 hk, by simp [h]⟩
theorem drB_all {s : Int} {n : Nat} {d : Nat → Int} (h : drB s n d = true) : DG s n d 96 := fun j hj => by
  simp only [drB, List.all_eq_true, List.mem_range] at h
  exact h j hj
def DWF (d : Nat → Int) : Prop := ∀ i, i < 96 → 0 ≤ d i ∧ d i ≤ 4294967295

theorem Dr.range0 {w : World} {g : Nat} {t : TypeId} {d : Nat → Int} (h : Dr w g t d) : w.rangeAt g 0 (dv d) := by
  intro i v hv
  have hi : i < 96 := by
    rcases Nat.lt_or_ge i 96 with h | h
    · exact h
    · rw [List.getElem?_eq_none (by rw [dv_length]; exact h)] at hv; cases hv
  rw [dv_get _ i hi] at hv
  rw [Nat.zero_add, h.cell hi]
  exact hv
/-- a number comes back -/
def SaysI (x : Int) (w : World) (e : Ending) (w' : World) : Prop := e = .returned (.int .i64 x) ∧ Below w.heap.size w w'
/-- the frame is valid, and the drum for it -/
def askB (s : Int) (l : List (Int × Int)) (d : Nat → Int) : Bool := frB s l && drB s l.length d
end Go.Proofs.Ytcocfnjbgceidaa
namespace Go.Proofs.Ytcocfnjbgceidaa
open Go.RowKit

/-- what is kept of a step: the bits of the tracks that there are -/
def keptI (n : Nat) (x : Int) : Int := bits .and .u32 x ((2 ^ n - 1) % 4294967296)
def keptD (s : Int) (n : Nat) (d : Nat → Int) (i : Nat) : Int := if (i : Int) < s then keptI n (d i) else 0

set_option maxRecDepth 20000 in
set_option maxHeartbeats 1000000 in
theorem cut_any (s : Int) (A : Option Addr) (n c : Nat) (d : Nat → Int) (w : World) (hn : n ≤ 24) (hs : 2 ≤ s ∧ s ≤ 96) (hd : DWF d) :
    Calls Try.prog 172 #[.agg #[.int .i64 s, .slice A n c], .agg (da d)] w fun e w' => e = .returned (.agg (da (keptD s n d))) ∧ Below w.heap.size w w' := by
  have hz := zeroDrum
  have HT := fun W => tracks_any A n c (by omega) W
  obtain ⟨hs1, hs2⟩ := hs
  obtain ⟨S, hS⟩ : ∃ S : Nat, s = (S : Int) := ⟨s.toNat, by omega⟩
  subst hS
  go_enter Try.func172, Try.ntmps172
  go_wp2_with fail
  clear hz
  have hb0 : Below w.heap.size w ((((w.alloc (.cells #[.int .i64 S, .slice A n c] 120)).alloc (.cells (da d) 248)).alloc (.cells za 248)).alloc (.cells za 248)) := ((((Below.refl _ _).alloc (Nat.le_refl _) _).alloc (by simp) _).alloc (by simp; omega) _).alloc (by simp; omega) _
  go_loopw [6, 9] (fun _ i wr => ∃ k : Nat, k ≤ S ∧ i = .int .i64 k ∧ wr.cell? ⟨w.heap.size, 1, none⟩ = some (.slice A n c) ∧ Dr wr (w.heap.size + 1) 248 d ∧ Dr wr (w.heap.size + 1 + 1) 248 (fun _ => 0) ∧ Dr wr (w.heap.size + 1 + 1 + 1) 248 (fun i => if i < k then keptI n (d i) else 0) ∧ Below w.heap.size w wr)
    (fun _ i _ => S - (intOf i).toNat)
  case atStart => exact ⟨0, Nat.zero_le _, rfl, by simp [go_sem], heap_old' (heap_old' (heap_new' _ _ _ (by simp))), by rw [za_eq]; exact heap_old' (heap_new' _ _ _ (by simp)), by rw [za_eq]; exact heap_new' _ _ _ (by simp), hb0⟩
  case round =>
    obtain ⟨k, hk, rfl, c0, D1, D2, D3, hb⟩ := hrel
    by_cases hlt : k < S
    · have hk96 : k < 96 := by omega
      have c1 := D1.cell hk96
      have c3 := D3.cell hk96
      have f3 := D3.frozen k
      obtain ⟨x1, x2⟩ := hd k hk96
      go_wp2_with fail
      refine wp_region_still_tail 11 (by kernel_rfl) (by kernel_rfl) ?_
      change wpStill _ _ wr.drew (fun a' => wpList _ _ _ _ a' wr.drew) _ _
      simp only [List.take_succ_cons, List.take_zero, List.drop_succ_cons, List.drop_zero]
      have hdr : Below wr.heap.size wr wr.drew := (Below.refl _ _).drew
      have c0d : wr.drew.cell? ⟨w.heap.size, 1, none⟩ = some (.slice A n c) := c0
      have D1d := D1.keep hdr
      have D2d := D2.keep hdr
      have D3d := D3.keep hdr
      have hbd := hb.drew
      have hki : (k : Int) < 96 := by omega
      have HTd : Calls Try.prog 134 #[.slice A n c] wr.drew fun e w' => e = .returned (.int .i64 n) ∧ w' = wr.drew := (HT _).mono fun e w' ⟨a, b⟩ => ⟨a, b.symm⟩
      clear c0 D1 D2 D3 hb hdr c1 c3 f3
      generalize wr.drew = wd at *
      have c1 := D1d.cell hk96
      have c3 := D3d.cell hk96
      have f3 := D3d.frozen k
      repeat (first | still_call HTd | still_step)
      refine wpStill_nil ?_
      go_wp2
      go_roundw
      case rel =>
        refine ⟨k + 1, hlt, by go_num, by simp [go_sem, c0d], D1d.other (by omega) _, D2d.other (by omega) _, (D3d.set k _).congr fun i hi => ?_, hbd.setCell (p := ⟨_, _, none⟩) (by dsimp only; omega) _⟩
        change (if i = k then keptI n (d k) else _) = _
        by_cases e : i = k
        · subst e; rw [if_pos rfl, if_pos (by omega)]
        · rw [if_neg e]
          by_cases h2 : i < k
          · rw [if_pos h2, if_pos (by omega)]
          · rw [if_neg h2, if_neg (by omega)]
      case measure => simp [intOf]; omega
    · obtain rfl : k = S := by omega
      have R2 : wr.heap[w.heap.size + 1 + 1]? = some (.cells (da fun _ => 0) 248 (0, 0)) := D2
      have R3 : wr.heap[w.heap.size + 1 + 1 + 1]? = some (.cells (da (keptD k n d)) 248 (0, 0)) := (D3.congr (d' := keptD k n d) fun i hi => by unfold keptD; by_cases h : i < k <;> simp [h] : Dr _ _ _ _)
      have HR2 := hide R2
      have HR3 := hide R3
      clear R2 R3
      go_wp2_with (first | (with_reducible refine wpList_load_row rfl 248 (.tmp 5) rfl (w.heap.size + 1 + 1 + 1) rfl 248 (da (keptD k n d)) (0, 0) _ HR3.out Try.underlying248 rfl (by rw [da_size]; exact info248) ?_) | (with_reducible refine wpList_store_row rfl 248 (.tmp 4) (.tmp 24) rfl (w.heap.size + 1 + 1) (da (keptD k n d)) rfl rfl 248 _ HR2.out (by rw [da_size]; exact info248) (by rw [da_size, da_size]) (da_one _) ?_))
      exact bodyPost_ret (v := .agg (da (keptD k n d))) (results_cell_row Try.results172 _ _ (w.heap.size + 1 + 1) 248 (da (keptD k n d)) (0, 0) _ (by simp [Act.put]) (setRow_heap _ _ _ _ _ _ HR2.out) Try.underlying248 rfl (by rw [da_size]; exact info248)) rfl ⟨rfl, below_setRow hb (by omega)⟩
end Go.Proofs.Ytcocfnjbgceidaa
namespace Go.Proofs.Ytcocfnjbgceidaa
open Go.ChangeShapes Go.WideShapes Go.ChangeAt Go.RowKit Go.Deep Go.Proofs.Ytcocfnjbgceidaa

theorem Try.own : ownKnob Try.prog.godebug = none := by kernel_rfl
theorem Try.laidOut : laidOutB Try.prog = true := by kernel_rfl
theorem Try.cells22 : Try.prog.cellsOf 22 = 1 := by kernel_rfl
theorem Try.cells29 : Try.prog.cellsOf 29 = 1 := by kernel_rfl
theorem Try.cells2 : Try.prog.cellsOf 2 = 1 := by kernel_rfl
end Go.Proofs.Ytcocfnjbgceidaa
