import Derived.Test.YtmmninlnpnhboaaGreatDoorGaj
import Derived.Test.YtmmninlnpnhboaaGreatDoorGae
import Derived.StillTailTactics
import Derived.Test.YtmmninlnpnhboaaGreatDoorGaa
import Derived.Test.YtmmninlnpnhboaaGreatDoorRows
import Derived.ProofKit
import Derived.Deep.SlicePairs
import Derived.OpenShut
import Derived.ChangeSlices
import Derived.Test.YtmmninlnpnhboaaGreatDoorGad
import Derived.Maps.Own
import Derived.Maps.OwnOps
import Derived.Laws.BitsLemmas
namespace Go.Proofs.YtmmninlnpnhboaaGreatDoor
open Go.RowKit

/-- the pins of a step are where there may be pins -/
def stepB (s : Int) (n : Nat) (d : Nat → Int) (k : Nat) : Bool := decide (d k / 2 ^ n = 0) && (decide ((k : Int) < s) || decide (d k = 0))
def drB (s : Int) (n : Nat) (d : Nat → Int) : Bool := (List.range 96).all (stepB s n d)
def DG (s : Int) (n : Nat) (d : Nat → Int) (k : Nat) : Prop := ∀ j, j < k → stepB s n d j = true
theorem DG_succ {s : Int} {n : Nat} {d : Nat → Int} {k : Nat} (h : DG s n d k) (h' : stepB s n d k = true) : DG s n d (k + 1) := fun j hj => by
  rcases Nat.lt_or_ge j k with h1 | h1
  · exact h j h1
  · rw [show j = k by omega]; exact h'
theorem drB_yes {s : Int} {n : Nat} {d : Nat → Int} (h : DG s n d 96) : drB s n d = true := by simp only [drB, List.all_eq_true, List.mem_range]; exact h
theorem drB_no {s : Int} {n : Nat} {d : Nat → Int} {k : Nat} (hk : k < 96) (h : stepB s n d k = false) : drB s n d = false := by
  rw [drB, List.all_eq_false]
  exact ⟨k, List.mem_range.2 hk, by simp [h]⟩
theorem drB_all {s : Int} {n : Nat} {d : Nat → Int} (h : drB s n d = true) : DG s n d 96 := fun j hj => by
  simp only [drB, List.all_eq_true, List.mem_range] at h
  exact h j hj
def DWF (d : Nat → Int) : Prop := ∀ i, i < 96 → 0 ≤ d i ∧ d i ≤ 4294967295

theorem Dr.range0 {w : World} {g : Nat} {t : TypeId} {d : Nat → Int} (h : Dr w g t d) : w.rangeAt g 0 (dv d) := by
  intro i v hv
  have hi : i < 96 := by
    rcases Nat.lt_or_ge i 96 with h | h
    · exact h
    · rw [List.getElem?_eq_none (by rw [dv_length]; exact h)] at hv; cases hv
  rw [dv_get _ i hi] at hv
  rw [Nat.zero_add, h.cell hi]
  exact hv
/-- a number comes back -/
def SaysI (x : Int) (w : World) (e : Ending) (w' : World) : Prop := e = .returned (.int .i64 x) ∧ Below w.heap.size w w'
/-- the frame is valid, and the drum for it -/
def askB (s : Int) (l : List (Int × Int)) (d : Nat → Int) : Bool := frB s l && drB s l.length d
end Go.Proofs.YtmmninlnpnhboaaGreatDoor
namespace Go.Proofs.YtmmninlnpnhboaaGreatDoor
open Go.RowKit

/-- what is kept of a step: the bits of the tracks that there are -/
def keptI (n : Nat) (x : Int) : Int := bits .and .u32 x ((2 ^ n - 1) % 4294967296)
def keptD (s : Int) (n : Nat) (d : Nat → Int) (i : Nat) : Int := if (i : Int) < s then keptI n (d i) else 0

set_option maxRecDepth 20000 in
set_option maxHeartbeats 1000000 in
theorem cut_any (s : Int) (A : Option Addr) (n c : Nat) (d : Nat → Int) (w : World) (hn : n ≤ 24) (hs : 2 ≤ s ∧ s ≤ 96) (hd : DWF d) :
    Calls Tryz.prog 98 #[.agg #[.int .i64 s, .slice A n c], .agg (da d)] w fun e w' => e = .returned (.agg (da (keptD s n d))) ∧ Below w.heap.size w w' := by
  have hz := zeroDrum
  have HT := fun W => tracks_any A n c (by omega) W
  obtain ⟨hs1, hs2⟩ := hs
  obtain ⟨S, hS⟩ : ∃ S : Nat, s = (S : Int) := ⟨s.toNat, by omega⟩
  subst hS
  go_enter Tryz.func98, Tryz.ntmps98
  go_wp2_with fail
  clear hz
  have hb0 : Below w.heap.size w ((((w.alloc (.cells #[.int .i64 S, .slice A n c] 100)).alloc (.cells (da d) 33)).alloc (.cells za 33)).alloc (.cells za 33)) := ((((Below.refl _ _).alloc (Nat.le_refl _) _).alloc (by simp) _).alloc (by simp; omega) _).alloc (by simp; omega) _
  go_loopw [6, 9] (fun _ i wr => ∃ k : Nat, k ≤ S ∧ i = .int .i64 k ∧ wr.cell? ⟨w.heap.size, 1, none⟩ = some (.slice A n c) ∧ Dr wr (w.heap.size + 1) 33 d ∧ Dr wr (w.heap.size + 1 + 1) 33 (fun _ => 0) ∧ Dr wr (w.heap.size + 1 + 1 + 1) 33 (fun i => if i < k then keptI n (d i) else 0) ∧ Below w.heap.size w wr)
    (fun _ i _ => S - (intOf i).toNat)
  case atStart => exact ⟨0, Nat.zero_le _, rfl, by simp [go_sem], heap_old' (heap_old' (heap_new' _ _ _ (by simp))), by rw [za_eq]; exact heap_old' (heap_new' _ _ _ (by simp)), by rw [za_eq]; exact heap_new' _ _ _ (by simp), hb0⟩
  case round =>
    obtain ⟨k, hk, rfl, c0, D1, D2, D3, hb⟩ := hrel
    by_cases hlt : k < S
    · have hk96 : k < 96 := by omega
      have c1 := D1.cell hk96
      have c3 := D3.cell hk96
      have f3 := D3.frozen k
      obtain ⟨x1, x2⟩ := hd k hk96
      go_wp2_with fail
      refine wp_region_still_tail 11 (by kernel_rfl) (by kernel_rfl) ?_
      change wpStill _ _ wr.drew (fun a' => wpList _ _ _ _ a' wr.drew) _ _
      simp only [List.take_succ_cons, List.take_zero, List.drop_succ_cons, List.drop_zero]
      have hdr : Below wr.heap.size wr wr.drew := (Below.refl _ _).drew
      have c0d : wr.drew.cell? ⟨w.heap.size, 1, none⟩ = some (.slice A n c) := c0
      have D1d := D1.keep hdr
      have D2d := D2.keep hdr
      have D3d := D3.keep hdr
      have hbd := hb.drew
      have hki : (k : Int) < 96 := by omega
      have HTd : Calls Tryz.prog 70 #[.slice A n c] wr.drew fun e w' => e = .returned (.int .i64 n) ∧ w' = wr.drew := (HT _).mono fun e w' ⟨a, b⟩ => ⟨a, b.symm⟩
      clear c0 D1 D2 D3 hb hdr c1 c3 f3
      generalize wr.drew = wd at *
      have c1 := D1d.cell hk96
      have c3 := D3d.cell hk96
      have f3 := D3d.frozen k
      repeat (first | still_call HTd | still_step)
      refine wpStill_nil ?_
      go_wp2
      go_roundw
      case rel =>
        refine ⟨k + 1, hlt, by go_num, by simp [go_sem, c0d], D1d.other (by omega) _, D2d.other (by omega) _, (D3d.set k _).congr fun i hi => ?_, hbd.setCell (p := ⟨_, _, none⟩) (by dsimp only; omega) _⟩
        change (if i = k then keptI n (d k) else _) = _
        by_cases e : i = k
        · subst e; rw [if_pos rfl, if_pos (by omega)]
        · rw [if_neg e]
          by_cases h2 : i < k
          · rw [if_pos h2, if_pos (by omega)]
          · rw [if_neg h2, if_neg (by omega)]
      case measure => simp [intOf]; omega
    · obtain rfl : k = S := by omega
      have R2 : wr.heap[w.heap.size + 1 + 1]? = some (.cells (da fun _ => 0) 33 (0, 0)) := D2
      have R3 : wr.heap[w.heap.size + 1 + 1 + 1]? = some (.cells (da (keptD k n d)) 33 (0, 0)) := (D3.congr (d' := keptD k n d) fun i hi => by unfold keptD; by_cases h : i < k <;> simp [h] : Dr _ _ _ _)
      have HR2 := hide R2
      have HR3 := hide R3
      clear R2 R3
      go_wp2_with (first | (with_reducible refine wpList_load_row rfl 33 (.tmp 5) rfl (w.heap.size + 1 + 1 + 1) rfl 33 (da (keptD k n d)) (0, 0) _ HR3.out Tryz.underlying33 rfl (by rw [da_size]; exact info33) ?_) | (with_reducible refine wpList_store_row rfl 33 (.tmp 4) (.tmp 24) rfl (w.heap.size + 1 + 1) (da (keptD k n d)) rfl rfl 33 _ HR2.out (by rw [da_size]; exact info33) (by rw [da_size, da_size]) (da_one _) ?_))
      exact bodyPost_ret (v := .agg (da (keptD k n d))) (results_cell_row Tryz.results98 _ _ (w.heap.size + 1 + 1) 33 (da (keptD k n d)) (0, 0) _ (by simp [Act.put]) (setRow_heap _ _ _ _ _ _ HR2.out) Tryz.underlying33 rfl (by rw [da_size]; exact info33)) rfl ⟨rfl, below_setRow hb (by omega)⟩
end Go.Proofs.YtmmninlnpnhboaaGreatDoor
namespace Go.Proofs.YtmmninlnpnhboaaGreatDoor
open Go.ChangeShapes Go.WideShapes Go.ChangeAt Go.RowKit Go.Deep Go.Proofs.YtmmninlnpnhboaaGreatDoor

theorem Tryz.own : ownKnob Tryz.prog.godebug = none := by kernel_rfl
theorem Tryz.laidOut : laidOutB Tryz.prog = true := by kernel_rfl
theorem Tryz.cells22 : Tryz.prog.cellsOf 22 = 1 := by kernel_rfl
theorem Tryz.cells63 : Tryz.prog.cellsOf 63 = 1 := by kernel_rfl
theorem Tryz.cells2 : Tryz.prog.cellsOf 2 = 1 := by kernel_rfl
end Go.Proofs.YtmmninlnpnhboaaGreatDoor
namespace Go.Proofs.YtmmninlnpnhboaaGreatDoor
open Go.ChangeShapes Go.WideShapes Go.ChangeAt Go.RowKit Go.Deep Go.Proofs.YtmmninlnpnhboaaGreatDoor

theorem Tryz.cells97 : Tryz.prog.cellsOf 97 = 2 := by kernel_rfl
theorem Tryz.cells25 : Tryz.prog.cellsOf 25 = 2 := by kernel_rfl
theorem Tryz.cells23 : Tryz.prog.cellsOf 23 = 1 := by kernel_rfl

theorem hams_of {H : Type} {enc : TypeId × Value → H} {W : World} {base : Nat} {spare : Nat → Bool} {held : Bool} {fuel : Nat} {y : Value} {x : DataW H × List MemPlace}
    (h : DataW.trod enc Tryz.prog W base spare held fuel 23 [y] = some x) :
    ∃ (A : Option Addr) (cap : Nat) (l : List (Int × Int)), y = .slice A l.length cap ∧ l.length ≤ maxLen ∧ HA W A l ∧ HWF l := by
  rcases open_slice_pairs Tryz.underlying23 Tryz.underlying97 Tryz.cells97 rfl rfl Tryz.cells63 Tryz.cells63 h with ⟨hcs, _⟩ | ⟨a, len, cap, m, n, V0, V1, D0, D1, P0, P1, hcs, _, hl, hm, hmm, _, hi⟩
  · simp at hcs
    subst hcs
    exact ⟨none, 0, [], rfl, by decide, fun k hk => absurd hk (by simp), fun k hk => absurd hk (by simp)⟩
  · simp at hcs
    subst hcs
    have hlm : len ≤ m := by rw [hmm]; split <;> omega
    have each : ∀ i, i < len → ∃ a0 p0 : Int, V0 i = .int .i8 a0 ∧ V1 i = .int .i8 p0 ∧ (-128 ≤ a0 ∧ a0 ≤ 127) ∧ (-128 ≤ p0 ∧ p0 ≤ 127) := by
      intro i hilt
      obtain ⟨_, _, g0, g1⟩ := hi i (by omega)
      obtain ⟨a0, e0, _, w0⟩ := DataW.trod_int Tryz.underlying63 g0
      obtain ⟨p0, e1, _, w1⟩ := DataW.trod_int Tryz.underlying63 g1
      simp only [List.cons.injEq, and_true] at e0 e1
      exact ⟨a0, p0, e0, e1, bounds_i8 w0, bounds_i8 w1⟩
    refine ⟨some a, cap, (List.range len).map fun i => (intOf (V0 i), intOf (V1 i)), by simp, by simp; omega, ?_, ?_⟩
    · intro k hk
      have hk' : k < len := by simpa using hk
      obtain ⟨a0, p0, e0, e1, _⟩ := each k hk'
      obtain ⟨c0, c1, _⟩ := hi k (by omega)
      obtain ⟨z0, _, _⟩ := hi 0 (by omega)
      obtain ⟨b, off, spot⟩ := a
      have hspot : spot = none := by simpa [Addr.add] using World.cell?_spot z0
      subst hspot
      have hlt := World.block_lt_of_cell? W _ z0
      refine ⟨b, off, rfl, by simpa [Addr.add] using hlt, ?_, ?_⟩
      · rw [Addr.add_lit] at c0
        rw [c0, e0]; simp [hPi, List.getD, hk', e0, intOf]
      · rw [Addr.add_lit] at c1
        rw [← Nat.add_assoc] at c1
        rw [c1, e1]; simp [hRe, List.getD, hk', e1, intOf]
    · intro k hk
      have hk' : k < len := by simpa using hk
      obtain ⟨a0, p0, e0, e1, b0, b1⟩ := each k hk'
      simp [hPi, hRe, List.getD, hk', e0, e1, intOf]
      exact ⟨b0, b1⟩

set_option maxRecDepth 100000 in
theorem frame_of {H : Type} {enc : TypeId × Value → H} {W : World} {base b0 : Nat} {r : Reach} {spare : Nat → Bool} {held : Bool} {fuel : Nat} {v : Value} {x : DataW H × List MemPlace}
    (hv : Value.okWide Tryz.prog W r b0 25 v) (h : DataW.trod enc Tryz.prog W base spare held fuel 25 v.cells.toList = some x) :
    ∃ (s : Int) (A : Option Addr) (cap : Nat) (l : List (Int × Int)), v = .agg #[.int .i16 s, .slice A l.length cap] ∧ l.length ≤ maxLen ∧ HA W A l ∧ HWF l ∧ (-32768 ≤ s ∧ s ≤ 32767) := by
  obtain ⟨cs, rfl, hcs⟩ := okWide_struct Tryz.underlying25 hv
  rw [Tryz.cells25] at hcs
  obtain ⟨y0, y1, n, _, _, h0, h1⟩ := trod_struct2 Tryz.underlying25 h
  obtain ⟨a, b, hab⟩ : ∃ a b, cs = #[a, b] := by
    obtain ⟨ls⟩ := cs
    match ls, hcs with
    | [a, b], _ => exact ⟨a, b, rfl⟩
  subst hab
  simp only [Value.cells, List.drop_zero, Tryz.cells22, Tryz.cells23] at h0 h1
  obtain ⟨s, e0, _, w0⟩ := DataW.trod_int Tryz.underlying22 h0
  obtain ⟨A, cap, l, rfl, hl, hA, hwf⟩ := hams_of h1
  simp at e0
  subst e0
  exact ⟨s, A, cap, l, rfl, hl, hA, hwf, bounds_i16 w0⟩
end Go.Proofs.YtmmninlnpnhboaaGreatDoor
namespace Go.Proofs.YtmmninlnpnhboaaGreatDoor
open Go.RowKit Go.Maps

theorem keyTypeD : Tryz.prog.keyType 33 = true := by kernel_rfl
theorem rowD : (33 : TypeId) < Tryz.prog.types.size := of_decide_eq_true (by kernel_rfl)
theorem lawD : Keyed Tryz.prog 33 := Keyed.of_law (deep_law_laid Tryz.laidOut (m := 2) (by omega) rowD (by kernel_rfl) (by kernel_rfl))
theorem cellsD : Tryz.prog.cellsOf 33 = 96 := by kernel_rfl
theorem cellsU : Tryz.prog.cellsOf 31 = 1 := by kernel_rfl
theorem dv_take (d : Nat → Int) (i : Nat) (h : i < 96) : ((dv d).drop (i * 1)).take 1 = [.int .u32 (d i)] := by
  rw [Nat.mul_one]
  apply List.ext_getElem?
  intro j
  cases j with
  | zero => simp [dv_get d i h]
  | succ j => simp [dv_length]; omega
theorem typesD : ∃ d, Tryz.prog.types.size + 1 = d + 1 + 1 := ⟨Tryz.prog.types.size - 1, by have h : (33 : Nat) < Tryz.prog.types.size := rowD; omega⟩
theorem keyLits_drum (q : Nat → Int) (hq : DWF q) (d : Nat) : ∃ L, Tryz.prog.keyLits (d + 1 + 1) 33 (dv q) = some L := by
  have h1 : ∀ i ∈ List.range 96, Tryz.prog.keyLits (d + 1) 31 (((dv q).drop (i * Tryz.prog.cellsOf 31)).take (Tryz.prog.cellsOf 31)) = some [.int .u32 (q i)] := by
    intro i hi
    have hi' : i < 96 := List.mem_range.1 hi
    obtain ⟨a, b⟩ := hq i hi'
    rw [cellsU, dv_take q i hi']
    have hw : (Lit.int .u32 (q i)).wf = true := by simp [Lit.wf, IntKind.min, IntKind.max, IntKind.signed, IntKind.bits]; omega
    simp [Program.keyLits, Tryz.underlying31, hw]
  refine ⟨((List.range 96).map fun i => [.int .u32 (q i)]).flatten, ?_⟩
  unfold Program.keyLits
  rw [Tryz.underlying33]
  simp only [dv_length, cellsD, if_true]
  rw [mapM_all _ (fun i => [Lit.int .u32 (q i)]) _ h1]
  rfl
theorem key_drum (q : Nat → Int) (hq : DWF q) : ∃ s, keyOf Tryz.prog 33 (.agg (da q)) = some (.string s) := by
  obtain ⟨d, hd⟩ := typesD
  have hf : (Value.agg (da q)).formed Tryz.prog 33 = true := by simp [Value.formed, Tryz.underlying33, cellsD, da_size]
  obtain ⟨L, hL⟩ := keyLits_drum q hq d
  refine ⟨keyBytes L, ?_⟩
  unfold keyOf
  rw [hd, Tryz.underlying33]
  simp only [keyTypeD, hf, Bool.and_self, if_true, Value.cells]
  rw [show (da q).toList = dv q from rfl, hL]
  rfl
theorem da_inj {p q : Nat → Int} (h : da p = da q) (i : Nat) (hi : i < 96) : p i = q i := by
  have h1 := dv_get p i hi
  have h2 := dv_get q i hi
  rw [show dv p = dv q from congrArg Array.toList h] at h1
  rw [h1] at h2
  simpa using h2
def sameD (p q : Nat → Int) : Bool := (List.range 96).all fun i => decide (p i = q i)
theorem sameD_iff (p q : Nat → Int) : sameD p q = true ↔ da p = da q := by
  simp only [sameD, List.all_eq_true, List.mem_range, decide_eq_true_eq]
  exact ⟨fun h => by unfold da; rw [dv_congr h], fun h i hi => da_inj h i hi⟩
theorem eqDr (p q : Nat → Int) (hp : DWF p) (hq : DWF q) (w : World) : (Op.equalIn 10000 33 (.agg (da p)) (.agg (da q))).run Tryz.prog w = .ok (sameD p q) w := by
  obtain ⟨s, hs⟩ := key_drum p hp
  obtain ⟨t, ht⟩ := key_drum q hq
  obtain ⟨r, hr, hiff⟩ := run_equal_deep (P := Tryz.prog) w (m := 2) (by omega) (k := 33) (by kernel_rfl) (by kernel_rfl) hs ht
  have e : r = sameD p q := by
    rw [Bool.eq_iff_iff, hiff, sameD_iff]
    constructor
    · intro h
      rw [h] at hs
      have := lawD.inj hs ht
      simp only [Value.agg.injEq] at this
      exact this
    · intro h
      rw [h, ht] at hs
      exact (Option.some.inj hs).symm
  rw [← e]
  exact hr
end Go.Proofs.YtmmninlnpnhboaaGreatDoor
namespace Go.Proofs.YtmmninlnpnhboaaGreatDoor
open Go.RowKit Go.Maps

theorem wraps_u32 (n : Int) (h₀ : 0 ≤ n) (h₁ : n < 2 ^ 32) : IntKind.u32.wrap n = n := by
  simp only [IntKind.wrap, IntKind.signed, IntKind.bits]
  simp
  omega
theorem keptI_eq (n : Nat) (hn : n ≤ 24) (x : Int) (h0 : 0 ≤ x) (h1 : x ≤ 4294967295) : keptI n x = x % 2 ^ n := by
  have hp : (2 : Int) ^ n ≤ 2 ^ 24 := by
    have := Nat.pow_le_pow_right (n := 2) (by decide) hn
    exact_mod_cast this
  have hq : (0 : Int) < 2 ^ n := Int.pow_pos (by decide)
  have e : ((2 : Int) ^ n - 1) % 4294967296 = 2 ^ n - 1 := Int.emod_eq_of_lt (by omega) (by omega)
  rw [keptI, e]
  exact bits_mask .u32 32 (by decide) wraps_u32 n (by omega) x h0 (by omega)
theorem keptI_same (n : Nat) (hn : n ≤ 24) (x : Int) (h0 : 0 ≤ x) (h1 : x ≤ 4294967295) : (x = keptI n x) ↔ x / 2 ^ n = 0 := by
  have hq : (0 : Int) < 2 ^ n := Int.pow_pos (by decide)
  rw [keptI_eq n hn x h0 h1]
  have := Int.emod_add_mul_ediv x (2 ^ n)
  constructor
  · intro h
    rw [← h] at this
    have h2 : 2 ^ n * (x / 2 ^ n) = 0 := by omega
    rcases Int.mul_eq_zero.1 h2 with h3 | h3
    · omega
    · exact h3
  · intro h
    rw [h] at this
    simp at this
    exact this.symm
theorem kept_drB (s : Int) (n : Nat) (hn : n ≤ 24) (d : Nat → Int) (hd : DWF d) : sameD d (keptD s n d) = drB s n d := by
  rw [Bool.eq_iff_iff]
  simp only [sameD, drB, List.all_eq_true, List.mem_range, decide_eq_true_eq]
  refine forall_congr' fun i => forall_congr' fun hi => ?_
  obtain ⟨a, b⟩ := hd i hi
  simp only [keptD, stepB, Bool.and_eq_true, Bool.or_eq_true, decide_eq_true_eq]
  by_cases h : (i : Int) < s
  · rw [if_pos h, keptI_same n hn _ a b]
    exact ⟨fun h1 => ⟨h1, Or.inl h⟩, fun h1 => h1.1⟩
  · rw [if_neg h]
    exact ⟨fun h1 => ⟨by rw [h1]; simp, Or.inr h1⟩, fun h1 => by rcases h1.2 with h2 | h2 <;> first | exact absurd h2 h | exact h2⟩
theorem kept_wf (s : Int) (n : Nat) (hn : n ≤ 24) (d : Nat → Int) (hd : DWF d) : DWF (keptD s n d) := by
  intro i hi
  obtain ⟨a, b⟩ := hd i hi
  have hq : (0 : Int) < 2 ^ n := Int.pow_pos (by decide)
  unfold keptD
  split
  · rw [keptI_eq n hn _ a b]
    have h1 := Int.emod_nonneg (d i) (b := 2 ^ n) (by omega)
    have h2 : d i % 2 ^ n ≤ d i := by
      have := Int.emod_add_mul_ediv (d i) (2 ^ n)
      have h3 : 0 ≤ d i / 2 ^ n := Int.ediv_nonneg a (by omega)
      have h4 : 0 ≤ 2 ^ n * (d i / 2 ^ n) := Int.mul_nonneg (by omega) h3
      omega
    omega
  · omega
end Go.Proofs.YtmmninlnpnhboaaGreatDoor
