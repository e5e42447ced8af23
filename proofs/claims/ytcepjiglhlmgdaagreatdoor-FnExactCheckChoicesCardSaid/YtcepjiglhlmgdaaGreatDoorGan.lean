import Derived.Test.YtcepjiglhlmgdaaGreatDoorFits
import Derived.Great.FillDense
import Derived.Deep.RegionHeld3
namespace Go.Proofs.YtcepjiglhlmgdaaGreatDoor
open Go.RowKit

theorem infoZ : (Tryz.prog.info? 53).map (fun i => (i.zero, i.size)) = some (some (.agg za), 96) := by kernel_rfl
theorem parts_two {i : Option TypeInfo} {z : Option Value} {n : Nat} (h : i.map (fun i => (i.zero, i.size)) = some (z, n)) : ∃ j, i = some j ∧ j.zero = z ∧ j.size = n := by
  cases i with
  | none => simp at h
  | some j => simp at h; exact ⟨j, rfl, h.1, h.2⟩
/-- a list literal of one drum -/
theorem wpList_build1 {ops : Array Oper} {rest : List Oper} {o : Oper} {a : Act} {w : World} {Q : Exit → Act → World → Prop} (hg : o.guard = none) (x : Operand) (ho : o.op = .buildSlice 124 1 #[(0, x)]) (q : Nat → Int) (hx : a.eval x = .agg (da q))
    (h : wpList Tryz.prog ops Q rest (a.put o.dst (.slice (some ⟨w.heap.size, 0, none⟩) 1 1)) (w.alloc (.cells (da q) 53))) : wpList Tryz.prog ops Q (o :: rest) a w := by
  obtain ⟨i, hi, hz, hs⟩ := parts_two infoZ
  refine wpList_buildSlice hg 124 53 1 #[(0, x)] ho (da q) i (.agg za) Tryz.underlying124 hi hz (by rw [hs]; decide) (by rw [hs]; decide) ?_ h
  rw [hs]
  have hf := Great.fill_whole (s := 96) (by omega) [.agg (da q)] ((Array.range (1 * 96)).map ((Value.agg za).cells[· % (Value.agg za).cells.size]!)) (fun v hv => by simp at hv; subst hv; exact da_size q) (by simp)
  simp [hx, Value.cells] at hf ⊢
  exact hf
set_option maxRecDepth 20000 in
/-- .. of two -/
theorem wpList_build2 {ops : Array Oper} {rest : List Oper} {o : Oper} {a : Act} {w : World} {Q : Exit → Act → World → Prop} (hg : o.guard = none) (x y : Operand) (ho : o.op = .buildSlice 124 2 #[(0, x), (1, y)]) (q r : Nat → Int) (hx : a.eval x = .agg (da q)) (hy : a.eval y = .agg (da r))
    (h : wpList Tryz.prog ops Q rest (a.put o.dst (.slice (some ⟨w.heap.size, 0, none⟩) 2 2)) (w.alloc (.cells (da q ++ da r) 53))) : wpList Tryz.prog ops Q (o :: rest) a w := by
  obtain ⟨i, hi, hz, hs⟩ := parts_two infoZ
  refine wpList_buildSlice hg 124 53 2 #[(0, x), (1, y)] ho (da q ++ da r) i (.agg za) Tryz.underlying124 hi hz (by rw [hs]; decide) (by rw [hs]; decide) ?_ h
  rw [hs]
  have hf := Great.fill_whole (s := 96) (by omega) [.agg (da q), .agg (da r)] ((Array.range (2 * 96)).map ((Value.agg za).cells[· % (Value.agg za).cells.size]!)) (fun v hv => by simp at hv; rcases hv with rfl | rfl <;> exact da_size _) (by simp)
  have e : (#[(0, x), (1, y)].map fun (p : Nat × Operand) => (p.1, a.eval p.2)).toList = (([.agg (da q), .agg (da r)] : List Value).zipIdx 0).map fun x => (x.2, x.1) := by simp [hx, hy]
  have e2 : (([.agg (da q), .agg (da r)] : List Value).flatMap fun v => v.cells.toList).toArray = da q ++ da r := by simp [Value.cells]
  rw [e2] at hf
  refine Eq.trans ?_ hf
  exact congrArg _ e
theorem LD1 (w : World) (q : Nat → Int) : LD (w.alloc (.cells (da q) 53)) w.heap.size [q] := by
  refine LD.of_cells ⟨da q, 53, heap_alloc_new _ _, fun j hj i hi => ?_⟩
  obtain rfl : j = 0 := by simpa using hj
  simpa [da] using dv_get q i hi
theorem LD2 (w : World) (q r : Nat → Int) : LD (w.alloc (.cells (da q ++ da r) 53)) w.heap.size [q, r] := by
  refine LD.of_cells ⟨da q ++ da r, 53, heap_alloc_new _ _, fun j hj i hi => ?_⟩
  have hj2 : j < 2 := hj
  match j, hj2 with
  | 0, _ =>
    rw [Array.getElem?_append_left (by rw [da_size]; omega)]
    simpa [da] using dv_get q i hi
  | 1, _ =>
    rw [Array.getElem?_append_right (by rw [da_size]; omega), da_size]
    simpa [da] using dv_get r i hi

theorem machineD_any (s : Int) (A : Option Addr) (c : Nat) (l : List (Int × Int)) (g e : Nat) (ds : List (Nat → Int)) (w : World) (hA : HA w A l) (hn : l.length ≤ 1048576) (hwf : HWF l) (hs : -32768 ≤ s ∧ s ≤ 32767)
    (hL : LD w g ds) (hd : ∀ j, j < ds.length → DWF (ds.getD j (fun _ => 0))) (hds : ds.length ≤ 1048576) :
    Calls Tryz.prog 36 #[.agg #[.int .i16 s, .slice A l.length c], .slice (some ⟨g, 0, none⟩) ds.length e] w (Mach s A l.length c (frB s l && drsB s l.length ds) w) :=
  machineFor_any s A c l _ _ w hA hn hwf hs fun hf W hW => fits_any s A l.length c g e ds W (hL.keep hW) (frB_all hf).2.1.2 (frB_all hf).1 hd hds
theorem machine1_any (s : Int) (A : Option Addr) (c : Nat) (l : List (Int × Int)) (d : Nat → Int) (w : World) (hA : HA w A l) (hn : l.length ≤ 1048576) (hwf : HWF l) (hs : -32768 ≤ s ∧ s ≤ 32767) (hd : DWF d) (g : Nat) (hg : g = w.heap.size) :
    Calls Tryz.prog 36 #[.agg #[.int .i16 s, .slice A l.length c], .slice (some ⟨g, 0, none⟩) 1 1] (w.alloc (.cells (da d) 53)) (Mach s A l.length c (askB s l d) (w.alloc (.cells (da d) 53))) := by
  subst hg
  have hb0 : Below w.heap.size w (w.alloc (.cells (da d) 53)) := (Below.refl _ _).alloc (Nat.le_refl _) _
  have hd1 : ∀ j, j < [d].length → DWF ([d].getD j (fun _ => 0)) := by
    intro j hj
    obtain rfl : j = 0 := by simpa using hj
    exact hd
  have h := machineD_any s A c l w.heap.size 1 [d] _ (hA.below hb0) hn hwf hs (LD1 w d) hd1 (by simp) 
  have e : (frB s l && drsB s l.length [d]) = askB s l d := by simp [drsB, askB]
  rw [e] at h
  exact h

end Go.Proofs.YtcepjiglhlmgdaaGreatDoor
namespace Go.Proofs.YtcepjiglhlmgdaaGreatDoor
open Go.RowKit
theorem infoLt (d : Nat → Int) : (Tryz.prog.info? 52).map (·.size) = some (dv d).length := by rw [dv_length]; exact info52
end Go.Proofs.YtcepjiglhlmgdaaGreatDoor
namespace Go.Proofs.YtcepjiglhlmgdaaGreatDoor
open Go.RowKit

def pinB (d : Nat → Int) (k t : Nat) : Bool := decide (d k / 2 ^ t % 2 = 1)
/-- there are such a step and such a track -/
def plB (s : Int) (n : Nat) (x y : Int) : Bool := inB x 0 (s - 1) && inB y 0 ((n : Int) - 1)
theorem plB_nat {s : Int} {n : Nat} {x y : Int} (h : plB s n x y = true) : ∃ k t : Nat, x = k ∧ y = t ∧ (k : Int) < s ∧ t < n := by
  simp only [plB, inB, Bool.and_eq_true, decide_eq_true_eq] at h
  exact ⟨x.toNat, y.toNat, by omega, by omega, by omega, by omega⟩

theorem shr_bounds (x : Int) (t : Nat) (h0 : 0 ≤ x) (h1 : x ≤ 4294967295) : 0 ≤ x / 2 ^ t ∧ x / 2 ^ t ≤ 4294967295 := by
  have hq : (0 : Int) < 2 ^ t := Int.pow_pos (by decide)
  exact ⟨Int.ediv_nonneg h0 (by omega), Int.le_trans (Int.ediv_le_self _ h0) h1⟩
theorem pin_tmod {d : Nat → Int} {k t : Nat} (h0 : 0 ≤ d k) (h1 : d k ≤ 4294967295) : ((d k / 2 ^ t).tmod 2 == 1) = pinB d k t := by
  rw [Int.tmod_eq_emod_of_nonneg (shr_bounds _ t h0 h1).1]
  rfl
theorem and_one32 (x : Int) (h0 : 0 ≤ x) (h1 : x ≤ 4294967295) : bits .and .u32 x 1 = x % 2 := by
  have h := bits_mask .u32 32 (by decide) wraps_u32 1 (by decide) x h0 (by omega)
  simpa using h
theorem pin_and {d : Nat → Int} {k t : Nat} (h0 : 0 ≤ d k) (h1 : d k ≤ 4294967295) : (bits .and .u32 (d k / 2 ^ t) 1 == 1) = pinB d k t := by
  rw [and_one32 _ (shr_bounds _ t h0 h1).1 (shr_bounds _ t h0 h1).2]
  rfl

theorem l02Pin_any (g k t : Nat) (d : Nat → Int) (w : World) (hD : Dr w g 53 d) (hk : k < 96) (ht : t < 32) (hd : DWF d) :
    Calls Tryz.prog 72 #[.pointer (some ⟨g, 0, none⟩), .int .i64 k, .int .i64 t] w fun e w' => e = .returned (.bool (pinB d k t)) ∧ w = w' := by
  have c1 := hD.cell hk
  obtain ⟨x1, x2⟩ := hd k hk
  have hp := pin_tmod (d := d) (k := k) (t := t) x1 x2
  go_enter Tryz.func72, Tryz.ntmps72
  go_wp2
  go_ret
  exact ⟨rfl, rfl⟩
theorem has_any (k t : Nat) (d : Nat → Int) (w : World) (hk : k < 96) (ht : t < 32) (hd : DWF d) :
    Calls Tryz.prog 82 #[.agg (da d), .int .i64 k, .int .i64 t] w (Says (pinB d k t) w) := by
  have hb0 : Below w.heap.size w (w.alloc (.cells (da d) 53)) := (Below.refl _ _).alloc (Nat.le_refl _) _
  have hD : Dr (w.alloc (.cells (da d) 53)) w.heap.size 53 d := heap_new' _ _ _ rfl
  have c1 := hD.cell hk
  obtain ⟨x1, x2⟩ := hd k hk
  have hp := pin_and (d := d) (k := k) (t := t) x1 x2
  go_enter Tryz.func82, Tryz.ntmps82
  go_wp2
  go_ret
  exact ⟨rfl, hb0⟩
theorem hasStep_any (s x : Int) (A : Option Addr) (n c : Nat) (w : World) (hs : -32768 ≤ s ∧ s ≤ 32767) :
    Calls Tryz.prog 80 #[.agg #[.int .i64 s, .slice A n c], .int .i64 x] w (Says (inB x 0 (s - 1)) w) := by
  have hb0 : Below w.heap.size w (w.alloc (.cells #[.int .i64 s, .slice A n c] 93)) := (Below.refl _ _).alloc (Nat.le_refl _) _
  obtain ⟨h1, h2⟩ := hs
  go_enter Tryz.func80, Tryz.ntmps80
  go_wp2_with (go_at_call 54; refine (within_any _ _ _ _).mono ?_; rintro e w' ⟨rfl, rfl⟩)
  go_ret
  exact ⟨rfl, hb0⟩
/-- HasPin's answer -/
def hasB (s : Int) (l : List (Int × Int)) (d : Nat → Int) (x y : Int) : Bool := askB s l d && plB s l.length x y && pinB d x.toNat y.toNat
def hasC (s : Int) (l : List (Int × Int)) (d : Nat → Int) (x y : Int) : Int := cod3 (askB s l d) (plB s l.length x y)
theorem ask_all {s : Int} {l : List (Int × Int)} {d : Nat → Int} (h : askB s l d = true) : (2 ≤ s ∧ s ≤ 96) ∧ (1 ≤ l.length ∧ l.length ≤ 24) ∧ HG s l l.length ∧ drB s l.length d = true := by
  simp only [askB, Bool.and_eq_true] at h
  have := frB_all h.1
  exact ⟨this.1, this.2.1, this.2.2, h.2⟩
end Go.Proofs.YtcepjiglhlmgdaaGreatDoor
