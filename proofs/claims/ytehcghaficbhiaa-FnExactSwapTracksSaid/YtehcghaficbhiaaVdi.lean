import Derived.Test.YtehcghaficbhiaaFits
import Derived.Great.FillDense
namespace Go.Proofs.Ytehcghaficbhiaa
open Go.RowKit

theorem infoZ : (Try.prog.info? 32).map (fun i => (i.zero, i.size)) = some (some (.agg za), 96) := by kernel_rfl
theorem parts_two {i : Option TypeInfo} {z : Option Value} {n : Nat} (h : i.map (fun i => (i.zero, i.size)) = some (z, n)) : ∃ j, i = some j ∧ j.zero = z ∧ j.size = n := by
  cases i with
  | none => simp at h
  | some j => simp at h; exact ⟨j, rfl, h.1, h.2⟩
/-- a list literal of one drum -/
theorem wpList_build1 {ops : Array Oper} {rest : List Oper} {o : Oper} {a : Act} {w : World} {Q : Exit → Act → World → Prop} (hg : o.guard = none) (x : Operand) (ho : o.op = .buildSlice 74 1 #[(0, x)]) (q : Nat → Int) (hx : a.eval x = .agg (da q))
    (h : wpList Try.prog ops Q rest (a.put o.dst (.slice (some ⟨w.heap.size, 0, none⟩) 1 1)) (w.alloc (.cells (da q) 32))) : wpList Try.prog ops Q (o :: rest) a w := by
  obtain ⟨i, hi, hz, hs⟩ := parts_two infoZ
  refine wpList_buildSlice hg 74 32 1 #[(0, x)] ho (da q) i (.agg za) Try.underlying74 hi hz (by rw [hs]; decide) (by rw [hs]; decide) ?_ h
  rw [hs]
  have hf := Great.fill_whole (s := 96) (by omega) [.agg (da q)] ((Array.range (1 * 96)).map ((Value.agg za).cells[· % (Value.agg za).cells.size]!)) (fun v hv => by simp at hv; subst hv; exact da_size q) (by simp)
  simp [hx, Value.cells] at hf ⊢
  exact hf
set_option maxRecDepth 20000 in
/-- .. of two -/
theorem wpList_build2 {ops : Array Oper} {rest : List Oper} {o : Oper} {a : Act} {w : World} {Q : Exit → Act → World → Prop} (hg : o.guard = none) (x y : Operand) (ho : o.op = .buildSlice 74 2 #[(0, x), (1, y)]) (q r : Nat → Int) (hx : a.eval x = .agg (da q)) (hy : a.eval y = .agg (da r))
    (h : wpList Try.prog ops Q rest (a.put o.dst (.slice (some ⟨w.heap.size, 0, none⟩) 2 2)) (w.alloc (.cells (da q ++ da r) 32))) : wpList Try.prog ops Q (o :: rest) a w := by
  obtain ⟨i, hi, hz, hs⟩ := parts_two infoZ
  refine wpList_buildSlice hg 74 32 2 #[(0, x), (1, y)] ho (da q ++ da r) i (.agg za) Try.underlying74 hi hz (by rw [hs]; decide) (by rw [hs]; decide) ?_ h
  rw [hs]
  have hf := Great.fill_whole (s := 96) (by omega) [.agg (da q), .agg (da r)] ((Array.range (2 * 96)).map ((Value.agg za).cells[· % (Value.agg za).cells.size]!)) (fun v hv => by simp at hv; rcases hv with rfl | rfl <;> exact da_size _) (by simp)
  have e : (#[(0, x), (1, y)].map fun (p : Nat × Operand) => (p.1, a.eval p.2)).toList = (([.agg (da q), .agg (da r)] : List Value).zipIdx 0).map fun x => (x.2, x.1) := by simp [hx, hy]
  have e2 : (([.agg (da q), .agg (da r)] : List Value).flatMap fun v => v.cells.toList).toArray = da q ++ da r := by simp [Value.cells]
  rw [e2] at hf
  refine Eq.trans ?_ hf
  exact congrArg _ e
theorem LD1 (w : World) (q : Nat → Int) : LD (w.alloc (.cells (da q) 32)) w.heap.size [q] := by
  refine LD.of_cells ⟨da q, 32, heap_alloc_new _ _, fun j hj i hi => ?_⟩
  obtain rfl : j = 0 := by simpa using hj
  simpa [da] using dv_get q i hi
theorem LD2 (w : World) (q r : Nat → Int) : LD (w.alloc (.cells (da q ++ da r) 32)) w.heap.size [q, r] := by
  refine LD.of_cells ⟨da q ++ da r, 32, heap_alloc_new _ _, fun j hj i hi => ?_⟩
  have hj2 : j < 2 := hj
  match j, hj2 with
  | 0, _ =>
    rw [Array.getElem?_append_left (by rw [da_size]; omega)]
    simpa [da] using dv_get q i hi
  | 1, _ =>
    rw [Array.getElem?_append_right (by rw [da_size]; omega), da_size]
    simpa [da] using dv_get r i hi

theorem machineD_any (s : Int) (A : Option Addr) (c : Nat) (l : List (Int × Int)) (g e : Nat) (ds : List (Nat → Int)) (w : World) (hA : HA w A l) (hn : l.length ≤ 1048576) (hwf : HWF l) (hs : -32768 ≤ s ∧ s ≤ 32767)
    (hL : LD w g ds) (hd : ∀ j, j < ds.length → DWF (ds.getD j (fun _ => 0))) (hds : ds.length ≤ 1048576) :
    Calls Try.prog 20 #[.agg #[.int .i16 s, .slice A l.length c], .slice (some ⟨g, 0, none⟩) ds.length e] w (Mach s A l.length c (frB s l && drsB s l.length ds) w) :=
  machineFor_any s A c l _ _ w hA hn hwf hs fun hf W hW => fits_any s A l.length c g e ds W (hL.keep hW) (frB_all hf).2.1.2 (frB_all hf).1 hd hds
theorem machine1_any (s : Int) (A : Option Addr) (c : Nat) (l : List (Int × Int)) (d : Nat → Int) (w : World) (hA : HA w A l) (hn : l.length ≤ 1048576) (hwf : HWF l) (hs : -32768 ≤ s ∧ s ≤ 32767) (hd : DWF d) (g : Nat) (hg : g = w.heap.size) :
    Calls Try.prog 20 #[.agg #[.int .i16 s, .slice A l.length c], .slice (some ⟨g, 0, none⟩) 1 1] (w.alloc (.cells (da d) 32)) (Mach s A l.length c (askB s l d) (w.alloc (.cells (da d) 32))) := by
  subst hg
  have hb0 : Below w.heap.size w (w.alloc (.cells (da d) 32)) := (Below.refl _ _).alloc (Nat.le_refl _) _
  have hd1 : ∀ j, j < [d].length → DWF ([d].getD j (fun _ => 0)) := by
    intro j hj
    obtain rfl : j = 0 := by simpa using hj
    exact hd
  have h := machineD_any s A c l w.heap.size 1 [d] _ (hA.below hb0) hn hwf hs (LD1 w d) hd1 (by simp) 
  have e : (frB s l && drsB s l.length [d]) = askB s l d := by simp [drsB, askB]
  rw [e] at h
  exact h

end Go.Proofs.Ytehcghaficbhiaa
