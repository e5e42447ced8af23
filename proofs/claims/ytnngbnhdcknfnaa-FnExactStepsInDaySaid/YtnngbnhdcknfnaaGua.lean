import Derived.Test.YtnngbnhdcknfnaaPmk
namespace Go.Proofs.Ytnngbnhdcknfnaa
open Go.RowKit

theorem results_pc {fn : Func} {p q : Tmp} (h : fn.results = #[.cell p 84, .cell q 2]) (tmps : Array Value) (w : World) (g k : Nat) (t t' : TypeId) (cs : Array Value) (x : Int)
    (hp : tmps.getD p undef = .pointer (some ⟨g, 0, none⟩)) (hq : tmps.getD q undef = .pointer (some ⟨k, 0, none⟩)) (hg : w.heap[g]? = some (.cells cs t (0, 0))) (hk : w.heap[k]? = some (.cells #[.int .i64 x] t' (0, 0)))
    (hi : (Try.prog.info? 84).map (·.size) = some cs.size) :
    (results fn tmps).run Try.prog w = .ok (.tuple #[.agg cs, .int .i64 x]) w := by
  have hp' : tmps[p]?.getD undef = .pointer (some ⟨g, 0, none⟩) := by simpa using hp
  have hq' : tmps[q]?.getD undef = .pointer (some ⟨k, 0, none⟩) := by simpa using hq
  have hc : w.cell? ⟨k, 0, none⟩ = some (.int .i64 x) := (cell_of_row w k 0 _ _ _ hk).trans rfl
  have h1 := run_loadVar_row w g t 84 cs (0, 0) _ hg Try.underlying84 rfl hi
  have h2 : (loadVar 2 ⟨k, 0, none⟩).run Try.prog w = .ok (.int .i64 x) w := by simp [go_sem, hc]
  simp [results, h, hp', hq', asAddr, h1, h2]
/-- a plan and a code -/
def PlanC (b : Bool) (cs : Array Value) (w : World) (e : Ending) (w' : World) : Prop := e = .returned (.tuple #[.agg (if b then cs else zpl), .int .i64 (if b then 0 else 1)]) ∧ Below w.heap.size w w'
set_option maxRecDepth 20000 in
set_option maxHeartbeats 2000000 in
theorem guarded_any (p1 p2 p3 : Value) (b : Bool) (s : Int) (A : Option Addr) (n c : Nat) (B : Option Addr) (m d : Nat) (o : Nat → Int) (w : World)
    (hK : ∀ W, Below w.heap.size w W → Calls Try.prog 84 #[p1, p2, p3] W (GivenOr b (.agg (plA s A n c B m d o)) W)) :
    Calls Try.prog 83 #[.func (.func 84) #[] #[p1, p2, p3]] w (PlanC b (plA s A n c B m d o) w) := by
  have hmf : ∀ (fn : Fn) (first cap : Array Value) (w : World), (Instr.makeFunc fn first cap).run Try.prog w = .ok (.func fn first cap) w := fun _ _ _ _ => rfl
  have hz := zeroPln
  go_enter_defers Try.func83, Try.ntmps83
  go_wp2_with fail
  have hb0 : Below w.heap.size w ((w.alloc (.cells zpl 84)).alloc (.cells #[.int .i64 1] 2)) := ((Below.refl _ _).alloc (Nat.le_refl _) _).alloc (by simp) _
  have Z0 : Bk ((w.alloc (.cells zpl 84)).alloc (.cells #[.int .i64 1] 2)) w.heap.size 84 zpl := (Bk.new _ _ _ rfl).old _
  have C0 : Bk ((w.alloc (.cells zpl 84)).alloc (.cells #[.int .i64 1] 2)) (w.heap.size + 1) 2 #[.int .i64 1] := Bk.new _ _ _ (by simp)
  refine (hK _ hb0).mono ?_
  rintro e w2 ⟨he, hb2⟩
  have b2 := step_below hb2 hb0
  have Z2 := Z0.keep hb2
  have C2 := C0.keep hb2
  have c2 := C2.cell (i := 0) rfl
  have f2 := C2.frozen 0
  clear hb0 Z0 C0 hb2 hz
  cases b
  · subst he
    refine leaves_cons (f := 96) (args := #[.pointer (some ⟨w.heap.size + 1, 0, none⟩)]) (by simp) (by simp [go_sem]) ?_
    refine (catch_given (w.heap.size + 1) 1 1 [] _ c2 f2).mono ?_
    rintro e u' w'' ⟨rfl, rfl, rfl⟩
    have hx : Below w2.heap.size w2 (w2.alloc (.cells #[.int .i64 1] 128)) := (Below.refl _ _).alloc (Nat.le_refl _) _
    have Z3 := (Z2.keep hx).other (by omega : w.heap.size ≠ w.heap.size + 1) (k := 0) (.int .i64 1)
    have C3 : Bk ((w2.alloc (.cells #[.int .i64 1] 128)).setCell ⟨w.heap.size + 1, 0, none⟩ (.int .i64 1)) (w.heap.size + 1) 2 #[.int .i64 1] := heap_setCell_same _ _ 0 _ _ (.int .i64 1) (C2.keep hx)
    exact ⟨_, results_pc Try.results83 _ _ w.heap.size (w.heap.size + 1) _ _ _ _ rfl rfl Z3 C3 (by rw [zpl_eq]; exact plInfo), rfl, (step_below hx b2).setCell (p := ⟨_, _, none⟩) (by dsimp only; omega) _⟩
  · subst he
    have HZ := hide (show w2.heap[w.heap.size]? = some (.cells zpl 84 (0, 0)) from Z2)
    have Z3 : Bk (w2.setRow w.heap.size (plA s A n c B m d o)) w.heap.size 84 (plA s A n c B m d o) := setRow_heap _ _ _ _ _ _ HZ.out
    have C3 : Bk (w2.setRow w.heap.size (plA s A n c B m d o)) (w.heap.size + 1) 2 #[.int .i64 1] := (setRow_other _ _ _ _ (by omega)).trans C2
    have b3 : Below w.heap.size w (w2.setRow w.heap.size (plA s A n c B m d o)) := below_setRow' b2 (Nat.le_refl _)
    have c3 := C3.cell (i := 0) rfl
    have f3 := C3.frozen 0
    go_wp2_with (with_reducible refine wpList_store_row rfl 84 (.tmp 2) (.tmp 6) rfl w.heap.size (plA s A n c B m d o) rfl rfl 84 _ HZ.out plInfo (by rw [zpl_eq, plA_size, plA_size]) plA_one ?_)
    refine leaves_cons (f := 96) (args := #[.pointer (some ⟨w.heap.size + 1, 0, none⟩)]) (by simp) (by simp [go_sem]) ?_
    refine (catch_none ⟨w.heap.size + 1, 0, none⟩ _).mono ?_
    rintro e u' w'' ⟨rfl, rfl, rfl⟩
    have Z4 := Z3.other (by omega : w.heap.size ≠ w.heap.size + 1) (k := 0) (.int .i64 0)
    have C4 : Bk ((w2.setRow w.heap.size (plA s A n c B m d o)).setCell ⟨w.heap.size + 1, 0, none⟩ (.int .i64 0)) (w.heap.size + 1) 2 #[.int .i64 0] := heap_setCell_same _ _ 0 _ _ (.int .i64 0) C3
    exact ⟨_, results_pc Try.results83 _ _ w.heap.size (w.heap.size + 1) _ _ _ _ rfl rfl Z4 C4 plInfo, rfl, b3.setCell (p := ⟨_, _, none⟩) (by dsimp only; omega) _⟩
end Go.Proofs.Ytnngbnhdcknfnaa
