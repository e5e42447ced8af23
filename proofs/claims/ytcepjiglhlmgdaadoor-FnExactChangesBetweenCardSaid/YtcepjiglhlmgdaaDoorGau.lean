import Derived.Test.YtcepjiglhlmgdaaDoorGat
import Derived.Test.YtcepjiglhlmgdaaDoorGar
namespace Go.Proofs.YtcepjiglhlmgdaaDoor
open Go.RowKit

set_option maxRecDepth 100000 in
set_option maxRecDepth 100000 in
theorem built0 : Tryd.prog.built 49 [] = some za := by kernel_rfl
set_option maxRecDepth 100000 in
set_option maxRecDepth 100000 in
theorem wpList_build0 {ops : Array Oper} {rest : List Oper} {o : Oper} {a : Act} {w : World} {Q : Exit → Act → World → Prop} (hg : o.guard = none) (ho : o.op = .build 49 #[])
    (h : wpList Tryd.prog ops Q rest (a.put o.dst (.agg (da fun _ => 0))) w) : wpList Tryd.prog ops Q (o :: rest) a w := by
  have e : (Tryd.prog.built 49 ((#[] : Array (Nat × Operand)).map fun (i, x) => (i, a.eval x)).toList) = some za := by simpa using built0
  refine wpList_build hg 49 #[] ho (by rw [e]; rfl) ?_
  rw [e, ← za_eq] at *
  exact h
theorem results_dr {fn : Func} {p q : Tmp} (h : fn.results = #[.cell p 49, .tmp q]) (tmps : Array Value) (w : World) (g : Nat) (t : TypeId) (r : Nat → Int) (c : Value)
    (hp : tmps.getD p undef = .pointer (some ⟨g, 0, none⟩)) (hq : tmps.getD q undef = c) (hg : w.heap[g]? = some (.cells (da r) t (0, 0))) :
    (results fn tmps).run Tryd.prog w = .ok (.tuple #[.agg (da r), c]) w := by
  have hp' : tmps[p]?.getD undef = .pointer (some ⟨g, 0, none⟩) := by simpa using hp
  have hq' : tmps[q]?.getD undef = c := by simpa using hq
  simp [results, h, hp', hq', asAddr, run_loadVar_row w g t 49 (da r) (0, 0) _ hg Tryd.underlying49 rfl (by rw [da_size]; exact info49)]
/-- a drum and a code come back; what there was is as it was -/
def DrC (r : Nat → Int) (c : Int) (w : World) (e : Ending) (w' : World) : Prop := e = .returned (.tuple #[.agg (da r), .int .i64 c]) ∧ Below w.heap.size w w'
/-- the code: as HasPin's, and ErrState where the pin is what it must not be -/
def wpC (s : Int) (l : List (Int × Int)) (d : Nat → Int) (x y : Int) (bad : Bool) : Int := if askB s l d then (if plB s l.length x y then (if pinB d x.toNat y.toNat = bad then 4 else 0) else 2) else 1
def wpD (s : Int) (l : List (Int × Int)) (d : Nat → Int) (x y : Int) (bad : Bool) : Nat → Int := if wpC s l d x y bad = 0 then togD d x.toNat y.toNat else fun _ => 0

end Go.Proofs.YtcepjiglhlmgdaaDoor
namespace Go.Proofs.YtcepjiglhlmgdaaDoor
open Go.RowKit

end Go.Proofs.YtcepjiglhlmgdaaDoor
namespace Go.Proofs.YtcepjiglhlmgdaaDoor
open Go.RowKit
end Go.Proofs.YtcepjiglhlmgdaaDoor
