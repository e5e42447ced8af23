import Derived.Test.YtcepjiglhlmgdaaDoorBase
import Derived.Test.YtcepjiglhlmgdaaDoorGab
import Derived.Test.YtcepjiglhlmgdaaDoorProg
import Derived.Test.YtcepjiglhlmgdaaDoorGbb
import Derived.Test.YtcepjiglhlmgdaaDoorGbc
import Derived.Deep.RegionHeld
namespace Go.Proofs.YtcepjiglhlmgdaaDoor
open Go.RowKit

theorem toNote_any (a p : Int) (w : World) :
    Calls Tryd.prog 8 #[.agg #[.int .i16 a, .int .i8 p]] w fun e w' => e = .returned (.agg #[.int .i16 a, .int .i8 p]) ∧ Below w.heap.size w w' := by
  go_enter Tryd.func8, Tryd.ntmps8
  go_wp2
  refine bodyPost_ret (v := .agg #[.int .i16 a, .int .i8 p]) (by simp [results, Tryd.results8, go_sem]) rfl ⟨rfl, ?_⟩
  repeat (first | exact Below.refl _ _ | refine Below.alloc ?_ (by simp <;> omega) _ | refine Below.setCell ?_ (by simp) _)

/-- the first k of l, then zeros -/
def upto (l : List (Int × Int)) (k : Nat) : List (Int × Int) := l.take k ++ List.replicate (l.length - k) (0, 0)
theorem upto_length (l : List (Int × Int)) (k : Nat) (h : k ≤ l.length) : (upto l k).length = l.length := by simp [upto]; omega
theorem upto_set (l : List (Int × Int)) (k : Nat) (h : k < l.length) : (upto l k).set k (nAt l k, nPi l k) = upto l (k + 1) := by
  have e1 : l.length - k = (l.length - (k + 1)) + 1 := by omega
  have e2 : (nAt l k, nPi l k) = l[k] := by simp [nAt, nPi, List.getD, h]
  rw [upto, upto, e1, List.replicate_succ, e2, List.take_succ_eq_append_getElem h, List.set_append_right _ _ (by simp; omega)]
  simp only [List.length_take, show k - min k l.length = 0 by omega, List.set_cons_zero, List.append_assoc, List.cons_append, List.nil_append]
theorem upto_zero (l : List (Int × Int)) : upto l 0 = List.replicate l.length (0, 0) := by simp [upto]
theorem upto_all (l : List (Int × Int)) : upto l l.length = l := by simp [upto]

/-- what toTune leaves -/
def Made (w : World) (l : List (Int × Int)) (e : Ending) (w' : World) : Prop :=
  e = .returned (.slice (some ⟨w.heap.size, 0, none⟩) l.length l.length) ∧ w'.ownsRow w.heap.size 37 2 (.slice (some ⟨w.heap.size, 0, none⟩) l.length l.length) l.length (cellsOf l) ∧ Below w.heap.size w w'

end Go.Proofs.YtcepjiglhlmgdaaDoor
namespace Go.Proofs.YtcepjiglhlmgdaaDoor
open Go.RowKit
/-- a region that draws its order, inside a fence, by what holds throughout -/
theorem wpIn_region_held_drew {S : World → Prop} {r n : Nat} {P : Program} {ops : Array Oper} {Q : Exit → Act → World → Prop} {id : Nat} {a : Act} {w : World} (hm : P.follows .mixedOrders = true) (hnd : noDef ops = true) (hQ : ¬ LetsOut Q) (hS : S w.drew)
    (h : S w.drew → wpAnyH P .any ops Q S ops.size (Array.replicate ops.size false) a w.drew) : (Code.region id ops true).wpIn (Fence.wide.inRound r) n P Q a w :=
  wpIn_region_any hm (wpAny_in hnd hQ _ _ _ _ (wpAny_of_held _ _ _ _ (h hS)))
theorem infoNt : (Tryd.prog.info? 37).map (·.size) = some 2 := by kernel_rfl
theorem infoNote2 (a b : Value) : (Tryd.prog.info? 37).map (·.size) = some (#[a, b] : Array Value).size := by kernel_rfl
theorem szNote2 (a b c d : Value) : (#[a, b] : Array Value).size = (#[c, d] : Array Value).size := rfl
theorem oneNote2 (a b : Int) : (#[.int .i16 a, .int .i8 b] : Array Value).all (·.oneCell') = true := by simp [Value.oneCell']
theorem results_nt {fn : Func} {p : Tmp} (h : fn.results = #[.cell p 37]) (tmps : Array Value) (w : World) (g : Nat) (t : TypeId) (cs : Array Value) (hi : cs.size = 2)
    (hp : tmps.getD p undef = .pointer (some ⟨g, 0, none⟩)) (hg : w.heap[g]? = some (.cells cs t (0, 0))) :
    (results fn tmps).run Tryd.prog w = .ok (.agg cs) w := by
  have hp' : tmps[p]?.getD undef = .pointer (some ⟨g, 0, none⟩) := by simpa using hp
  simp [results, h, hp', asAddr, run_loadVar_row w g t 37 cs (0, 0) _ hg Tryd.underlying37 rfl (by rw [hi]; exact infoNt)]
end Go.Proofs.YtcepjiglhlmgdaaDoor
