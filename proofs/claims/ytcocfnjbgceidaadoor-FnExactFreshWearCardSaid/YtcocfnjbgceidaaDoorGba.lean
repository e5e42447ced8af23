import Derived.Test.YtcocfnjbgceidaaDoorGaw
import Derived.Test.YtcocfnjbgceidaaDoorGav
import Derived.Deep.CutRange
import Derived.Test.YtcocfnjbgceidaaDoorGax
import Derived.Test.YtcocfnjbgceidaaDoorDwm
import Derived.StillTailTactics
import Derived.Maps.RangeWalk
namespace Go.Proofs.YtcocfnjbgceidaaDoor
open Go.RowKit Go.Maps
theorem szW4 (a b c d a' b' c' d' : Value) : (#[a, b, c, d] : Array Value).size = (#[a', b', c', d'] : Array Value).size := rfl
theorem oneW4 (s : Int) (C : Option Addr) (n q : Nat) (M : Option Nat) (D : Option Addr) (m r : Nat) : (#[.int .i64 s, .slice C n q, .map M, .slice D m r] : Array Value).all (·.oneCell') = true := by simp [Value.oneCell']
/-- what wearingFor leaves: no wear, or one whose map and strokes are the call's own -/
def WfR (ok : Bool) (s : Int) (A : Option Addr) (n c : Nat) (l : List (Int × Int × Int)) (z : List Int) (w : World) (e : Ending) (w' : World) : Prop :=
  (ok = false ∧ e = .returned (.tuple #[.agg #[.int .i64 0, .slice none 0 0, .map none, .slice none 0 0], .bool false]) ∨ ok = true ∧ ∃ (M : Nat) (C : Option Addr) (q : Nat), e = .returned (.tuple #[.agg #[.int .i64 s, .slice A n c, .map (some M), .slice C z.length q], .bool true]) ∧ w.heap.size ≤ M ∧
    w'.ownsMap Tryd.prog 68 (plainElem Tryd.prog 2) M l.length (mapW l l.length) ∧ w'.ownsRow w.heap.size 2 1 (.slice C z.length q) z.length (icells z)) ∧ Below w.heap.size w w'
theorem own_keepM {w w' : World} {base n q M : Nat} {e : TypeId} {size : Nat} {C : Option Addr} {xs : List Value} (h : w.ownsRow base e size (.slice C n q) n xs) (hC : C.isNone ∨ ∃ gz, C = some ⟨gz, 0, none⟩ ∧ M < gz) (hg : w.grownBy w' (some M)) : w'.ownsRow base e size (.slice C n q) n xs := by
  rcases hC with hc | ⟨gz, rfl, hgz⟩
  · cases C with
    | none => exact h.kept hg (Or.inl rfl)
    | some a => cases hc
  · exact h.kept hg (Or.inr (fun e => by have e' : gz = M := by simpa [Value.ownBlock] using e
                                         omega))
theorem own_keepM' {w : World} {base n g : Nat} {e : TypeId} {size : Nat} {v : Value} {xs : List Value} (h : w.ownsRow base e size v n xs) (hb : g < base ∨ True) (cs : Array Value) (hne : v.ownBlock ≠ some g) : (w.setRow g cs).ownsRow base e size v n xs :=
  h.kept (row := some g) ⟨rfl, rfl, rfl, by simp, fun k _ hk => setRow_other _ _ _ _ (fun e => hk (by rw [e]))⟩ (Or.inr hne)
theorem map_keepR {w : World} {M g n : Nat} {D : DataW Unit} {k : TypeId} {R : Value → Option (DataW Unit × List MemPlace)} (h : w.ownsMap Tryd.prog k R M n D) (hne : g ≠ M) (cs : Array Value) : (w.setRow g cs).ownsMap Tryd.prog k R M n D := by
  obtain ⟨es, clock, h1, h2⟩ := h
  exact ⟨es, clock, (setRow_other _ _ _ _ (fun e => hne e.symm)).trans h1, h2⟩
end Go.Proofs.YtcocfnjbgceidaaDoor
namespace Go.Proofs.YtcocfnjbgceidaaDoor
open Go.RowKit

set_option maxRecDepth 100000 in
set_option maxRecDepth 100000 in
theorem built0 : Tryd.prog.built 39 [] = some za := by kernel_rfl
set_option maxRecDepth 100000 in
set_option maxRecDepth 100000 in
theorem wpList_build0 {ops : Array Oper} {rest : List Oper} {o : Oper} {a : Act} {w : World} {Q : Exit → Act → World → Prop} (hg : o.guard = none) (ho : o.op = .build 39 #[])
    (h : wpList Tryd.prog ops Q rest (a.put o.dst (.agg (da fun _ => 0))) w) : wpList Tryd.prog ops Q (o :: rest) a w := by
  have e : (Tryd.prog.built 39 ((#[] : Array (Nat × Operand)).map fun (i, x) => (i, a.eval x)).toList) = some za := by simpa using built0
  refine wpList_build hg 39 #[] ho (by rw [e]; rfl) ?_
  rw [e, ← za_eq] at *
  exact h
theorem results_dr {fn : Func} {p q : Tmp} (h : fn.results = #[.cell p 39, .tmp q]) (tmps : Array Value) (w : World) (g : Nat) (t : TypeId) (r : Nat → Int) (c : Value)
    (hp : tmps.getD p undef = .pointer (some ⟨g, 0, none⟩)) (hq : tmps.getD q undef = c) (hg : w.heap[g]? = some (.cells (da r) t (0, 0))) :
    (results fn tmps).run Tryd.prog w = .ok (.tuple #[.agg (da r), c]) w := by
  have hp' : tmps[p]?.getD undef = .pointer (some ⟨g, 0, none⟩) := by simpa using hp
  have hq' : tmps[q]?.getD undef = c := by simpa using hq
  simp [results, h, hp', hq', asAddr, run_loadVar_row w g t 39 (da r) (0, 0) _ hg Tryd.underlying39 rfl (by rw [da_size]; exact info39)]
/-- a drum and a code come back; what there was is as it was -/
def DrC (r : Nat → Int) (c : Int) (w : World) (e : Ending) (w' : World) : Prop := e = .returned (.tuple #[.agg (da r), .int .i64 c]) ∧ Below w.heap.size w w'
/-- the code: as HasPin's, and ErrState where the pin is what it must not be -/
def wpC (s : Int) (l : List (Int × Int)) (d : Nat → Int) (x y : Int) (bad : Bool) : Int := if askB s l d then (if plB s l.length x y then (if pinB d x.toNat y.toNat = bad then 4 else 0) else 2) else 1
def wpD (s : Int) (l : List (Int × Int)) (d : Nat → Int) (x y : Int) (bad : Bool) : Nat → Int := if wpC s l d x y bad = 0 then togD d x.toNat y.toNat else fun _ => 0

end Go.Proofs.YtcocfnjbgceidaaDoor
namespace Go.Proofs.YtcocfnjbgceidaaDoor
open Go.RowKit Go.Maps
def dwC (s : Int) (h : List (Int × Int)) (l : List (Int × Int × Int)) (z : List Int) : Int := codeI (weB s h l z)
def dwR (s : Int) (h : List (Int × Int)) (l : List (Int × Int × Int)) (z : List Int) : Nat → Int := if weB s h l z then dwD l l.length else fun _ => 0
theorem or_set {l : List (Int × Int × Int)} {k a t : Nat} (ha : wnS l k = a) (ht : wnT l k = t) (i : Nat) : (if i = a then bits .or .u32 (dwD l k a) (2 ^ t % 4294967296) else dwD l k i) = dwD l (k + 1) i := by
  rw [dwD, orW, ha, ht]
  simp
end Go.Proofs.YtcocfnjbgceidaaDoor
namespace Go.Proofs.YtcocfnjbgceidaaDoor
open Go.RowKit Go.Maps
set_option maxRecDepth 20000 in
theorem place_inv : ∀ key kl, keyOf Tryd.prog 68 key = some kl → ∃ x : Int × Int, key = .agg #[.int .i64 x.1, .int .i64 x.2] := by
  intro key kl hk
  obtain ⟨d, hd⟩ := typesP
  unfold keyOf at hk
  rw [hd, Tryd.underlying68] at hk
  simp only [keyTypeP, Bool.true_and] at hk
  split at hk
  · rename_i hf
    cases key <;> simp [Value.formed, Tryd.underlying68] at hf
    rename_i cs
    rw [cellsP] at hf
    obtain ⟨ls⟩ := cs
    match ls, hf with
    | [a, b], _ =>
      simp [Program.keyLits, Tryd.underlying68, Tryd.underlying2, cellsPi, cellsP, Value.cells] at hk
      cases a with
      | int qa x =>
        by_cases ha : qa = IntKind.i64 ∧ (Lit.int .i64 x).wf = true
        · cases b with
          | int qb y =>
            by_cases hb : qb = IntKind.i64 ∧ (Lit.int .i64 y).wf = true
            · exact ⟨(x, y), by rw [ha.1, hb.1]⟩
            · simp [ha, hb] at hk
          | _ => simp [ha] at hk
        · simp [ha] at hk
      | _ => simp at hk
  · cases hk
theorem ranges_below {w w' : World} {k : TypeId} {R : Value → Option (DataW Unit × List MemPlace)} {b r n : Nat} {D : DataW Unit} {left : Lit → Bool} {cnt : Nat} (h : w.ranges Tryd.prog k R b r n D left cnt) (hb : Below w.heap.size w w') : w'.ranges Tryd.prog k R b r n D left cnt := by
  obtain ⟨es, clock, since, seen, c0, h1, h2, h3, h4, h5, hr⟩ := h
  exact ⟨es, clock, since, seen, c0, (hb.block _ (Array.getElem?_eq_some_iff.1 h1).1).trans h1, h2, h3, h4, (hb.block _ (Array.getElem?_eq_some_iff.1 h5).1).trans h5, hr⟩
theorem ranges_setRow {w : World} {k : TypeId} {R : Value → Option (DataW Unit × List MemPlace)} {b r n g : Nat} {D : DataW Unit} {left : Lit → Bool} {cnt : Nat} (h : w.ranges Tryd.prog k R b r n D left cnt) (hb : g ≠ b) (hr' : g ≠ r) (cs : Array Value) : (w.setRow g cs).ranges Tryd.prog k R b r n D left cnt := by
  obtain ⟨es, clock, since, seen, c0, h1, h2, h3, h4, h5, hr⟩ := h
  exact ⟨es, clock, since, seen, c0, (setRow_other _ _ _ _ (fun e => hb e.symm)).trans h1, h2, h3, h4, (setRow_other _ _ _ _ (fun e => hr' e.symm)).trans h5, hr⟩
theorem int_invW : ∀ (v : Value) (y : DataW Unit × List MemPlace), plainElem Tryd.prog 2 v = some y → ∃ c : Int, v = .int .i64 c := by
  intro v y hv
  obtain ⟨c, rfl, _⟩ := plainElem_int_inv Tryd.underlying2 hv
  exact ⟨c, rfl⟩
end Go.Proofs.YtcocfnjbgceidaaDoor
