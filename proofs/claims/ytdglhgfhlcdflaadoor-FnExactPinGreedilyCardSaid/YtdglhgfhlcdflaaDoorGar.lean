import Derived.Test.YtdglhgfhlcdflaaDoorGao
import Derived.Test.YtdglhgfhlcdflaaDoorGaf
import Derived.Test.YtdglhgfhlcdflaaDoorCod
import Derived.Deep.MidRow
import Derived.Deep.RegionHeld3
import Derived.Great.BuildSlice
import Derived.Test.YtdglhgfhlcdflaaDoorGaa
import Derived.Test.YtdglhgfhlcdflaaDoorProg
namespace Go.Proofs.YtdglhgfhlcdflaaDoor
open Go.RowKit
/-- the tracks ahead of k of which something holds, as a number -/
def trkM (P : Nat → Bool) : Nat → Nat
  | 0 => 0
  | k + 1 => if P k then trkM P k ||| 2 ^ k else trkM P k
theorem trkM_lt (P : Nat → Bool) : ∀ k, k ≤ 32 → trkM P k < 4294967296
  | 0, _ => by simp [trkM]
  | k + 1, h => by
    have h1 := trkM_lt P k (by omega)
    have h2 : 2 ^ k < 2 ^ 32 := Nat.pow_lt_pow_right (by omega) (by omega)
    have := Nat.or_lt_two_pow (n := 32) (x := trkM P k) (y := 2 ^ k) (by omega) h2
    simp only [trkM]
    split <;> omega
theorem trkM_bit (P : Nat → Bool) (t : Nat) : ∀ k, (trkM P k).testBit t = (decide (t < k) && P t)
  | 0 => by simp [trkM]
  | k + 1 => by
    have h1 := trkM_bit P t k
    simp only [trkM]
    split
    · rename_i hP
      rw [Nat.testBit_or, h1, Nat.testBit_two_pow]
      by_cases e : k = t
      · subst e; simp [hP]
      · have e2 : decide (t < k + 1) = decide (t < k) := by rw [decide_eq_decide]; omega
        simp [e, e2]
    · rename_i hP
      rw [h1]
      by_cases e : k = t
      · subst e; simp [hP]
      · have e2 : decide (t < k + 1) = decide (t < k) := by rw [decide_eq_decide]; omega
        rw [e2]
theorem trkM_yes {P : Nat → Bool} {k : Nat} (hk : k < 32) (h : P k = true) : bits .or .u32 (trkM P k : Int) (2 ^ k % 4294967296) = (trkM P (k + 1) : Int) := by
  have h1 := trkM_lt P k (by omega)
  have h2 : 2 ^ k < 2 ^ 32 := Nat.pow_lt_pow_right (by omega) hk
  rw [pow_nat k hk, or_nat _ _ h1 (by omega), trkM, if_pos h]
theorem trkM_no {P : Nat → Bool} {k : Nat} (h : P k = false) : trkM P (k + 1) = trkM P k := by simp [trkM, h]
/-- the tracks of a pitch, and those that are not ready so long behind a pin -/
def pgU (l : List (Int × Int)) (k p : Nat) : Int := trkM (fun t => decide (hPi l t = (p : Int))) k
def pgV (l : List (Int × Int)) (k g : Nat) : Int := trkM (fun t => decide ((g : Int) < hRe l t)) k
theorem pgU_in (l : List (Int × Int)) {k : Nat} (hk : k ≤ 24) (p : Nat) : 0 ≤ pgU l k p ∧ pgU l k p ≤ 4294967295 := by
  have := trkM_lt (fun t => decide (hPi l t = (p : Int))) k (by omega)
  unfold pgU
  omega
theorem pgV_in (l : List (Int × Int)) {k : Nat} (hk : k ≤ 24) (p : Nat) : 0 ≤ pgV l k p ∧ pgV l k p ≤ 4294967295 := by
  have := trkM_lt (fun t => decide ((p : Int) < hRe l t)) k (by omega)
  unfold pgV
  omega
/-- a pinning's cells -/
def pgL (s : Int) (A : Option Addr) (n c : Nat) (C : Option Addr) (m e : Nat) (u v : Nat → Int) : List Value := .int .i64 s :: .slice A n c :: .slice C m e :: (((List.range 48).map fun i => Value.int .u32 (u i)) ++ ((List.range 20).map fun i => Value.int .u32 (v i)))
def pgA (s : Int) (A : Option Addr) (n c : Nat) (C : Option Addr) (m e : Nat) (u v : Nat → Int) : Array Value := (pgL s A n c C m e u v).toArray
section
variable {s : Int} {A : Option Addr} {n c : Nat} {C : Option Addr} {m e : Nat} {u v : Nat → Int} {w : World} {g : Nat} {t : TypeId}
theorem pgL_length : (pgL s A n c C m e u v).length = 71 := by simp [pgL]
theorem pgA_size : (pgA s A n c C m e u v).size = 71 := by simp [pgA, pgL_length]
theorem pgA_one : (pgA s A n c C m e u v).all (·.oneCell') = true := all_oneCell_toArray (by
  intro x hx
  rcases List.mem_cons.1 hx with rfl | hx
  · rfl
  rcases List.mem_cons.1 hx with rfl | hx
  · rfl
  rcases List.mem_cons.1 hx with rfl | hx
  · rfl
  rcases List.mem_append.1 hx with h | h
  · obtain ⟨i, _, rfl⟩ := List.mem_map.1 h; rfl
  · obtain ⟨i, _, rfl⟩ := List.mem_map.1 h; rfl)
theorem pgA_u (j : Nat) (h : j < 48) : (pgA s A n c C m e u v)[3 + j]? = some (.int .u32 (u j)) := by
  rw [Nat.add_comm]
  simp [pgA, pgL, List.getElem?_append, h]
theorem pgA_v (j : Nat) (h : j < 20) : (pgA s A n c C m e u v)[51 + j]? = some (.int .u32 (v j)) := by
  rw [Nat.add_comm]
  simp [pgA, pgL, List.getElem?_append, h]
theorem Bk.pgSteps (h : Bk w g t (pgA s A n c C m e u v)) : w.cell? ⟨g, 0, none⟩ = some (.int .i64 s) := h.cell rfl
theorem Bk.pgHams (h : Bk w g t (pgA s A n c C m e u v)) : w.cell? ⟨g, 1, none⟩ = some (.slice A n c) := h.cell rfl
theorem Bk.pgTune (h : Bk w g t (pgA s A n c C m e u v)) : w.cell? ⟨g, 2, none⟩ = some (.slice C m e) := h.cell rfl
theorem Bk.pgU (h : Bk w g t (pgA s A n c C m e u v)) (j : Nat) (hj : j < 48) : w.cell? ⟨g, 3 + j, none⟩ = some (.int .u32 (u j)) := h.cell (pgA_u j hj)
theorem Bk.pgV (h : Bk w g t (pgA s A n c C m e u v)) (j : Nat) (hj : j < 20) : w.cell? ⟨g, 51 + j, none⟩ = some (.int .u32 (v j)) := h.cell (pgA_v j hj)
theorem Bk.pgRange (h : Bk w g t (pgA s A n c C m e u v)) : w.rangeAt g 0 (pgL s A n c C m e u v) := h.range 0 _ (fun j x hx => by rw [Nat.zero_add]; simpa [pgA] using hx)
theorem rng_set (N k : Nat) (f : Nat → Int) (x : Int) : ((List.range N).map fun i => Value.int .u32 (f i)).set k (.int .u32 x) = (List.range N).map fun i => Value.int .u32 (if i = k then x else f i) := by
  apply List.ext_getElem?
  intro j
  rw [List.getElem?_set]
  by_cases e : k = j
  · subst e
    by_cases h : k < N <;> simp [h]
  · have e2 : ¬ j = k := fun h => e h.symm
    by_cases h : j < N <;> simp [h, e, e2]
theorem Bk.pgSetU (h : Bk w g t (pgA s A n c C m e u v)) (j : Nat) (hj : j < 48) (x : Int) : Bk (w.setCell ⟨g, 3 + j, none⟩ (.int .u32 x)) g t (pgA s A n c C m e (fun i => if i = j then x else u i) v) := by
  have h1 := heap_setCell_same w g (3 + j) _ _ (.int .u32 x) h
  unfold Bk
  rw [h1]
  congr 2
  unfold pgA
  rw [List.setIfInBounds_toArray]
  congr 1
  rw [show 3 + j = j + 1 + 1 + 1 by omega]
  simp only [pgL, List.set_cons_succ]
  rw [List.set_append_left _ _ (by simpa using hj), rng_set]
theorem Bk.pgSetV (h : Bk w g t (pgA s A n c C m e u v)) (j : Nat) (hj : j < 20) (x : Int) : Bk (w.setCell ⟨g, 51 + j, none⟩ (.int .u32 x)) g t (pgA s A n c C m e u (fun i => if i = j then x else v i)) := by
  have h1 := heap_setCell_same w g (51 + j) _ _ (.int .u32 x) h
  unfold Bk
  rw [h1]
  congr 2
  unfold pgA
  rw [List.setIfInBounds_toArray]
  congr 1
  rw [show 51 + j = (48 + j) + 1 + 1 + 1 by omega]
  simp only [pgL, List.set_cons_succ]
  rw [List.set_append_right _ _ (by simp), List.length_map, List.length_range, Nat.add_sub_cancel_left, rng_set]
theorem Bk.pgCongr {u' v' : Nat → Int} (h : Bk w g t (pgA s A n c C m e u v)) (hu : ∀ i, i < 48 → u i = u' i) (hv : ∀ i, i < 20 → v i = v' i) : Bk w g t (pgA s A n c C m e u' v') := by
  have : pgA s A n c C m e u v = pgA s A n c C m e u' v' := by
    unfold pgA pgL
    congr 5
    · exact List.map_congr_left fun i hi => by rw [hu i (by simpa using hi)]
    · exact List.map_congr_left fun i hi => by rw [hv i (by simpa using hi)]
  rw [← this]
  exact h
theorem info74 : (Tryd.prog.info? 74).map (·.size) = some 71 := by kernel_rfl
theorem pgInfo : (Tryd.prog.info? 74).map (·.size) = some (pgA s A n c C m e u v).size := by rw [pgA_size]; exact info74
def zpg : Array Value := (.int .i64 0 :: .slice none 0 0 :: .slice none 0 0 :: (List.replicate 48 (Value.int .u32 0) ++ List.replicate 20 (Value.int .u32 0))).toArray
theorem zpg_eq : zpg = pgA 0 none 0 0 none 0 0 (fun _ => 0) (fun _ => 0) := by
  unfold zpg pgA pgL
  simp [List.map_const']
theorem zeroPg (w : World) : (zeroValue 74).run Tryd.prog w = .ok (.agg zpg) w := by kernel_rfl
theorem builtPg0 : Tryd.prog.built 74 [] = some zpg := by kernel_rfl
theorem builtPg (s : Int) (A : Option Addr) (n c : Nat) (C : Option Addr) (m e : Nat) : Tryd.prog.built 74 [(0, .agg #[.int .i64 s, .slice A n c]), (1, .slice C m e)] = some (.int .i64 s :: .slice A n c :: .slice C m e :: (List.replicate 48 (Value.int .u32 0) ++ List.replicate 20 (Value.int .u32 0))).toArray := by kernel_rfl
theorem wpList_buildPg {ops : Array Oper} {rest : List Oper} {op : Oper} {a : Act} {w : World} {Q : Exit → Act → World → Prop} (hg : op.guard = none) (x y : Operand) (ho : op.op = .build 74 #[(0, x), (1, y)])
    (s : Int) (A : Option Addr) (n c : Nat) (C : Option Addr) (m e : Nat) (hx : a.eval x = .agg #[.int .i64 s, .slice A n c]) (hy : a.eval y = .slice C m e)
    (h : wpList Tryd.prog ops Q rest (a.put op.dst (.agg (pgA s A n c C m e (fun _ => 0) (fun _ => 0)))) w) : wpList Tryd.prog ops Q (op :: rest) a w :=
  wpList_buildTo hg 74 #[(0, x), (1, y)] ho op.dst rfl _ (by
    have e1 : ((#[(0, x), (1, y)] : Array (Nat × Operand)).map fun (i, x) => (i, a.eval x)).toList = [(0, .agg #[.int .i64 s, .slice A n c]), (1, .slice C m e)] := by simp [hx, hy]
    rw [e1, builtPg]
    unfold pgA pgL
    simp [List.map_const']) h
theorem wpList_load_pg {ops : Array Oper} {rest : List Oper} {op : Oper} {a : Act} {w : World} {Q : Exit → Act → World → Prop} (hgd : op.guard = none) (x : Operand) (ho : op.op = .load 74 x)
    (b p : Nat) (hx : a.eval x = .pointer (some ⟨b, p, none⟩)) (s : Int) (A : Option Addr) (n c : Nat) (C : Option Addr) (m e : Nat) (u v : Nat → Int) (hc : w.rangeAt b p (pgL s A n c C m e u v))
    (h : wpList Tryd.prog ops Q rest (a.put op.dst (.agg (pgA s A n c C m e u v))) w) : wpList Tryd.prog ops Q (op :: rest) a w :=
  wpList_load_mid hgd 74 x ho b p hx (pgL s A n c C m e u v) _ hc Tryd.underlying74 rfl (by rw [pgL_length]; exact info74) h
theorem yieldsIf_buildPg0 {ops : Array Oper} {S : World → Prop} {op : Oper} {a : Act} (hw : Region.wanted op (yielded ops a.tmps) = true) (ho : op.op = .build 74 #[]) : YieldsIf Tryd.prog ops S op (.agg zpg) a :=
  .inl ⟨hw, fun w' _ => by
    unfold execOp
    simp only [ho, Sem.run_bind, run_build w' 74 ((#[] : Array (Nat × Operand)).map fun (i, x) => (i, a.eval x)) zpg (by simpa using builtPg0), Result.andThen_ok]
    rfl⟩
end
/-- the error of a code, as the program's -/
def erX (p : Nat → Addr) (k : Int) : Value := if k = 0 then .nilIface else if k = 1 then erV (p 0) else if k = 2 then erV (p 1) else erV (p 6)
end Go.Proofs.YtdglhgfhlcdflaaDoor
namespace Go.Proofs.YtdglhgfhlcdflaaDoor
open Go.RowKit

theorem toNote_any (a p : Int) (w : World) :
    Calls Tryd.prog 32 #[.agg #[.int .i16 a, .int .i8 p]] w fun e w' => e = .returned (.agg #[.int .i16 a, .int .i8 p]) ∧ Below w.heap.size w w' := by
  go_enter Tryd.func32, Tryd.ntmps32
  go_wp2
  refine bodyPost_ret (v := .agg #[.int .i16 a, .int .i8 p]) (by simp [results, Tryd.results32, go_sem]) rfl ⟨rfl, ?_⟩
  repeat (first | exact Below.refl _ _ | refine Below.alloc ?_ (by simp <;> omega) _ | refine Below.setCell ?_ (by simp) _)

/-- the first k of l, then zeros -/
def upto (l : List (Int × Int)) (k : Nat) : List (Int × Int) := l.take k ++ List.replicate (l.length - k) (0, 0)
theorem upto_length (l : List (Int × Int)) (k : Nat) (h : k ≤ l.length) : (upto l k).length = l.length := by simp [upto]; omega
theorem upto_set (l : List (Int × Int)) (k : Nat) (h : k < l.length) : (upto l k).set k (nAt l k, nPi l k) = upto l (k + 1) := by
  have e1 : l.length - k = (l.length - (k + 1)) + 1 := by omega
  have e2 : (nAt l k, nPi l k) = l[k] := by simp [nAt, nPi, List.getD, h]
  rw [upto, upto, e1, List.replicate_succ, e2, List.take_succ_eq_append_getElem h, List.set_append_right _ _ (by simp; omega)]
  simp only [List.length_take, show k - min k l.length = 0 by omega, List.set_cons_zero, List.append_assoc, List.cons_append, List.nil_append]
theorem upto_zero (l : List (Int × Int)) : upto l 0 = List.replicate l.length (0, 0) := by simp [upto]
theorem upto_all (l : List (Int × Int)) : upto l l.length = l := by simp [upto]

/-- what toTune leaves -/
def Made (w : World) (l : List (Int × Int)) (e : Ending) (w' : World) : Prop :=
  e = .returned (.slice (some ⟨w.heap.size, 0, none⟩) l.length l.length) ∧ w'.ownsRow w.heap.size 65 2 (.slice (some ⟨w.heap.size, 0, none⟩) l.length l.length) l.length (cellsOf l) ∧ Below w.heap.size w w'

set_option maxHeartbeats 400000 in
theorem toTune_any (A : Option Addr) (c : Nat) (l : List (Int × Int)) (w : World) (hA : NA w A l) (hn : l.length ≤ 1048576) :
    Calls Tryd.prog 11 #[.slice A l.length c] w (Made w l) := by
  obtain ⟨i0, hi, hz0, hz1, hz2⟩ := info_parts info65
  go_enter Tryd.func11, Tryd.ntmps11
  go_wp2_with (at_make; refine wpList_make_full _ rfl _ _ 36 rfl w.heap.size 65 i0 _ 2 Tryd.underlying36 hi hz0 hz1 _ _ _ _ l.length rfl rfl (by omega) (by omega) (by rw [hz2]; omega) (by unfold maxLen; omega) (by simp) ?_; intro w1 hown1 hgrow1)
  have hb0 : Below w.heap.size w w1 := (Below.refl _ _).grown hgrow1 (Nat.le_refl _) (fun j e => by cases e)
  clear hgrow1
  go_loopw [4] (fun i wr => ∃ k : Nat, k ≤ l.length ∧ i = .int .i64 k ∧ wr.ownsRow w.heap.size 65 2 (.slice (some ⟨w.heap.size, 0, none⟩) l.length l.length) l.length (cellsOf (upto l k)) ∧ Below w.heap.size w wr)
    (fun i _ => l.length - (intOf i).toNat)
  case atStart =>
    refine ⟨0, Nat.zero_le _, rfl, ?_, hb0⟩
    rw [upto_zero, cellsOf_replicate]
    exact hown1
  case round =>
    obtain ⟨k, hk, rfl, hown, hb⟩ := hrel
    by_cases hlt : k < l.length
    · obtain ⟨b, o, rfl, hbb, c1, c2⟩ := hA k hlt
      have d1 := (hb.cell (p := ⟨b, o + k * 2, none⟩) hbb).trans c1
      have d2 := (hb.cell (p := ⟨b, o + k * 2 + 1, none⟩) hbb).trans c2
      have hs := hb.size
      clear c1 c2 hA hown1 hb0
      go_wp2_with (go_at_call 32; refine (toNote_any _ _ _).mono ?_; rintro e w2 ⟨rfl, hb2⟩; have own2 := own_keep hown hb2; have f1 := (own2.cellAt (k * 2) (by omega)).trans (cellsOf_even _ k (by rw [upto_length _ _ hk]; exact hlt)); have f2 := (own2.cellAt (k * 2 + 1) (by omega)).trans (cellsOf_odd _ k (by rw [upto_length _ _ hk]; exact hlt)); have f3 := own2.frozenAt (k * 2); have f4 := own2.frozenAt (k * 2 + 1); have hs2 := hb2.size)
      go_roundw
      case rel => exact ⟨k + 1, hlt, by go_num, upto_set l k hlt ▸ own_set2 own2 k _ _, ((hb.trans (hb2.mono hs)).setCell (p := ⟨w.heap.size, _, none⟩) (Nat.le_refl _) _).setCell (p := ⟨w.heap.size, _, none⟩) (Nat.le_refl _) _⟩
      case measure => simp [intOf]; omega
    · obtain rfl : k = l.length := by omega
      go_wp2
      go_ret
      exact ⟨rfl, by rw [upto_all] at hown; exact hown, hb⟩
end Go.Proofs.YtdglhgfhlcdflaaDoor
