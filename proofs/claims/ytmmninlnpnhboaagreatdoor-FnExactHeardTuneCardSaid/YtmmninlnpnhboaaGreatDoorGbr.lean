import Derived.Test.YtmmninlnpnhboaaGreatDoorGbe
import Derived.Test.YtmmninlnpnhboaaGreatDoorGae
import Derived.Test.YtmmninlnpnhboaaGreatDoorGad
import Derived.Test.YtmmninlnpnhboaaGreatDoorCod
import Derived.Deep.MidRow
import Derived.Deep.RegionHeld3
import Derived.Great.BuildSlice
import Derived.Test.YtmmninlnpnhboaaGreatDoorGax
import Derived.Test.YtmmninlnpnhboaaGreatDoorGam
import Derived.StillTail
import Derived.StillTailTactics
import Derived.Deep.CutRange
import Derived.Test.YtmmninlnpnhboaaGreatDoorGbl
namespace Go.Proofs.YtmmninlnpnhboaaGreatDoor
open Go.RowKit
/-- the tracks ahead of k of which something holds, as a number -/
def trkM (P : Nat → Bool) : Nat → Nat
  | 0 => 0
  | k + 1 => if P k then trkM P k ||| 2 ^ k else trkM P k
theorem trkM_lt (P : Nat → Bool) : ∀ k, k ≤ 32 → trkM P k < 4294967296
  | 0, _ => by simp [trkM]
  | k + 1, h => by
    have h1 := trkM_lt P k (by omega)
    have h2 : 2 ^ k < 2 ^ 32 := Nat.pow_lt_pow_right (by omega) (by omega)
    have := Nat.or_lt_two_pow (n := 32) (x := trkM P k) (y := 2 ^ k) (by omega) h2
    simp only [trkM]
    split <;> omega
theorem trkM_bit (P : Nat → Bool) (t : Nat) : ∀ k, (trkM P k).testBit t = (decide (t < k) && P t)
  | 0 => by simp [trkM]
  | k + 1 => by
    have h1 := trkM_bit P t k
    simp only [trkM]
    split
    · rename_i hP
      rw [Nat.testBit_or, h1, Nat.testBit_two_pow]
      by_cases e : k = t
      · subst e; simp [hP]
      · have e2 : decide (t < k + 1) = decide (t < k) := by rw [decide_eq_decide]; omega
        simp [e, e2]
    · rename_i hP
      rw [h1]
      by_cases e : k = t
      · subst e; simp [hP]
      · have e2 : decide (t < k + 1) = decide (t < k) := by rw [decide_eq_decide]; omega
        rw [e2]
theorem trkM_yes {P : Nat → Bool} {k : Nat} (hk : k < 32) (h : P k = true) : bits .or .u32 (trkM P k : Int) (2 ^ k % 4294967296) = (trkM P (k + 1) : Int) := by
  have h1 := trkM_lt P k (by omega)
  have h2 : 2 ^ k < 2 ^ 32 := Nat.pow_lt_pow_right (by omega) hk
  rw [pow_nat k hk, or_nat _ _ h1 (by omega), trkM, if_pos h]
theorem trkM_no {P : Nat → Bool} {k : Nat} (h : P k = false) : trkM P (k + 1) = trkM P k := by simp [trkM, h]
/-- the tracks of a pitch, and those that are not ready so long behind a pin -/
def pgU (l : List (Int × Int)) (k p : Nat) : Int := trkM (fun t => decide (hPi l t = (p : Int))) k
def pgV (l : List (Int × Int)) (k g : Nat) : Int := trkM (fun t => decide ((g : Int) < hRe l t)) k
theorem pgU_in (l : List (Int × Int)) {k : Nat} (hk : k ≤ 24) (p : Nat) : 0 ≤ pgU l k p ∧ pgU l k p ≤ 4294967295 := by
  have := trkM_lt (fun t => decide (hPi l t = (p : Int))) k (by omega)
  unfold pgU
  omega
theorem pgV_in (l : List (Int × Int)) {k : Nat} (hk : k ≤ 24) (p : Nat) : 0 ≤ pgV l k p ∧ pgV l k p ≤ 4294967295 := by
  have := trkM_lt (fun t => decide ((p : Int) < hRe l t)) k (by omega)
  unfold pgV
  omega
/-- a pinning's cells -/
def pgL (s : Int) (A : Option Addr) (n c : Nat) (C : Option Addr) (m e : Nat) (u v : Nat → Int) : List Value := .int .i64 s :: .slice A n c :: .slice C m e :: (((List.range 48).map fun i => Value.int .u32 (u i)) ++ ((List.range 20).map fun i => Value.int .u32 (v i)))
def pgA (s : Int) (A : Option Addr) (n c : Nat) (C : Option Addr) (m e : Nat) (u v : Nat → Int) : Array Value := (pgL s A n c C m e u v).toArray
section
variable {s : Int} {A : Option Addr} {n c : Nat} {C : Option Addr} {m e : Nat} {u v : Nat → Int} {w : World} {g : Nat} {t : TypeId}
theorem pgL_length : (pgL s A n c C m e u v).length = 71 := by simp [pgL]
theorem pgA_size : (pgA s A n c C m e u v).size = 71 := by simp [pgA, pgL_length]
theorem pgA_one : (pgA s A n c C m e u v).all (·.oneCell') = true := all_oneCell_toArray (by
  intro x hx
  rcases List.mem_cons.1 hx with rfl | hx
  · rfl
  rcases List.mem_cons.1 hx with rfl | hx
  · rfl
  rcases List.mem_cons.1 hx with rfl | hx
  · rfl
  rcases List.mem_append.1 hx with h | h
  · obtain ⟨i, _, rfl⟩ := List.mem_map.1 h; rfl
  · obtain ⟨i, _, rfl⟩ := List.mem_map.1 h; rfl)
theorem pgA_u (j : Nat) (h : j < 48) : (pgA s A n c C m e u v)[3 + j]? = some (.int .u32 (u j)) := by
  rw [Nat.add_comm]
  simp [pgA, pgL, List.getElem?_append, h]
theorem pgA_v (j : Nat) (h : j < 20) : (pgA s A n c C m e u v)[51 + j]? = some (.int .u32 (v j)) := by
  rw [Nat.add_comm]
  simp [pgA, pgL, List.getElem?_append, h]
theorem Bk.pgSteps (h : Bk w g t (pgA s A n c C m e u v)) : w.cell? ⟨g, 0, none⟩ = some (.int .i64 s) := h.cell rfl
theorem Bk.pgHams (h : Bk w g t (pgA s A n c C m e u v)) : w.cell? ⟨g, 1, none⟩ = some (.slice A n c) := h.cell rfl
theorem Bk.pgTune (h : Bk w g t (pgA s A n c C m e u v)) : w.cell? ⟨g, 2, none⟩ = some (.slice C m e) := h.cell rfl
theorem Bk.pgU (h : Bk w g t (pgA s A n c C m e u v)) (j : Nat) (hj : j < 48) : w.cell? ⟨g, 3 + j, none⟩ = some (.int .u32 (u j)) := h.cell (pgA_u j hj)
theorem Bk.pgV (h : Bk w g t (pgA s A n c C m e u v)) (j : Nat) (hj : j < 20) : w.cell? ⟨g, 51 + j, none⟩ = some (.int .u32 (v j)) := h.cell (pgA_v j hj)
theorem Bk.pgRange (h : Bk w g t (pgA s A n c C m e u v)) : w.rangeAt g 0 (pgL s A n c C m e u v) := h.range 0 _ (fun j x hx => by rw [Nat.zero_add]; simpa [pgA] using hx)
theorem rng_set (N k : Nat) (f : Nat → Int) (x : Int) : ((List.range N).map fun i => Value.int .u32 (f i)).set k (.int .u32 x) = (List.range N).map fun i => Value.int .u32 (if i = k then x else f i) := by
  apply List.ext_getElem?
  intro j
  rw [List.getElem?_set]
  by_cases e : k = j
  · subst e
    by_cases h : k < N <;> simp [h]
  · have e2 : ¬ j = k := fun h => e h.symm
    by_cases h : j < N <;> simp [h, e, e2]
theorem Bk.pgSetU (h : Bk w g t (pgA s A n c C m e u v)) (j : Nat) (hj : j < 48) (x : Int) : Bk (w.setCell ⟨g, 3 + j, none⟩ (.int .u32 x)) g t (pgA s A n c C m e (fun i => if i = j then x else u i) v) := by
  have h1 := heap_setCell_same w g (3 + j) _ _ (.int .u32 x) h
  unfold Bk
  rw [h1]
  congr 2
  unfold pgA
  rw [List.setIfInBounds_toArray]
  congr 1
  rw [show 3 + j = j + 1 + 1 + 1 by omega]
  simp only [pgL, List.set_cons_succ]
  rw [List.set_append_left _ _ (by simpa using hj), rng_set]
theorem Bk.pgSetV (h : Bk w g t (pgA s A n c C m e u v)) (j : Nat) (hj : j < 20) (x : Int) : Bk (w.setCell ⟨g, 51 + j, none⟩ (.int .u32 x)) g t (pgA s A n c C m e u (fun i => if i = j then x else v i)) := by
  have h1 := heap_setCell_same w g (51 + j) _ _ (.int .u32 x) h
  unfold Bk
  rw [h1]
  congr 2
  unfold pgA
  rw [List.setIfInBounds_toArray]
  congr 1
  rw [show 51 + j = (48 + j) + 1 + 1 + 1 by omega]
  simp only [pgL, List.set_cons_succ]
  rw [List.set_append_right _ _ (by simp), List.length_map, List.length_range, Nat.add_sub_cancel_left, rng_set]
theorem Bk.pgCongr {u' v' : Nat → Int} (h : Bk w g t (pgA s A n c C m e u v)) (hu : ∀ i, i < 48 → u i = u' i) (hv : ∀ i, i < 20 → v i = v' i) : Bk w g t (pgA s A n c C m e u' v') := by
  have : pgA s A n c C m e u v = pgA s A n c C m e u' v' := by
    unfold pgA pgL
    congr 5
    · exact List.map_congr_left fun i hi => by rw [hu i (by simpa using hi)]
    · exact List.map_congr_left fun i hi => by rw [hv i (by simpa using hi)]
  rw [← this]
  exact h
def zpg : Array Value := (.int .i64 0 :: .slice none 0 0 :: .slice none 0 0 :: (List.replicate 48 (Value.int .u32 0) ++ List.replicate 20 (Value.int .u32 0))).toArray
theorem zpg_eq : zpg = pgA 0 none 0 0 none 0 0 (fun _ => 0) (fun _ => 0) := by
  unfold zpg pgA pgL
  simp [List.map_const']
end
/-- the error of a code, as the program's -/
def erX (p : Nat → Addr) (k : Int) : Value := if k = 0 then .nilIface else if k = 1 then erV (p 0) else if k = 2 then erV (p 1) else erV (p 6)
end Go.Proofs.YtmmninlnpnhboaaGreatDoor
namespace Go.Proofs.YtmmninlnpnhboaaGreatDoor
open Go.RowKit


def lenI (l : List (Int × Int)) : Int := if l.length = 0 then 0 else nAt l (l.length - 1) + 1
theorem lenI_zero (l : List (Int × Int)) (h : l.length = 0) : lenI l = 0 := by rw [lenI, if_pos h]
theorem lenI_pos (l : List (Int × Int)) (h : 0 < l.length) : lenI l = nAt l (l.length - 1) + 1 := by rw [lenI, if_neg (by omega)]

end Go.Proofs.YtmmninlnpnhboaaGreatDoor
namespace Go.Proofs.YtmmninlnpnhboaaGreatDoor
open Go.RowKit
theorem setRow_allocP (w : World) (old cs : Array Value) (t : TypeId) : (w.alloc (.cells old t)).setRow w.heap.size cs = w.alloc (.cells cs t) := by
  have h : ((w.alloc (.cells old t)).setRow w.heap.size cs).heap = (w.alloc (.cells cs t)).heap := by
    apply Array.ext_getElem?
    intro i
    by_cases e : i = w.heap.size
    · subst e
      rw [setRow_heap _ _ _ _ _ _ (heap_alloc_new w (.cells old t)), heap_alloc_new]
    · rw [setRow_other _ _ _ _ e]
      rcases Nat.lt_or_ge i w.heap.size with h | h
      · first | rw [heap_alloc_old w _ h, heap_alloc_old w _ h] | rw [heap_alloc_old w _ _ h, heap_alloc_old w _ _ h]
      · rw [Array.getElem?_eq_none (by simp; omega), Array.getElem?_eq_none (by simp; omega)]
  have e : ∀ a b : World, a.heap = b.heap → a.tape = b.tape → a.drawn = b.drawn → a.os = b.os → a.output = b.output → a = b := fun a b h1 h2 h3 h4 h5 => by cases a; cases b; simp_all
  exact e _ _ h rfl rfl rfl rfl
theorem wpList_store_newP {P : Program} {ops : Array Oper} {rest : List Oper} {o : Oper} {a : Act} {w : World} {Q : Exit → Act → World → Prop} (hgd : o.guard = none) (ty : TypeId) (x y : Operand) (ho : o.op = .store ty x y)
    (cs : Array Value) (hx : a.eval x = .pointer (some ⟨w.heap.size, 0, none⟩)) (hy : a.eval y = .agg cs)
    (t : TypeId) (old : Array Value) (hi : (P.info? ty).map (·.size) = some cs.size) (hold : old.size = cs.size) (h1 : cs.all (·.oneCell') = true)
    (h : wpList P ops Q rest (a.put o.dst undef) (w.alloc (.cells cs t))) : wpList P ops Q (o :: rest) a (w.alloc (.cells old t)) := by
  refine wpList_store_row hgd ty x y ho w.heap.size cs hx hy t old (heap_new' _ _ _ rfl) hi hold h1 ?_
  rw [setRow_allocP]
  exact h
/-- how it stands with a frame, drums and a tune -/
def pgK (s : Int) (l : List (Int × Int)) (fb : Bool) (L : List (Int × Int)) : Int := if frB s l && fb && okB L then (if lenI L ≤ s then 0 else 2) else 1
def PgR (p : Nat → Addr) (k : Int) (cs : Array Value) (w : World) (e : Ending) (w' : World) : Prop := e = .returned (.tuple #[.agg (if k = 0 then cs else zpg), erX p k]) ∧ Below w.heap.size w w'
end Go.Proofs.YtmmninlnpnhboaaGreatDoor
namespace Go.Proofs.YtmmninlnpnhboaaGreatDoor
open Go.RowKit
/-- block g holds one number -/
def Nb (w : World) (g : Nat) (x : Int) : Prop := w.cell? ⟨g, 0, none⟩ = some (.int .i64 x) ∧ g < w.heap.size
theorem Nb.keep {w w' : World} {g : Nat} {x : Int} (h : Nb w g x) (hb : Below w.heap.size w w') : Nb w' g x := ⟨(hb.cell (p := ⟨g, 0, none⟩) h.2).trans h.1, Nat.lt_of_lt_of_le h.2 hb.size⟩
def shP (d p : Int) (a q : Int) : Int × Int := (a + d, q + p)
/-! ascending tunes -/
theorem asc_of_ok {l : List (Int × Int)} (h : okB l = true) : AscN l := by
  simp only [okB, Bool.and_eq_true, List.all_eq_true, List.mem_range, good, Bool.or_eq_true, decide_eq_true_eq] at h
  have adj : ∀ j, 0 < j → j < l.length → ltN (nAt l (j - 1), nPi l (j - 1)) (nAt l j, nPi l j) := fun j h0 hj => by
    rcases (h.1 j hj).2 with e | e
    · omega
    · exact (befB_iff _ _ _ _).1 e
  have hget : ∀ j (hj : j < l.length), l[j] = (nAt l j, nPi l j) := fun j hj => by simp [nAt, nPi, List.getD, hj]
  refine List.pairwise_iff_getElem.2 fun i j hi hj hij => ?_
  have all : ∀ m, i < m → m < l.length → ltN (nAt l i, nPi l i) (nAt l m, nPi l m) := by
    intro m
    induction m with
    | zero => intro h0 _; omega
    | succ m ih =>
      intro h1 h2
      have ha := adj (m + 1) (by omega) h2
      rw [Nat.add_sub_cancel] at ha
      rcases Nat.lt_or_ge i m with h3 | h3
      · exact ltN_trans (ih h3 (by omega)) ha
      · obtain rfl : i = m := by omega
        exact ha
  rw [hget i hi, hget j hj]
  exact all j hij hj
theorem ok_in {l : List (Int × Int)} (h : okB l = true) (k : Nat) (hk : k < l.length) : (0 ≤ nAt l k ∧ nAt l k ≤ 199) ∧ (0 ≤ nPi l k ∧ nPi l k ≤ 47) := by
  simp only [okB, Bool.and_eq_true, List.all_eq_true, List.mem_range, good, decide_eq_true_eq] at h
  simpa [noteB] using (h.1 k hk).1
theorem ok_len {l : List (Int × Int)} (h : okB l = true) : l.length ≤ 120 := by
  simp only [okB, Bool.and_eq_true, decide_eq_true_eq] at h
  exact h.2
theorem chL_map (pf : Int → Int → Int × Int) (l : List (Int × Int)) : cnL pf l l.length = l.map fun x => pf x.1 x.2 := by
  apply List.ext_getElem
  · simp [cnL]
  · intro i h1 h2
    have hi : i < l.length := by simpa [cnL] using h1
    simp [cnL, nAt, nPi, List.getD, hi]
theorem chL_asc {pf : Int → Int → Int × Int} {l : List (Int × Int)} (h : AscN l) (hm : ∀ x y, x ∈ l → y ∈ l → ltN x y → ltN (pf x.1 x.2) (pf y.1 y.2)) : AscN (cnL pf l l.length) := by
  rw [chL_map]
  refine List.pairwise_map.2 ?_
  exact List.Pairwise.imp_of_mem (fun {x y} hx hy hxy => hm x y hx hy hxy) h
theorem chV_asc {pf : Int → Int → Int × Int} {l : List (Int × Int)} (h : AscN (cnL pf l l.length)) : chV pf l = chW pf l := by
  unfold chV chW
  rw [srtN_id _ h]
theorem sh_asc {d p : Int} {l : List (Int × Int)} (h : okB l = true) : chV (shP d p) l = chW (shP d p) l :=
  chV_asc (chL_asc (asc_of_ok h) fun x y _ _ hxy => by unfold ltN shP at *; omega)
end Go.Proofs.YtmmninlnpnhboaaGreatDoor
