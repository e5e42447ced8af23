import Derived.Test.YtdglhgfhlcdflaaDoorGas
import Derived.Sort.Grow
import Derived.Test.YtdglhgfhlcdflaaDoorGbg
import Derived.Test.YtdglhgfhlcdflaaDoorGar
import Derived.Maps.AppendAt
import Derived.Test.YtdglhgfhlcdflaaDoorGat
import Derived.Test.YtdglhgfhlcdflaaDoorGau
namespace Go.Proofs.YtdglhgfhlcdflaaDoor
open Go.RowKit
set_option maxHeartbeats 1000000 in
theorem compareNotes_grow (a p b q : Int) (w : World) :
    Calls Tryd.prog 84 #[.agg #[.int .i16 a, .int .i8 p], .agg #[.int .i16 b, .int .i8 q]] w fun e w' => e = .returned (.int .i64 (ordI a p b q)) ∧ ∃ (q : Nat) (os : Array Obj), w' = Go.Sort.grow (w.drewN q) os := by
  go_enter Tryd.func84, Tryd.ntmps84
  go_wp2_with fail
  have k1 : ((w.alloc (.cells #[.int .i16 a, .int .i8 p] 65)).alloc (.cells #[.int .i16 b, .int .i8 q] 65)).cell? ⟨w.heap.size, 0, none⟩ = some (.int .i16 a) := by simp [go_sem, World.cell?_alloc_past]
  have k2 : ((w.alloc (.cells #[.int .i16 a, .int .i8 p] 65)).alloc (.cells #[.int .i16 b, .int .i8 q] 65)).cell? ⟨w.heap.size, 1, none⟩ = some (.int .i8 p) := by simp [go_sem, World.cell?_alloc_past]
  have k3 : ((w.alloc (.cells #[.int .i16 a, .int .i8 p] 65)).alloc (.cells #[.int .i16 b, .int .i8 q] 65)).cell? ⟨w.heap.size + 1, 0, none⟩ = some (.int .i16 b) := by simp [go_sem]
  have k4 : ((w.alloc (.cells #[.int .i16 a, .int .i8 p] 65)).alloc (.cells #[.int .i16 b, .int .i8 q] 65)).cell? ⟨w.heap.size + 1, 1, none⟩ = some (.int .i8 q) := by simp [go_sem]
  have k5 : Below w.heap.size w ((w.alloc (.cells #[.int .i16 a, .int .i8 p] 65)).alloc (.cells #[.int .i16 b, .int .i8 q] 65)) := ((Below.refl _ _).alloc (Nat.le_refl _) _).alloc (by simp) _
  obtain ⟨W, hW⟩ : ∃ W, W = ((w.alloc (.cells #[.int .i16 a, .int .i8 p] 65)).alloc (.cells #[.int .i16 b, .int .i8 q] 65)) := ⟨_, rfl⟩
  rw [← hW] at k1 k2 k3 k4 k5 ⊢
  have HW := hide hW
  clear hW
  go_region_held3 (fun w' => w'.cell? ⟨w.heap.size, 0, none⟩ = some (.int .i16 a) ∧ w'.cell? ⟨w.heap.size, 1, none⟩ = some (.int .i8 p) ∧ w'.cell? ⟨w.heap.size + 1, 0, none⟩ = some (.int .i16 b) ∧ w'.cell? ⟨w.heap.size + 1, 1, none⟩ = some (.int .i8 q) ∧ Below w.heap.size w w')
    (first | exact ⟨k1, k2, k3, k4, k5.drew⟩ | (go_split_ands; refine ⟨?_, ?_, ?_, ?_, ?_⟩ <;> first | assumption | simp [*, World.cell?_alloc_some] | exact Below.alloc (by assumption) (Below.size (by assumption)) _))
    (first | (go_at_call 88; refine (cmp16_any _ _ _).mono ?_; rintro e w2 ⟨rfl, rfl⟩) | (go_at_call 89; refine (cmp8_any _ _ _).mono ?_; rintro e w2 ⟨rfl, rfl⟩) | (go_at_call 87; refine (cmpOr_any _ (cmpI a b) (cmpI p q) _ ?_ ?_).mono ?_; (simp [go_sem]); (simp [go_sem]); rintro e w2 ⟨rfl, rfl⟩))
  go_wp2
  go_ret
  exact ⟨rfl, 1, #[_, _, _], by rw [HW.out, Go.Sort.alloc_eq_grow, Go.Sort.alloc_eq_grow, Go.Sort.alloc_eq_grow, Go.Sort.grow_grow, Go.Sort.grow_grow]; rfl⟩
end Go.Proofs.YtdglhgfhlcdflaaDoor
namespace Go.Proofs.YtdglhgfhlcdflaaDoor
open Go.RowKit Go.Shelf Go.Lib
open Go.Sort (SWO HoldsK PermIn SortedIn pdq pdq_sorts sorted_unique_holds)
theorem cmpLaysN (g n : Nat) (w : World) : CmpLays Tryd.prog 84 #[] encN 2 cfN g 0 n w :=
  fun _ _ _ _ x y => compareNotes_grow x.1 x.2 y.1 y.2 _
/-- what slices.SortFunc leaves of notes -/
def SortedP (base : Nat) (C : Option Addr) (q : Nat) (l : List (Int × Int)) (w : World) (e : Ending) (w' : World) : Prop :=
  e = .returned (.tuple #[]) ∧ w'.ownsRow base 65 2 (.slice C l.length q) l.length (cellsOf (srtN l)) ∧ Below base w w'
end Go.Proofs.YtdglhgfhlcdflaaDoor
namespace Go.Proofs.YtdglhgfhlcdflaaDoor
open Go.RowKit
theorem cell_two_new' (w : World) (x y : Value) (t : TypeId) : ∀ j u, ([x, y] : List Value)[j]? = some u → (w.alloc (.cells #[x, y] t)).cell? ((⟨w.heap.size, 0, none⟩ : Addr).add j) = some u := by
  intro j u hu
  rw [Addr.add_lit]
  match j, hu with
  | 0, hu => simp at hu; subst hu; simp [go_sem]
  | 1, hu => simp at hu; subst hu; simp [go_sem]
theorem own_emptyT {w : World} {base : Nat} (t : TypeId) (size : Nat) (h : base ≤ w.heap.size) : (w.alloc (.cells #[] t)).ownsRow base t size (.slice (some ⟨w.heap.size, 0, none⟩) 0 0) 0 [] :=
  ⟨by simp, Or.inr ⟨w.heap.size, 0, #[], rfl, h, heap_alloc_new _ _, by simp, by simp, by simp, by simp⟩⟩
/-- notes of the call's own, and a code -/
def OwnN (w : World) (l : List (Int × Int)) (cc : Int) (e : Ending) (w' : World) : Prop := ∃ (C : Option Addr) (q : Nat), e = .returned (.tuple #[.slice C l.length q, .int .i64 cc]) ∧ w'.ownsRow w.heap.size 65 2 (.slice C l.length q) l.length (cellsOf l) ∧ Below w.heap.size w w'
end Go.Proofs.YtdglhgfhlcdflaaDoor
namespace Go.Proofs.YtdglhgfhlcdflaaDoor
open Go.RowKit
theorem own_shapeT {w : World} {base : Nat} {e : TypeId} {size n : Nat} {v : Value} {xs : List Value} (h : w.ownsRow base e size v n xs) : ∃ A c, v = .slice A n c := by
  rcases h.2 with ⟨h', h0⟩ | ⟨g, cap, cur, h', _⟩
  · exact ⟨none, 0, by rw [h', h0]⟩
  · exact ⟨_, _, h'⟩
/-- the same, the code being a bool -/
def OwnB (w : World) (l : List (Int × Int)) (b : Bool) (e : Ending) (w' : World) : Prop := ∃ (C : Option Addr) (q : Nat), e = .returned (.tuple #[.slice C l.length q, .bool b]) ∧ w'.ownsRow w.heap.size 65 2 (.slice C l.length q) l.length (cellsOf l) ∧ Below w.heap.size w w'
theorem ownN_nil {w w1 : World} (C : Option Addr) (q : Nat) (cc : Int) (h : w1.ownsRow w.heap.size 65 2 (.slice C 0 q) 0 []) (hb : Below w.heap.size w w1) : OwnN w [] cc (.returned (.tuple #[.slice C 0 q, .int .i64 cc])) w1 := ⟨C, q, rfl, h, hb⟩
theorem ownB_nil {w w1 : World} (C : Option Addr) (q : Nat) (cc : Bool) (h : w1.ownsRow w.heap.size 65 2 (.slice C 0 q) 0 []) (hb : Below w.heap.size w w1) : OwnB w [] cc (.returned (.tuple #[.slice C 0 q, .bool cc])) w1 := ⟨C, q, rfl, h, hb⟩
theorem ownN_of {w w1 : World} (C : Option Addr) (q : Nat) (cc : Int) (xs : List (Int × Int)) (n : Nat) (hn : xs.length = n) (h : w1.ownsRow w.heap.size 65 2 (.slice C n q) n (cellsOf xs)) (hb : Below w.heap.size w w1) : OwnN w xs cc (.returned (.tuple #[.slice C n q, .int .i64 cc])) w1 := by
  subst hn
  exact ⟨C, q, rfl, h, hb⟩
theorem ownB_of {w w1 : World} (C : Option Addr) (q : Nat) (cc : Bool) (xs : List (Int × Int)) (n : Nat) (hn : xs.length = n) (h : w1.ownsRow w.heap.size 65 2 (.slice C n q) n (cellsOf xs)) (hb : Below w.heap.size w w1) : OwnB w xs cc (.returned (.tuple #[.slice C n q, .bool cc])) w1 := by
  subst hn
  exact ⟨C, q, rfl, h, hb⟩
/-- the first k notes, put elsewhere -/
def chL (pf : Int → Int → Int × Int) (l : List (Int × Int)) (k : Nat) : List (Int × Int) := (List.range k).map fun i => pf (nAt l i) (nPi l i)
theorem chL_succ (pf : Int → Int → Int × Int) (l : List (Int × Int)) (k : Nat) : chL pf l (k + 1) = chL pf l k ++ [pf (nAt l k) (nPi l k)] := by simp [chL, List.range_succ]
theorem chL_len (pf : Int → Int → Int × Int) (l : List (Int × Int)) (k : Nat) : (chL pf l k).length = k := by simp [chL]
def chO (pf : Int → Int → Int × Int) (l : List (Int × Int)) (k : Nat) : Bool := (List.range k).all fun i => noteB (pf (nAt l i) (nPi l i)).1 (pf (nAt l i) (nPi l i)).2
theorem chO_succ (pf : Int → Int → Int × Int) (l : List (Int × Int)) (k : Nat) : chO pf l (k + 1) = (chO pf l k && noteB (pf (nAt l k) (nPi l k)).1 (pf (nAt l k) (nPi l k)).2) := by simp [chO, List.range_succ]
theorem chO_no {pf : Int → Int → Int × Int} {l : List (Int × Int)} {k n : Nat} (h : chO pf l k = false) (hk : k ≤ n) : chO pf l n = false := by
  induction n with
  | zero => obtain rfl : k = 0 := by omega
            exact h
  | succ n ih =>
    rcases Nat.lt_or_ge n k with h1 | h1
    · obtain rfl : k = n + 1 := by omega
      exact h
    · rw [chO_succ, ih h1]; rfl
def chC (pf : Int → Int → Int × Int) (l : List (Int × Int)) : Int := if chO pf l l.length then 0 else 4
def chV (pf : Int → Int → Int × Int) (l : List (Int × Int)) : List (Int × Int) := if chO pf l l.length then srtN (chL pf l l.length) else []
def chW (pf : Int → Int → Int × Int) (l : List (Int × Int)) : List (Int × Int) := if chO pf l l.length then chL pf l l.length else []
theorem chV_len (pf : Int → Int → Int × Int) (l : List (Int × Int)) : (chV pf l).length ≤ l.length := by
  unfold chV
  split
  · rw [srtN_len, chL_len]; exact Nat.le_refl _
  · simp
theorem chW_len (pf : Int → Int → Int × Int) (l : List (Int × Int)) : (chW pf l).length ≤ l.length := by
  unfold chW
  split
  · rw [chL_len]; exact Nat.le_refl _
  · simp
/-- a place function, called in worlds behind w -/
def PlaceOf (g : Nat) (cb : Array Value) (pf : Int → Int → Int × Int) (l : List (Int × Int)) (w : World) : Prop :=
  ∀ W, Below w.heap.size w W → ∀ k, k < l.length → Calls Tryd.prog g (#[.int .i64 (nAt l k), .int .i64 (nPi l k)] ++ cb) W fun e w' => e = .returned (.tuple #[.int .i64 (pf (nAt l k) (nPi l k)).1, .int .i64 (pf (nAt l k) (nPi l k)).2]) ∧ Below W.heap.size W w'
end Go.Proofs.YtdglhgfhlcdflaaDoor
namespace Go.Proofs.YtdglhgfhlcdflaaDoor
open Go.RowKit
/-- block g holds one number -/
def Nb (w : World) (g : Nat) (x : Int) : Prop := w.cell? ⟨g, 0, none⟩ = some (.int .i64 x) ∧ g < w.heap.size
theorem Nb.keep {w w' : World} {g : Nat} {x : Int} (h : Nb w g x) (hb : Below w.heap.size w w') : Nb w' g x := ⟨(hb.cell (p := ⟨g, 0, none⟩) h.2).trans h.1, Nat.lt_of_lt_of_le h.2 hb.size⟩
def shP (d p : Int) (a q : Int) : Int × Int := (a + d, q + p)
/-! ascending tunes -/
theorem asc_of_ok {l : List (Int × Int)} (h : okB l = true) : AscN l := by
  simp only [okB, Bool.and_eq_true, List.all_eq_true, List.mem_range, good, Bool.or_eq_true, decide_eq_true_eq] at h
  have adj : ∀ j, 0 < j → j < l.length → ltN (nAt l (j - 1), nPi l (j - 1)) (nAt l j, nPi l j) := fun j h0 hj => by
    rcases (h.1 j hj).2 with e | e
    · omega
    · exact (befB_iff _ _ _ _).1 e
  have hget : ∀ j (hj : j < l.length), l[j] = (nAt l j, nPi l j) := fun j hj => by simp [nAt, nPi, List.getD, hj]
  refine List.pairwise_iff_getElem.2 fun i j hi hj hij => ?_
  have all : ∀ m, i < m → m < l.length → ltN (nAt l i, nPi l i) (nAt l m, nPi l m) := by
    intro m
    induction m with
    | zero => intro h0 _; omega
    | succ m ih =>
      intro h1 h2
      have ha := adj (m + 1) (by omega) h2
      rw [Nat.add_sub_cancel] at ha
      rcases Nat.lt_or_ge i m with h3 | h3
      · exact ltN_trans (ih h3 (by omega)) ha
      · obtain rfl : i = m := by omega
        exact ha
  rw [hget i hi, hget j hj]
  exact all j hij hj
theorem ok_in {l : List (Int × Int)} (h : okB l = true) (k : Nat) (hk : k < l.length) : (0 ≤ nAt l k ∧ nAt l k ≤ 199) ∧ (0 ≤ nPi l k ∧ nPi l k ≤ 47) := by
  simp only [okB, Bool.and_eq_true, List.all_eq_true, List.mem_range, good, decide_eq_true_eq] at h
  simpa [noteB] using (h.1 k hk).1
theorem ok_len {l : List (Int × Int)} (h : okB l = true) : l.length ≤ 120 := by
  simp only [okB, Bool.and_eq_true, decide_eq_true_eq] at h
  exact h.2
theorem chL_map (pf : Int → Int → Int × Int) (l : List (Int × Int)) : chL pf l l.length = l.map fun x => pf x.1 x.2 := by
  apply List.ext_getElem
  · simp [chL]
  · intro i h1 h2
    have hi : i < l.length := by simpa [chL] using h1
    simp [chL, nAt, nPi, List.getD, hi]
theorem chL_asc {pf : Int → Int → Int × Int} {l : List (Int × Int)} (h : AscN l) (hm : ∀ x y, x ∈ l → y ∈ l → ltN x y → ltN (pf x.1 x.2) (pf y.1 y.2)) : AscN (chL pf l l.length) := by
  rw [chL_map]
  refine List.pairwise_map.2 ?_
  exact List.Pairwise.imp_of_mem (fun {x y} hx hy hxy => hm x y hx hy hxy) h
theorem chV_asc {pf : Int → Int → Int × Int} {l : List (Int × Int)} (h : AscN (chL pf l l.length)) : chV pf l = chW pf l := by
  unfold chV chW
  rw [srtN_id _ h]
theorem sh_asc {d p : Int} {l : List (Int × Int)} (h : okB l = true) : chV (shP d p) l = chW (shP d p) l :=
  chV_asc (chL_asc (asc_of_ok h) fun x y _ _ hxy => by unfold ltN shP at *; omega)
end Go.Proofs.YtdglhgfhlcdflaaDoor
