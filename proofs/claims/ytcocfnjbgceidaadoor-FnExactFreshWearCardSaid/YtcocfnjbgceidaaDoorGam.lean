import Derived.Test.YtcocfnjbgceidaaDoorMkf
import Derived.Test.YtcocfnjbgceidaaDoorWpn
import Derived.Test.YtcocfnjbgceidaaDoorGag
import Derived.Deep.CutRange
import Derived.Test.YtcocfnjbgceidaaDoorFrs
namespace Go.Proofs.YtcocfnjbgceidaaDoor
open Go.RowKit
/-- a slice's address under which the numbers lie -/
def SZ (w : World) (A : Option Addr) (zs : List Int) : Prop := ∀ k, k < zs.length → ∃ b o, A = some ⟨b, o, none⟩ ∧ b < w.heap.size ∧ w.cell? ⟨b, o + k, none⟩ = some (.int .i64 (zAt zs k))
def ZWF (zs : List Int) : Prop := ∀ k, k < zs.length → -9223372036854775808 ≤ zAt zs k ∧ zAt zs k ≤ 9223372036854775807
theorem SZ.below {w w' : World} {A : Option Addr} {l : List Int} (h : SZ w A l) (hb : Below w.heap.size w w') : SZ w' A l := by
  intro k hk
  obtain ⟨b, o, rfl, hlt, h1⟩ := h k hk
  exact ⟨b, o, rfl, Nat.lt_of_lt_of_le hlt hb.size, (hb.cell (p := ⟨b, _, none⟩) hlt).trans h1⟩
theorem SZ.of_own {w : World} {base : Nat} {A : Option Addr} {c : Nat} {zs : List Int} (h : w.ownsRow base 2 1 (.slice A zs.length c) zs.length (icells zs)) : SZ w A zs := by
  intro k hk
  rcases h.2 with ⟨h', h0⟩ | ⟨g, cap, cur, h', hb, hg, _⟩
  · omega
  · simp only [Value.slice.injEq, true_and] at h'
    obtain ⟨rfl, rfl⟩ := h'
    exact ⟨g, 0, rfl, (Array.getElem?_eq_some_iff.1 hg).1, by rw [Nat.zero_add, h.cellAt k (by omega), icells_get zs k hk]⟩
def zupto (l : List Int) (k : Nat) : List Int := l.take k ++ List.replicate (l.length - k) 0
theorem zupto_length (l : List Int) (k : Nat) (h : k ≤ l.length) : (zupto l k).length = l.length := by simp [zupto]; omega
theorem zupto_set (l : List Int) (k : Nat) (h : k < l.length) : (zupto l k).set k (zAt l k) = zupto l (k + 1) := by
  have e1 : l.length - k = (l.length - (k + 1)) + 1 := by omega
  have e2 : zAt l k = l[k] := by simp [zAt, List.getD, h]
  rw [zupto, zupto, e1, List.replicate_succ, e2, List.take_succ_eq_append_getElem h, List.set_append_right _ _ (by simp; omega)]
  simp only [List.length_take, show k - min k l.length = 0 by omega, List.set_cons_zero, List.append_assoc, List.cons_append, List.nil_append]
theorem zupto_zero (l : List Int) : zupto l 0 = List.replicate l.length 0 := by simp [zupto]
theorem zupto_all (l : List Int) : zupto l l.length = l := by simp [zupto]
theorem icells_replicate (n : Nat) : icells (List.replicate n 0) = (madeCells #[.int .i64 0] n).toList := by
  apply List.ext_getElem?
  intro j
  by_cases hj : j < n
  · simp [icells, madeCells, hj, Nat.mod_one]
  · rw [List.getElem?_eq_none (by rw [icells_length]; simp; omega), List.getElem?_eq_none (by simp [madeCells]; omega)]
theorem eqInt64S_self (A C : Option Addr) (c d : Nat) (zs : List Int) (w : World) (hA : SI w w.heap.size A zs) (hC : SI w w.heap.size C zs) (hn : zs.length ≤ 1048576) :
    Calls Tryd.prog 23 #[.slice A zs.length c, .slice C zs.length d] w (Says true w) := eqInt64S_any A C c d zs w.heap.size w hA hC (Nat.le_refl _) hn
end Go.Proofs.YtcocfnjbgceidaaDoor
namespace Go.Proofs.YtcocfnjbgceidaaDoor
open Go.RowKit

/-- what toWear leaves: a wear whose pins and strokes lie under addresses of its own -/
def MadeW (w : World) (l : List (Int × Int × Int)) (z : List Int) (e : Ending) (w' : World) : Prop :=
  ∃ g m, e = .returned (.agg #[.slice (some ⟨g, 0, none⟩) l.length l.length, .slice (some ⟨m, 0, none⟩) z.length z.length]) ∧ w.heap.size ≤ g ∧ w.heap.size ≤ m ∧ w'.ownsRow w.heap.size 53 3 (.slice (some ⟨g, 0, none⟩) l.length l.length) l.length (wnC l) ∧ w'.ownsRow w.heap.size 2 1 (.slice (some ⟨m, 0, none⟩) z.length z.length) z.length (icells z) ∧ Below w.heap.size w w'
theorem own_low {w : World} {b b' : Nat} {e : TypeId} {n : Nat} {v : Value} {k : Nat} {xs : List Value} (h : w.ownsRow b e n v k xs) (hb : b' ≤ b) : w.ownsRow b' e n v k xs := by
  refine ⟨h.1, ?_⟩
  rcases h.2 with h' | ⟨g, cap, cur, h1, h2, h3, r⟩
  · exact Or.inl h'
  · exact Or.inr ⟨g, cap, cur, h1, Nat.le_trans hb h2, h3, r⟩
theorem eqWear_self (A B : Option Addr) (c d : Nat) (l : List (Int × Int × Int)) (U V : Option Addr) (e f : Nat) (z : List Int) (w : World) (hA : WnA w A l) (hB : WnA w B l) (hU : SI w w.heap.size U z) (hV : SI w w.heap.size V z) (hn : l.length ≤ 1048576) (hz : z.length ≤ 1048576) :
    Calls Tryd.prog 9 #[.agg #[.slice A l.length c, .slice U z.length e], .agg #[.slice B l.length d, .slice V z.length f]] w (Says true w) := by
  have hb0 : Below w.heap.size w ((w.alloc (.cells #[.slice A l.length c, .slice U z.length e] 32)).alloc (.cells #[.slice B l.length d, .slice V z.length f] 32)) := ((Below.refl _ _).alloc (Nat.le_refl _) _).alloc (by simp) _
  obtain ⟨X, hX⟩ : ∃ X, X = (w.alloc (.cells #[.slice A l.length c, .slice U z.length e] 32)).alloc (.cells #[.slice B l.length d, .slice V z.length f] 32) := ⟨_, rfl⟩
  rw [← hX] at hb0
  have P0 : Bk X w.heap.size 32 #[.slice A l.length c, .slice U z.length e] := by rw [hX]; exact (Bk.new _ _ _ rfl).old _
  have P1 : Bk X (w.heap.size + 1) 32 #[.slice B l.length d, .slice V z.length f] := by rw [hX]; exact Bk.new _ _ _ (by simp)
  go_enter Tryd.func9, Tryd.ntmps9
  go_upto_region 1 with fail
  rw [← hX]
  clear hX
  have c0 := P0.cell (i := 0) rfl
  have c1 := P1.cell (i := 0) rfl
  go_wp2_with fail
  refine (eqWornPinS_self A B c d l _ (hA.below hb0) (hB.below hb0) hn).mono ?_
  rintro x w2 ⟨rfl, hb2⟩
  have b2 := step_below hb2 hb0
  have d0 := (P0.keep hb2).cell (i := 1) rfl
  have d1 := (P1.keep hb2).cell (i := 1) rfl
  clear c0 c1
  go_wp2_with fail
  refine (eqInt64S_self U V e f z _ ((hU.below b2).up b2.size) ((hV.below b2).up b2.size) hz).mono ?_
  rintro x w3 ⟨rfl, hb3⟩
  have b3 := step_below hb3 b2
  go_wp2
  go_ret
  exact ⟨rfl, b3⟩
end Go.Proofs.YtcocfnjbgceidaaDoor
namespace Go.Proofs.YtcocfnjbgceidaaDoor
open Go.RowKit
def plW (s : Int) (n : Nat) (x y : Int) : Bool := inB x 0 (s - 1) && inB y 0 ((n : Int) - 1)
def befW (a p b q : Int) : Bool := decide (a < b ∨ a = b ∧ p < q)
def wnOk (s : Int) (n : Nat) (l : List (Int × Int × Int)) (k : Nat) : Bool := plW s n (wnS l k) (wnT l k) && inB (wnP l k) 0 1000000
def wnAsc (l : List (Int × Int × Int)) (k : Nat) : Bool := decide (k = 0) || befW (wnS l (k - 1)) (wnT l (k - 1)) (wnS l k) (wnT l k)
def pinsB (s : Int) (n : Nat) (l : List (Int × Int × Int)) : Bool := (List.range l.length).all fun k => wnOk s n l k && wnAsc l k
def strB (z : List Int) : Bool := (List.range z.length).all fun k => inB (zAt z k) 0 1000000
/-- a wear is valid -/
def weB (s : Int) (h : List (Int × Int)) (l : List (Int × Int × Int)) (z : List Int) : Bool := frB s h && decide (z.length = h.length) && pinsB s h.length l && strB z
def PG (s : Int) (n : Nat) (l : List (Int × Int × Int)) (k : Nat) : Prop := ∀ j, j < k → (wnOk s n l j && wnAsc l j) = true
def ZG (z : List Int) (k : Nat) : Prop := ∀ j, j < k → inB (zAt z j) 0 1000000 = true
theorem PG_succ {s : Int} {n : Nat} {l : List (Int × Int × Int)} {k : Nat} (h : PG s n l k) (h' : (wnOk s n l k && wnAsc l k) = true) : PG s n l (k + 1) := fun j hj => by
  rcases Nat.lt_or_ge j k with h1 | h1
  · exact h j h1
  · rw [show j = k by omega]; exact h'
theorem ZG_succ {z : List Int} {k : Nat} (h : ZG z k) (h' : inB (zAt z k) 0 1000000 = true) : ZG z (k + 1) := fun j hj => by
  rcases Nat.lt_or_ge j k with h1 | h1
  · exact h j h1
  · rw [show j = k by omega]; exact h'
theorem pinsB_yes {s : Int} {n : Nat} {l : List (Int × Int × Int)} (h : PG s n l l.length) : pinsB s n l = true := by simp only [pinsB, List.all_eq_true, List.mem_range]; exact h
theorem pinsB_no {s : Int} {n : Nat} {l : List (Int × Int × Int)} {k : Nat} (hk : k < l.length) (h : (wnOk s n l k && wnAsc l k) = false) : pinsB s n l = false := by
  rw [pinsB, List.all_eq_false]
  exact ⟨k, List.mem_range.2 hk, by simp [h]⟩
theorem strB_yes {z : List Int} (h : ZG z z.length) : strB z = true := by simp only [strB, List.all_eq_true, List.mem_range]; exact h
theorem strB_no {z : List Int} {k : Nat} (hk : k < z.length) (h : inB (zAt z k) 0 1000000 = false) : strB z = false := by
  rw [strB, List.all_eq_false]
  exact ⟨k, List.mem_range.2 hk, by simp [h]⟩

end Go.Proofs.YtcocfnjbgceidaaDoor
