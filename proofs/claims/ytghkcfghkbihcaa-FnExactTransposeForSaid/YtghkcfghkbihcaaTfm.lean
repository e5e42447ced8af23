import Derived.Test.YtghkcfghkbihcaaGaq
import Derived.Test.YtghkcfghkbihcaaPit
import Derived.Test.YtghkcfghkbihcaaOtw
namespace Go.Proofs.Ytghkcfghkbihcaa
open Go.RowKit
/-- does the tune, transposed by m, fit on the map x and within the range -/
def tfB (x : Int) (l : List (Int × Int)) (m : Int) : Bool := chO (shP 0 m) l l.length && (misI x (chL (shP 0 m) l l.length) == 0)
def tfX (x : Int) (l : List (Int × Int)) : Option Int := if okB l then (orws 97).find? (tfB x l) else none
def tfV (x : Int) (l : List (Int × Int)) : Int := (tfX x l).getD 0
def tfC (x : Int) (l : List (Int × Int)) : Int := if okB l then (if (tfX x l).isSome then 0 else 6) else 1
theorem chL_fst (pf : Int → Int → Int × Int) (l : List (Int × Int)) (k j : Nat) (h : j < k) : nAt (chL pf l k) j = (pf (nAt l j) (nPi l j)).1 := by simp [nAt, chL, List.getD, h]
theorem chL_snd (pf : Int → Int → Int × Int) (l : List (Int × Int)) (k j : Nat) (h : j < k) : nPi (chL pf l k) j = (pf (nAt l j) (nPi l j)).2 := by simp [nPi, chL, List.getD, h]
theorem chL_in {pf : Int → Int → Int × Int} {l : List (Int × Int)} (h : chO pf l l.length = true) : InRange (chL pf l l.length) (chL pf l l.length).length := by
  intro j hj
  rw [chL_len] at hj
  rw [chL_fst _ _ _ _ hj, chL_snd _ _ _ _ hj]
  unfold chO at h
  rw [List.all_eq_true] at h
  exact h j (List.mem_range.2 hj)
theorem orw_abs (s t : Nat) (h : t < 2 * s + 1) : -(s : Int) ≤ orw t ∧ orw t ≤ s := by
  unfold orw
  split <;> omega
theorem orws_get (n i : Nat) (h : i < n) : (orws n)[i]? = some (orw i) := by simp [orws, h]
theorem find_at {f : Int → Bool} {n i : Nat} (h : i < n) (hf : f (orw i) = true) (hb : ∀ j, j < i → f (orw j) = false) : (orws n).find? f = some (orw i) := by
  rw [List.find?_eq_some_iff_getElem]
  refine ⟨hf, i, by rw [orws_len]; exact h, by simp [orws], fun j hj => ?_⟩
  have := hb j hj
  simp [orws, this]
/-- all of size below s fail -/
def badTo (f : Int → Bool) (s : Nat) : Prop := ∀ m : Int, -(s : Int) < m → m < s → f m = false
theorem bad_zero (f : Int → Bool) : badTo f 0 := fun m h1 h2 => by omega
theorem bad_succ {f : Int → Bool} {s : Nat} (h : badTo f s) (h1 : f s = false) (h2 : f (-(s : Int)) = false) : badTo f (s + 1) := by
  intro m h3 h4
  by_cases e : m = s
  · rw [e]; exact h1
  by_cases e' : m = -(s : Int)
  · rw [e']; exact h2
  exact h m (by omega) (by omega)
theorem find_pos {f : Int → Bool} {s : Nat} (hs : s ≤ 48) (hb : badTo f s) (hf : f s = true) : (orws 97).find? f = some (s : Int) := by
  cases s with
  | zero => exact find_at (i := 0) (by omega) hf (fun j hj => by omega)
  | succ s =>
    have e := orw_odd s
    have := find_at (f := f) (n := 97) (i := 2 * s + 1) (by omega) (by rw [e]; exact hf) (fun j hj => by
      have := orw_abs s j hj
      exact hb _ (by omega) (by omega))
    rw [this, e]
    rfl
theorem find_neg {f : Int → Bool} {s : Nat} (hs : s ≤ 48) (hb : badTo f s) (h1 : f s = false) (hf : f (-(s : Int)) = true) : (orws 97).find? f = some (-(s : Int)) := by
  cases s with
  | zero => rw [show (-((0 : Nat) : Int)) = ((0 : Nat) : Int) by rfl, h1] at hf; cases hf
  | succ s =>
    have e := orw_even s
    have := find_at (f := f) (n := 97) (i := 2 * s + 2) (by omega) (by rw [e]; exact hf) (fun j hj => by
      by_cases h : j < 2 * s + 1
      · have := orw_abs s j h
        exact hb _ (by omega) (by omega)
      · obtain rfl : j = 2 * s + 1 := by omega
        rw [orw_odd]
        exact h1)
    rw [this, e]
    rfl
theorem find_no {f : Int → Bool} (hb : badTo f 49) : (orws 97).find? f = none := by
  rw [List.find?_eq_none]
  intro x hx
  unfold orws at hx
  obtain ⟨i, hi, rfl⟩ := List.mem_map.1 hx
  have := orw_abs 48 i (by have := List.mem_range.1 hi; omega)
  rw [hb _ (by omega) (by omega)]
  simp
theorem find_pre {f : Int → Bool} {pre : List ShB} {x : ShB} {xs : List Int} (hb : ∀ y ∈ pre, f y.1 = false) (hf : f x.1 = true) (h : (pre ++ [x]).map (fun y => y.1) <+: xs) : xs.find? f = some x.1 := by
  obtain ⟨qs, rfl⟩ := h
  rw [List.map_append, List.append_assoc, List.find?_append, List.find?_eq_none.2 (by
    intro y hy
    obtain ⟨z, hz, rfl⟩ := List.mem_map.1 hy
    rw [hb z hz]
    simp)]
  show Option.or none (List.find? f (x.1 :: qs)) = _
  rw [List.find?_cons_of_pos hf]
  rfl
theorem find_all {f : Int → Bool} {pre : List ShB} (hb : ∀ y ∈ pre, f y.1 = false) : (pre.map (fun y => y.1)).find? f = none := by
  rw [List.find?_eq_none]
  intro y hy
  obtain ⟨z, hz, rfl⟩ := List.mem_map.1 hy
  rw [hb z hz]
  simp
end Go.Proofs.Ytghkcfghkbihcaa
