import Derived.Test.YtfjcomemgbmohaaTb
namespace Go.Proofs.Ytfjcomemgbmohaa
open Go.RowKit
/-- joined -/
def joM (l m : List (Int × Int)) : List (Int × Int) := chL (shP (lenI l) 0) m m.length
def joG (l m : List (Int × Int)) : Bool := chO (shP (lenI l) 0) m m.length && decide (l.length + m.length ≤ 120)
def joC (l m : List (Int × Int)) : Int := if bothB l m then (if joG l m then 0 else 3) else 1
def joV (l m : List (Int × Int)) : List (Int × Int) := if bothB l m && joG l m then l ++ joM l m else []
theorem joM_len (l m : List (Int × Int)) : (joM l m).length = m.length := chL_len _ _ _
theorem joV_le (l m : List (Int × Int)) : (joV l m).length ≤ 1048576 := by
  unfold joV
  split
  · rename_i h
    simp only [Bool.and_eq_true, joG, decide_eq_true_eq] at h
    rw [List.length_append, joM_len]
    omega
  · simp
theorem mem_ok {l : List (Int × Int)} (h : okB l = true) {x : Int × Int} (hx : x ∈ l) : 0 ≤ x.1 ∧ x.1 < lenI l := by
  obtain ⟨i, hi, rfl⟩ := List.mem_iff_getElem.1 hx
  have h1 := bk_in h i hi
  have h2 := ok_in h i hi
  have e : nAt l i = l[i].1 := by simp [nAt, List.getD, hi]
  omega
theorem jo_asc {l m : List (Int × Int)} (h : bothB l m = true) : AscN (l ++ joM l m) := by
  simp only [bothB, Bool.and_eq_true] at h
  refine List.pairwise_append.2 ⟨asc_of_ok h.1, chL_asc (asc_of_ok h.2) fun x y hx hy hxy => by unfold ltN shP at *; omega, ?_⟩
  intro a ha b hb
  unfold joM at hb
  rw [chL_map] at hb
  obtain ⟨y, hy, rfl⟩ := List.mem_map.1 hb
  have h1 := mem_ok h.1 ha
  have h2 := mem_ok h.2 hy
  unfold ltN shP
  simp only
  omega
theorem jo_mk {l m : List (Int × Int)} (h : bothB l m = true) (hc : chO (shP (lenI l) 0) m m.length = true) : mkC (l ++ joM l m) = joC l m ∧ mkV (l ++ joM l m) = joV l m := by
  have hr : rangeB (l ++ joM l m) = true := by
    have h0 := h
    simp only [bothB, Bool.and_eq_true] at h0
    exact rangeB_append (rangeB_ok h0.1) (rangeB_ch hc)
  have hs := sortU_id (jo_asc h)
  have hlen : (l ++ joM l m).length = l.length + m.length := by rw [List.length_append, joM_len]
  have e1 : mkC (l ++ joM l m) = joC l m := by
    simp only [mkC, hr, hs, hlen, joC, h, joG, hc, if_true, Bool.true_and, decide_eq_true_eq]
  refine ⟨e1, ?_⟩
  unfold mkV
  rw [e1, hs]
  by_cases hle : l.length + m.length ≤ 120
  · simp [joC, joV, h, joG, hc, hle]
  · simp [joC, joV, h, joG, hc, hle]
theorem chW_jo {l m : List (Int × Int)} (hc : chO (shP (lenI l) 0) m m.length = true) : chW (shP (lenI l) 0) m = joM l m := by simp [chW, hc, joM]
end Go.Proofs.Ytfjcomemgbmohaa
