import Derived.Test.YtehmkablandefaaGreatDoorGbk
import Derived.Test.YtehmkablandefaaGreatDoorGbo
import Derived.Test.YtehmkablandefaaGreatDoorGbp
namespace Go.Proofs.YtehmkablandefaaGreatDoor
open Go.RowKit
/-- the strokes of an hour, from a step on -/
def skS (F p g : Int) (k : Nat) : List (Int × Int) := (List.range k).map fun (i : Nat) => ((i : Int) * g + F, p)
theorem skS_succ (F p g : Int) (k : Nat) : skS F p g (k + 1) = skS F p g k ++ [((k : Int) * g + F, p)] := by simp [skS, List.range_succ]
theorem skS_len (F p g : Int) (k : Nat) : (skS F p g k).length = k := by simp [skS]
theorem skS_ch (F p g : Int) (k : Nat) : chL (shP F 0) (skN p g k) (skN p g k).length = skS F p g k := by
  rw [chL_map]
  simp [skN, skS, shP]
theorem skS_mem {F p g : Int} {k : Nat} {x : Int × Int} (hk : k ≤ 12) (hg : 1 ≤ g ∧ g ≤ 16) (h : x ∈ skS F p g k) : (F ≤ x.1 ∧ x.1 ≤ F + 192) ∧ x.2 = p := by
  simp only [skS, List.mem_map, List.mem_range] at h
  obtain ⟨i, hi, rfl⟩ := h
  have h1 : 0 ≤ (i : Int) * g := Int.mul_nonneg (by omega) (by omega)
  have h2 : (i : Int) * g ≤ 12 * 16 := Int.mul_le_mul (by omega) (by omega) (by omega) (by omega)
  dsimp only
  omega
theorem skS_asc (F p g : Int) (k : Nat) (hg : 1 ≤ g) : AscN (skS F p g k) := by
  unfold skS AscN
  rw [List.pairwise_map]
  refine List.Pairwise.imp ?_ List.pairwise_lt_range
  intro a b hab
  unfold ltN
  left
  dsimp only
  have h1 : ((a : Int) + 1) * g ≤ (b : Int) * g := Int.mul_le_mul_of_nonneg_right (by omega) (by omega)
  rw [Int.add_mul] at h1
  omega
theorem rangeB_mem (l : List (Int × Int)) : rangeB l = true ↔ ∀ x ∈ l, noteB x.1 x.2 = true := by
  constructor
  · intro h x hx
    obtain ⟨i, hi, rfl⟩ := List.mem_iff_getElem.1 hx
    simp only [rangeB, List.all_eq_true, List.mem_range] at h
    have := h i hi
    simpa [nAt, nPi, List.getD, hi] using this
  · intro h
    refine rangeB_yes l fun j hj => ?_
    have := h _ (note_mem l j hj)
    exact this
theorem rangeB_chL (pf : Int → Int → Int × Int) (l : List (Int × Int)) : rangeB (chL pf l l.length) = chO pf l l.length := by
  rw [Bool.eq_iff_iff]
  refine ⟨fun h => ?_, rangeB_ch⟩
  rw [rangeB_mem] at h
  simp only [chO, List.all_eq_true, List.mem_range]
  intro j hj
  have h1 := h (pf (nAt l j) (nPi l j)) (by
    rw [chL_map]
    exact List.mem_map.2 ⟨_, note_mem l j hj, rfl⟩)
  exact h1
theorem rangeB_app {l m : List (Int × Int)} (hl : rangeB l = true) : rangeB (l ++ m) = rangeB m := by
  rw [Bool.eq_iff_iff]
  refine ⟨fun h => ?_, rangeB_append hl⟩
  rw [rangeB_mem] at h ⊢
  exact fun x hx => h x (List.mem_append_right _ hx)
theorem okB_asc {l : List (Int × Int)} (h : AscN l) : okB l = (rangeB l && decide (l.length ≤ 120)) := by
  have ha : ascB l = true := by
    simp only [ascB, List.all_eq_true, List.mem_range]
    intro j hj
    rcases Nat.eq_zero_or_pos j with rfl | hp
    · simp
    · have h1 := List.pairwise_iff_getElem.1 h (j - 1) j (by omega) hj (by omega)
      have e1 : nAt l (j - 1) = l[j - 1].1 := by simp [nAt, List.getD, show j - 1 < l.length by omega]
      have e2 : nAt l j = l[j].1 := by simp [nAt, List.getD, hj]
      have e3 : nPi l (j - 1) = l[j - 1].2 := by simp [nPi, List.getD, show j - 1 < l.length by omega]
      have e4 : nPi l j = l[j].2 := by simp [nPi, List.getD, hj]
      unfold ltN at h1
      simp only [befB, Bool.or_eq_true, decide_eq_true_eq]
      right
      omega
  rw [okB_eq, ha, Bool.and_true, Bool.and_comm]
theorem scN_mem {S : Nat} {l : List (Int × Int)} {d : Nat → Int} {F T : Nat} (hg : HG (S : Int) l l.length) (hdr : drB (S : Int) l.length d = true) (hd : DWF d) (hS : S ≤ 96) (hl : l.length ≤ 24) (h : F + T ≤ S) {x : Int × Int} (hx : x ∈ scN l d F T) : (0 ≤ x.1 ∧ x.1 < T) ∧ (0 ≤ x.2 ∧ x.2 ≤ 47) := by
  rw [← sc_main hdr hd hS hl h] at hx
  obtain ⟨y, hy, rfl⟩ := List.mem_map.1 hx
  have h1 := scT_mem hg hdr hd (show T ≤ 96 by omega) hy
  have h2 := (List.mem_filter.1 hy).2
  simp only [ctQ, decide_eq_true_eq, Bool.and_eq_true] at h2
  dsimp only [ctM]
  omega
/-- the hour of a quarter -/
def whH (k : Nat) : Nat := if k < 4 then 12 else k / 4
theorem whH_in {k : Nat} (h : k < 48) : 1 ≤ whH k ∧ whH k ≤ 12 := by
  unfold whH
  split <;> omega
/-- what is played at a quarter -/
def wcL (l m : List (Int × Int)) (q o : Nat → Int) (x p g : Int) : List (Int × Int) := caL l m q o x ++ (if x.toNat % 4 = 0 then skS (caT m o x.toNat) p g (whH x.toNat) else [])
def wcC (s : Int) (l : List (Int × Int)) (q : Nat → Int) (m : List (Int × Int)) (o : Nat → Int) (x p g : Int) : Int := if prgB s l m o && drB s l.length q then (if inB x 0 47 && (inB p 0 47 && inB g 1 16) then (if okB (wcL l m q o x p g) then 0 else 3) else 2) else 1
def wcV (s : Int) (l : List (Int × Int)) (q : Nat → Int) (m : List (Int × Int)) (o : Nat → Int) (x p g : Int) : List (Int × Int) := if wcC s l q m o x p g = 0 then wcL l m q o x p g else []
theorem wcV_len (s : Int) (l : List (Int × Int)) (q : Nat → Int) (m : List (Int × Int)) (o : Nat → Int) (x p g : Int) : (wcV s l q m o x p g).length ≤ 1048576 := by
  unfold wcV
  split
  · rename_i h
    unfold wcC at h
    split at h
    · split at h
      · split at h
        · rename_i h1
          have := ok_len h1
          omega
        · cases h
      · cases h
    · cases h
  · simp
/-- the notes of a section -/
def ScG (T : Nat) (M : List (Int × Int)) : Prop := AscN M ∧ ∀ x ∈ M, (0 ≤ x.1 ∧ x.1 < (T : Int)) ∧ (0 ≤ x.2 ∧ x.2 ≤ 47)
theorem scG_of {S : Nat} {l : List (Int × Int)} {d : Nat → Int} {F T : Nat} (hg : HG (S : Int) l l.length) (hdr : drB (S : Int) l.length d = true) (hd : DWF d) (hS : S ≤ 96) (hl : l.length ≤ 24) (h : F + T ≤ S) : ScG T (sortU (scN l d F T)) :=
  ⟨sortU_asc _, fun x hx => scN_mem hg hdr hd hS hl h ((sortU_mem _ _).1 hx)⟩
theorem ScG.range {T : Nat} {M : List (Int × Int)} (h : ScG T M) (hT : T ≤ 96) : rangeB M = true := by
  rw [rangeB_mem]
  intro x hx
  have := h.2 x hx
  simp only [noteB, decide_eq_true_eq]
  omega
theorem ScG.wf {T : Nat} {M : List (Int × Int)} (h : ScG T M) (hT : T ≤ 96) : WF M := wf_range (h.range hT)
theorem ScG.asc {T : Nat} {M : List (Int × Int)} (h : ScG T M) {p g : Int} {k : Nat} (hk : k ≤ 12) (hg : 1 ≤ g ∧ g ≤ 16) : AscN (M ++ skS T p g k) := by
  refine List.pairwise_append.2 ⟨h.1, skS_asc _ _ _ _ hg.1, ?_⟩
  intro a ha b hb
  have h1 := h.2 a ha
  have h2 := skS_mem hk hg hb
  unfold ltN
  omega
theorem skS_wf {F p g : Int} {k : Nat} (hF : 0 ≤ F ∧ F ≤ 96) (hk : k ≤ 12) (hp : 0 ≤ p ∧ p ≤ 47) (hg : 1 ≤ g ∧ g ≤ 16) : WF (skS F p g k) := by
  intro j hj
  have h1 := skS_mem hk hg (note_mem _ j hj)
  dsimp only at h1
  omega
theorem ok_short {T : Nat} {M : List (Int × Int)} (h : ScG T M) (hT : T ≤ 96) : okB M = decide (M.length ≤ 120) := by
  rw [okB_asc h.1, h.range hT, Bool.true_and]
/-- what the program makes of a chime and strokes -/
theorem wh_made {T : Nat} {M : List (Int × Int)} (h : ScG T M) (hT : T ≤ 96) {p g : Int} {k : Nat} (hk : k ≤ 12) (hp : 0 ≤ p ∧ p ≤ 47) (hg : 1 ≤ g ∧ g ≤ 16) :
    ∃ V C, chC (shP T 0) (skN p g k) = C ∧ chV (shP T 0) (skN p g k) = V ∧ (C = 0 ∨ C = 4) ∧ V.length ≤ 1000 ∧ WF V ∧ (if C = 0 then mkV (M ++ V) else []) = (if okB (M ++ skS T p g k) then M ++ skS T p g k else []) ∧ (if C = 0 then mkC (M ++ V) else 3) = (if okB (M ++ skS T p g k) then 0 else 3) := by
  have ha := h.asc hk hg (p := p)
  have hok := okB_asc ha
  rw [rangeB_app (h.range hT)] at hok
  have hr := rangeB_chL (shP T 0) (skN p g k)
  rw [skS_ch] at hr
  cases hc : chO (shP (T : Int) 0) (skN p g k) (skN p g k).length
  · rw [hc] at hr
    rw [hr, Bool.false_and] at hok
    refine ⟨[], 4, by simp [chC, hc], by simp [chV, hc], Or.inr rfl, by simp, fun j hj => absurd hj (Nat.not_lt_zero _), ?_, ?_⟩
    · rw [hok]; rfl
    · rw [hok]; rfl
  · rw [hc] at hr
    rw [hr, Bool.true_and] at hok
    have hv : chV (shP T 0) (skN p g k) = skS T p g k := by
      have h1 : AscN (chL (shP T 0) (skN p g k) (skN p g k).length) := by rw [skS_ch]; exact skS_asc _ _ _ _ hg.1
      rw [chV_asc h1, chW, hc, if_pos rfl, skS_ch]
    have hrr : rangeB (M ++ skS T p g k) = true := by rw [rangeB_app (h.range hT)]; exact hr
    have hmk : mkC (M ++ skS T p g k) = if okB (M ++ skS T p g k) then 0 else 3 := by
      rw [mkC, hrr, if_pos rfl, sortU_id ha, hok]
      simp only [decide_eq_true_eq]
    refine ⟨skS T p g k, 0, by simp [chC, hc], hv, Or.inl rfl, by rw [skS_len]; omega, skS_wf (by omega) hk hp hg, ?_, ?_⟩
    · rw [if_pos rfl, mkV, hmk, sortU_id ha]
      cases okB (M ++ skS T p g k) <;> simp
    · rw [if_pos rfl, hmk]
end Go.Proofs.YtehmkablandefaaGreatDoor
