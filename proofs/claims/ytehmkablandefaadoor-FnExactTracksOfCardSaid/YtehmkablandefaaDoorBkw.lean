import Derived.Test.YtehmkablandefaaDoorSru
import Derived.Test.YtehmkablandefaaDoorGbi
import Derived.Test.YtehmkablandefaaDoorGbe
namespace Go.Proofs.YtehmkablandefaaDoor
open Go.RowKit
theorem chL_nodup {pf : Int → Int → Int × Int} {l : List (Int × Int)} (h : AscN l) (hm : ∀ x y, x ∈ l → y ∈ l → ltN x y → pf x.1 x.2 ≠ pf y.1 y.2) : (chL pf l l.length).Nodup := by
  rw [chL_map]
  refine List.pairwise_map.2 ?_
  exact List.Pairwise.imp_of_mem (fun {x y} hx hy hxy => hm x y hx hy hxy) h
theorem chV_sort {pf : Int → Int → Int × Int} {l : List (Int × Int)} (h : (chL pf l l.length).Nodup) (ho : chO pf l l.length = true) : chV pf l = sortU (chL pf l l.length) := by
  unfold chV
  rw [if_pos ho]
  exact srtN_eq_sortU _ _ h fun _ => Iff.rfl
theorem asc_le {l : List (Int × Int)} (h : AscN l) {i j : Nat} (hij : i ≤ j) (hj : j < l.length) : nAt l i ≤ nAt l j := by
  rcases Nat.lt_or_ge i j with h1 | h1
  · have h2 := List.pairwise_iff_getElem.1 h i j (by omega) hj h1
    have e1 : nAt l i = l[i].1 := by simp [nAt, List.getD, show i < l.length by omega]
    have e2 : nAt l j = l[j].1 := by simp [nAt, List.getD, hj]
    unfold ltN at h2
    omega
  · obtain rfl : i = j := by omega
    exact Int.le_refl _
/-- backward -/
def bkP (last a q : Int) : Int × Int := (last - a, q)
theorem bk_in {l : List (Int × Int)} (h : okB l = true) (k : Nat) (hk : k < l.length) : (0 ≤ lenI l - 1 - nAt l k ∧ lenI l - 1 - nAt l k ≤ 199) ∧ (0 ≤ lenI l ∧ lenI l ≤ 200) := by
  have h1 := asc_le (asc_of_ok h) (show k ≤ l.length - 1 by omega) (by omega)
  have h2 := (ok_in h k hk).1
  have h3 := (ok_in h (l.length - 1) (by omega)).1
  have e : lenI l = nAt l (l.length - 1) + 1 := by
    unfold lenI
    split
    · omega
    · rfl
  omega
theorem len_in {l : List (Int × Int)} (h : okB l = true) : 0 ≤ lenI l ∧ lenI l ≤ 200 := by
  rcases Nat.eq_zero_or_pos l.length with e | e
  · unfold lenI
    split
    · omega
    · omega
  · exact (bk_in h 0 e).2
theorem bk_ok {l : List (Int × Int)} (h : okB l = true) : chO (bkP (lenI l - 1)) l l.length = true := by
  simp only [chO, List.all_eq_true, List.mem_range]
  intro i hi
  have h1 := bk_in h i hi
  have h2 := ok_in h i hi
  simp [bkP, noteB]
  omega
theorem bk_nodup {l : List (Int × Int)} (last : Int) (h : okB l = true) : (chL (bkP last) l l.length).Nodup :=
  chL_nodup (asc_of_ok h) fun x y _ _ hxy e => by
    have e1 := congrArg Prod.fst e
    have e2 := congrArg Prod.snd e
    simp only [bkP] at e1 e2
    unfold ltN at hxy
    omega
def bwC (l : List (Int × Int)) : Int := if okB l then 0 else 1
def bwV (l : List (Int × Int)) : List (Int × Int) := if okB l then sortU (chL (bkP (lenI l - 1)) l l.length) else []
theorem bwV_le (l : List (Int × Int)) : (bwV l).length ≤ l.length := by
  unfold bwV
  split
  · exact Nat.le_trans (sortU_le _) (Nat.le_of_eq (chL_len _ _ _))
  · simp
end Go.Proofs.YtehmkablandefaaDoor
