import Derived.Test.YtmjpecneaenlpaaDoorRfm
import Derived.Test.YtmjpecneaenlpaaDoorGan
import Derived.Test.YtmjpecneaenlpaaDoorGas
namespace Go.Proofs.YtmjpecneaenlpaaDoor
open Go.RowKit
def okF (t : List (Int × Int)) : Bool := match t with
  | [] => false
  | c :: l => c.2 == 0 && frB c.1 l
theorem ftJ_Q {s : Int} {l : List (Int × Int)} (h : frB s l = true) : (txP (ftX s l) (l.length + 1)).map (·.data.toList) = txs txF 0 ((s, 0) :: l) := by
  obtain ⟨_, _, h2⟩ := frB_get h
  apply List.ext_getElem?
  intro k
  rw [txs_get, List.getElem?_map, txP, List.getElem?_map]
  by_cases hk : k < l.length + 1
  · rw [List.getElem?_range hk]
    cases k with
    | zero => simp [ftX_zero, txF]
    | succ j =>
      have hj : j < l.length := by omega
      have hp := pnV_Q (h2 j hj).1
      rw [List.getElem?_cons_succ, List.getElem?_eq_getElem hj]
      simp only [Option.map_some, Nat.zero_add, Option.some.injEq]
      simp only [ftX_succ, txF, ByteArray.data_append, Array.toList_append, hp]
      simp [hPi, hRe, List.getD, hj]
  · rw [List.getElem?_eq_none (by simp; omega), List.getElem?_eq_none (by simp; omega)]
    rfl
theorem ftV_Q (s : Int) (l : List (Int × Int)) : (ftV s l).data.toList = ttx 32 okF txF ((s, 0) :: l) := by
  unfold ftV ttx
  have he : okF ((s, 0) :: l) = frB s l := by simp [okF]
  rw [he]
  split
  · rename_i h
    rw [← ftJ_Q h]
    rfl
  · rfl
theorem readsF : Reads 32 26 sFr iFr okF goodF txF where
  strict := fun _ _ _ h => sFr_inv h
  back := fun _ _ h => sFr_back h
  each := fun t h k a hk => by
    match t, h, hk with
    | c :: l, h, hk =>
      simp only [okF, Bool.and_eq_true, beq_iff_eq] at h
      obtain ⟨g1, g2, g3⟩ := frB_get h.2
      cases k with
      | zero =>
        obtain rfl : c = a := by simpa using hk
        unfold goodF
        rw [if_pos rfl]
        exact ⟨⟨by omega, by omega⟩, h.1⟩
      | succ j =>
        have hj : l[j]? = some a := by simpa using hk
        have hl : j < l.length := (List.getElem?_eq_some_iff.1 hj).1
        have g4 := g3 j hl
        have ea : l[j] = a := (List.getElem?_eq_some_iff.1 hj).2
        simp only [hPi, hRe, List.getD, List.getElem?_eq_getElem hl, Option.getD_some, ea] at g4
        unfold goodF
        rw [if_neg (by omega)]
        exact ⟨g4.1, ⟨by omega, g4.2.2⟩⟩
  few := fun t h => by
    match t, h with
    | c :: l, h =>
      simp only [okF, Bool.and_eq_true, beq_iff_eq] at h
      have := (frB_get h.2).2.1
      simp only [List.length_cons]
      omega
  some_ := fun t h e i => by subst e; cases h
/-- the frame with a text -/
def rfR (s : ByteArray) : Option (List (Int × Int)) := rdS 32 sFr okF s.data.toList
def rfS (s : ByteArray) : Int := match rfR s with
  | some (c :: _) => c.1
  | _ => 0
def rfL (s : ByteArray) : List (Int × Int) := match rfR s with
  | some (_ :: l) => l
  | _ => []
def rfC (s : ByteArray) : Int := if (rfR s).isSome then 0 else 5
theorem rfR_some {s : ByteArray} {t : List (Int × Int)} (h : rfR s = some t) : okF t = true := by
  unfold rfR rdS at h
  split at h
  · split at h
    · rename_i hk
      obtain rfl := Option.some.inj h
      exact hk
    · cases h
  · cases h
theorem rfS_in (s : ByteArray) : 0 ≤ rfS s ∧ rfS s ≤ 96 := by
  unfold rfS
  split
  · rename_i c l h
    have := rfR_some h
    simp only [okF, Bool.and_eq_true, beq_iff_eq] at this
    have := (frB_get this.2).1
    omega
  · omega
theorem rfL_len (s : ByteArray) : (rfL s).length ≤ 1048576 := by
  unfold rfL
  split
  · rename_i c l h
    have := rfR_some h
    simp only [okF, Bool.and_eq_true, beq_iff_eq] at this
    have := (frB_get this.2).2.1
    omega
  · simp
theorem rf_no {s : ByteArray} (h : rfR s = none) : rfS s = 0 ∧ rfL s = [] ∧ rfC s = 5 := by simp [rfS, rfL, rfC, h]
theorem rf_yes {s : ByteArray} {v : Int} {t : List (Int × Int)} (h : rfR s = some ((v, 0) :: t)) : rfS s = v ∧ rfL s = t ∧ rfC s = 0 := by simp [rfS, rfL, rfC, h]
theorem rf_rdI (s : ByteArray) : rfR s = rdI 32 26 iFr okF txF s.data.toList := by
  by_cases h : s.data.toList = []
  · have h1 : rfR s = none := by
      unfold rfR rdS
      rw [h, spA_no 32 [] (by simp)]
      rfl
    have h2 : rdI 32 26 iFr okF txF s.data.toList = none := by
      unfold rdI
      rw [h]
      rfl
    rw [h1, h2]
  · rw [rfR, read_same readsF _ h]
theorem rf_none {s : ByteArray} (hm : mapO iFr 0 (spN 32 26 s.data.toList) = none) : rfS s = 0 ∧ rfL s = [] ∧ rfC s = 5 := by
  have := rf_rdI s
  simp [rdI, hm] at this
  exact rf_no this
theorem rf_bad {s : ByteArray} {v : Int} {t : List (Int × Int)} (hm : mapO iFr 0 (spN 32 26 s.data.toList) = some ((v, 0) :: t)) (hv : ftV v t ≠ s) : rfS s = 0 ∧ rfL s = [] ∧ rfC s = 5 := by
  have h1 : ttx 32 okF txF ((v, 0) :: t) ≠ s.data.toList := by rw [← ftV_Q]; exact fun e => hv (ByteArray.ext (Array.toList_inj.1 e))
  have := rf_rdI s
  simp [rdI, hm, h1] at this
  exact rf_no this
theorem rf_good {s : ByteArray} {v : Int} {t : List (Int × Int)} (hm : mapO iFr 0 (spN 32 26 s.data.toList) = some ((v, 0) :: t)) (hv : ftV v t = s) : rfS s = v ∧ rfL s = t ∧ rfC s = 0 := by
  have h1 : ttx 32 okF txF ((v, 0) :: t) = s.data.toList := by rw [← ftV_Q, hv]
  have := rf_rdI s
  simp [rdI, hm, h1] at this
  exact rf_yes this
theorem rfs_none {s : ByteArray} (hm : mapO sFr 0 (spA 32 s.data.toList) = none) : rfS s = 0 ∧ rfL s = [] ∧ rfC s = 5 := rf_no (by simp [rfR, rdS, hm])
theorem rfs_bad {s : ByteArray} {v : Int} {t : List (Int × Int)} (hm : mapO sFr 0 (spA 32 s.data.toList) = some ((v, 0) :: t)) (hv : frB v t = false) : rfS s = 0 ∧ rfL s = [] ∧ rfC s = 5 := rf_no (by simp [rfR, rdS, hm, okF, hv])
theorem rfs_good {s : ByteArray} {v : Int} {t : List (Int × Int)} (hm : mapO sFr 0 (spA 32 s.data.toList) = some ((v, 0) :: t)) (hv : frB v t = true) : rfS s = v ∧ rfL s = t ∧ rfC s = 0 := rf_yes (by simp [rfR, rdS, hm, okF, hv])
theorem mapO_fullF {s : List UInt8} {R : List (Int × Int)} (h : mapO sFr 0 (spA 32 s) = some R) : (spA 32 s).length ≤ s.length := by
  refine spA_full _ s (Nat.le_refl _) fun p hp e => ?_
  subst e
  obtain ⟨k, hk⟩ := List.mem_iff_getElem?.1 hp
  rw [mapO_out hk (sFr_nil _)] at h
  cases h
end Go.Proofs.YtmjpecneaenlpaaDoor
