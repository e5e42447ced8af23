import Derived.Test.YtmjpecneaenlpaaDoorRcm
import Derived.Test.YtmjpecneaenlpaaDoorGbk
import Derived.Test.YtmjpecneaenlpaaDoorGaz
import Derived.Test.YtmjpecneaenlpaaDoorGap
namespace Go.Proofs.YtmjpecneaenlpaaDoor
open Go.RowKit
def okC (t : List (Int × Int × Bool)) : Bool := decide (t.length ≤ 2400 ∧ csA t = true)
theorem csJ_Q (t : List (Int × Int × Bool)) : (csP t t.length).map (·.data.toList) = txs txC 0 t := by
  apply List.ext_getElem?
  intro k
  rw [txs_get, List.getElem?_map, csP, List.getElem?_map]
  by_cases hk : k < t.length
  · rw [List.getElem?_range hk, List.getElem?_eq_getElem hk]
    simp only [Option.map_some, Nat.zero_add, Option.some.injEq]
    simp [csX, cxL, txC, cgS, cgT, cgP, List.getD, hk]
  · rw [List.getElem?_eq_none (by simp; omega), List.getElem?_eq_none (by omega)]
    rfl
theorem csV_Q (t : List (Int × Int × Bool)) : (csV t).data.toList = ttx 32 okC txC t := by
  unfold csV ttx
  by_cases h : t.length ≤ 2400 ∧ csA t = true
  · rw [if_pos h, if_pos (by unfold okC; exact decide_eq_true h), ← csJ_Q]
    rfl
  · rw [if_neg h, if_neg (by unfold okC; simpa using h)]
theorem readsC : Reads 32 2401 sChg iChg okC goodC txC where
  strict := fun _ _ _ h => sChg_inv h
  back := fun _ _ h => sChg_back h
  each := fun t h k a hk => by
    have hl : k < t.length := (List.getElem?_eq_some_iff.1 hk).1
    have e : t[k] = a := (List.getElem?_eq_some_iff.1 hk).2
    have h1 : t.length ≤ 2400 ∧ csA t = true := by unfold okC at h; exact of_decide_eq_true h
    have h2 := cxB_in (csA_of h1.2 k hl)
    simp only [cgS, cgT, List.getD, List.getElem?_eq_getElem hl, Option.getD_some, e] at h2
    exact h2
  few := fun t h => by
    have h1 : t.length ≤ 2400 ∧ csA t = true := by unfold okC at h; exact of_decide_eq_true h
    omega
  some_ := fun t _ e i => by subst e; rfl
/-- the changes with a text -/
def rcR (s : ByteArray) : Option (List (Int × Int × Bool)) := if s.data.toList = [] then some [] else rdS 32 sChg okC s.data.toList
def rcT (s : ByteArray) : List (Int × Int × Bool) := (rcR s).getD []
def rcC (s : ByteArray) : Int := if (rcR s).isSome then 0 else 5
theorem rcT_len (s : ByteArray) : (rcT s).length ≤ 1048576 := by
  unfold rcT rcR
  split
  · simp
  · unfold rdS
    split
    · split
      · rename_i h
        have := readsC.few _ h
        simp only [Option.getD_some]
        omega
      · simp
    · simp
theorem rc_nil {s : ByteArray} (h : s.data.toList = []) : rcT s = [] ∧ rcC s = 0 := by simp [rcT, rcC, rcR, h]
theorem rc_rdI {s : ByteArray} (h : s.data.toList ≠ []) : rcR s = rdI 32 2401 iChg okC txC s.data.toList := by rw [rcR, if_neg h, read_same readsC _ h]
theorem rc_none {s : ByteArray} (h : s.data.toList ≠ []) (hm : mapO iChg 0 (spN 32 2401 s.data.toList) = none) : rcT s = [] ∧ rcC s = 5 := by
  have := rc_rdI h
  simp [rdI, hm] at this
  simp [rcT, rcC, this]
theorem rc_bad {s : ByteArray} {t : List (Int × Int × Bool)} (h : s.data.toList ≠ []) (hm : mapO iChg 0 (spN 32 2401 s.data.toList) = some t) (hv : csV t ≠ s) : rcT s = [] ∧ rcC s = 5 := by
  have h1 : ttx 32 okC txC t ≠ s.data.toList := by rw [← csV_Q]; exact fun e => hv (ByteArray.ext (Array.toList_inj.1 e))
  have := rc_rdI h
  simp [rdI, hm, h1] at this
  simp [rcT, rcC, this]
theorem rc_good {s : ByteArray} {t : List (Int × Int × Bool)} (h : s.data.toList ≠ []) (hm : mapO iChg 0 (spN 32 2401 s.data.toList) = some t) (hv : csV t = s) : rcT s = t ∧ rcC s = 0 := by
  have h1 : ttx 32 okC txC t = s.data.toList := by rw [← csV_Q, hv]
  have := rc_rdI h
  simp [rdI, hm, h1] at this
  simp [rcT, rcC, this]
theorem rcs_none {s : ByteArray} (h : s.data.toList ≠ []) (hm : mapO sChg 0 (spA 32 s.data.toList) = none) : rcT s = [] ∧ rcC s = 5 := by
  have : rcR s = none := by rw [rcR, if_neg h]; simp [rdS, hm]
  simp [rcT, rcC, this]
theorem rcs_bad {s : ByteArray} {t : List (Int × Int × Bool)} (h : s.data.toList ≠ []) (hm : mapO sChg 0 (spA 32 s.data.toList) = some t) (hv : okC t = false) : rcT s = [] ∧ rcC s = 5 := by
  have : rcR s = none := by rw [rcR, if_neg h]; simp [rdS, hm, hv]
  simp [rcT, rcC, this]
theorem rcs_good {s : ByteArray} {t : List (Int × Int × Bool)} (h : s.data.toList ≠ []) (hm : mapO sChg 0 (spA 32 s.data.toList) = some t) (hv : okC t = true) : rcT s = t ∧ rcC s = 0 := by
  have : rcR s = some t := by rw [rcR, if_neg h]; simp [rdS, hm, hv]
  simp [rcT, rcC, this]
/-- what the model reads of a piece -/
theorem sChg_two {i : Nat} {hd : UInt8} {r a b : List UInt8} (hh : hd = 43 ∨ hd = 45) (h : spA 47 r = [a, b]) : sChg i (hd :: r) = if (snum a).isSome = true ∧ (snum b).isSome = true ∧ snI a < 96 ∧ snI b < 24 then some (snI a, snI b, hd == 43) else none := by
  unfold sChg
  simp only [h]
  rw [if_pos hh]
  cases h1 : snum a with
  | none => simp
  | some n =>
    cases h2 : snum b with
    | none => simp
    | some p =>
      have e1 : snI a = n := by unfold snI; rw [h1]
      have e2 : snI b = p := by unfold snI; rw [h2]
      rw [e1, e2]
      by_cases hn : n < 96 ∧ p < 24
      · rw [if_pos ⟨rfl, rfl, by omega, by omega⟩]; simp [hn]
      · rw [if_neg (fun h => by omega)]; simp [hn]
theorem mapO_fullC {s : List UInt8} {R : List (Int × Int × Bool)} (h : mapO sChg 0 (spA 32 s) = some R) : (spA 32 s).length ≤ s.length := by
  refine spA_full _ s (Nat.le_refl _) fun p hp e => ?_
  subst e
  obtain ⟨k, hk⟩ := List.mem_iff_getElem?.1 hp
  rw [mapO_out hk (sChg_nil _)] at h
  cases h
end Go.Proofs.YtmjpecneaenlpaaDoor
