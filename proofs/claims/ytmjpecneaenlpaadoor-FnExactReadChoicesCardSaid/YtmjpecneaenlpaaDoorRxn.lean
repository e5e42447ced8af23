import Derived.Test.YtmjpecneaenlpaaDoorRxm
import Derived.Test.YtmjpecneaenlpaaDoorGap
import Derived.Test.YtmjpecneaenlpaaDoorGav
namespace Go.Proofs.YtmjpecneaenlpaaDoor
open Go.RowKit
def okX (t : List Xc) : Bool := decide (t.length ≤ 120 ∧ xsB t = true)
theorem xtJ_Q (t : List Xc) : (txP (xtC t) t.length).map (·.data.toList) = txs txX 0 t := by
  apply List.ext_getElem?
  intro k
  rw [txs_get, List.getElem?_map, txP, List.getElem?_map]
  by_cases hk : k < t.length
  · rw [List.getElem?_range hk, List.getElem?_eq_getElem hk]
    simp only [Option.map_some, Nat.zero_add, Option.some.injEq]
    simp [xtC, xtL, txX, xtP, chA, chL, chO, chT, List.getD, hk]
  · rw [List.getElem?_eq_none (by simp; omega), List.getElem?_eq_none (by omega)]
    rfl
theorem xtV_Q (t : List Xc) : (xtV t).data.toList = ttx 32 okX txX t := by
  unfold xtV ttx
  by_cases h : t.length ≤ 120 ∧ xsB t = true
  · rw [if_pos h, if_pos (by unfold okX; exact decide_eq_true h), ← xtJ_Q]
    rfl
  · rw [if_neg h, if_neg (by unfold okX; simpa using h)]
theorem goodX_of {a : Bool} {l o t : Int} (h : xcB a l o t = true) (i : Nat) : goodX i (a, l, o, t) := by
  show (a = true → l = 0 ∧ o = 0 ∧ t = 0) ∧ (-99 ≤ l ∧ l ≤ 99) ∧ (-99 ≤ o ∧ o ≤ 99) ∧ (-99 ≤ t ∧ t ≤ 99)
  cases a
  · simp [xcB, inB] at h
    refine And.intro (fun e => absurd e (by decide)) ?_
    omega
  · simp [xcB] at h
    refine And.intro (fun _ => h) ?_
    omega
theorem readsX : Reads 32 121 sChc iChc okX goodX txX where
  strict := fun _ _ _ h => sChc_inv h
  back := fun _ _ h => sChc_back h
  each := fun t h k a hk => by
    have hl : k < t.length := (List.getElem?_eq_some_iff.1 hk).1
    have e : t[k] = a := (List.getElem?_eq_some_iff.1 hk).2
    have h1 : t.length ≤ 120 ∧ xsB t = true := by unfold okX at h; exact of_decide_eq_true h
    have h2 : xcI t[k] = true := List.all_eq_true.1 h1.2 _ (List.getElem_mem hl)
    rw [e] at h2
    exact goodX_of h2 k
  few := fun t h => by
    have h1 : t.length ≤ 120 ∧ xsB t = true := by unfold okX at h; exact of_decide_eq_true h
    omega
  some_ := fun t _ e i => by subst e; rfl
/-- the choices with a text -/
def rxR (s : ByteArray) : Option (List Xc) := if s.data.toList = [] then some [] else rdS 32 sChc okX s.data.toList
def rxT (s : ByteArray) : List Xc := (rxR s).getD []
def rxC (s : ByteArray) : Int := if (rxR s).isSome then 0 else 5
theorem rxT_len (s : ByteArray) : (rxT s).length ≤ 1048576 := by
  unfold rxT rxR
  split
  · simp
  · unfold rdS
    split
    · split
      · rename_i h
        have := readsX.few _ h
        simp only [Option.getD_some]
        omega
      · simp
    · simp
theorem rx_nil {s : ByteArray} (h : s.data.toList = []) : rxT s = [] ∧ rxC s = 0 := by simp [rxT, rxC, rxR, h]
theorem rx_rdI {s : ByteArray} (h : s.data.toList ≠ []) : rxR s = rdI 32 121 iChc okX txX s.data.toList := by rw [rxR, if_neg h, read_same readsX _ h]
theorem rx_none {s : ByteArray} (h : s.data.toList ≠ []) (hm : mapO iChc 0 (spN 32 121 s.data.toList) = none) : rxT s = [] ∧ rxC s = 5 := by
  have := rx_rdI h
  simp [rdI, hm] at this
  simp [rxT, rxC, this]
theorem rx_bad {s : ByteArray} {t : List Xc} (h : s.data.toList ≠ []) (hm : mapO iChc 0 (spN 32 121 s.data.toList) = some t) (hv : xtV t ≠ s) : rxT s = [] ∧ rxC s = 5 := by
  have h1 : ttx 32 okX txX t ≠ s.data.toList := by rw [← xtV_Q]; exact fun e => hv (ByteArray.ext (Array.toList_inj.1 e))
  have := rx_rdI h
  simp [rdI, hm, h1] at this
  simp [rxT, rxC, this]
theorem rx_good {s : ByteArray} {t : List Xc} (h : s.data.toList ≠ []) (hm : mapO iChc 0 (spN 32 121 s.data.toList) = some t) (hv : xtV t = s) : rxT s = t ∧ rxC s = 0 := by
  have h1 : ttx 32 okX txX t = s.data.toList := by rw [← xtV_Q, hv]
  have := rx_rdI h
  simp [rdI, hm, h1] at this
  simp [rxT, rxC, this]
theorem rxs_none {s : ByteArray} (h : s.data.toList ≠ []) (hm : mapO sChc 0 (spA 32 s.data.toList) = none) : rxT s = [] ∧ rxC s = 5 := by
  have : rxR s = none := by rw [rxR, if_neg h]; simp [rdS, hm]
  simp [rxT, rxC, this]
theorem rxs_bad {s : ByteArray} {t : List Xc} (h : s.data.toList ≠ []) (hm : mapO sChc 0 (spA 32 s.data.toList) = some t) (hv : okX t = false) : rxT s = [] ∧ rxC s = 5 := by
  have : rxR s = none := by rw [rxR, if_neg h]; simp [rdS, hm, hv]
  simp [rxT, rxC, this]
theorem rxs_good {s : ByteArray} {t : List Xc} (h : s.data.toList ≠ []) (hm : mapO sChc 0 (spA 32 s.data.toList) = some t) (hv : okX t = true) : rxT s = t ∧ rxC s = 0 := by
  have : rxR s = some t := by rw [rxR, if_neg h]; simp [rdS, hm, hv]
  simp [rxT, rxC, this]
theorem mapO_fullX {s : List UInt8} {R : List Xc} (h : mapO sChc 0 (spA 32 s) = some R) : (spA 32 s).length ≤ s.length := by
  refine spA_full _ s (Nat.le_refl _) fun p hp e => ?_
  subst e
  obtain ⟨k, hk⟩ := List.mem_iff_getElem?.1 hp
  rw [mapO_out hk (sChc_nil _)] at h
  cases h
end Go.Proofs.YtmjpecneaenlpaaDoor
