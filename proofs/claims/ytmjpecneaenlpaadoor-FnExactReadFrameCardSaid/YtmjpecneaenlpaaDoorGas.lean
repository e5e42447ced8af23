import Derived.Test.YtmjpecneaenlpaaDoorGah
import Derived.Test.YtmjpecneaenlpaaDoorPnm
import Derived.Test.YtmjpecneaenlpaaDoorGar
import Derived.Test.YtmjpecneaenlpaaDoorRtm
namespace Go.Proofs.YtmjpecneaenlpaaDoor
open Go.RowKit
/-- the k-th note's text, and a tune's text -/
def ttC (l : List (Int × Int)) (k : Nat) : ByteArray := ⟨(Lib.decDigits (nAt l k).toNat).toArray⟩ ++ ⟨#[58]⟩ ++ pnV (nPi l k)
def ttV (l : List (Int × Int)) : ByteArray := if okB l = true then ⟨(txJ (ttC l) 32 l.length).toArray⟩ else ⟨#[]⟩
theorem okB_get {l : List (Int × Int)} (h : okB l = true) : l.length ≤ 120 ∧ ∀ j, j < l.length → (0 ≤ nAt l j ∧ nAt l j ≤ 199) ∧ (0 ≤ nPi l j ∧ nPi l j ≤ 47) := by
  rw [okB_eq] at h
  simp only [Bool.and_eq_true, decide_eq_true_eq] at h
  refine ⟨h.1.1, fun j hj => ?_⟩
  cases hn : noteB (nAt l j) (nPi l j)
  · have := rangeB_no l j hj hn
    rw [this] at h
    exact absurd h.1.2 (by decide)
  · simpa [noteB] using hn
theorem ttC_len {l : List (Int × Int)} {j : Nat} (ha : 0 ≤ nAt l j ∧ nAt l j ≤ 199) : (ttC l j).data.toList.length ≤ 7 := by
  have h1 := dec_len3 (show (nAt l j).toNat < 1000 by omega)
  have h2 := pnV_len (nPi l j)
  simp only [ttC, ByteArray.data_append, Array.toList_append, List.length_append, List.length_cons, List.length_nil]
  omega
theorem ttJ_len {l : List (Int × Int)} (h : okB l = true) (k : Nat) (hk : k ≤ l.length) : (txJ (ttC l) 32 k).length ≤ 960 := by
  have h1 := okB_get h
  have := txJ_len (ttC l) 32 7 k fun j hj => ttC_len (h1.2 j (by omega)).1
  omega
end Go.Proofs.YtmjpecneaenlpaaDoor
namespace Go.Proofs.YtmjpecneaenlpaaDoor
open Go.RowKit
theorem pnV_Q {x : Int} (h : 0 ≤ x ∧ x ≤ 47) : (pnV x).data.toList = pnQ x.toNat := by
  have hi : inB x 0 47 = true := by simp [inB]; omega
  unfold pnV
  rw [if_pos hi]
  simp only [hsB, ocB, pnQ, ByteArray.data_append, Array.toList_append]
  rfl
theorem txs_get {α : Type} (tx : Nat → α → List UInt8) : ∀ (t : List α) (i k : Nat), (txs tx i t)[k]? = (t[k]?).map (tx (i + k))
  | [], i, k => by simp [txs]
  | a :: r, i, 0 => by simp [txs]
  | a :: r, i, k + 1 => by
    rw [txs, List.getElem?_cons_succ, List.getElem?_cons_succ, txs_get tx r (i + 1) k, show i + 1 + k = i + (k + 1) by omega]
theorem ttJ_Q {t : List (Int × Int)} (h : okB t = true) : (txP (ttC t) t.length).map (·.data.toList) = txs txN 0 t := by
  obtain ⟨_, h2⟩ := okB_get h
  apply List.ext_getElem?
  intro k
  rw [txs_get, List.getElem?_map, txP, List.getElem?_map]
  by_cases hk : k < t.length
  · have hp := pnV_Q (h2 k hk).2
    rw [List.getElem?_range hk, List.getElem?_eq_getElem hk]
    simp only [Option.map_some, Nat.zero_add, Option.some.injEq]
    simp only [ttC, txN, ByteArray.data_append, Array.toList_append, hp]
    simp [nAt, nPi, List.getD, hk]
  · rw [List.getElem?_eq_none (by simp; omega), List.getElem?_eq_none (by omega)]
    rfl
theorem ttV_Q (t : List (Int × Int)) : (ttV t).data.toList = ttx 32 okB txN t := by
  unfold ttV ttx
  split
  · rename_i h
    rw [← ttJ_Q h]
    rfl
  · rfl
theorem readsN : Reads 32 121 sNote iNote okB goodN txN where
  strict := fun _ _ _ h => sNote_inv h
  back := fun _ _ h => sNote_back h
  each := fun t h k a hk => by
    have hl : k < t.length := (List.getElem?_eq_some_iff.1 hk).1
    have h2 := (okB_get h).2 k hl
    have e : t[k] = a := (List.getElem?_eq_some_iff.1 hk).2
    simp only [nAt, nPi, List.getD, List.getElem?_eq_getElem hl, Option.getD_some, e] at h2
    exact h2
  few := fun t h => by have := (okB_get h).1; omega
  some_ := fun t _ e i => by subst e; rfl
/-- the tune with a text -/
def rtR (s : ByteArray) : Option (List (Int × Int)) := if s.data.toList = [] then some [] else rdS 32 sNote okB s.data.toList
def rtT (s : ByteArray) : List (Int × Int) := (rtR s).getD []
def rtC (s : ByteArray) : Int := if (rtR s).isSome then 0 else 5
theorem rtT_len (s : ByteArray) : (rtT s).length ≤ 1048576 := by
  unfold rtT rtR
  split
  · simp
  · unfold rdS
    split
    · split
      · rename_i h
        have := (okB_get h).1
        simp only [Option.getD_some]
        omega
      · simp
    · simp
end Go.Proofs.YtmjpecneaenlpaaDoor
namespace Go.Proofs.YtmjpecneaenlpaaDoor
open Go.RowKit
/-- what the program's reading of a tune comes to -/
theorem rt_nil {s : ByteArray} (h : s.data.toList = []) : rtT s = [] ∧ rtC s = 0 := by simp [rtT, rtC, rtR, h]
theorem rt_rdI {s : ByteArray} (h : s.data.toList ≠ []) : rtR s = rdI 32 121 iNote okB txN s.data.toList := by rw [rtR, if_neg h, read_same readsN _ h]
theorem rt_none {s : ByteArray} (h : s.data.toList ≠ []) (hm : mapO iNote 0 (spN 32 121 s.data.toList) = none) : rtT s = [] ∧ rtC s = 5 := by
  have := rt_rdI h
  simp [rdI, hm] at this
  simp [rtT, rtC, this]
theorem rt_bad {s : ByteArray} {t : List (Int × Int)} (h : s.data.toList ≠ []) (hm : mapO iNote 0 (spN 32 121 s.data.toList) = some t) (hv : ttV t ≠ s) : rtT s = [] ∧ rtC s = 5 := by
  have h1 : ttx 32 okB txN t ≠ s.data.toList := by rw [← ttV_Q]; exact fun e => hv (ByteArray.ext (Array.toList_inj.1 e))
  have := rt_rdI h
  simp [rdI, hm, h1] at this
  simp [rtT, rtC, this]
theorem rt_good {s : ByteArray} {t : List (Int × Int)} (h : s.data.toList ≠ []) (hm : mapO iNote 0 (spN 32 121 s.data.toList) = some t) (hv : ttV t = s) : rtT s = t ∧ rtC s = 0 := by
  have h1 : ttx 32 okB txN t = s.data.toList := by rw [← ttV_Q, hv]
  have := rt_rdI h
  simp [rdI, hm, h1] at this
  simp [rtT, rtC, this]
/-- .. and the model's -/
theorem rs_none {s : ByteArray} (h : s.data.toList ≠ []) (hm : mapO sNote 0 (spA 32 s.data.toList) = none) : rtT s = [] ∧ rtC s = 5 := by
  have : rtR s = none := by rw [rtR, if_neg h]; simp [rdS, hm]
  simp [rtT, rtC, this]
theorem rs_bad {s : ByteArray} {t : List (Int × Int)} (h : s.data.toList ≠ []) (hm : mapO sNote 0 (spA 32 s.data.toList) = some t) (hv : okB t = false) : rtT s = [] ∧ rtC s = 5 := by
  have : rtR s = none := by rw [rtR, if_neg h]; simp [rdS, hm, hv]
  simp [rtT, rtC, this]
theorem rs_good {s : ByteArray} {t : List (Int × Int)} (h : s.data.toList ≠ []) (hm : mapO sNote 0 (spA 32 s.data.toList) = some t) (hv : okB t = true) : rtT s = t ∧ rtC s = 0 := by
  have : rtR s = some t := by rw [rtR, if_neg h]; simp [rdS, hm, hv]
  simp [rtT, rtC, this]
theorem mapO_take {α : Type} {f : Nat → List UInt8 → Option α} {L : List (List UInt8)} {k : Nat} {x : List UInt8} {r : List α} {a : α} (hx : L[k]? = some x) (h : mapO f 0 (L.take k) = some r) (h1 : f k x = some a) : mapO f 0 (L.take (k + 1)) = some (r ++ [a]) := by
  obtain ⟨hk, e⟩ := List.getElem?_eq_some_iff.1 hx
  rw [List.take_succ_eq_append_getElem hk, e]
  exact mapO_snoc h (by rw [List.length_take, Nat.min_eq_left (Nat.le_of_lt hk), Nat.zero_add]; exact h1)
theorem mapO_out {α : Type} {f : Nat → List UInt8 → Option α} {L : List (List UInt8)} {k : Nat} {x : List UInt8} (hx : L[k]? = some x) (h1 : f k x = none) : mapO f 0 L = none := mapO_none hx (by rw [Nat.zero_add]; exact h1)
end Go.Proofs.YtmjpecneaenlpaaDoor
