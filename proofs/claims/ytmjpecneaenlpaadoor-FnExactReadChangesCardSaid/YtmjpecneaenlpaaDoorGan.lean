import Derived.Test.YtmjpecneaenlpaaDoorGag
import Derived.Test.YtmjpecneaenlpaaDoorPnm
import Derived.Test.YtmjpecneaenlpaaDoorGam
import Derived.Test.YtmjpecneaenlpaaDoorRtm
import Derived.Test.YtmjpecneaenlpaaDoorRsm
import Derived.Laws.Strings
import Derived.Laws.Strings3
namespace Go.Proofs.YtmjpecneaenlpaaDoor
open Go.RowKit
/-- the k-th note's text, and a tune's text -/
def ttC (l : List (Int × Int)) (k : Nat) : ByteArray := ⟨(Lib.decDigits (nAt l k).toNat).toArray⟩ ++ ⟨#[58]⟩ ++ pnV (nPi l k)
def ttV (l : List (Int × Int)) : ByteArray := if okB l = true then ⟨(txJ (ttC l) 32 l.length).toArray⟩ else ⟨#[]⟩
theorem okB_get {l : List (Int × Int)} (h : okB l = true) : l.length ≤ 120 ∧ ∀ j, j < l.length → (0 ≤ nAt l j ∧ nAt l j ≤ 199) ∧ (0 ≤ nPi l j ∧ nPi l j ≤ 47) := by
  rw [okB_eq] at h
  simp only [Bool.and_eq_true, decide_eq_true_eq] at h
  refine ⟨h.1.1, fun j hj => ?_⟩
  cases hn : noteB (nAt l j) (nPi l j)
  · have := rangeB_no l j hj hn
    rw [this] at h
    exact absurd h.1.2 (by decide)
  · simpa [noteB] using hn
theorem ttC_len {l : List (Int × Int)} {j : Nat} (ha : 0 ≤ nAt l j ∧ nAt l j ≤ 199) : (ttC l j).data.toList.length ≤ 7 := by
  have h1 := dec_len3 (show (nAt l j).toNat < 1000 by omega)
  have h2 := pnV_len (nPi l j)
  simp only [ttC, ByteArray.data_append, Array.toList_append, List.length_append, List.length_cons, List.length_nil]
  omega
theorem ttJ_len {l : List (Int × Int)} (h : okB l = true) (k : Nat) (hk : k ≤ l.length) : (txJ (ttC l) 32 k).length ≤ 960 := by
  have h1 := okB_get h
  have := txJ_len (ttC l) 32 7 k fun j hj => ttC_len (h1.2 j (by omega)).1
  omega
end Go.Proofs.YtmjpecneaenlpaaDoor
namespace Go.Proofs.YtmjpecneaenlpaaDoor
open Go.RowKit
theorem pnV_Q {x : Int} (h : 0 ≤ x ∧ x ≤ 47) : (pnV x).data.toList = pnQ x.toNat := by
  have hi : inB x 0 47 = true := by simp [inB]; omega
  unfold pnV
  rw [if_pos hi]
  simp only [hsB, ocB, pnQ, ByteArray.data_append, Array.toList_append]
  rfl
theorem txs_get {α : Type} (tx : Nat → α → List UInt8) : ∀ (t : List α) (i k : Nat), (txs tx i t)[k]? = (t[k]?).map (tx (i + k))
  | [], i, k => by simp [txs]
  | a :: r, i, 0 => by simp [txs]
  | a :: r, i, k + 1 => by
    rw [txs, List.getElem?_cons_succ, List.getElem?_cons_succ, txs_get tx r (i + 1) k, show i + 1 + k = i + (k + 1) by omega]
theorem ttJ_Q {t : List (Int × Int)} (h : okB t = true) : (txP (ttC t) t.length).map (·.data.toList) = txs txN 0 t := by
  obtain ⟨_, h2⟩ := okB_get h
  apply List.ext_getElem?
  intro k
  rw [txs_get, List.getElem?_map, txP, List.getElem?_map]
  by_cases hk : k < t.length
  · have hp := pnV_Q (h2 k hk).2
    rw [List.getElem?_range hk, List.getElem?_eq_getElem hk]
    simp only [Option.map_some, Nat.zero_add, Option.some.injEq]
    simp only [ttC, txN, ByteArray.data_append, Array.toList_append, hp]
    simp [nAt, nPi, List.getD, hk]
  · rw [List.getElem?_eq_none (by simp; omega), List.getElem?_eq_none (by omega)]
    rfl
theorem ttV_Q (t : List (Int × Int)) : (ttV t).data.toList = ttx 32 okB txN t := by
  unfold ttV ttx
  split
  · rename_i h
    rw [← ttJ_Q h]
    rfl
  · rfl
theorem readsN : Reads 32 121 sNote iNote okB goodN txN where
  strict := fun _ _ _ h => sNote_inv h
  back := fun _ _ h => sNote_back h
  each := fun t h k a hk => by
    have hl : k < t.length := (List.getElem?_eq_some_iff.1 hk).1
    have h2 := (okB_get h).2 k hl
    have e : t[k] = a := (List.getElem?_eq_some_iff.1 hk).2
    simp only [nAt, nPi, List.getD, List.getElem?_eq_getElem hl, Option.getD_some, e] at h2
    exact h2
  few := fun t h => by have := (okB_get h).1; omega
  some_ := fun t _ e i => by subst e; rfl
/-- the tune with a text -/
def rtR (s : ByteArray) : Option (List (Int × Int)) := if s.data.toList = [] then some [] else rdS 32 sNote okB s.data.toList
def rtT (s : ByteArray) : List (Int × Int) := (rtR s).getD []
def rtC (s : ByteArray) : Int := if (rtR s).isSome then 0 else 5
theorem rtT_len (s : ByteArray) : (rtT s).length ≤ 1048576 := by
  unfold rtT rtR
  split
  · simp
  · unfold rdS
    split
    · split
      · rename_i h
        have := (okB_get h).1
        simp only [Option.getD_some]
        omega
      · simp
    · simp
end Go.Proofs.YtmjpecneaenlpaaDoor
namespace Go.Proofs.YtmjpecneaenlpaaDoor
open Go.RowKit
/-- the pitch with a name, or -1 -/
def pnI (b : List UInt8) : Int := match pnF b with
  | some p => (p : Int)
  | none => -1
set_option maxRecDepth 20000 in
set_option maxHeartbeats 4000000 in
theorem l01Pitch_any (b : ByteArray) (w : World) :
    Calls Tryd.prog 29 #[.string b] w fun e w' => e = .returned (.int .i64 (pnI b.data.toList)) ∧ Below w.heap.size w w' := by
  go_enter Tryd.func29, Tryd.ntmps29
  go_wp2_with fail
  go_loopw [3] (fun i wr => ∃ m : Nat, m ≤ 48 ∧ i = .int .i64 m ∧ (∀ j, j < m → pnQ j ≠ b.data.toList) ∧ Below w.heap.size w wr)
    (fun i _ => 48 - (intOf i).toNat)
  case atStart => exact ⟨0, Nat.zero_le _, rfl, fun j hj => absurd hj (Nat.not_lt_zero _), Below.refl _ _⟩
  case round =>
    obtain ⟨m, hm, rfl, hno, hb⟩ := hrel
    by_cases hlt : m < 48
    · have KQ := l01Name_in (m : Int) ⟨by omega, by omega⟩ wr
      have hz0 : (pnV (m : Int)).data.toList = pnQ m := pnV_Q ⟨by omega, by omega⟩
      obtain ⟨z, hz⟩ : ∃ z, z = pnV (m : Int) := ⟨_, rfl⟩
      rw [← hz] at KQ hz0
      have hlti : (m : Int) < 48 := by omega
      by_cases he : z = b
      · have hF := hide (show pnI b.data.toList = (m : Int) by unfold pnI; rw [pn_first hlt hno (by rw [← hz0, he])])
        subst he
        have he' : (z.toList == z.toList) = true := by simp
        clear hz hz0 hno
        go_wp2_with (go_at_call 51; refine KQ.mono ?_; rintro e w2 ⟨rfl, hb2⟩)
        go_ret
        exact ⟨by rw [hF.out]; rfl, step_below hb2 hb⟩
      · have hne : pnQ m ≠ b.data.toList := fun h => he (ByteArray.ext (Array.toList_inj.1 (by rw [hz0, h])))
        have HN := hide (show ∀ j, j < m + 1 → pnQ j ≠ b.data.toList from fun j hj => by
          rcases Nat.lt_or_ge j m with h | h
          · exact hno j h
          · obtain rfl : j = m := by omega
            exact hne)
        have he' : (z.toList == b.toList) = false := by rw [ByteArray.toList_eq, ByteArray.toList_eq]; exact beq_eq_false_iff_ne.2 fun h => he (ByteArray.ext (Array.toList_inj.1 h))
        clear hz hz0 hno hne
        go_wp2_with (go_at_call 51; refine KQ.mono ?_; rintro e w2 ⟨rfl, hb2⟩)
        go_roundw
        case rel => exact ⟨m + 1, hlt, by go_num, HN.out, step_below hb2 hb⟩
        case measure => simp [intOf]; omega
    · obtain rfl : m = 48 := by omega
      have hF := hide (show pnI b.data.toList = -1 by unfold pnI; rw [pn_none hno])
      clear hno
      go_wp2
      go_ret
      exact ⟨by rw [hF.out]; rfl, hb⟩
end Go.Proofs.YtmjpecneaenlpaaDoor
