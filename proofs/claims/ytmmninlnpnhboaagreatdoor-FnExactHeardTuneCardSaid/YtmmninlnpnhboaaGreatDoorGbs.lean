import Derived.Test.YtmmninlnpnhboaaGreatDoorGbq
import Derived.Test.YtmmninlnpnhboaaGreatDoorMvb
import Derived.Test.YtmmninlnpnhboaaGreatDoorGbr
import Derived.Test.YtmmninlnpnhboaaGreatDoorGbe
import Derived.Test.YtmmninlnpnhboaaGreatDoorSru
import Derived.Test.YtmmninlnpnhboaaGreatDoorGbh
import Derived.Test.YtmmninlnpnhboaaGreatDoorGbf
namespace Go.Proofs.YtmmninlnpnhboaaGreatDoor
open Go.RowKit
/-- a track of a pitch has a pin at a step -/
def trB (l : List (Int × Int)) (d : Nat → Int) (a : Nat) (p : Int) (t : Nat) : Bool := decide (hPi l t = p) && pinB d a t
def trL (l : List (Int × Int)) (d : Nat → Int) (a : Nat) (p : Int) : List Nat := (List.range l.length).filter (trB l d a p)
/-- a note has one track -/
def trO (l : List (Int × Int)) (d : Nat → Int) (L : List (Int × Int)) (j : Nat) : Bool := decide ((trL l d (nAt L j).toNat (nPi L j)).length = 1)
def trT (l : List (Int × Int)) (d : Nat → Int) (L : List (Int × Int)) (j : Nat) : Nat := (trL l d (nAt L j).toNat (nPi L j)).headD 0
/-- the tune is pinned on the drum -/
def tkB (S : Nat) (l L : List (Int × Int)) (d : Nat → Int) : Bool := decide ((clsF S d l (pinsL d)).length = 0) && (List.range L.length).all (trO l d L) && decide (cntI d = (L.length : Int))
def tkN (l L : List (Int × Int)) (d : Nat → Int) (k : Nat) : List Nat := (List.range k).map (trT l d L)
theorem tkN_len (l L : List (Int × Int)) (d : Nat → Int) (k : Nat) : (tkN l L d k).length = k := by simp [tkN]
theorem tkN_succ (l L : List (Int × Int)) (d : Nat → Int) (k : Nat) : tkN l L d (k + 1) = tkN l L d k ++ [trT l d L k] := by simp [tkN, List.range_succ]
theorem trL_one {l : List (Int × Int)} {d : Nat → Int} {L : List (Int × Int)} {j : Nat} (h : trO l d L j = true) : trL l d (nAt L j).toNat (nPi L j) = [trT l d L j] := by
  simp only [trO, decide_eq_true_eq] at h
  obtain ⟨t, ht⟩ := List.length_eq_one_iff.1 h
  rw [trT, ht]
  rfl
theorem trT_in {l : List (Int × Int)} {d : Nat → Int} {L : List (Int × Int)} {j : Nat} (h : trO l d L j = true) : trT l d L j < l.length ∧ hPi l (trT l d L j) = nPi L j ∧ pinB d (nAt L j).toNat (trT l d L j) = true := by
  have h1 : trT l d L j ∈ trL l d (nAt L j).toNat (nPi L j) := by rw [trL_one h]; simp
  simp only [trL, List.mem_filter, List.mem_range, trB, Bool.and_eq_true, decide_eq_true_eq] at h1
  exact ⟨h1.1, h1.2.1, h1.2.2⟩
/-- a note ahead of k has this place -/
def tkH (l L : List (Int × Int)) (d : Nat → Int) (k a t : Nat) : Bool := (List.range k).any fun j => decide ((nAt L j).toNat = a) && decide (trT l d L j = t)
theorem tkH_succ (l L : List (Int × Int)) (d : Nat → Int) (k a t : Nat) : tkH l L d (k + 1) a t = (tkH l L d k a t || (decide ((nAt L k).toNat = a) && decide (trT l d L k = t))) := by simp [tkH, List.range_succ]
/-- what is left of a drum when the pins of the notes ahead of k are taken out -/
def TkR (l L : List (Int × Int)) (d : Nat → Int) (k : Nat) (r : Nat → Int) : Prop := DWF r ∧ ∀ a, a < 96 → ∀ t, t < 32 → pinB r a t = (pinB d a t && !tkH l L d k a t)
theorem tkR_zero (l L : List (Int × Int)) {d : Nat → Int} (hd : DWF d) : TkR l L d 0 d := ⟨hd, fun a _ t _ => by simp [tkH]⟩
theorem notes_apart {L : List (Int × Int)} (h : okB L = true) {i j : Nat} (hi : i < L.length) (hj : j < i) : ¬ (nAt L j = nAt L i ∧ nPi L j = nPi L i) := by
  have h1 := List.pairwise_iff_getElem.1 (asc_of_ok h) j i (by omega) hi hj
  have e1 : nAt L j = L[j].1 := by simp [nAt, List.getD, show j < L.length by omega]
  have e2 : nAt L i = L[i].1 := by simp [nAt, List.getD, hi]
  have e3 : nPi L j = L[j].2 := by simp [nPi, List.getD, show j < L.length by omega]
  have e4 : nPi L i = L[i].2 := by simp [nPi, List.getD, hi]
  unfold ltN at h1
  omega
theorem tkR_same {l L : List (Int × Int)} {d r : Nat → Int} {i : Nat} (hok : okB L = true) (hall : ∀ j, j < i → trO l d L j = true) (hi : i < L.length) (hl : l.length ≤ 24) (hS : (nAt L i).toNat < 96) (h : TkR l L d i r) {t : Nat} (ht : t < l.length) : trB l r (nAt L i).toNat (nPi L i) t = trB l d (nAt L i).toNat (nPi L i) t := by
  unfold trB
  by_cases hp : hPi l t = nPi L i
  · rw [h.2 _ hS t (by omega)]
    have hno : tkH l L d i (nAt L i).toNat t = false := by
      simp only [tkH, List.any_eq_false, List.mem_range, Bool.and_eq_true, decide_eq_true_eq, not_and]
      intro j hj e1 e2
      have h3 := trT_in (hall j hj)
      have h4 := (ok_in hok j (by omega)).1
      have h5 := (ok_in hok i hi).1
      refine notes_apart hok hi hj ⟨by omega, ?_⟩
      rw [← h3.2.1, e2, hp]
    rw [hno]
    simp
  · simp [hp]
theorem tkR_list {l L : List (Int × Int)} {d r : Nat → Int} {i : Nat} (hok : okB L = true) (hall : ∀ j, j < i → trO l d L j = true) (hi : i < L.length) (hl : l.length ≤ 24) (hS : (nAt L i).toNat < 96) (h : TkR l L d i r) : trL l r (nAt L i).toNat (nPi L i) = trL l d (nAt L i).toNat (nPi L i) :=
  List.filter_congr fun t ht => tkR_same hok hall hi hl hS h (List.mem_range.1 ht)
theorem tkR_step {l L : List (Int × Int)} {d r : Nat → Int} {i : Nat} (ho : trO l d L i = true) (hl : l.length ≤ 24) (hS : (nAt L i).toNat < 96) (h : TkR l L d i r) : TkR l L d (i + 1) (fun a => if a = (nAt L i).toNat then bits .andNot .u32 (r (nAt L i).toNat) (2 ^ (trT l d L i) % 4294967296) else r a) := by
  have hin := trT_in ho
  have hw : DWF (fun a => if a = (nAt L i).toNat then bits .andNot .u32 (r (nAt L i).toNat) (2 ^ (trT l d L i) % 4294967296) else r a) := fun a ha => by
    dsimp only
    split
    · exact bounds_u32 (wf_bits .andNot .u32 _ _)
    · exact h.1 a ha
  refine ⟨hw, fun a ha t ht => ?_⟩
  have h1 := h.2 a ha t ht
  rw [tkH_succ]
  by_cases e : a = (nAt L i).toNat
  · subst e
    rw [pin_bit (hw _ ha).1]
    simp only [if_true]
    have hb := h.1 _ ha
    obtain ⟨x, hx⟩ : ∃ x : Nat, r (nAt L i).toNat = (x : Int) := ⟨(r (nAt L i).toNat).toNat, by omega⟩
    rw [hx, pow_nat _ (by omega), andnot_test _ _ _ (by omega) (Nat.pow_lt_pow_right (by omega) (show trT l d L i < 32 by omega)), Nat.testBit_two_pow]
    rw [pin_bit hb.1, hx, Int.toNat_natCast] at h1
    rw [h1]
    cases tkH l L d i (nAt L i).toNat t <;> by_cases e2 : trT l d L i = t <;> simp [e2]
  · have e2 : decide ((nAt L i).toNat = a) = false := by simp; omega
    rw [e2, Bool.false_and, Bool.or_false, ← h1]
    unfold pinB
    simp [e]
theorem nodup_len {α : Type} [BEq α] [LawfulBEq α] : ∀ (l m : List α), l.Nodup → (∀ x, x ∈ l → x ∈ m) → l.length ≤ m.length
  | [], _, _, _ => by simp
  | x :: xs, m, hn, hs => by
    have hn' := List.nodup_cons.1 hn
    have hx := hs x (by simp)
    have h1 := nodup_len xs (m.erase x) hn'.2 (fun y hy => (List.mem_erase_of_ne (fun e => hn'.1 (by rw [← e]; exact hy))).2 (hs y (by simp [hy])))
    rw [List.length_erase_of_mem hx] at h1
    have h2 : 0 < m.length := List.length_pos_of_mem hx
    simp only [List.length_cons]
    omega
theorem nodup_all {α : Type} [BEq α] [LawfulBEq α] {l m : List α} (hn : l.Nodup) (hs : ∀ x, x ∈ l → x ∈ m) (hl : m.length ≤ l.length) : ∀ x, x ∈ m → x ∈ l := by
  intro x hx
  refine Classical.byContradiction fun hno => ?_
  have h1 := nodup_len (x :: l) m (List.nodup_cons.2 ⟨hno, hn⟩) (fun y hy => by
    rcases List.mem_cons.1 hy with rfl | h
    · exact hx
    · exact hs y h)
  simp only [List.length_cons] at h1
  omega
/-- the bits of a number are counted -/
theorem bits_count : ∀ (n x : Nat), x < 2 ^ n → ((List.range n).filter fun t => x.testBit t).length = pc x
  | 0, x, h => by
    obtain rfl : x = 0 := by omega
    simp [pc_zero]
  | n + 1, x, h => by
    have ih := bits_count n (x / 2) (by rw [Nat.pow_succ] at h; omega)
    rw [List.range_succ_eq_map, List.filter_cons, List.filter_map, pc_step, ← ih]
    have e : ((fun t => x.testBit t) ∘ Nat.succ) = fun t => (x / 2).testBit t := by
      funext t
      simp [Nat.testBit_succ]
    rw [e]
    have e0 : x.testBit 0 = decide (x % 2 = 1) := Nat.testBit_zero x
    rw [e0]
    by_cases h2 : x % 2 = 1
    · simp [h2]; omega
    · have : x % 2 = 0 := by omega
      simp [this]
theorem bitsL_pc {x : Nat} (h : x < 4294967296) : (bitsL x).length = pc x := bits_count 32 x (by omega)
theorem pinsL_cnt {d : Nat → Int} (hd : DWF d) : ((pinsL d).length : Int) = cntI d := by
  have : ∀ n, n ≤ 96 → (pinsT d n).length = cntT d n := by
    intro n
    induction n with
    | zero => intro _; rfl
    | succ n ih =>
      intro hn
      have := hd n (by omega)
      rw [pinsT_succ, List.length_append, List.length_map, ih (by omega), bitsL_pc (by omega)]
      rfl
  unfold cntI pinsL
  rw [this 96 (Nat.le_refl _)]
theorem empty_drum {r : Nat → Int} (hr : DWF r) : sameD r (fun _ => 0) = decide (pinsL r = []) := by
  rw [Bool.eq_iff_iff, decide_eq_true_eq]
  constructor
  · intro h
    have h1 := (sameD_iff _ _).1 h
    have : ∀ n, n ≤ 96 → pinsT r n = pinsT (fun _ => 0) n := by
      intro n
      induction n with
      | zero => intro _; rfl
      | succ n ih => intro hn; rw [pinsT_succ, pinsT_succ, ih (by omega), da_inj h1 n (by omega)]
    have h2 := this 96 (Nat.le_refl _)
    have h3 := pins_zero
    unfold pinsL at h3 ⊢
    rw [h2, h3]
  · intro h
    rw [sameD_iff]
    unfold da
    congr 1
    unfold dv
    refine List.map_congr_left fun k hk => ?_
    have hk96 := List.mem_range.1 hk
    have hb := hr k hk96
    have hz : r k = 0 := by
      refine Classical.byContradiction fun hne => ?_
      have h4 := bitsL_low (x := (r k).toNat) (by omega) (by omega)
      have h5 := low_facts (x := (r k).toNat) (by omega) (by omega)
      have h6 : (k, Lib.ctz 32 (r k).toNat) ∈ pinsL r := (pinsT_mem hr 96 (Nat.le_refl _)).2 ⟨hk96, h5.1, by rw [pin_bit hb.1]; exact h5.2.1⟩
      rw [h] at h6
      cases h6
    rw [hz]
/-- nothing is left just where there are as many pins as notes -/
theorem tkR_end {l L : List (Int × Int)} {d r : Nat → Int} (hok : okB L = true) (hd : DWF d) (hall : ∀ j, j < L.length → trO l d L j = true) (hl : l.length ≤ 24) (hS : ∀ j, j < L.length → (nAt L j).toNat < 96) (h : TkR l L d L.length r) : sameD r (fun _ => 0) = decide (cntI d = (L.length : Int)) := by
  obtain ⟨N, hN⟩ : ∃ N : List (Nat × Nat), N = (List.range L.length).map fun j => ((nAt L j).toNat, trT l d L j) := ⟨_, rfl⟩
  have hNl : N.length = L.length := by rw [hN]; simp
  have hNn : N.Nodup := by
    rw [hN]
    unfold List.Nodup
    rw [List.pairwise_map, List.pairwise_iff_getElem]
    intro i j hi hj hij
    simp only [List.length_range] at hi hj
    simp only [List.getElem_range, ne_eq, Prod.mk.injEq, not_and]
    intro e1 e2
    have h1 := (trT_in (hall i hi)).2.1
    have h2 := (trT_in (hall j hj)).2.1
    have h3 := (ok_in hok i hi).1
    have h4 := (ok_in hok j hj).1
    rw [e2] at h1
    exact notes_apart hok hj hij ⟨by omega, by rw [← h1, h2]⟩
  have hNs : ∀ x, x ∈ N → x ∈ pinsL d := by
    intro x hx
    rw [hN] at hx
    obtain ⟨j, hj, rfl⟩ := List.mem_map.1 hx
    have hj := List.mem_range.1 hj
    have h1 := trT_in (hall j hj)
    exact (pinsT_mem hd 96 (Nat.le_refl _)).2 ⟨hS j hj, by omega, h1.2.2⟩
  have hNH : ∀ a t, (a, t) ∈ N ↔ tkH l L d L.length a t = true := by
    intro a t
    rw [hN]
    simp only [List.mem_map, List.mem_range, Prod.mk.injEq, tkH, List.any_eq_true, Bool.and_eq_true, decide_eq_true_eq]
  have hle := nodup_len N (pinsL d) hNn hNs
  have hc := pinsL_cnt hd
  rw [empty_drum h.1, decide_eq_decide]
  constructor
  · intro he
    have h2 : ∀ x, x ∈ pinsL d → x ∈ N := by
      rintro ⟨a, t⟩ hx
      have h3 := (pinsT_mem hd 96 (Nat.le_refl _)).1 hx
      rw [hNH]
      refine Classical.byContradiction fun hno => ?_
      have h4 := h.2 a h3.1 t h3.2.1
      rw [h3.2.2, Bool.true_and] at h4
      have h5 : pinB r a t = true := by rw [h4]; simpa using hno
      have h6 : (a, t) ∈ pinsL r := (pinsT_mem h.1 96 (Nat.le_refl _)).2 ⟨h3.1, h3.2.1, h5⟩
      rw [he] at h6
      cases h6
    have h7 := nodup_len (pinsL d) N (pinsT_nodup d hd 96 (Nat.le_refl _)) h2
    omega
  · intro he
    have h2 := nodup_all hNn hNs (by omega)
    rw [List.eq_nil_iff_forall_not_mem]
    rintro ⟨a, t⟩ hx
    have h3 := (pinsT_mem h.1 96 (Nat.le_refl _)).1 hx
    have h4 := h.2 a h3.1 t h3.2.1
    rw [h3.2.2] at h4
    have h5 : pinB d a t = true ∧ tkH l L d L.length a t = false := by
      simpa using h4.symm
    have h6 := (hNH a t).1 (h2 _ ((pinsT_mem hd 96 (Nat.le_refl _)).2 ⟨h3.1, h3.2.1, h5.1⟩))
    rw [h5.2] at h6
    cases h6
theorem filter_cut (q : Nat → Bool) (n : Nat) : ∀ m, n ≤ m → (List.range m).filter (fun t => decide (t < n) && q t) = (List.range n).filter q
  | m, h => by
    induction m with
    | zero =>
      obtain rfl : n = 0 := by omega
      rfl
    | succ m ih =>
      by_cases e : n = m + 1
      · subst e
        exact List.filter_congr fun t ht => by simp [List.mem_range.1 ht]
      · rw [List.range_succ, List.filter_append, ih (by omega)]
        have : decide (m < n) = false := by simp; omega
        simp [this]
/-- the program's tracks of a note, as a number -/
theorem tk_bits {l : List (Int × Int)} {d : Nat → Int} {a : Nat} {p : Nat} (hl : l.length ≤ 24) (ha : 0 ≤ d a ∧ d a ≤ 4294967295) : ∃ x : Nat, bits .and .u32 (d a) (pgU l l.length p) = (x : Int) ∧ x < 4294967296 ∧ bitsL x = trL l d a p := by
  obtain ⟨y, hy⟩ : ∃ y : Nat, d a = (y : Int) := ⟨(d a).toNat, by omega⟩
  have hz := trkM_lt (fun t => decide (hPi l t = (p : Int))) l.length (by omega)
  refine ⟨y &&& trkM (fun t => decide (hPi l t = (p : Int))) l.length, ?_, ?_, ?_⟩
  · rw [hy, pgU, and_nat _ _ (by omega) hz]
  · have := Nat.and_lt_two_pow (n := 32) y (show trkM (fun t => decide (hPi l t = (p : Int))) l.length < 2 ^ 32 by omega)
    omega
  · unfold bitsL trL
    rw [← filter_cut (trB l d a p) l.length 32 (by omega)]
    refine List.filter_congr fun t _ => ?_
    rw [Nat.testBit_and, trkM_bit, trB, pin_bit ha.1, hy, Int.toNat_natCast]
    cases y.testBit t <;> cases decide (t < l.length) <;> simp
end Go.Proofs.YtmmninlnpnhboaaGreatDoor
namespace Go.Proofs.YtmmninlnpnhboaaGreatDoor
open Go.RowKit

end Go.Proofs.YtmmninlnpnhboaaGreatDoor
namespace Go.Proofs.YtmmninlnpnhboaaGreatDoor
open Go.RowKit
theorem chL_nodup {pf : Int → Int → Int × Int} {l : List (Int × Int)} (h : AscN l) (hm : ∀ x y, x ∈ l → y ∈ l → ltN x y → pf x.1 x.2 ≠ pf y.1 y.2) : (cnL pf l l.length).Nodup := by
  rw [chL_map]
  refine List.pairwise_map.2 ?_
  exact List.Pairwise.imp_of_mem (fun {x y} hx hy hxy => hm x y hx hy hxy) h
theorem chV_sort {pf : Int → Int → Int × Int} {l : List (Int × Int)} (h : (cnL pf l l.length).Nodup) (ho : cnO pf l l.length = true) : chV pf l = sortU (cnL pf l l.length) := by
  unfold chV
  rw [if_pos ho]
  exact srtN_eq_sortU _ _ h fun _ => Iff.rfl
theorem asc_le {l : List (Int × Int)} (h : AscN l) {i j : Nat} (hij : i ≤ j) (hj : j < l.length) : nAt l i ≤ nAt l j := by
  rcases Nat.lt_or_ge i j with h1 | h1
  · have h2 := List.pairwise_iff_getElem.1 h i j (by omega) hj h1
    have e1 : nAt l i = l[i].1 := by simp [nAt, List.getD, show i < l.length by omega]
    have e2 : nAt l j = l[j].1 := by simp [nAt, List.getD, hj]
    unfold ltN at h2
    omega
  · obtain rfl : i = j := by omega
    exact Int.le_refl _
/-- backward -/
def bkP (last a q : Int) : Int × Int := (last - a, q)
theorem bk_in {l : List (Int × Int)} (h : okB l = true) (k : Nat) (hk : k < l.length) : (0 ≤ lenI l - 1 - nAt l k ∧ lenI l - 1 - nAt l k ≤ 199) ∧ (0 ≤ lenI l ∧ lenI l ≤ 200) := by
  have h1 := asc_le (asc_of_ok h) (show k ≤ l.length - 1 by omega) (by omega)
  have h2 := (ok_in h k hk).1
  have h3 := (ok_in h (l.length - 1) (by omega)).1
  have e : lenI l = nAt l (l.length - 1) + 1 := by
    unfold lenI
    split
    · omega
    · rfl
  omega
theorem len_in {l : List (Int × Int)} (h : okB l = true) : 0 ≤ lenI l ∧ lenI l ≤ 200 := by
  rcases Nat.eq_zero_or_pos l.length with e | e
  · unfold lenI
    split
    · omega
    · omega
  · exact (bk_in h 0 e).2
theorem bk_ok {l : List (Int × Int)} (h : okB l = true) : cnO (bkP (lenI l - 1)) l l.length = true := by
  simp only [cnO, List.all_eq_true, List.mem_range]
  intro i hi
  have h1 := bk_in h i hi
  have h2 := ok_in h i hi
  simp [bkP, noteB]
  omega
theorem bk_nodup {l : List (Int × Int)} (last : Int) (h : okB l = true) : (cnL (bkP last) l l.length).Nodup :=
  chL_nodup (asc_of_ok h) fun x y _ _ hxy e => by
    have e1 := congrArg Prod.fst e
    have e2 := congrArg Prod.snd e
    simp only [bkP] at e1 e2
    unfold ltN at hxy
    omega
def bwC (l : List (Int × Int)) : Int := if okB l then 0 else 1
def bwV (l : List (Int × Int)) : List (Int × Int) := if okB l then sortU (cnL (bkP (lenI l - 1)) l l.length) else []
theorem bwV_le (l : List (Int × Int)) : (bwV l).length ≤ l.length := by
  unfold bwV
  split
  · exact Nat.le_trans (sortU_le _) (Nat.le_of_eq (chL_len _ _ _))
  · simp
end Go.Proofs.YtmmninlnpnhboaaGreatDoor
namespace Go.Proofs.YtmmninlnpnhboaaGreatDoor
open Go.RowKit
theorem yieldsIf_buildD0 {ops : Array Oper} {S : World → Prop} {op : Oper} {a : Act} (hw : Region.wanted op (yielded ops a.tmps) = true) (ho : op.op = .build 33 #[]) : YieldsIf Tryz.prog ops S op (.agg (da fun _ => 0)) a :=
  .inl ⟨hw, fun w' _ => by
    unfold execOp
    simp only [ho, Sem.run_bind, run_build w' 33 ((#[] : Array (Nat × Operand)).map fun (i, x) => (i, a.eval x)) za (by simpa using built0), Result.andThen_ok]
    rw [za_eq]
    rfl⟩
/-- what a tune, a frame and a drum ask: the code -/
def tkK (s : Int) (l : List (Int × Int)) (d : Nat → Int) (L : List (Int × Int)) : Int := pgK s l (drB s l.length d) L
/-- tracks, and whether the tune is pinned -/
def OwnTB (w : World) (b : Bool) (xs : List Nat) (e : Ending) (w' : World) : Prop := ∃ (A : Option Addr) (c : Nat) (ys : List Nat), e = .returned (.tuple #[.slice A ys.length c, .bool b]) ∧ w'.ownsRow w.heap.size 2 1 (.slice A ys.length c) ys.length (tcells ys) ∧ Below w.heap.size w w' ∧ (b = true → ys = xs)
end Go.Proofs.YtmmninlnpnhboaaGreatDoor
