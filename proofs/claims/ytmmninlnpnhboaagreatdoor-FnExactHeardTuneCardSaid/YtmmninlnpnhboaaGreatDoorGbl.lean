import Derived.Test.YtmmninlnpnhboaaGreatDoorGbk
import Derived.Test.YtmmninlnpnhboaaGreatDoorGax
import Derived.Test.YtmmninlnpnhboaaGreatDoorGao
import Derived.Test.YtmmninlnpnhboaaGreatDoorGay
import Derived.Maps.AppendAt
namespace Go.Proofs.YtmmninlnpnhboaaGreatDoor
open Go.RowKit Go.Shelf Go.Lib
open Go.Sort (SWO HoldsK PermIn SortedIn pdq pdq_sorts sorted_unique_holds)
theorem cmpLaysN (g n : Nat) (w : World) : CmpLays Tryz.prog 95 #[] encN 2 cfN g 0 n w :=
  fun _ _ _ _ x y => compareNotes_grow x.1 x.2 y.1 y.2 _
/-- what slices.SortFunc leaves of notes -/
def SortedP (base : Nat) (C : Option Addr) (q : Nat) (l : List (Int × Int)) (w : World) (e : Ending) (w' : World) : Prop :=
  e = .returned (.tuple #[]) ∧ w'.ownsRow base 65 2 (.slice C l.length q) l.length (cellsOf (srtN l)) ∧ Below base w w'
set_option maxHeartbeats 2000000 in
set_option maxRecDepth 100000 in
theorem sortFunc_any (C : Option Addr) (q : Nat) (l : List (Int × Int)) (base : Nat) (w : World) (h : w.ownsRow base 65 2 (.slice C l.length q) l.length (cellsOf l)) (hn : l.length ≤ 1048576) (hbase : base ≤ w.heap.size) :
    Calls Tryz.prog 94 #[.slice C l.length q, .func (.func 95) #[] #[]] w (SortedP base C q l w) := by
  by_cases h0 : l = []
  · subst h0
    have hp : ∀ lim W, Calls Tryz.prog 108 #[.slice C 0 q, .int .i64 0, .int .i64 0, .int .i64 lim, .func (.func 95) #[] #[]] W fun e w' => e = .returned (.tuple #[]) ∧ w' = W := fun lim W => AnyF.pdqsortCmpFunc_none (P := Tryz.prog) (ρ := sortRen) sortLays C q lim (.func (.func 95) #[] #[]) W
    have hl : ∀ W, Calls Tryz.prog 109 #[.int .u64 0] W fun e w' => e = .returned (.int .i64 (Lib.bitLen 0 : Nat)) ∧ w' = W := fun W => Any.bits_Len (SlLaysF0.n15.bits (P := Tryz.prog) (ρ := sortRen) { sortLays with }) 0 W (by omega) (by omega)
    have HO := hide h
    clear h
    go_enter Tryz.func94, Tryz.ntmps94
    go_wp2_with (first | (go_at_call 109; refine (hl _).mono ?_; rintro e w' ⟨rfl, rfl⟩) | (go_at_call 108; refine (hp _ _).mono ?_; rintro e w' ⟨rfl, rfl⟩))
    go_end0
    exact ⟨rfl, by rw [srtN_id [] List.Pairwise.nil]; exact HO.out, Below.refl _ _⟩
  · have hpos : 0 < l.length := by
      rcases Nat.eq_zero_or_pos l.length with e | e
      · exact absurd (List.eq_nil_of_length_eq_zero e) h0
      · exact e
    rcases h.2 with ⟨h', e0⟩ | ⟨g, cap, cur, h', hgb, hg, _⟩
    · omega
    · simp only [Value.slice.injEq, true_and] at h'
      obtain ⟨rfl, rfl⟩ := h'
      have hblk : g < w.heap.size := (Array.getElem?_eq_some_iff.1 hg).1
      have hsz : l.toArray.size = l.length := by simp
      have eg : ∀ args w, (callFunc 95 args).run Tryz.prog w = .ok (.enter 95 args) w := enters_of Tryz.func95 (by kernel_rfl) rfl
      have aE : ∀ w, (isAgg 65).run Tryz.prog w = .ok true w := Tryz.isAgg65
      have zE : ∀ w, (Go.sizeOf 65).run Tryz.prog w = .ok 2 w := Tryz.sizeOf65
      have hH := holds_own h
      have hp := AnyQ.pdqsortCmpFunc_all (P := Tryz.prog) (ρ := sortRen) sortLays 2 aE zE encN cfN 95 #[] cfN_swo g 0 q l.toArray w eg (cmpLaysN g _ w) ⟨encN_len, encN_one, hH, hblk⟩ (l.toArray.size + 1) 0 l.toArray.size (Lib.bitLen l.toArray.size) l.toArray w (by omega) rfl (SWK.start hH) (Nat.zero_le _) (Nat.le_refl _) (by rw [hsz]; omega) (Nat.lt_of_le_of_lt (Lib.bitLen_le l.toArray.size 62 (by omega) (by rw [hsz]; omega)) (by omega)) (Or.inl rfl)
      have hl : Calls Tryz.prog 109 #[.int .u64 (l.toArray.size : Int)] w fun e w' => e = .returned (.int .i64 (Lib.bitLen l.toArray.size : Nat)) ∧ w' = w := by
        have h := Any.bits_Len (SlLaysF0.n15.bits (P := Tryz.prog) (ρ := sortRen) { sortLays with }) (l.toArray.size : Int) w (by omega) (by rw [hsz]; omega)
        rwa [Int.toNat_natCast] at h
      have hs := pdq_sorts (ltOf cfN) cfN_swo l.toArray 0 l.toArray.size (Lib.bitLen l.toArray.size) true true (Nat.zero_le _) (Nat.le_refl _) (Or.inl rfl)
      have hu := sorted_unique_holds cfN_swo cfN_tot l.toArray _ hs.1 hs.2
      have hD : (pdq (ltOf cfN) l.toArray 0 l.toArray.size (Lib.bitLen l.toArray.size) true true) = (srtN l).toArray := by
        rw [← srtN_cf]
        exact Array.ext' (by rw [hu])
      rw [hD] at hp
      rw [hsz] at hp hl
      have hp' : Calls Tryz.prog 108 #[.slice (some ⟨g, 0, none⟩) l.length q, .int .i64 0, .int .i64 l.length, .int .i64 (Lib.bitLen l.length : Nat), .func (.func 95) #[] #[]] w fun e w' => e = .returned (.tuple #[]) ∧ w'.ownsRow base 65 2 (.slice (some ⟨g, 0, none⟩) l.length q) l.length (cellsOf (srtN l)) ∧ Below base w w' := by
        refine Calls.mono hp fun e w' ⟨he, m, os, hw⟩ => ⟨he, ?_, ?_⟩
        · rw [hw]
          exact sorted_own h (srtN_len l)
        · rw [hw]
          exact sorted_below hgb hbase
      have wr : IntKind.u64.wrap (l.length : Int) = l.length := by simp [IntKind.wrap, IntKind.bits, IntKind.signed]; omega
      clear hp hs hu hH h hg eg aE zE hsz h0
      obtain ⟨bl, hbl⟩ : ∃ bl : Nat, bl = Lib.bitLen l.length := ⟨_, rfl⟩
      rw [← hbl] at hp' hl
      clear hbl
      go_enter Tryz.func94, Tryz.ntmps94
      go_wp2_with (first | (go_at_call 109; refine hl.mono ?_; rintro e w' ⟨rfl, rfl⟩) | (go_at_call 108; refine hp'.mono ?_; rintro e w' ⟨rfl, ho, hb⟩))
      go_end0
      exact ⟨rfl, ho, hb⟩
end Go.Proofs.YtmmninlnpnhboaaGreatDoor
namespace Go.Proofs.YtmmninlnpnhboaaGreatDoor
open Go.RowKit
theorem own_shapeT {w : World} {base : Nat} {e : TypeId} {size n : Nat} {v : Value} {xs : List Value} (h : w.ownsRow base e size v n xs) : ∃ A c, v = .slice A n c := by
  rcases h.2 with ⟨h', h0⟩ | ⟨g, cap, cur, h', _⟩
  · exact ⟨none, 0, by rw [h', h0]⟩
  · exact ⟨_, _, h'⟩
/-- the same, the code being a bool -/
def OwnB (w : World) (l : List (Int × Int)) (b : Bool) (e : Ending) (w' : World) : Prop := ∃ (C : Option Addr) (q : Nat), e = .returned (.tuple #[.slice C l.length q, .bool b]) ∧ w'.ownsRow w.heap.size 65 2 (.slice C l.length q) l.length (cellsOf l) ∧ Below w.heap.size w w'
theorem ownN_nil {w w1 : World} (C : Option Addr) (q : Nat) (cc : Int) (h : w1.ownsRow w.heap.size 65 2 (.slice C 0 q) 0 []) (hb : Below w.heap.size w w1) : OwnN w [] cc (.returned (.tuple #[.slice C 0 q, .int .i64 cc])) w1 := ⟨C, q, rfl, h, hb⟩
theorem ownB_nil {w w1 : World} (C : Option Addr) (q : Nat) (cc : Bool) (h : w1.ownsRow w.heap.size 65 2 (.slice C 0 q) 0 []) (hb : Below w.heap.size w w1) : OwnB w [] cc (.returned (.tuple #[.slice C 0 q, .bool cc])) w1 := ⟨C, q, rfl, h, hb⟩
theorem ownN_of {w w1 : World} (C : Option Addr) (q : Nat) (cc : Int) (xs : List (Int × Int)) (n : Nat) (hn : xs.length = n) (h : w1.ownsRow w.heap.size 65 2 (.slice C n q) n (cellsOf xs)) (hb : Below w.heap.size w w1) : OwnN w xs cc (.returned (.tuple #[.slice C n q, .int .i64 cc])) w1 := by
  subst hn
  exact ⟨C, q, rfl, h, hb⟩
theorem ownB_of {w w1 : World} (C : Option Addr) (q : Nat) (cc : Bool) (xs : List (Int × Int)) (n : Nat) (hn : xs.length = n) (h : w1.ownsRow w.heap.size 65 2 (.slice C n q) n (cellsOf xs)) (hb : Below w.heap.size w w1) : OwnB w xs cc (.returned (.tuple #[.slice C n q, .bool cc])) w1 := by
  subst hn
  exact ⟨C, q, rfl, h, hb⟩
/-- the first k notes, put elsewhere -/
def cnL (pf : Int → Int → Int × Int) (l : List (Int × Int)) (k : Nat) : List (Int × Int) := (List.range k).map fun i => pf (nAt l i) (nPi l i)
theorem chL_succ (pf : Int → Int → Int × Int) (l : List (Int × Int)) (k : Nat) : cnL pf l (k + 1) = cnL pf l k ++ [pf (nAt l k) (nPi l k)] := by simp [cnL, List.range_succ]
theorem chL_len (pf : Int → Int → Int × Int) (l : List (Int × Int)) (k : Nat) : (cnL pf l k).length = k := by simp [cnL]
def cnO (pf : Int → Int → Int × Int) (l : List (Int × Int)) (k : Nat) : Bool := (List.range k).all fun i => noteB (pf (nAt l i) (nPi l i)).1 (pf (nAt l i) (nPi l i)).2
theorem chO_succ (pf : Int → Int → Int × Int) (l : List (Int × Int)) (k : Nat) : cnO pf l (k + 1) = (cnO pf l k && noteB (pf (nAt l k) (nPi l k)).1 (pf (nAt l k) (nPi l k)).2) := by simp [cnO, List.range_succ]
theorem chO_no {pf : Int → Int → Int × Int} {l : List (Int × Int)} {k n : Nat} (h : cnO pf l k = false) (hk : k ≤ n) : cnO pf l n = false := by
  induction n with
  | zero => obtain rfl : k = 0 := by omega
            exact h
  | succ n ih =>
    rcases Nat.lt_or_ge n k with h1 | h1
    · obtain rfl : k = n + 1 := by omega
      exact h
    · rw [chO_succ, ih h1]; rfl
def cnC (pf : Int → Int → Int × Int) (l : List (Int × Int)) : Int := if cnO pf l l.length then 0 else 4
def chV (pf : Int → Int → Int × Int) (l : List (Int × Int)) : List (Int × Int) := if cnO pf l l.length then srtN (cnL pf l l.length) else []
def chW (pf : Int → Int → Int × Int) (l : List (Int × Int)) : List (Int × Int) := if cnO pf l l.length then cnL pf l l.length else []
theorem chV_len (pf : Int → Int → Int × Int) (l : List (Int × Int)) : (chV pf l).length ≤ l.length := by
  unfold chV
  split
  · rw [srtN_len, chL_len]; exact Nat.le_refl _
  · simp
theorem chW_len (pf : Int → Int → Int × Int) (l : List (Int × Int)) : (chW pf l).length ≤ l.length := by
  unfold chW
  split
  · rw [chL_len]; exact Nat.le_refl _
  · simp
/-- a place function, called in worlds behind w -/
def PlaceOf (g : Nat) (cb : Array Value) (pf : Int → Int → Int × Int) (l : List (Int × Int)) (w : World) : Prop :=
  ∀ W, Below w.heap.size w W → ∀ k, k < l.length → Calls Tryz.prog g (#[.int .i64 (nAt l k), .int .i64 (nPi l k)] ++ cb) W fun e w' => e = .returned (.tuple #[.int .i64 (pf (nAt l k) (nPi l k)).1, .int .i64 (pf (nAt l k) (nPi l k)).2]) ∧ Below W.heap.size W w'
end Go.Proofs.YtmmninlnpnhboaaGreatDoor
namespace Go.Proofs.YtmmninlnpnhboaaGreatDoor
open Go.RowKit
/-- notes of the call's own -/
def OwnT (w : World) (l : List (Int × Int)) (e : Ending) (w' : World) : Prop := ∃ (C : Option Addr) (q : Nat), e = .returned (.slice C l.length q) ∧ w'.ownsRow w.heap.size 65 2 (.slice C l.length q) l.length (cellsOf l) ∧ Below w.heap.size w w'
theorem ownT_of {w w1 : World} (C : Option Addr) (q : Nat) (xs : List (Int × Int)) (n : Nat) (hn : n = xs.length) (h : w1.ownsRow w.heap.size 65 2 (.slice C n q) n (cellsOf xs)) (hb : Below w.heap.size w w1) : OwnT w xs (.returned (.slice C n q)) w1 := by
  subst hn
  exact ⟨C, q, rfl, h, hb⟩
theorem insU_le (x : Int × Int) (l : List (Int × Int)) : (insU l x).length ≤ l.length + 1 := by
  unfold insU
  split
  · omega
  · simp; omega
theorem foldU_le : ∀ (l acc : List (Int × Int)), (l.foldl insU acc).length ≤ acc.length + l.length
  | [], acc => by simp
  | x :: l, acc => by
    have h1 := foldU_le l (insU acc x)
    have h2 := insU_le x acc
    simp only [List.foldl_cons, List.length_cons]
    omega
theorem sortU_le (l : List (Int × Int)) : (sortU l).length ≤ l.length := by have := foldU_le l []; simpa [sortU] using this
theorem posN_before (x : Int × Int) : ∀ (l : List (Int × Int)) (j : Nat), j < posN x l → befB (nAt l j) (nPi l j) x.1 x.2 = true
  | [], j, h => absurd h (Nat.not_lt_zero _)
  | y :: l, j, h => by
    unfold posN at h
    by_cases hb : befB y.1 y.2 x.1 x.2
    · rw [if_pos hb] at h
      cases j with
      | zero => simpa [nAt, nPi] using hb
      | succ j => simpa [nAt, nPi] using posN_before x l j (by omega)
    · rw [if_neg hb] at h; omega
theorem posN_stop (x : Int × Int) : ∀ (l : List (Int × Int)), posN x l < l.length → befB (nAt l (posN x l)) (nPi l (posN x l)) x.1 x.2 = false
  | [], h => absurd h (Nat.not_lt_zero _)
  | y :: l, h => by
    by_cases hb : befB y.1 y.2 x.1 x.2
    · have hp : posN x (y :: l) = posN x l + 1 := by simp [posN, hb]
      rw [hp] at h ⊢
      simpa [nAt, nPi] using posN_stop x l (by simpa using h)
    · have hp : posN x (y :: l) = 0 := by simp [posN, hb]
      rw [hp]
      simpa [nAt, nPi] using hb
theorem getN (l : List (Int × Int)) (j : Nat) (h : j < l.length) : l[j]? = some (nAt l j, nPi l j) := by simp [nAt, nPi, List.getD, h]
theorem insU_there {l : List (Int × Int)} {x : Int × Int} (h : posN x l < l.length) (he : nAt l (posN x l) = x.1 ∧ nPi l (posN x l) = x.2) : insU l x = l := by
  unfold insU
  rw [if_pos]
  rw [getN l _ h, he.1, he.2]
theorem insU_else {l : List (Int × Int)} {x : Int × Int} (h : ∀ _ : posN x l < l.length, ¬ (nAt l (posN x l) = x.1 ∧ nPi l (posN x l) = x.2)) : insU l x = l.take (posN x l) ++ x :: l.drop (posN x l) := by
  unfold insU
  rw [if_neg]
  intro e
  have hlt : posN x l < l.length := (List.getElem?_eq_some_iff.1 e).1
  rw [getN l _ hlt] at e
  have := Option.some.inj e
  exact h hlt ⟨congrArg Prod.fst this, congrArg Prod.snd this⟩
theorem cellsOf_take (l : List (Int × Int)) (k : Nat) : (cellsOf l).take (k * 2) = cellsOf (l.take k) := by
  induction l generalizing k with
  | nil => simp [cellsOf_nil]
  | cons n l ih =>
    cases k with
    | zero => simp [cellsOf]
    | succ k =>
      rw [cellsOf_cons, List.take_succ_cons, cellsOf_cons, show (k + 1) * 2 = k * 2 + 1 + 1 by omega, List.take_succ_cons, List.take_succ_cons, ih]
theorem cellsOf_drop (l : List (Int × Int)) (k : Nat) : (cellsOf l).drop (k * 2) = cellsOf (l.drop k) := by
  induction l generalizing k with
  | nil => simp [cellsOf_nil]
  | cons n l ih =>
    cases k with
    | zero => simp
    | succ k =>
      rw [cellsOf_cons, List.drop_succ_cons, show (k + 1) * 2 = k * 2 + 1 + 1 by omega, List.drop_succ_cons, List.drop_succ_cons, ih]
theorem cellsOf_one (l : List (Int × Int)) : ∀ u ∈ cellsOf l, u.oneCell' = true := by
  intro u hu
  simp only [cellsOf, List.mem_flatMap] at hu
  obtain ⟨n, _, hn⟩ := hu
  simp at hn
  rcases hn with rfl | rfl <;> rfl
/-- the first k elements of a row of the call's own -/
theorem own_take {w : World} {base g n q : Nat} {t : TypeId} {l : List (Int × Int)} (h : w.ownsRow base t 2 (.slice (some ⟨g, 0, none⟩) n q) n (cellsOf l)) (k : Nat) (hk : k ≤ n) :
    w.ownsRow base t 2 (.slice (some ⟨g, 0, none⟩) k q) k (cellsOf (l.take k)) := by
  rcases h with ⟨hl, h' | ⟨g', cap, cur, h', hb, hg, hn, hm, hs, ht⟩⟩
  · simp at h'
  · simp only [Value.slice.injEq, Option.some.injEq, Addr.mk.injEq, and_true, true_and] at h'
    obtain ⟨rfl, rfl⟩ := h'
    have e : (cellsOf l).take (k * 2) = cellsOf (l.take k) := cellsOf_take l k
    refine ⟨?_, Or.inr ⟨g, q, cur, rfl, hb, hg, Nat.le_trans hk hn, hm, hs, ?_⟩⟩
    · rw [← e, List.length_take, hl]; omega
    · rw [← e, ← ht, List.take_take]
      congr 1
      omega
/-- the cells of a row from one of its elements on -/
theorem own_from {w : World} {base g n q : Nat} {t : TypeId} {l : List (Int × Int)} (h : w.ownsRow base t 2 (.slice (some ⟨g, 0, none⟩) n q) n (cellsOf l)) (k : Nat) :
    ∀ j u, (cellsOf (l.drop k))[j]? = some u → w.cell? ⟨g, k * 2 + j, none⟩ = some u := by
  intro j u hu
  rw [← cellsOf_drop, List.getElem?_drop] at hu
  have hj : k * 2 + j < n * 2 := by
    rw [← h.1]
    exact (List.getElem?_eq_some_iff.1 hu).1
  rw [h.cellAt _ hj]
  exact hu
theorem own_some {w : World} {base : Nat} {e : TypeId} {size n : Nat} {v : Value} {xs : List Value} (h : w.ownsRow base e size v n xs) (hne : v ≠ .slice none 0 0) : ∃ g c, v = .slice (some ⟨g, 0, none⟩) n c ∧ base ≤ g ∧ g < w.heap.size ∧ n ≤ c ∧ c ≤ maxLen := by
  rcases h.2 with ⟨h', _⟩ | ⟨g, cap, cur, h', hb, hg, hn, hm, _⟩
  · exact absurd h' hne
  · exact ⟨g, cap, h', hb, (Array.getElem?_eq_some_iff.1 hg).1, hn, hm⟩
theorem run_eq_note (a p b q : Int) (w : World) : (Go.binOp .eql 65 (.agg #[.int .i16 a, .int .i8 p]) (.agg #[.int .i16 b, .int .i8 q])).run Tryz.prog w = .ok (.bool (decide (a = b ∧ p = q))) w := by
  simp [go_sem]
  by_cases h : a = b <;> by_cases h' : p = q <;> simp [h, h']
end Go.Proofs.YtmmninlnpnhboaaGreatDoor
