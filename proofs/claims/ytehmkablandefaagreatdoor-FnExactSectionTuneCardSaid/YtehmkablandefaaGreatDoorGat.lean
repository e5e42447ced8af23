import Derived.Test.YtehmkablandefaaGreatDoorGaq
import Derived.Test.YtehmkablandefaaGreatDoorGar
import Derived.Maps.AppendAt
import Derived.Test.YtehmkablandefaaGreatDoorGas
namespace Go.Proofs.YtehmkablandefaaGreatDoor
open Go.RowKit
theorem eqNote_any (a p b q : Int) (w : World) :
    Calls Tryz.prog 36 #[.agg #[.int .i16 a, .int .i8 p], .agg #[.int .i16 b, .int .i8 q]] w fun e w' => e = .returned (.bool (decide (a = b ∧ p = q))) ∧ Below w.heap.size w w' := by
  go_enter Tryz.func36, Tryz.ntmps36
  go_wp2
  all_goals go_ret
  all_goals exact ⟨ret_bool (by simp_all), by repeat (first | exact Below.refl _ _ | refine Below.alloc ?_ (by simp <;> omega) _)⟩
theorem same_of (l m : List (Int × Int)) (hl : l.length = m.length) (h : ∀ k, k < l.length → nAt l k = nAt m k ∧ nPi l k = nPi m k) : sameB l m = true := by
  refine decide_eq_true (List.ext_getElem hl fun k h1 h2 => ?_)
  have := h k h1
  simp only [nAt, nPi, List.getD, List.getElem?_eq_getElem h1, List.getElem?_eq_getElem h2, Option.getD_some] at this
  exact Prod.ext this.1 this.2
theorem same_not (l m : List (Int × Int)) (k : Nat) (h : ¬ (nAt l k = nAt m k ∧ nPi l k = nPi m k)) : sameB l m = false := by
  refine decide_eq_false fun e => h ?_
  rw [e]
  exact ⟨rfl, rfl⟩

set_option maxHeartbeats 400000 in
theorem eqTune_any (A B : Option Addr) (c d : Nat) (l m : List (Int × Int)) (w : World) (hA : NA w A l) (hB : NA w B m) (hn : l.length ≤ 1048576) (_hm : m.length ≤ 1048576) :
    Calls Tryz.prog 13 #[.slice A l.length c, .slice B m.length d] w (Says (sameB l m) w) := by
  by_cases hlm : l.length = m.length
  · have HL := hide hlm
    have H1 : ((l.length : Int) != (m.length : Int)) = false := by simp [hlm]
    have H2 : (l.length != m.length) = false := by simp [hlm]
    clear hlm
    go_enter Tryz.func13, Tryz.ntmps13
    go_wp2_with fail
    go_loopw [5] (fun i wr => ∃ k : Nat, k ≤ l.length ∧ i = .int .i64 k ∧ (∀ j, j < k → nAt l j = nAt m j ∧ nPi l j = nPi m j) ∧ Below w.heap.size w wr)
      (fun i _ => l.length - (intOf i).toNat)
    case atStart =>
      exact ⟨0, Nat.zero_le _, rfl, fun j hj => absurd hj (Nat.not_lt_zero _), Below.refl _ _⟩
    case round =>
      obtain ⟨k, hk, rfl, hG, hb⟩ := hrel
      have HG := hide hG
      clear hG
      by_cases hlt : k < l.length
      · have hlt2 : k < m.length := by rw [← HL.out]; exact hlt
        obtain ⟨b, o, rfl, hbb, c1, c2⟩ := hA k hlt
        obtain ⟨b', o', rfl, hbb', c3, c4⟩ := hB k hlt2
        have d1 := Later.cell ((hb.cell (p := ⟨b, o + k * 2, none⟩) hbb).trans c1)
        have d2 := Later.cell ((hb.cell (p := ⟨b, o + k * 2 + 1, none⟩) hbb).trans c2)
        have d3 := Later.cell ((hb.cell (p := ⟨b', o' + k * 2, none⟩) hbb').trans c3)
        have d4 := Later.cell ((hb.cell (p := ⟨b', o' + k * 2 + 1, none⟩) hbb').trans c4)
        have hs := hb.size
        clear c1 c2 c3 c4 hA hB
        by_cases he : nAt l k = nAt m k ∧ nPi l k = nPi m k
        · have HE := hide he
          have HD := hide (decide_eq_true he)
          clear he
          go_wp2_with fail
          refine wp_region_later (by kernel_rfl) (by kernel_rfl) ?_
          repeat (go_big_quiet_step ((go_at_call 36; exact Later.call (HD.out ▸ eqNote_any _ _ _ _ _))))
          refine wpQuiet_nil ?_
          rintro _ ⟨⟨wq, hq⟩, rfl⟩
          go_wp2
          go_roundw
          case rel => exact ⟨k + 1, by omega, by go_num, fun j hj => by
            rcases Nat.lt_or_ge j k with h1 | h1
            · exact HG.out j h1
            · rw [show j = k by omega]; exact HE.out, hb.trans (hq.mono hs)⟩
          case measure => simp [intOf]; omega
        · have HE := hide he
          have HD := hide (decide_eq_false he)
          clear he
          go_wp2_with fail
          refine wp_region_later (by kernel_rfl) (by kernel_rfl) ?_
          repeat (go_big_quiet_step ((go_at_call 36; exact Later.call (HD.out ▸ eqNote_any _ _ _ _ _))))
          refine wpQuiet_nil ?_
          rintro _ ⟨⟨wq, hq⟩, rfl⟩
          go_wp2
          go_ret
          exact ⟨ret_bool (same_not l m k HE.out).symm, hb.trans (hq.mono hs)⟩
      · obtain rfl : k = l.length := by omega
        go_wp2
        go_ret
        exact ⟨ret_bool (same_of l m HL.out HG.out).symm, hb⟩
  · have H1 : ((l.length : Int) != (m.length : Int)) = true := by simp; omega
    have H2 : (l.length != m.length) = true := by simpa using hlm
    have HL := hide hlm
    clear hlm
    go_enter Tryz.func13, Tryz.ntmps13
    go_wp2
    go_ret
    exact ⟨ret_bool (decide_eq_false fun e => HL.out (by rw [e])).symm, Below.refl _ _⟩
theorem eqTune_self (A B : Option Addr) (c d : Nat) (l : List (Int × Int)) (w : World) (hA : NA w A l) (hB : NA w B l) (hn : l.length ≤ 1048576) :
    Calls Tryz.prog 13 #[.slice A l.length c, .slice B l.length d] w (Says true w) := by
  have h := eqTune_any A B c d l l w hA hB hn hn
  rwa [sameB_refl] at h
end Go.Proofs.YtehmkablandefaaGreatDoor
namespace Go.Proofs.YtehmkablandefaaGreatDoor
open Go.RowKit

theorem isPlace_any (a p : Int) (w : World) :
    Calls Tryz.prog 93 #[.int .i64 a, .int .i64 p] w fun e w' => e = .returned (.bool (noteB a p)) ∧ w = w' := by
  go_enter Tryz.func93, Tryz.ntmps93
  go_wp2_with (go_at_call 66; refine (within_any _ _ _ _).mono ?_; rintro e w' ⟨rfl, rfl⟩)
  all_goals go_ret
  all_goals exact ⟨ret_bool (by simp_all [inB, noteB] <;> omega), rfl⟩
def rangeB (l : List (Int × Int)) : Bool := (List.range l.length).all fun j => noteB (nAt l j) (nPi l j)
def InRange (l : List (Int × Int)) (k : Nat) : Prop := ∀ j, j < k → noteB (nAt l j) (nPi l j) = true
theorem rangeB_yes (l : List (Int × Int)) (h : InRange l l.length) : rangeB l = true := by
  simp only [rangeB, List.all_eq_true, List.mem_range]; exact h
theorem rangeB_no (l : List (Int × Int)) (k : Nat) (hk : k < l.length) (h : noteB (nAt l k) (nPi l k) = false) : rangeB l = false := by
  unfold rangeB
  rw [List.all_eq_false]
  exact ⟨k, List.mem_range.2 hk, by simp [h]⟩
theorem InRange_succ (l : List (Int × Int)) (k : Nat) (h : InRange l k) (h' : noteB (nAt l k) (nPi l k) = true) : InRange l (k + 1) := fun j hj => by
  rcases Nat.lt_or_ge j k with h1 | h1
  · exact h j h1
  · rw [show j = k by omega]; exact h'

set_option maxHeartbeats 400000 in
theorem isInRange_any (A : Option Addr) (c : Nat) (l : List (Int × Int)) (w : World) (hA : NA w A l) (hn : l.length ≤ 1048576) (hwf : WF l) :
    Calls Tryz.prog 82 #[.slice A l.length c] w (Says (rangeB l) w) := by
  go_enter Tryz.func82, Tryz.ntmps82
  go_wp2_with fail
  go_loopw [7] (fun i wr => ∃ k : Nat, k ≤ l.length ∧ i = .int .i64 k ∧ InRange l k ∧ Below w.heap.size w wr)
    (fun i _ => l.length - (intOf i).toNat)
  case atStart =>
    exact ⟨0, Nat.zero_le _, rfl, fun j hj => absurd hj (Nat.not_lt_zero _), Below.refl _ _⟩
  case round =>
    obtain ⟨k, hk, rfl, hG, hb⟩ := hrel
    have HG := hide hG
    clear hG
    by_cases hlt : k < l.length
    · obtain ⟨b, o, rfl, hbb, c1, c2⟩ := hA k hlt
      have d1 := (hb.cell (p := ⟨b, o + k * 2, none⟩) hbb).trans c1
      have d2 := (hb.cell (p := ⟨b, o + k * 2 + 1, none⟩) hbb).trans c2
      have hs := hb.size
      obtain ⟨⟨e1, e2⟩, e3, e4⟩ := hwf k hlt
      clear c1 c2 hA hwf
      have hb2 := (hb.alloc hs (.cells #[.int .i16 (nAt l k), .int .i8 (nPi l k)] 83))
      go_wp2_with (go_at_call 93; refine (isPlace_any _ _ _).mono ?_; rintro e w' ⟨rfl, rfl⟩)
      · go_ret
        exact ⟨ret_bool (rangeB_no l k hlt (by simpa using ‹(!noteB (nAt l k) (nPi l k)) = true›)).symm, hb2⟩
      · go_roundw
        case rel => exact ⟨k + 1, hlt, by go_num, InRange_succ l k HG.out (by simpa using ‹(!noteB (nAt l k) (nPi l k)) = false›), hb2⟩
        case measure => simp [intOf]; omega
    · obtain rfl : k = l.length := by omega
      go_wp2
      go_ret
      exact ⟨ret_bool (by rw [rangeB_yes l HG.out]), hb⟩

def ascB (l : List (Int × Int)) : Bool := (List.range l.length).all fun j => decide (j = 0) || befB (nAt l (j - 1)) (nPi l (j - 1)) (nAt l j) (nPi l j)
def Asc (l : List (Int × Int)) (k : Nat) : Prop := ∀ j, j < k → 0 < j → befB (nAt l (j - 1)) (nPi l (j - 1)) (nAt l j) (nPi l j) = true
theorem ascB_yes (l : List (Int × Int)) (h : Asc l l.length) : ascB l = true := by
  simp only [ascB, List.all_eq_true, List.mem_range]
  intro j hj
  rcases Nat.eq_zero_or_pos j with h0 | h0
  · simp [h0]
  · simp [h j hj h0]
theorem ascB_no (l : List (Int × Int)) (k : Nat) (hk : k < l.length) (h0 : 0 < k) (h : befB (nAt l (k - 1)) (nPi l (k - 1)) (nAt l k) (nPi l k) = false) : ascB l = false := by
  unfold ascB
  rw [List.all_eq_false]
  exact ⟨k, List.mem_range.2 hk, by simp [h]; omega⟩
theorem Asc_succ (l : List (Int × Int)) (k : Nat) (h : Asc l k) (h' : befB (nAt l (k - 1)) (nPi l (k - 1)) (nAt l k) (nPi l k) = true) : Asc l (k + 1) := fun j hj h0 => by
  rcases Nat.lt_or_ge j k with h1 | h1
  · exact h j h1 h0
  · rw [show j = k by omega]; exact h'

end Go.Proofs.YtehmkablandefaaGreatDoor
namespace Go.Proofs.YtehmkablandefaaGreatDoor
open Go.RowKit
theorem cell_two_new' (w : World) (x y : Value) (t : TypeId) : ∀ j u, ([x, y] : List Value)[j]? = some u → (w.alloc (.cells #[x, y] t)).cell? ((⟨w.heap.size, 0, none⟩ : Addr).add j) = some u := by
  intro j u hu
  rw [Addr.add_lit]
  match j, hu with
  | 0, hu => simp at hu; subst hu; simp [go_sem]
  | 1, hu => simp at hu; subst hu; simp [go_sem]
theorem own_emptyT {w : World} {base : Nat} (t : TypeId) (size : Nat) (h : base ≤ w.heap.size) : (w.alloc (.cells #[] t)).ownsRow base t size (.slice (some ⟨w.heap.size, 0, none⟩) 0 0) 0 [] :=
  ⟨by simp, Or.inr ⟨w.heap.size, 0, #[], rfl, h, heap_alloc_new _ _, by simp, by simp, by simp, by simp⟩⟩
/-- notes of the call's own, and a code -/
def OwnN (w : World) (l : List (Int × Int)) (cc : Int) (e : Ending) (w' : World) : Prop := ∃ (C : Option Addr) (q : Nat), e = .returned (.tuple #[.slice C l.length q, .int .i64 cc]) ∧ w'.ownsRow w.heap.size 83 2 (.slice C l.length q) l.length (cellsOf l) ∧ Below w.heap.size w w'
end Go.Proofs.YtehmkablandefaaGreatDoor
namespace Go.Proofs.YtehmkablandefaaGreatDoor
open Go.RowKit
theorem own_shapeT {w : World} {base : Nat} {e : TypeId} {size n : Nat} {v : Value} {xs : List Value} (h : w.ownsRow base e size v n xs) : ∃ A c, v = .slice A n c := by
  rcases h.2 with ⟨h', h0⟩ | ⟨g, cap, cur, h', _⟩
  · exact ⟨none, 0, by rw [h', h0]⟩
  · exact ⟨_, _, h'⟩
/-- the same, the code being a bool -/
def OwnB (w : World) (l : List (Int × Int)) (b : Bool) (e : Ending) (w' : World) : Prop := ∃ (C : Option Addr) (q : Nat), e = .returned (.tuple #[.slice C l.length q, .bool b]) ∧ w'.ownsRow w.heap.size 83 2 (.slice C l.length q) l.length (cellsOf l) ∧ Below w.heap.size w w'
theorem ownN_nil {w w1 : World} (C : Option Addr) (q : Nat) (cc : Int) (h : w1.ownsRow w.heap.size 83 2 (.slice C 0 q) 0 []) (hb : Below w.heap.size w w1) : OwnN w [] cc (.returned (.tuple #[.slice C 0 q, .int .i64 cc])) w1 := ⟨C, q, rfl, h, hb⟩
theorem ownB_nil {w w1 : World} (C : Option Addr) (q : Nat) (cc : Bool) (h : w1.ownsRow w.heap.size 83 2 (.slice C 0 q) 0 []) (hb : Below w.heap.size w w1) : OwnB w [] cc (.returned (.tuple #[.slice C 0 q, .bool cc])) w1 := ⟨C, q, rfl, h, hb⟩
theorem ownN_of {w w1 : World} (C : Option Addr) (q : Nat) (cc : Int) (xs : List (Int × Int)) (n : Nat) (hn : xs.length = n) (h : w1.ownsRow w.heap.size 83 2 (.slice C n q) n (cellsOf xs)) (hb : Below w.heap.size w w1) : OwnN w xs cc (.returned (.tuple #[.slice C n q, .int .i64 cc])) w1 := by
  subst hn
  exact ⟨C, q, rfl, h, hb⟩
theorem ownB_of {w w1 : World} (C : Option Addr) (q : Nat) (cc : Bool) (xs : List (Int × Int)) (n : Nat) (hn : xs.length = n) (h : w1.ownsRow w.heap.size 83 2 (.slice C n q) n (cellsOf xs)) (hb : Below w.heap.size w w1) : OwnB w xs cc (.returned (.tuple #[.slice C n q, .bool cc])) w1 := by
  subst hn
  exact ⟨C, q, rfl, h, hb⟩
/-- the first k notes, put elsewhere -/
def chL (pf : Int → Int → Int × Int) (l : List (Int × Int)) (k : Nat) : List (Int × Int) := (List.range k).map fun i => pf (nAt l i) (nPi l i)
theorem chL_succ (pf : Int → Int → Int × Int) (l : List (Int × Int)) (k : Nat) : chL pf l (k + 1) = chL pf l k ++ [pf (nAt l k) (nPi l k)] := by simp [chL, List.range_succ]
theorem chL_len (pf : Int → Int → Int × Int) (l : List (Int × Int)) (k : Nat) : (chL pf l k).length = k := by simp [chL]
def chO (pf : Int → Int → Int × Int) (l : List (Int × Int)) (k : Nat) : Bool := (List.range k).all fun i => noteB (pf (nAt l i) (nPi l i)).1 (pf (nAt l i) (nPi l i)).2
theorem chO_succ (pf : Int → Int → Int × Int) (l : List (Int × Int)) (k : Nat) : chO pf l (k + 1) = (chO pf l k && noteB (pf (nAt l k) (nPi l k)).1 (pf (nAt l k) (nPi l k)).2) := by simp [chO, List.range_succ]
theorem chO_no {pf : Int → Int → Int × Int} {l : List (Int × Int)} {k n : Nat} (h : chO pf l k = false) (hk : k ≤ n) : chO pf l n = false := by
  induction n with
  | zero => obtain rfl : k = 0 := by omega
            exact h
  | succ n ih =>
    rcases Nat.lt_or_ge n k with h1 | h1
    · obtain rfl : k = n + 1 := by omega
      exact h
    · rw [chO_succ, ih h1]; rfl
def chC (pf : Int → Int → Int × Int) (l : List (Int × Int)) : Int := if chO pf l l.length then 0 else 4
def chV (pf : Int → Int → Int × Int) (l : List (Int × Int)) : List (Int × Int) := if chO pf l l.length then srtN (chL pf l l.length) else []
def chW (pf : Int → Int → Int × Int) (l : List (Int × Int)) : List (Int × Int) := if chO pf l l.length then chL pf l l.length else []
theorem chV_len (pf : Int → Int → Int × Int) (l : List (Int × Int)) : (chV pf l).length ≤ l.length := by
  unfold chV
  split
  · rw [srtN_len, chL_len]; exact Nat.le_refl _
  · simp
theorem chW_len (pf : Int → Int → Int × Int) (l : List (Int × Int)) : (chW pf l).length ≤ l.length := by
  unfold chW
  split
  · rw [chL_len]; exact Nat.le_refl _
  · simp
/-- a place function, called in worlds behind w -/
def PlaceOf (g : Nat) (cb : Array Value) (pf : Int → Int → Int × Int) (l : List (Int × Int)) (w : World) : Prop :=
  ∀ W, Below w.heap.size w W → ∀ k, k < l.length → Calls Tryz.prog g (#[.int .i64 (nAt l k), .int .i64 (nPi l k)] ++ cb) W fun e w' => e = .returned (.tuple #[.int .i64 (pf (nAt l k) (nPi l k)).1, .int .i64 (pf (nAt l k) (nPi l k)).2]) ∧ Below W.heap.size W w'
set_option maxRecDepth 20000 in
set_option maxHeartbeats 4000000 in
theorem changed_any (g : Nat) (cb : Array Value) (pf : Int → Int → Int × Int) (A : Option Addr) (c : Nat) (l : List (Int × Int)) (w : World) (hA : NA w A l) (hn : l.length ≤ 1048576) (hwf : WF l)
    (eg : ∀ args w, (callFunc g args).run Tryz.prog w = .ok (.enter g args) w) (hpl : PlaceOf g cb pf l w) :
    Calls Tryz.prog 88 #[.slice A l.length c, .func (.func g) #[] cb] w (OwnN w (chV pf l) (chC pf l)) := by
  obtain ⟨i0, hi, hz0, hz1, hz2⟩ := info_parts info83
  have HPL := hide hpl
  clear hpl
  go_enter Tryz.func88, Tryz.ntmps88
  go_wp2_with (at_make; refine wpList_make_own _ rfl _ _ 36 rfl w.heap.size 83 i0 _ 2 Tryz.underlying36 hi hz0 hz1 _ _ _ l.length rfl rfl (by omega) (by rw [hz2]; omega) (by unfold maxLen; omega) (Nat.le_refl _) ?_; intro w1 hown1 hgrow1)
  have hb1 : Below w.heap.size w w1 := (Below.refl _ _).grown hgrow1 (Nat.le_refl _) (fun j e => by cases e)
  clear hgrow1
  go_loopw [6, 16] (fun v i wr => ∃ k : Nat, k ≤ l.length ∧ i = .int .i64 k ∧ chO pf l k = true ∧ wr.ownsRow w.heap.size 83 2 v k (cellsOf (chL pf l k)) ∧ Below w.heap.size w wr)
    (fun _ i _ => l.length - (intOf i).toNat)
  case atStart => exact ⟨0, Nat.zero_le _, rfl, rfl, hown1, hb1⟩
  case round =>
    obtain ⟨k, hk, rfl, hok, hown, hb⟩ := hrel
    obtain ⟨A', c', rfl⟩ := own_shapeT hown
    by_cases hlt : k < l.length
    · obtain ⟨b, o, rfl, hbb, c1, c2⟩ := hA k hlt
      have d1 := (hb.cell (p := ⟨b, o + k * 2, none⟩) hbb).trans c1
      have d2 := (hb.cell (p := ⟨b, o + k * 2 + 1, none⟩) hbb).trans c2
      obtain ⟨⟨n1, n2⟩, n3, n4⟩ := hwf k hlt
      have hsu := chO_succ pf l k
      rw [hok, Bool.true_and] at hsu
      have HS := hide hsu
      have HL := hide (chL_succ pf l k)
      have hal : Below w.heap.size w (wr.alloc (.cells #[.int .i16 (nAt l k), .int .i8 (nPi l k)] 83)) := hb.alloc hb.size _
      have HK := hide (HPL.out (wr.alloc (.cells #[.int .i16 (nAt l k), .int .i8 (nPi l k)] 83)) hal k hlt)
      have own2 := hown.alloc (.cells #[.int .i16 (nAt l k), .int .i8 (nPi l k)] 83)
      obtain ⟨x, hx⟩ : ∃ x, x = (pf (nAt l k) (nPi l k)).1 := ⟨_, rfl⟩
      obtain ⟨y, hy⟩ : ∃ y, y = (pf (nAt l k) (nPi l k)).2 := ⟨_, rfl⟩
      have HXY := hide (show pf (nAt l k) (nPi l k) = (x, y) by rw [hx, hy])
      rw [← hx, ← hy] at HS HK
      clear hx hy hsu hok c1 c2
      go_wp2_with fail
      refine HK.out.mono ?_
      rintro e w2 ⟨rfl, hb2⟩
      have own3a := own_keep own2 hb2
      have hb3a := hal.trans (hb2.mono hal.size)
      clear own2 hal hown hb HK
      cases hno : noteB x y
      · have KP : ∀ W, Calls Tryz.prog 93 #[.int .i64 x, .int .i64 y] W fun e w' => e = .returned (.bool false) ∧ W = w' := fun W => by rw [← hno]; exact isPlace_any _ _ W
        have hcn := chO_no (HS.out.trans hno) hlt
        have HX := hide (show chC pf l = 4 by simp [chC, hcn])
        have HY := hide (show chV pf l = [] by simp [chV, hcn])
        clear hno hcn
        go_wp2_with (go_at_call 93; with_reducible refine (KP _).mono ?_; rintro e w' ⟨rfl, rfl⟩)
        go_ret2
        rw [HX.out, HY.out]
        exact ownN_nil none 0 4 ⟨rfl, Or.inl ⟨rfl, rfl⟩⟩ hb3a
      · have KP : ∀ W, Calls Tryz.prog 93 #[.int .i64 x, .int .i64 y] W fun e w' => e = .returned (.bool true) ∧ W = w' := fun W => by rw [← hno]; exact isPlace_any _ _ W
        have hin : (0 ≤ x ∧ x ≤ 199) ∧ (0 ≤ y ∧ y ≤ 47) := by simpa [noteB] using hno
        obtain ⟨⟨x1, x2⟩, y1, y2⟩ := hin
        have HOK := hide (HS.out.trans hno)
        have hw16 : IntKind.i16.wrap x = x := by simp [IntKind.wrap, IntKind.signed, IntKind.bits]; omega
        have hw8 : IntKind.i8.wrap y = y := by simp [IntKind.wrap, IntKind.signed, IntKind.bits]; omega
        have own4 := own3a.alloc (.cells #[.int .i16 x, .int .i8 y] 83)
        have hnew := cell_two_new' w2 (.int .i16 x) (.int .i8 y) 83
        clear hno
        go_wp2_with (first | (go_at_call 93; with_reducible refine (KP _).mono ?_; rintro e w' ⟨rfl, rfl⟩) | (at_builtin; refine wpList_append_own _ rfl _ _ 36 rfl w.heap.size 83 i0 (.agg #[.int .i16 0, .int .i8 0]) 2 4 Tryz.underlying36 hi hz0 hz1 hz2 rfl (by decide) _ _ _ rfl own4 ⟨w2.heap.size, 0, none⟩ 1 1 [.int .i16 x, .int .i8 y] rfl rfl hnew (fun x hx => by simp at hx; rcases hx with rfl | rfl <;> rfl) (by unfold maxLen; omega) (by omega) (by simp; have := hb3a.size; omega) ?_; intro v' w5 hown5 hgrow5 hnil5))
        have hb5 := (hb3a.alloc hb3a.size (.cells #[.int .i16 x, .int .i8 y] 83)).grown hgrow5 (by simp; have := hb3a.size; omega) (fun j hj => (own3a.lt j hj).1)
        go_roundw
        case rel => exact ⟨k + 1, hlt, by go_num, HOK.out, by rw [HL.out, HXY.out, cellsOf_append]; exact hown5, hb5⟩
        case measure => simp [intOf]; omega
    · obtain rfl : k = l.length := by omega
      have HX := hide (show chC pf l = 0 by simp [chC, hok])
      have HY := hide (show chV pf l = srtN (chL pf l l.length) by simp [chV, hok])
      have KS := sortFunc_any A' c' (chL pf l l.length) w.heap.size wr (by rw [chL_len]; exact hown) (by rw [chL_len]; exact hn) hb.size
      unfold SortedP at KS
      rw [chL_len] at KS
      have HH := hide hok
      clear hok
      go_wp2_with fail
      refine KS.mono ?_
      rintro e w5 ⟨rfl, own5, hb5⟩
      go_wp2
      go_ret2
      rw [HX.out, HY.out]
      exact ownN_of A' c' 0 _ l.length (by rw [srtN_len, chL_len]) own5 (hb.trans hb5)
end Go.Proofs.YtehmkablandefaaGreatDoor
