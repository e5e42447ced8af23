import Derived.Test.YtmjpecneaenlpaaDoorGah
import Derived.Test.YtmjpecneaenlpaaDoorSlZ
import Derived.Test.YtmjpecneaenlpaaDoorRsm
import Derived.Laws.Strings
import Derived.Laws.Strings3
namespace Go.Proofs.YtmjpecneaenlpaaDoor
open Go.RowKit
set_option maxRecDepth 20000 in
/-- what joins the texts of a row of the call's own -/
theorem joined_any {X : Nat → ByteArray} {s : UInt8} {n base : Nat} {A : Option Addr} {c : Nat} {w : World} (hown : w.ownsRow base 9 1 (.slice A n c) n (strs (txP X n))) (hn : n ≤ 140737488355328) (hlen : (txJ X s n).length ≤ 140737488355328) :
    Calls Tryd.prog 60 #[.slice A n c, .string ⟨#[s]⟩] w fun e w' => e = .returned (.string ⟨(txJ X s n).toArray⟩) ∧ Below w.heap.size w w' := by
  by_cases h0 : n = 0
  · subst h0
    exact (Tryd.strings_Join_none A c ⟨#[s]⟩ w).mono fun e w' ⟨h1, h2⟩ => ⟨h1, by rw [h2]; exact Below.refl _ _⟩
  · obtain ⟨b, rfl, hb, hc, hcl⟩ := own_strs hown h0
    have hl := txP_len X n
    have K := Tryd.strings_Join b 0 c (txP X n) ⟨#[s]⟩ w hcl hb (by omega) (by omega) hlen
    rw [hl] at K
    exact K
theorem PowW.keep {w w' : World} (h : PowW w) (hb : Below w.heap.size w w') : PowW w' := h.below hb
theorem formatInt_any (n : Int) (w : World) (h0 : -9223372036854775808 ≤ n) (h1 : n ≤ 9223372036854775807) (hT : PowW w) :
    Calls Tryd.prog 58 #[.int .i64 n, .int .i64 10] w fun e w' => e = .returned (.string ⟨(Lib.itoa n).toArray⟩) ∧ Below w.heap.size w w' :=
  (Tryd.strconv_FormatInt_10 n h0 h1 w hT).mono fun e w' ⟨he, k, os, hw⟩ => ⟨he, by rw [hw]; exact below_growS (below_drewN (Below.refl w.heap.size w) k) (below_drewN (Below.refl w.heap.size w) k).size os⟩
theorem itoa_any (n : Int) (w : World) (h0 : -9223372036854775808 ≤ n) (h1 : n ≤ 9223372036854775807) (hT : PowW w) :
    Calls Tryd.prog 98 #[.int .i64 n] w fun e w' => e = .returned (.string ⟨(Lib.itoa n).toArray⟩) ∧ Below w.heap.size w w' :=
  (Tryd.strconv_Itoa n h0 h1 w hT).mono fun e w' ⟨he, k, os, hw⟩ => ⟨he, by rw [hw]; exact below_growS (below_drewN (Below.refl w.heap.size w) k) (below_drewN (Below.refl w.heap.size w) k).size os⟩
end Go.Proofs.YtmjpecneaenlpaaDoor
namespace Go.Proofs.YtmjpecneaenlpaaDoor
open Go.RowKit
theorem idxS (s : ByteArray) (k : Nat) (x : UInt8) (h : s.data.toList[k]? = some x) (W : World) : (Instr.index 9 (.string s) (.int .i64 (k : Int))).run Tryd.prog W = .ok (.int .u8 (x.toNat : Int)) W := by
  obtain ⟨h1, h2⟩ := List.getElem?_eq_some_iff.1 h
  have h3 : k < s.size := by rw [← ba_size]; exact h1
  rw [run_index_string W _ s _ _ Tryd.underlying9, dif_pos (by omega)]
  have h4 : s[k]'h3 = x := by rw [← h2]; rfl
  simp only [Int.toNat_natCast, h4]
theorem idxS0 (s : ByteArray) (x : UInt8) (h : s.data.toList[0]? = some x) (W : World) : (Instr.index 9 (.string s) (.int .i64 0)).run Tryd.prog W = .ok (.int .u8 (x.toNat : Int)) W := idxS s 0 x h W
theorem sNe {s : ByteArray} (h : s.data.toList ≠ []) : (s.toList == ([] : List UInt8)) = false := by rw [ByteArray.toList_eq]; exact beq_eq_false_iff_ne.2 h
/-- the number that a text says, or 0 -/
def snI (l : List UInt8) : Int := match snum l with
  | some n => (n : Int)
  | none => 0
def SnP (s : ByteArray) (w : World) (e : Ending) (w' : World) : Prop := e = .returned (.tuple #[.int .i64 (snI s.data.toList), .bool (snum s.data.toList).isSome]) ∧ w = w'
theorem snP_no {s : ByteArray} {w : World} (h : snum s.data.toList = none) : SnP s w (.returned (.tuple #[.int .i64 0, .bool false])) w := ⟨by unfold snI; rw [h]; rfl, rfl⟩
theorem snP_yes {s : ByteArray} {w : World} {n : Nat} (h : snum s.data.toList = some n) : SnP s w (.returned (.tuple #[.int .i64 n, .bool true])) w := ⟨by unfold snI; rw [h]; rfl, rfl⟩
theorem digB_no {x : UInt8} (h : x.toNat < 48 ∨ 57 < x.toNat) : digB x = false := by simp [digB]; omega
theorem all_not {l : List UInt8} {k : Nat} {x : UInt8} (h : l[k]? = some x) (hx : digB x = false) : l.all digB = false := by
  rw [List.all_eq_false]
  exact ⟨x, List.mem_of_getElem? h, by rw [hx]; simp⟩
set_option maxRecDepth 20000 in
set_option maxHeartbeats 4000000 in
theorem l01Number_any (s : ByteArray) (w : World) (hs : s.size ≤ 1048576) :
    Calls Tryd.prog 28 #[.string s] w (SnP s w) := by
  by_cases h0 : s.data.toList = []
  · have hF := hide (snP_no (s := s) (w := w) (by unfold snum; rw [if_pos (.inl h0)]))
    have he : s = ⟨#[]⟩ := ByteArray.ext (Array.toList_inj.1 h0)
    subst he
    clear h0
    go_enter Tryd.func28, Tryd.ntmps28
    go_wp2_with fail
    go_ret2
    exact hF.out
  have hne0 := h0
  have hne := sNe h0
  by_cases h1 : 10 < s.size
  · have hF := hide (snP_no (s := s) (w := w) (by unfold snum; rw [if_pos (.inr (.inl (by rw [ba_size]; exact h1)))]))
    have h1i : (10 : Int) < (s.size : Int) := by omega
    clear h0
    go_enter Tryd.func28, Tryd.ntmps28
    go_wp2_with fail
    go_ret2
    exact hF.out
  have h1i : ¬ (10 : Int) < (s.size : Int) := by omega
  obtain ⟨x0, hx0⟩ : ∃ x, s.data.toList[0]? = some x := by
    cases h : s.data.toList with
    | nil => exact absurd h h0
    | cons x r => exact ⟨x, rfl⟩
  have hi0 := idxS0 s x0 hx0
  by_cases h2 : x0 = 48 ∧ 1 < s.size
  · obtain ⟨rfl, h3⟩ := h2
    have hF := hide (snP_no (s := s) (w := w) (by unfold snum; rw [if_pos (.inr (.inr (.inl ⟨by rw [List.head?_eq_getElem?]; exact hx0, by rw [ba_size]; exact h3⟩)))]))
    have h3i : (1 : Int) < (s.size : Int) := by omega
    clear h0 hx0
    go_enter Tryd.func28, Tryd.ntmps28
    go_wp2_with fail
    go_ret2
    exact hF.out
  have HS := hide (show s.data.toList.all digB = true → snum s.data.toList = some (nuV s.data.toList) from fun ha => by
    unfold snum
    rw [if_neg]
    simp only [not_or]
    refine ⟨h0, by rw [ba_size]; omega, fun ⟨a, b⟩ => h2 ⟨?_, by rw [ba_size] at b; exact b⟩, by rw [ha]; simp⟩
    rw [List.head?_eq_getElem?, hx0] at a
    exact Option.some.inj a)
  have HN := hide (show s.data.toList.all digB = false → snum s.data.toList = none from fun ha => by unfold snum; rw [if_pos (.inr (.inr (.inr ha)))])
  have hb48 : ((x0.toNat : Int) = 48 ∧ (1 : Int) < (s.size : Int)) → False := fun ⟨a, b⟩ => h2 ⟨UInt8.toNat_inj.1 (by show x0.toNat = 48; omega), by omega⟩
  clear h0 hx0 h2 hne
  by_cases hx48 : (x0.toNat : Int) = 48
  all_goals
    first
    | have hs1 : ¬ (1 : Int) < (s.size : Int) := fun h => hb48 ⟨hx48, h⟩
    | skip
    clear hb48
    have hne := sNe hne0
    clear hne0
    go_enter Tryd.func28, Tryd.ntmps28
    go_wp2_with fail
    go_loopw [4, 5] (fun v i wr => ∃ k : Nat, k ≤ s.size ∧ i = .int .i64 k ∧ v = .int .i64 (nuV (s.data.toList.take k) : Nat) ∧ (s.data.toList.take k).all digB = true ∧ w = wr)
      (fun _ i _ => s.size - (intOf i).toNat)
    case atStart => exact ⟨0, Nat.zero_le _, rfl, rfl, rfl, rfl⟩
    case round =>
      obtain ⟨k, hk, rfl, rfl, hall, rfl⟩ := hrel
      by_cases hlt : k < s.size
      · have hkl : k < s.data.toList.length := by rw [ba_size]; exact hlt
        obtain ⟨x, hx⟩ : ∃ x, s.data.toList[k] = x := ⟨_, rfl⟩
        have hx2 : s.data.toList[k]? = some x := by rw [List.getElem?_eq_getElem hkl, hx]
        have hix := idxS s k x hx2
        have hki : (k : Int) < (s.size : Int) := by omega
        have hn1 := nuV_lt hall
        have hn2 : 10 ^ (s.data.toList.take k).length ≤ 10 ^ 10 := Nat.pow_le_pow_right (by omega) (by rw [List.length_take, ba_size]; omega)
        have hn3 := nuV_take hkl
        rw [hx] at hn3
        have HT := hide (show digB x = true → (s.data.toList.take (k + 1)).all digB = true from fun hd => by rw [List.take_succ_eq_append_getElem hkl, List.all_append, hall, hx]; simp [hd])
        have HB := hide (fun (hd : digB x = false) => HN.out (all_not hx2 hd))
        generalize nuV (s.data.toList.take k) = n at *
        have hn4 : n < 10000000000 := Nat.lt_of_lt_of_le hn1 hn2
        clear hn1 hn2 hx hx2 hall
        have HN3 := hide hn3
        clear hn3
        by_cases hd1 : x.toNat < 48
        · have hd1i : (x.toNat : Int) < 48 := by omega
          have hF := hide (snP_no (s := s) (w := w) (HB.out (digB_no (.inl hd1))))
          go_wp2_with fail
          go_ret2
          exact hF.out
        by_cases hd2 : 57 < x.toNat
        · have hd1i : ¬ (x.toNat : Int) < 48 := by omega
          have hd2i : (57 : Int) < (x.toNat : Int) := by omega
          have hF := hide (snP_no (s := s) (w := w) (HB.out (digB_no (.inr hd2))))
          go_wp2_with fail
          go_ret2
          exact hF.out
        have hd1i : ¬ (x.toNat : Int) < 48 := by omega
        have hd2i : ¬ (57 : Int) < (x.toNat : Int) := by omega
        have hdx : digB x = true := by simp [digB]; omega
        have HT2 := hide (HT.out hdx)
        have hw1 : IntKind.u8.wrap ((x.toNat : Int) - 48) = ((x.toNat - 48 : Nat) : Int) := by simp [IntKind.wrap, IntKind.signed, IntKind.bits]; omega
        have hw2 : IntKind.i64.wrap ((x.toNat - 48 : Nat) : Int) = ((x.toNat - 48 : Nat) : Int) := IntWalk.i64_in _ (by omega)
        have hw3 : IntKind.i64.wrap (10 * (n : Int)) = 10 * (n : Int) := IntWalk.i64_in _ (by omega)
        have hw4 : IntKind.i64.wrap (10 * (n : Int) + ((x.toNat - 48 : Nat) : Int)) = ((10 * n + (x.toNat - 48) : Nat) : Int) := by rw [IntWalk.i64_in _ (by omega)]; omega
        clear HT hdx
        generalize x.toNat - 48 = d at *
        go_wp2_with fail
        go_roundw
        case rel => exact ⟨k + 1, hlt, by go_num, by rw [HN3.out]; congr 1, HT2.out, trivial⟩
        case measure => simp [intOf]; omega
      · obtain rfl : k = s.size := by omega
        rw [List.take_of_length_le (by rw [ba_size]; exact Nat.le_refl _)] at hall ⊢
        have hF := hide (snP_yes (w := w) (HS.out hall))
        clear hall
        go_wp2_with fail
        go_ret2
        exact hF.out
end Go.Proofs.YtmjpecneaenlpaaDoor
