import Derived.Test.YtmjpecneaenlpaaDoorRxm
import Derived.Test.YtmjpecneaenlpaaDoorGay
import Derived.Test.YtmjpecneaenlpaaDoorGaz
import Derived.Test.YtmjpecneaenlpaaDoorGap
namespace Go.Proofs.YtmjpecneaenlpaaDoor
open Go.RowKit
def SmP (s : ByteArray) (w : World) (e : Ending) (w' : World) : Prop := e = .returned (.tuple #[.int .i8 (smI s.data.toList), .bool (ssm s.data.toList).isSome]) ∧ w = w'
theorem smP_no {s : ByteArray} {w : World} (h : ssm s.data.toList = none) : SmP s w (.returned (.tuple #[.int .i8 0, .bool false])) w := ⟨by unfold smI; rw [h]; rfl, rfl⟩
theorem smP_yes {s : ByteArray} {w : World} {v : Int} (h : ssm s.data.toList = some v) : SmP s w (.returned (.tuple #[.int .i8 v, .bool true])) w := ⟨by unfold smI; rw [h]; rfl, rfl⟩
theorem ssm_minus {x r : List UInt8} (h : x = 45 :: r) (hr : r ≠ []) : ssm x = if (snum r).isSome = true ∧ snI r ≤ 99 ∧ ¬ snI r = 0 then some (-(snI r)) else none := by
  subst h
  unfold ssm snI
  have hl := List.length_pos_iff.2 hr
  rw [if_pos ⟨by rw [List.length_cons]; omega, rfl⟩]
  simp only [List.drop_succ_cons, List.drop_zero]
  cases h1 : snum r with
  | none => simp
  | some n =>
    simp only [Option.isSome_some, true_and]
    by_cases hb : n ≤ 99 ∧ n ≠ 0
    · rw [if_pos hb, if_pos (by omega)]
    · rw [if_neg hb, if_neg (by omega)]
theorem ssm_plain {x : List UInt8} (h : ¬ (1 < x.length ∧ x.head? = some 45)) : ssm x = if (snum x).isSome = true ∧ snI x ≤ 99 then some (snI x) else none := by
  unfold ssm snI
  rw [if_neg h]
  cases h1 : snum x with
  | none => simp
  | some n =>
    simp only [Option.isSome_some, true_and]
    by_cases hb : n ≤ 99
    · rw [if_pos hb, if_pos (by omega)]
    · rw [if_neg hb, if_neg (by omega)]
theorem snI_ge (b : List UInt8) : 0 ≤ snI b := by
  unfold snI
  split <;> omega
set_option maxRecDepth 20000 in
set_option maxHeartbeats 4000000 in
theorem l07ReadSmall_any (s : ByteArray) (w : World) (hs : s.size ≤ 1048576) :
    Calls Tryd.prog 42 #[.string s] w (SmP s w) := by
  have KN := fun (x : ByteArray) (hx : x.size ≤ 1048576) => l01Number_any x w hx
  unfold SnP at KN
  by_cases hm : 1 < s.size ∧ s.data.toList.head? = some 45
  · obtain ⟨h1, h2⟩ := hm
    obtain ⟨r, hr⟩ : ∃ r, s.data.toList = 45 :: r := by
      cases h : s.data.toList with
      | nil => rw [h] at h2; cases h2
      | cons y r => rw [h] at h2; obtain rfl := Option.some.inj h2; exact ⟨r, rfl⟩
    have hxn : s.size = r.length + 1 := by rw [← ba_size, hr]; rfl
    have hrn : r ≠ [] := fun e => by rw [e] at hxn; simp at hxn; omega
    have hix := idxS0 s 45 (by rw [hr]; rfl)
    have hrd : (s.extract 1 s.size).data.toList = r := by rw [ex_data, hr, List.drop_succ_cons, List.drop_zero, List.take_of_length_le (by omega)]
    have HM := hide (ssm_minus hr hrn)
    obtain ⟨y, hy⟩ : ∃ y, y = s.extract 1 s.size := ⟨_, rfl⟩
    have KN1 := KN y (by rw [hy, ByteArray.size_extract]; omega)
    have hg := snI_ge r
    rw [← hy] at hrd
    rw [hrd] at KN1
    have h1i : (1 : Int) < (s.size : Int) := by omega
    have h1j : (1 : Int) ≤ (s.size : Int) := by omega
    clear KN hrd hxn hrn hr h2
    generalize snI r = N at *
    generalize (snum r).isSome = O at *
    cases O
    · have HF := hide (smP_no (w := w) (HM.out.trans (if_neg (by simp))))
      go_enter Tryd.func42, Tryd.ntmps42
      go_wp2_with fail
      rw [← hy]
      refine KN1.mono ?_
      rintro e w' ⟨rfl, rfl⟩
      go_wp2_with fail
      go_ret2
      exact HF.out
    · by_cases h99 : N ≤ 99
      · by_cases h0 : N = 0
        · have HF := hide (smP_no (w := w) (HM.out.trans (if_neg (fun h => h.2.2 h0))))
          subst h0
          go_enter Tryd.func42, Tryd.ntmps42
          go_wp2_with fail
          rw [← hy]
          refine KN1.mono ?_
          rintro e w' ⟨rfl, rfl⟩
          go_wp2_with fail
          go_ret2
          exact HF.out
        · have HF := hide (smP_yes (w := w) (HM.out.trans (if_pos ⟨rfl, h99, h0⟩)))
          have hw1 : IntKind.i64.wrap (-N) = -N := IntWalk.i64_in _ (by omega)
          have hw2 : IntKind.i8.wrap (-N) = -N := by simp [IntKind.wrap, IntKind.signed, IntKind.bits]; omega
          have h0b : (N == 0) = false := beq_eq_false_iff_ne.2 h0
          go_enter Tryd.func42, Tryd.ntmps42
          go_wp2_with fail
          rw [← hy]
          refine KN1.mono ?_
          rintro e w' ⟨rfl, rfl⟩
          go_wp2_with fail
          go_ret2
          exact HF.out
      · have HF := hide (smP_no (w := w) (HM.out.trans (if_neg (fun h => h99 h.2.1))))
        go_enter Tryd.func42, Tryd.ntmps42
        go_wp2_with fail
        rw [← hy]
        refine KN1.mono ?_
        rintro e w' ⟨rfl, rfl⟩
        go_wp2_with fail
        go_ret2
        exact HF.out
  · have HM := hide (ssm_plain (by rw [ba_size]; exact hm))
    have KN1 := KN s hs
    have hg := snI_ge s.data.toList
    have hcase : (∃ h : 1 < s.size, ∃ x0 : UInt8, s.data.toList[0]? = some x0 ∧ ¬ (x0.toNat : Int) = 45) ∨ ¬ 1 < s.size := by
      by_cases h1 : 1 < s.size
      · left
        refine ⟨h1, ?_⟩
        cases h : s.data.toList with
        | nil => have := ba_size s; rw [h, List.length_nil] at this; omega
        | cons y r => exact ⟨y, rfl, fun e => hm ⟨h1, by rw [h]; show some y = some 45; rw [UInt8.toNat_inj.1 (show y.toNat = (45 : UInt8).toNat by show y.toNat = 45; omega)]⟩⟩
      · exact .inr h1
    clear KN hm
    generalize snI s.data.toList = N at *
    generalize (snum s.data.toList).isSome = O at *
    rcases hcase with ⟨h1, x0, hx0, h45⟩ | h1
    · have hix := idxS0 s x0 hx0
      have h1i : (1 : Int) < (s.size : Int) := by omega
      clear hx0
      generalize x0.toNat = xn at *
      have h45b : ((xn : Int) == 45) = false := beq_eq_false_iff_ne.2 h45
      cases O
      · have HF := hide (smP_no (w := w) (HM.out.trans (if_neg (by simp))))
        go_enter Tryd.func42, Tryd.ntmps42
        go_wp2_with fail
        refine KN1.mono ?_
        rintro e w' ⟨rfl, rfl⟩
        go_wp2_with fail
        go_ret2
        exact HF.out
      · by_cases h99 : N ≤ 99
        · have HF := hide (smP_yes (w := w) (HM.out.trans (if_pos ⟨rfl, h99⟩)))
          have hw2 : IntKind.i8.wrap N = N := by simp [IntKind.wrap, IntKind.signed, IntKind.bits]; omega
          go_enter Tryd.func42, Tryd.ntmps42
          go_wp2_with fail
          refine KN1.mono ?_
          rintro e w' ⟨rfl, rfl⟩
          go_wp2_with fail
          go_ret2
          exact HF.out
        · have HF := hide (smP_no (w := w) (HM.out.trans (if_neg (fun h => h99 h.2))))
          go_enter Tryd.func42, Tryd.ntmps42
          go_wp2_with fail
          refine KN1.mono ?_
          rintro e w' ⟨rfl, rfl⟩
          go_wp2_with fail
          go_ret2
          exact HF.out
    · have h1i : ¬ (1 : Int) < (s.size : Int) := by omega
      cases O
      · have HF := hide (smP_no (w := w) (HM.out.trans (if_neg (by simp))))
        go_enter Tryd.func42, Tryd.ntmps42
        go_wp2_with fail
        refine KN1.mono ?_
        rintro e w' ⟨rfl, rfl⟩
        go_wp2_with fail
        go_ret2
        exact HF.out
      · by_cases h99 : N ≤ 99
        · have HF := hide (smP_yes (w := w) (HM.out.trans (if_pos ⟨rfl, h99⟩)))
          have hw2 : IntKind.i8.wrap N = N := by simp [IntKind.wrap, IntKind.signed, IntKind.bits]; omega
          go_enter Tryd.func42, Tryd.ntmps42
          go_wp2_with fail
          refine KN1.mono ?_
          rintro e w' ⟨rfl, rfl⟩
          go_wp2_with fail
          go_ret2
          exact HF.out
        · have HF := hide (smP_no (w := w) (HM.out.trans (if_neg (fun h => h99 h.2))))
          go_enter Tryd.func42, Tryd.ntmps42
          go_wp2_with fail
          refine KN1.mono ?_
          rintro e w' ⟨rfl, rfl⟩
          go_wp2_with fail
          go_ret2
          exact HF.out
end Go.Proofs.YtmjpecneaenlpaaDoor
namespace Go.Proofs.YtmjpecneaenlpaaDoor
open Go.RowKit
theorem itoa_neg' {n : Int} (h : n < 0) : Lib.itoa n = 45 :: Lib.decDigits (-n).toNat := by
  unfold Lib.itoa; rw [if_pos h]; congr 2; omega
theorem itoa_pos' {n : Int} (h : ¬ n < 0) : Lib.itoa n = Lib.decDigits n.toNat := by
  unfold Lib.itoa; rw [if_neg h]
theorem xcB_in {a : Bool} {l o t : Int} (h : xcB a l o t = true) : (-3 ≤ l ∧ l ≤ 3) ∧ (-1 ≤ o ∧ o ≤ 1) ∧ (0 ≤ t ∧ t ≤ 23) := by
  cases a
  · simp [xcB, inB] at h; omega
  · simp [xcB] at h; omega
end Go.Proofs.YtmjpecneaenlpaaDoor
