import Derived.Test.YtghkcfghkbihcaaTfm
namespace Go.Proofs.Ytghkcfghkbihcaa
open Go.RowKit
set_option maxRecDepth 20000 in
set_option maxHeartbeats 4000000 in
theorem specTransposeFor_any (x : Int) (A : Option Addr) (c : Nat) (l : List (Int × Int)) (w : World) (hA : NA w A l) (hn : l.length ≤ 1048576) (hwf : WF l) :
    Calls Try.prog 6 #[.int .u64 x, .slice A l.length c] w (Pair (.int .i64 (tfV x l)) (.int .i64 (tfC x l)) w) := by
  have KO := l01Ok_any A c l w hA hn hwf
  cases ho : okB l
  · rw [ho] at KO
    have HX := hide (show tfV x l = 0 by simp [tfV, tfX, ho])
    have HC := hide (show tfC x l = 1 by simp [tfC, ho])
    clear ho
    go_enter Try.func6, Try.ntmps6
    go_wp2_with fail
    refine KO.mono ?_
    rintro e w1 ⟨rfl, hb1⟩
    go_wp2
    go_ret2
    exact ⟨by rw [HX.out, HC.out] <;> rfl, hb1⟩
  rw [ho] at KO
  have HX := hide (show tfX x l = (orws 97).find? (tfB x l) by simp [tfX, ho])
  have HC := hide (show tfC x l = if (tfX x l).isSome then 0 else 6 by simp [tfC, ho])
  clear ho
  have KC := hide (fun (m : Int) (W : World) (hm : -48 ≤ m ∧ m ≤ 48) (hW : Below w.heap.size w W) => (show Calls Try.prog 15 #[.slice A l.length c, .int .i64 0, .int .i64 m] W (OwnB W (chW (shP 0 m) l) (chO (shP 0 m) l l.length)) from l01Changed_any 0 m A c l W (hA.below hW) hn hwf (by omega) (by omega)))
  obtain ⟨f, hf⟩ : ∃ f, f = tfB x l := ⟨_, rfl⟩
  have HF := hide hf
  rw [← hf] at HX
  clear hf
  go_enter Try.func6, Try.ntmps6
  go_wp2_with fail
  refine KO.mono ?_
  rintro e w1 ⟨rfl, hb1⟩
  clear KO
  go_wp2_with fail
  go_loopw [6] (fun i wr => ∃ s : Nat, s ≤ 49 ∧ i = .int .i64 s ∧ Hid (badTo f s) ∧ Below w.heap.size w wr) (fun i _ => 50 - (intOf i).toNat)
  case atStart => exact ⟨0, by omega, rfl, hide (bad_zero f), hb1⟩
  case round =>
    obtain ⟨s, hs, rfl, HB, hbr⟩ := hrel
    by_cases hlt : s ≤ 48
    · have hz0 : (s : Int) ≤ 48 := by omega
      go_wp2
      obtain ⟨wo, rfl⟩ : ∃ wo : World, wo = wr := ⟨_, rfl⟩
      go_loopw [7] (fun i wq => ∃ (j : Nat) (g : Int), j ≤ 2 ∧ i = .int .i64 g ∧ Hid (g = 1 - 2 * j) ∧ Hid (1 ≤ j → f s = false) ∧ Hid (2 ≤ j → f (-(s : Int)) = false) ∧ Below wo.heap.size wo wq)
        (fun i _ => (3 + intOf i).toNat)
      case atStart => exact ⟨0, 1, by omega, rfl, hide (by omega), hide (by omega), hide (by omega), Below.refl _ _⟩
      case round =>
        obtain ⟨j, g, hj, rfl, HG, H1, H2, hbq⟩ := hrel
        have hbx := hbr.trans (hbq.mono hbr.size)
        by_cases hlt2 : j < 2
        · have hg0 : -1 ≤ g ∧ g ≤ 1 := by have := HG.out; omega
          obtain ⟨hg1, hg2⟩ := hg0
          obtain ⟨o, hoo⟩ : ∃ o, g * (s : Int) = o := ⟨_, rfl⟩
          have hoc : (j = 0 ∧ o = s) ∨ (j = 1 ∧ o = -(s : Int)) := by
            have h1 := HG.out
            obtain rfl | rfl : j = 0 ∨ j = 1 := by omega
            · left; refine ⟨rfl, ?_⟩
              have : g = 1 := by omega
              rw [← hoo, this, Int.one_mul]
            · right; refine ⟨rfl, ?_⟩
              have : g = -1 := by omega
              rw [← hoo, this]; omega
          have hor : -48 ≤ o ∧ o ≤ 48 := by omega
          obtain ⟨ho1, ho2⟩ := hor
          have hs1 : IntKind.i64.wrap (g * (s : Int)) = o := by rw [hoo]; exact IntWalk.i64_in _ (by omega)
          have hs2 : IntKind.i64.wrap (g - 2) = g - 2 := IntWalk.i64_in _ (by omega)
          have hd : decide (-1 ≤ g) = true := decide_eq_true hg1
          have HOC := hide hoc
          have K := KC.out o _ ⟨ho1, ho2⟩ hbx
          have hFo : f o = (chO (shP 0 o) l l.length && (misI x (chL (shP 0 o) l l.length) == 0)) := by rw [HF.out]; rfl
          clear hoo hoc
          have NEXT : f o = false → (1 ≤ j + 1 → f s = false) ∧ (2 ≤ j + 1 → f (-(s : Int)) = false) := fun h => by
            rcases HOC.out with ⟨e, e'⟩ | ⟨e, e'⟩
            · exact ⟨fun _ => by rw [← e']; exact h, fun _ => by omega⟩
            · exact ⟨fun _ => H1.out (by omega), fun _ => by rw [← e']; exact h⟩
          cases hc : chO (shP 0 o) l l.length
          · rw [hc] at K hFo
            obtain ⟨V, hV⟩ : ∃ V, V = chW (shP 0 o) l := ⟨_, rfl⟩
            rw [← hV] at K
            obtain ⟨N1, N2⟩ := NEXT hFo
            have HN1 := hide N1
            have HN2 := hide N2
            clear hV hc hFo NEXT N1 N2
            go_wp2_with fail
            refine K.mono ?_
            rintro e w3 ⟨C, q, rfl, own3, hb3⟩
            have hbz := hbq.trans (hb3.mono hbq.size)
            clear K
            go_wp2_with fail
            go_roundw
            case rel => exact ⟨j + 1, _, hlt2, rfl, hide (by have := HG.out; omega), hide HN1.out, hide HN2.out, hbz⟩
            case measure => simp [intOf]; omega
          · have hin := chL_in hc
            have hVl : (chL (shP 0 o) l l.length).length ≤ 1048576 := by rw [chL_len]; exact hn
            rw [show chW (shP 0 o) l = chL (shP 0 o) l l.length by simp [chW, hc], hc] at K
            rw [hc, Bool.true_and] at hFo
            obtain ⟨V, hVV⟩ : ∃ V, V = chL (shP 0 o) l l.length := ⟨_, rfl⟩
            rw [← hVV] at K hFo hin hVl
            have KM := hide (fun (W' : World) (C1 : Option Addr) (q1 : Nat) (h : NA W' C1 V) => specPitches_any C1 q1 V W' h hVl hin)
            have hmd : misI x V = bits .andNot .u64 (pitI V) x := rfl
            obtain ⟨pv, hpv⟩ : ∃ pv, pv = pitI V := ⟨_, rfl⟩
            rw [← hpv] at KM hmd
            rw [hmd] at hFo
            clear hVV hin hVl hc hpv hmd
            cases hm : (bits .andNot .u64 pv x == 0)
            · rw [hm] at hFo
              obtain ⟨N1, N2⟩ := NEXT hFo
              have HN1 := hide N1
              have HN2 := hide N2
              clear hFo NEXT N1 N2
              go_wp2_with fail
              refine K.mono ?_
              rintro e w3 ⟨C, q, rfl, own3, hb3⟩
              have hbz := hbq.trans (hb3.mono hbq.size)
              clear K
              go_wp2_with fail
              refine (KM.out _ C q (NA.of_own own3)).mono ?_
              rintro e w4 ⟨rfl, rfl⟩
              go_wp2_with fail
              go_roundw
              case rel => exact ⟨j + 1, _, hlt2, rfl, hide (by have := HG.out; omega), hide HN1.out, hide HN2.out, hbz⟩
              case measure => simp [intOf]; omega
            · rw [hm] at hFo
              have hyes : tfX x l = some o := by
                rw [HX.out]
                rcases HOC.out with ⟨e, e'⟩ | ⟨e, e'⟩
                · rw [e'] at hFo ⊢; exact find_pos hlt HB.out hFo
                · rw [e'] at hFo ⊢; exact find_neg hlt HB.out (H1.out (by omega)) hFo
              have HV := hide (show tfV x l = o by rw [tfV, hyes]; rfl)
              have HC0 := hide (show tfC x l = 0 by rw [HC.out, hyes]; rfl)
              clear hFo NEXT hyes
              go_wp2_with fail
              refine K.mono ?_
              rintro e w3 ⟨C, q, rfl, own3, hb3⟩
              have hbz := hbr.trans ((hbq.trans (hb3.mono hbq.size)).mono hbr.size)
              clear K
              go_wp2_with fail
              refine (KM.out _ C q (NA.of_own own3)).mono ?_
              rintro e w4 ⟨rfl, rfl⟩
              go_wp2_with fail
              go_ret2
              exact ⟨by rw [HV.out, HC0.out] <;> rfl, hbz⟩
        · obtain rfl : j = 2 := by omega
          have hd : decide (-1 ≤ g) = false := by have := HG.out; simp; omega
          go_wp2_with fail
          go_roundw
          case rel => exact ⟨s + 1, by omega, by go_num, hide (bad_succ HB.out (H1.out (by omega)) (H2.out (by omega))), hbx⟩
          case measure => simp [intOf]; omega
    · obtain rfl : s = 49 := by omega
      have hno : tfX x l = none := by rw [HX.out]; exact find_no HB.out
      have HV := hide (show tfV x l = 0 by rw [tfV, hno]; rfl)
      have HC6 := hide (show tfC x l = 6 by rw [HC.out, hno]; rfl)
      clear hno
      go_wp2
      go_ret2
      exact ⟨by rw [HV.out, HC6.out] <;> rfl, hbr⟩
end Go.Proofs.Ytghkcfghkbihcaa
