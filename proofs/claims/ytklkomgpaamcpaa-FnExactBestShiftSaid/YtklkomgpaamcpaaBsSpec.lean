import Derived.Test.YtklkomgpaamcpaaCnAll
namespace Go.Proofs.Ytklkomgpaamcpaa
open Go.RowKit Go.Maps

/-- the shifts in their order: 0, 1, -1, 2, -2, .. -/
def ord (t : Nat) : Int := if t % 2 = 1 then ((t / 2 + 1 : Nat) : Int) else -((t / 2 : Nat) : Int)
/-- the best shift among the first t, and how many notes it has in common -/
def bst (f : Int → Nat) : Nat → Int × Nat
  | 0 => (0, 0)
  | t + 1 => if (bst f t).2 < f (ord t) then (ord t, f (ord t)) else bst f t
theorem bst_succ (f : Int → Nat) (t : Nat) : bst f (t + 1) = if (bst f t).2 < f (ord t) then (ord t, f (ord t)) else bst f t := rfl
theorem ord_zero : ord 0 = 0 := rfl
theorem bst_one (f : Int → Nat) : bst f 1 = (0, f 0) := by
  show (if (0 : Nat) < f (ord 0) then (ord 0, f (ord 0)) else (0, 0)) = (0, f 0)
  rw [ord_zero]
  by_cases h : 0 < f 0
  · rw [if_pos h]
  · rw [if_neg h, show f 0 = 0 by omega]
theorem ord_of (s j : Nat) (g z : Int) (hj : j < 2) (hg : g = 1 - 2 * j) (hz : z = s + 1) : ord (2 * s + 1 + j) = g * z := by
  subst hg hz
  unfold ord
  obtain rfl | rfl : j = 0 ∨ j = 1 := by omega
  · rw [if_pos (by omega)]; simp; omega
  · rw [if_neg (by omega)]; simp; omega
def bsF (l m : List (Int × Int)) (s : Int) : Nat := cpC l m s l.length
def bs1 (l m : List (Int × Int)) : Int := if okB l = true ∧ okB m = true then (bst (bsF l m) 401).1 else 0
def bs2 (l m : List (Int × Int)) : Int := if okB l = true ∧ okB m = true then ((bst (bsF l m) 401).2 : Int) else 0

set_option maxHeartbeats 4000000 in
theorem specShift_yes (A B : Option Addr) (c d : Nat) (l m : List (Int × Int)) (w : World) (hA : NA w A l) (hB : NA w B m) (hn : l.length ≤ 1048576) (hn' : m.length ≤ 1048576) (hwf : WF l) (hwg : WF m) (hok : okB l = true) (hok' : okB m = true) :
    Calls Try.prog 34 #[.slice A l.length c, .slice B m.length d] w (Trip (.int .i64 (bst (bsF l m) 401).1) (.int .i64 ((bst (bsF l m) 401).2 : Nat)) (.int .i64 0) w) := by
  have HV := hide (show bothI l m = 0 by simp [bothI, hok, hok'])
  have HOK := hide hok
  have HOM := hide hok'
  have H1 := hide (bst_one (bsF l m))
  clear hok hok'
  go_enter Try.func34, Try.ntmps34
  go_wp2_with fail
  refine (l01Both_any A B c d l m _ hA hB hn hn' hwf hwg).mono ?_
  rintro e w1 ⟨rfl, hb⟩
  rw [HV.out]
  go_wp2_with fail
  refine (l01Common_yes A B c d l m 0 _ (hA.below hb) (hB.below hb) HOK.out HOM.out (by omega)).mono ?_
  rintro e w2 ⟨rfl, hb2⟩
  have hbw := hb.trans (hb2.mono hb.size)
  obtain ⟨f, hf⟩ : ∃ f, bsF l m = f := ⟨_, rfl⟩
  have HF := hide hf
  have hf0 : (cpC l m 0 l.length : Int) = (f 0 : Nat) := by rw [← hf]; rfl
  rw [hf0]
  rw [hf] at H1 ⊢
  clear hf hf0
  go_wp2_with fail
  go_loopw [8, 9, 10] (fun x y i wr => ∃ (s : Nat) (bb mm : Int), s ≤ 200 ∧ i = .int .i64 (s + 1) ∧ x = .int .i64 bb ∧ y = .int .i64 mm ∧ Hid (bb = (bst f (2 * s + 1)).1) ∧ Hid (mm = ((bst f (2 * s + 1)).2 : Int)) ∧ Below w.heap.size w wr)
    (fun _ _ i _ => 201 - (intOf i).toNat)
  case atStart => exact ⟨0, _, _, by omega, rfl, rfl, rfl, hide (by rw [H1.out]), hide (by rw [H1.out]), hbw⟩
  case round =>
    obtain ⟨s, bb, mm, hs, rfl, rfl, rfl, HB, HM, hbr⟩ := hrel
    by_cases hlt : s < 200
    · have hz0 : (s : Int) + 1 ≤ 200 := by omega
      go_wp2
      obtain ⟨wo, rfl⟩ : ∃ wo : World, wo = wr := ⟨_, rfl⟩
      go_loopw [8, 9, 11] (fun x y i wq => ∃ (j : Nat) (g bb mm : Int), j ≤ 2 ∧ i = .int .i64 g ∧ Hid (g = 1 - 2 * j) ∧ x = .int .i64 bb ∧ y = .int .i64 mm ∧ Hid (bb = (bst f (2 * s + 1 + j)).1) ∧ Hid (mm = ((bst f (2 * s + 1 + j)).2 : Int)) ∧ Below wo.heap.size wo wq)
        (fun _ _ i _ => (3 + intOf i).toNat)
      case atStart => exact ⟨0, 1, _, _, by omega, rfl, hide (by omega), rfl, rfl, hide HB.out, hide HM.out, Below.refl _ _⟩
      case round =>
        obtain ⟨j, g, b2, m2, hj, rfl, HG, rfl, rfl, HB2, HM2, hbq⟩ := hrel
        have hbx := hbr.trans (hbq.mono hbr.size)
        by_cases hlt2 : j < 2
        · have hg0 : -1 ≤ g ∧ g ≤ 1 := by have := HG.out; omega
          obtain ⟨hg1, hg2⟩ := hg0
          have ho := ord_of s j g (s + 1) hlt2 HG.out rfl
          obtain ⟨o, hoo⟩ : ∃ o, ord (2 * s + 1 + j) = o := ⟨_, rfl⟩
          have hor : -200 ≤ o ∧ o ≤ 200 := by
            have h1 := HG.out
            rw [hoo] at ho
            obtain rfl | rfl : j = 0 ∨ j = 1 := by omega
            · have : g = 1 := by omega
              subst this; omega
            · have : g = -1 := by omega
              subst this; omega
          obtain ⟨ho1, ho2⟩ := hor
          have hs1 : IntKind.i64.wrap (g * ((s : Int) + 1)) = o := by rw [← ho, hoo]; exact IntWalk.i64_in _ (by omega)
          have hs2 : IntKind.i64.wrap (g - 2) = g - 2 := IntWalk.i64_in _ (by omega)
          have hd : decide (-1 ≤ g) = true := decide_eq_true hg1
          have HST := hide (bst_succ f (2 * s + 1 + j))
          rw [hoo] at HST
          clear ho hoo
          go_wp2_with fail
          refine (l01Common_yes A B c d l m o _ (hA.below hbx) (hB.below hbx) HOK.out HOM.out ⟨ho1, ho2⟩).mono ?_
          rintro e w3 ⟨rfl, hb3⟩
          have hbz := hbq.trans (hb3.mono hbq.size)
          have hfo : (cpC l m o l.length : Int) = (f o : Nat) := by rw [← HF.out]; rfl
          rw [hfo]
          clear hfo
          by_cases hc : m2 < (f o : Int)
          · have hc1 : decide (m2 < (f o : Int)) = true := decide_eq_true hc
            have HC := hide hc
            clear hc
            go_wp2_with fail
            go_roundw
            case rel => exact ⟨j + 1, _, _, _, hlt2, rfl, hide (by have := HG.out; omega), rfl, rfl, hide (by rw [show 2 * s + 1 + (j + 1) = 2 * s + 1 + j + 1 by omega, HST.out, if_pos (by have := HC.out; have := HM2.out; omega)]), hide (by rw [show 2 * s + 1 + (j + 1) = 2 * s + 1 + j + 1 by omega, HST.out, if_pos (by have := HC.out; have := HM2.out; omega)]), hbz⟩
            case measure => simp [intOf]; omega
          · have hc1 : decide (m2 < (f o : Int)) = false := decide_eq_false hc
            have HC := hide hc
            clear hc
            go_wp2_with fail
            go_roundw
            case rel => exact ⟨j + 1, _, _, _, hlt2, rfl, hide (by have := HG.out; omega), rfl, rfl, hide (by rw [show 2 * s + 1 + (j + 1) = 2 * s + 1 + j + 1 by omega, HST.out, if_neg (by have := HC.out; have := HM2.out; omega)]; exact HB2.out), hide (by rw [show 2 * s + 1 + (j + 1) = 2 * s + 1 + j + 1 by omega, HST.out, if_neg (by have := HC.out; have := HM2.out; omega)]; exact HM2.out), hbz⟩
            case measure => simp [intOf]; omega
        · obtain rfl : j = 2 := by omega
          have hd : decide (-1 ≤ g) = false := by have := HG.out; simp; omega
          go_wp2_with fail
          go_roundw
          case rel => exact ⟨s + 1, _, _, hlt, by go_num, rfl, rfl, hide (by rw [show 2 * (s + 1) + 1 = 2 * s + 1 + 2 by omega]; exact HB2.out), hide (by rw [show 2 * (s + 1) + 1 = 2 * s + 1 + 2 by omega]; exact HM2.out), hbx⟩
          case measure => simp [intOf]; omega
    · obtain rfl : s = 200 := by omega
      have HB' : Hid (bb = (bst f 401).1) := hide HB.out
      have HM' : Hid (mm = ((bst f 401).2 : Int)) := hide HM.out
      go_wp2
      go_ret3
      exact ⟨by rw [HF.out, ← HB'.out, ← HM'.out]; rfl, hbr⟩
end Go.Proofs.Ytklkomgpaamcpaa
