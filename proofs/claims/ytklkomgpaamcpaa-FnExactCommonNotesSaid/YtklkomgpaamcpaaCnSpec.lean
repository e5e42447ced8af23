import Derived.Test.YtklkomgpaamcpaaCn
namespace Go.Proofs.Ytklkomgpaamcpaa
open Go.RowKit Go.Maps

def One (x : Value) (w : World) (e : Ending) (w' : World) : Prop := e = .returned x ∧ Below w.heap.size w w'
theorem len_of (l : List (Int × Int)) (h : okB l = true) : l.length ≤ 120 := by
  rw [okB_eq] at h
  simp only [Bool.and_eq_true, decide_eq_true_eq] at h
  exact h.1.1
theorem cpC_bound (l m : List (Int × Int)) (s : Int) (i k : Nat) (hi : i < 120) (hm : m.length ≤ 120) (hk : k ≤ 120) : cpC l m s i + rowC l m s i k ≤ 14400 := by
  have h1 := cpC_le l m s i
  have h2 := rowC_le l m s i k
  have h3 : i * m.length ≤ 119 * 120 := Nat.mul_le_mul (by omega) hm
  omega

def bothI (l m : List (Int × Int)) : Int := if okB l = true ∧ okB m = true then 0 else 1
set_option maxHeartbeats 2000000 in
theorem l01Both_any (A B : Option Addr) (c d : Nat) (l m : List (Int × Int)) (w : World) (hA : NA w A l) (hB : NA w B m) (hn : l.length ≤ 1048576) (hn' : m.length ≤ 1048576) (hwf : WF l) (hwg : WF m) :
    Calls Try.prog 49 #[.slice A l.length c, .slice B m.length d] w (One (.int .i64 (bothI l m)) w) := by
  go_enter Try.func49, Try.ntmps49
  go_wp2_with fail
  refine (l01Ok_any A c l _ hA hn hwf).mono ?_
  rintro e w1 ⟨rfl, hb⟩
  cases hok : okB l
  · have HV := hide (show bothI l m = 1 by simp [bothI, hok])
    have H4 := hide (congrArg (!·) hok)
    clear hok
    go_wp2
    go_ret
    exact ⟨by rw [HV.out]; rfl, hb⟩
  · go_wp2_with fail
    refine (l01Ok_any B d m _ (hB.below hb) hn' hwg).mono ?_
    rintro e w2 ⟨rfl, hb2⟩
    cases hok' : okB m
    · have HV := hide (show bothI l m = 1 by simp [bothI, hok'])
      clear hok hok'
      go_wp2
      go_ret
      exact ⟨by rw [HV.out]; rfl, hb.trans (hb2.mono hb.size)⟩
    · have HV := hide (show bothI l m = 0 by simp [bothI, hok, hok'])
      clear hok hok'
      go_wp2
      go_ret
      exact ⟨by rw [HV.out]; rfl, hb.trans (hb2.mono hb.size)⟩

set_option maxHeartbeats 4000000 in
set_option maxRecDepth 100000 in
theorem l01Common_yes (A B : Option Addr) (c d : Nat) (l m : List (Int × Int)) (s : Int) (w : World) (hA : NA w A l) (hB : NA w B m) (hok : okB l = true) (hok' : okB m = true) (hs : -200 ≤ s ∧ s ≤ 200) :
    Calls Try.prog 50 #[.slice A l.length c, .slice B m.length d, .int .i64 s] w (One (.int .i64 (cpC l m s l.length)) w) := by
  have HIN := hide (inRange_of l hok)
  have HIM := hide (inRange_of m hok')
  have hl := len_of l hok
  have hm := len_of m hok'
  obtain ⟨hs0, hs1⟩ := hs
  clear hok hok'
  go_enter Try.func50, Try.ntmps50
  go_wp2
  go_loopw [7, 8] (fun x i wr => ∃ (n : Nat) (xx : Int), n ≤ l.length ∧ i = .int .i64 n ∧ x = .int .i64 xx ∧ Hid (xx = (cpC l m s n : Int)) ∧ Below w.heap.size w wr)
    (fun _ i _ => l.length - (intOf i).toNat)
  case atStart => exact ⟨0, 0, Nat.zero_le _, rfl, rfl, hide rfl, Below.refl _ _⟩
  case round =>
    obtain ⟨n, xx, hnl, rfl, rfl, HX, hbr⟩ := hrel
    by_cases hlt : n < l.length
    · obtain ⟨b, o, rfl, hbb, c1, c2⟩ := hA n hlt
      have hn0 : (0 : Int) ≤ (n : Int) := by omega
      have hn1 : (n : Int) < (l.length : Int) := by omega
      obtain ⟨⟨e1, e2⟩, _, _⟩ : (0 ≤ nAt l n ∧ nAt l n ≤ 199) ∧ 0 ≤ nPi l n ∧ nPi l n ≤ 47 := by simpa [noteB] using HIN.out n hlt
      go_wp2
      obtain ⟨wo, rfl⟩ : ∃ wo : World, wo = wr := ⟨_, rfl⟩
      go_loopw [7, 9] (fun x i wq => ∃ (k : Nat) (xx : Int), k ≤ m.length ∧ i = .int .i64 k ∧ x = .int .i64 xx ∧ Hid (xx = ((cpC l m s n + rowC l m s n k : Nat) : Int)) ∧ Below wo.heap.size wo wq)
        (fun _ i _ => m.length - (intOf i).toNat)
      case atStart => exact ⟨0, xx, Nat.zero_le _, rfl, rfl, hide (by rw [HX.out]; simp [rowC]), Below.refl _ _⟩
      case round =>
        obtain ⟨k, x, hkm, rfl, rfl, HY, hbq⟩ := hrel
        have hsr := hbr.size
        by_cases hlt2 : k < m.length
        · obtain ⟨b', o', rfl, hbb', c3, c4⟩ := hB k hlt2
          have hbx := hbr.trans (hbq.mono hsr)
          have d1 := Later.cell ((hbx.cell (p := ⟨b, o + n * 2, none⟩) hbb).trans c1)
          have d2 := Later.cell ((hbx.cell (p := ⟨b, o + n * 2 + 1, none⟩) hbb).trans c2)
          have d3 := Later.cell ((hbx.cell (p := ⟨b', o' + k * 2, none⟩) hbb').trans c3)
          have d4 := Later.cell ((hbx.cell (p := ⟨b', o' + k * 2 + 1, none⟩) hbb').trans c4)
          obtain ⟨⟨e3, e4⟩, _, _⟩ : (0 ≤ nAt m k ∧ nAt m k ≤ 199) ∧ 0 ≤ nPi m k ∧ nPi m k ≤ 47 := by simpa [noteB] using HIM.out k hlt2
          have hm0 : (0 : Int) ≤ (k : Int) := by omega
          have hm1 : (k : Int) < (m.length : Int) := by omega
          have hcb := cpC_bound l m s n k (by omega) hm (by omega)
          have hx : 0 ≤ x ∧ x ≤ 14400 := by have := HY.out; omega
          obtain ⟨hx0, hx1⟩ := hx
          have HR := hide (rowC_succ l m s n k)
          clear c1 c2 c3 c4 hA hB hcb
          have hs1 : IntKind.i64.wrap (nAt m k + s) = nAt m k + s := IntWalk.i64_in _ (by omega)
          have hs2 : IntKind.i64.wrap (x + 1) = x + 1 := IntWalk.i64_in _ (by omega)
          by_cases hp : nPi l n = nPi m k
          · have p1 : (nPi l n == nPi m k) = true := by simpa using hp
            have HP := hide hp
            clear hp
            by_cases hq : nAt l n = nAt m k + s
            · have q1 : (nAt l n == nAt m k + s) = true := by simpa using hq
              have HQ := hide hq
              clear hq
              go_wp2_with fail
              refine wp_region_later (by kernel_rfl) (by kernel_rfl) ?_
              repeat (go_big_quiet_step (fail))
              refine wpQuiet_nil ?_
              rintro wq1 ⟨⟨_, hq1⟩, rfl⟩
              go_wp2
              go_roundw
              case rel => exact ⟨k + 1, _, hlt2, by go_num, rfl, hide (by rw [HR.out, HY.out, if_pos (by simp [hit, HP.out, HQ.out])]; omega), hbq.trans (hq1.mono hbq.size)⟩
              case measure => simp [intOf]; omega
            · have q1 : (nAt l n == nAt m k + s) = false := by simpa using hq
              have HQ := hide hq
              clear hq
              go_wp2_with fail
              refine wp_region_later (by kernel_rfl) (by kernel_rfl) ?_
              repeat (go_big_quiet_step (fail))
              refine wpQuiet_nil ?_
              rintro wq1 ⟨⟨_, hq1⟩, rfl⟩
              go_wp2
              go_roundw
              case rel => exact ⟨k + 1, _, hlt2, by go_num, rfl, hide (by rw [HR.out, HY.out, if_neg (by simp [hit, HP.out, HQ.out])]; omega), hbq.trans (hq1.mono hbq.size)⟩
              case measure => simp [intOf]; omega
          · have p1 : (nPi l n == nPi m k) = false := by simpa using hp
            have HP := hide hp
            clear hp
            go_wp2_with fail
            refine wp_region_later (by kernel_rfl) (by kernel_rfl) ?_
            repeat (go_big_quiet_step (fail))
            refine wpQuiet_nil ?_
            rintro wq1 ⟨⟨_, hq1⟩, rfl⟩
            go_wp2
            go_roundw
            case rel => exact ⟨k + 1, _, hlt2, by go_num, rfl, hide (by rw [HR.out, HY.out, if_neg (by simp [hit, HP.out])]; omega), hbq.trans (hq1.mono hbq.size)⟩
            case measure => simp [intOf]; omega
        · obtain rfl : k = m.length := by omega
          go_wp2
          go_roundw
          case rel => exact ⟨n + 1, x, hlt, by go_num, rfl, hide HY.out, hbr.trans (hbq.mono hsr)⟩
          case measure => simp [intOf]; omega
    · obtain rfl : n = l.length := by omega
      go_wp2
      go_ret
      exact ⟨by rw [← HX.out]; rfl, hbr⟩
end Go.Proofs.Ytklkomgpaamcpaa
