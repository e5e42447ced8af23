import Derived.Test.YtklkomgpaamcpaaGap
namespace Go.Proofs.Ytklkomgpaamcpaa
open Go.RowKit Go.Maps

set_option maxHeartbeats 4000000 in
set_option maxRecDepth 100000 in
theorem specGap_yes (A : Option Addr) (c : Nat) (l : List (Int × Int)) (g p cc : Int) (w : World) (hA : NA w A l) (hn : l.length ≤ 1048576) (hwf : WF l) (hok : okB l = true) (hG : GapIs l g p cc) :
    Calls Try.prog 28 #[.slice A l.length c] w (Trip (.int .i64 g) (.int .i8 p) (.int .i64 cc) w) := by
  have HIN := hide (inRange_of l hok)
  have HAS := hide (asc_of l hok)
  have HG := hide hG
  have HOK := hide hok
  clear hG hok
  go_enter Try.func28, Try.ntmps28
  go_wp2_with fail
  refine (l01Ok_any A c l _ hA hn hwf).mono ?_
  rintro e w1 ⟨rfl, hb⟩
  rw [HOK.out]
  go_wp2
  go_loopw [5, 6, 7] (fun x q i wr => ∃ (n : Nat) (xx qq : Int), n ≤ l.length ∧ i = .int .i64 n ∧ x = .int .i64 xx ∧ q = .int .i8 qq ∧ St l n 0 xx qq ∧ Below w.heap.size w wr)
    (fun _ _ i _ => l.length - (intOf i).toNat)
  case atStart => exact ⟨0, -1, 0, Nat.zero_le _, rfl, rfl, rfl, st_start l, hb⟩
  case round =>
    obtain ⟨n, xx, qq, hnl, rfl, rfl, rfl, hSt, hbr⟩ := hrel
    have HST := hide hSt
    clear hSt
    by_cases hlt : n < l.length
    · obtain ⟨b, o, rfl, hbb, c1, c2⟩ := hA n hlt
      have hn0 : (0 : Int) ≤ (n : Int) := by omega
      have hn1 : (n : Int) < (l.length : Int) := by omega
      obtain ⟨⟨e1, e2⟩, _, _⟩ : (0 ≤ nAt l n ∧ nAt l n ≤ 199) ∧ 0 ≤ nPi l n ∧ nPi l n ≤ 47 := by simpa [noteB] using HIN.out n hlt
      go_wp2
      obtain ⟨wo, rfl⟩ : ∃ wo : World, wo = wr := ⟨_, rfl⟩
      go_loopw [5, 6, 8] (fun x q i wq => ∃ (m : Nat) (xx qq : Int), m ≤ n ∧ i = .int .i64 m ∧ x = .int .i64 xx ∧ q = .int .i8 qq ∧ St l n m xx qq ∧ Below wo.heap.size wo wq)
        (fun _ _ i _ => n - (intOf i).toNat)
      case atStart => exact ⟨0, xx, qq, Nat.zero_le _, rfl, rfl, rfl, HST.out, Below.refl _ _⟩
      case round =>
        obtain ⟨m, x, q, hmn, rfl, rfl, rfl, hSt2, hbq⟩ := hrel
        have HS2 := hide hSt2
        clear hSt2
        have hsr := hbr.size
        by_cases hlt2 : m < n
        · obtain ⟨b', o', e', hbb', c3, c4⟩ := hA m (by omega)
          obtain ⟨rfl, rfl⟩ : b' = b ∧ o' = o := by simpa [eq_comm] using e'
          have hbx := hbr.trans (hbq.mono hsr)
          have r1 := (hbx.cell (p := ⟨b', o' + n * 2, none⟩) hbb).trans c1
          have r2 := (hbx.cell (p := ⟨b', o' + n * 2 + 1, none⟩) hbb).trans c2
          have r3 := (hbx.cell (p := ⟨b', o' + m * 2, none⟩) hbb).trans c3
          have r4 := (hbx.cell (p := ⟨b', o' + m * 2 + 1, none⟩) hbb).trans c4
          have d1 := Later.cell r1
          have d2 := Later.cell r2
          have d3 := Later.cell r3
          have d4 := Later.cell r4
          obtain ⟨⟨e3, e4⟩, _, _⟩ : (0 ≤ nAt l m ∧ nAt l m ≤ 199) ∧ 0 ≤ nPi l m ∧ nPi l m ≤ 47 := by simpa [noteB] using HIN.out m (by omega)
          have HM := hide (asc_mono HAS.out m n (by omega) hlt)
          have hm0 : (0 : Int) ≤ (m : Int) := by omega
          have hm1 : (m : Int) < (l.length : Int) := by omega
          have hl1 : b' < wr.heap.size := Nat.lt_of_lt_of_le hbb hbx.size
          clear c1 c2 c3 c4 e' hA
          have hs1 : IntKind.i64.wrap (nAt l n - nAt l m) = nAt l n - nAt l m := IntWalk.i64_in _ (by omega)
          go_wp2_with fail
          refine wp_region_later (by kernel_rfl) (by kernel_rfl) ?_
          repeat (go_big_quiet_step (fail))
          refine wpQuiet_nil ?_
          rintro wq1 ⟨⟨_, hq1⟩, rfl⟩
          clear hs1 d1 d2 d3 d4
          have r2' := (hq1.cell (p := ⟨b', o' + n * 2 + 1, none⟩) hl1).trans r2
          have d2 := Later.cell r2'
          have d4 := Later.cell ((hq1.cell (p := ⟨b', o' + m * 2 + 1, none⟩) hl1).trans r4)
          have hl2 : b' < wq1.heap.size := Nat.lt_of_lt_of_le hl1 hq1.size
          go_wp2_with fail
          obtain ⟨gg, hgg⟩ : ∃ gg, gg = nAt l n - nAt l m := ⟨_, rfl⟩
          rw [← hgg]
          have HGG := hide hgg
          clear hgg r1 r3 r4
          by_cases hp : nPi l m = nPi l n
          · have HP := hide hp
            have p1 : (nPi l m == nPi l n) = true := by simpa using hp
            have h9 : 0 ≤ nAt l n - nAt l m := by have := HM.out; omega
            have H9 := hide h9
            clear hp h9
            by_cases q1 : x < 0
            · have q2 : decide (x < 0) = true := decide_eq_true q1
              refine wp_region_later (by kernel_rfl) (by kernel_rfl) ?_
              repeat (go_big_quiet_step (fail))
              refine wpQuiet_nil ?_
              rintro wq2 ⟨⟨_, hq2⟩, rfl⟩
              have f2 := (hq2.cell (p := ⟨b', o' + n * 2 + 1, none⟩) hl2).trans r2'
              go_wp2
              go_roundw
              case rel => exact ⟨m + 1, _, _, hlt2, by go_num, rfl, rfl, by rw [HGG.out]; exact st_take HS2.out HP.out hlt2 H9.out (.inl q1), (hbq.trans (hq1.mono hbq.size)).trans (hq2.mono (Nat.le_trans hbq.size hq1.size))⟩
              case measure => simp [intOf]; omega
            · have q2 : decide (x < 0) = false := decide_eq_false q1
              by_cases q3 : gg < x
              · have q4 : decide (gg < x) = true := decide_eq_true q3
                refine wp_region_later (by kernel_rfl) (by kernel_rfl) ?_
                repeat (go_big_quiet_step (fail))
                refine wpQuiet_nil ?_
                rintro wq2 ⟨⟨_, hq2⟩, rfl⟩
                have f2 := (hq2.cell (p := ⟨b', o' + n * 2 + 1, none⟩) hl2).trans r2'
                go_wp2
                go_roundw
                case rel => exact ⟨m + 1, _, _, hlt2, by go_num, rfl, rfl, by rw [HGG.out]; exact st_take HS2.out HP.out hlt2 H9.out (.inr (.inl (by rw [← HGG.out]; exact q3))), (hbq.trans (hq1.mono hbq.size)).trans (hq2.mono (Nat.le_trans hbq.size hq1.size))⟩
                case measure => simp [intOf]; omega
              · have q4 : decide (gg < x) = false := decide_eq_false q3
                by_cases q5 : gg = x
                · have q6 : (gg == x) = true := by simpa using q5
                  have H5 := hide q5
                  clear q5
                  by_cases q7 : nPi l n < q
                  · have q8 : decide (nPi l n < q) = true := decide_eq_true q7
                    refine wp_region_later (by kernel_rfl) (by kernel_rfl) ?_
                    repeat (go_big_quiet_step (fail))
                    refine wpQuiet_nil ?_
                    rintro wq2 ⟨⟨_, hq2⟩, rfl⟩
                    have f2 := (hq2.cell (p := ⟨b', o' + n * 2 + 1, none⟩) hl2).trans r2'
                    go_wp2
                    go_roundw
                    case rel => exact ⟨m + 1, _, _, hlt2, by go_num, rfl, rfl, by rw [HGG.out]; exact st_take HS2.out HP.out hlt2 H9.out (.inr (.inr ⟨by rw [← HGG.out]; exact H5.out, q7⟩)), (hbq.trans (hq1.mono hbq.size)).trans (hq2.mono (Nat.le_trans hbq.size hq1.size))⟩
                    case measure => simp [intOf]; omega
                  · have q8 : decide (nPi l n < q) = false := decide_eq_false q7
                    refine wp_region_later (by kernel_rfl) (by kernel_rfl) ?_
                    repeat (go_big_quiet_step (fail))
                    refine wpQuiet_nil ?_
                    rintro wq2 ⟨⟨_, hq2⟩, rfl⟩
                    go_wp2
                    go_roundw
                    case rel => exact ⟨m + 1, _, _, hlt2, by go_num, rfl, rfl, st_keep HS2.out HP.out (by rw [← HGG.out]; have := H5.out; omega), (hbq.trans (hq1.mono hbq.size)).trans (hq2.mono (Nat.le_trans hbq.size hq1.size))⟩
                    case measure => simp [intOf]; omega
                · have q6 : (gg == x) = false := by simpa using q5
                  refine wp_region_later (by kernel_rfl) (by kernel_rfl) ?_
                  repeat (go_big_quiet_step (fail))
                  refine wpQuiet_nil ?_
                  rintro wq2 ⟨⟨_, hq2⟩, rfl⟩
                  go_wp2
                  go_roundw
                  case rel => exact ⟨m + 1, _, _, hlt2, by go_num, rfl, rfl, st_keep HS2.out HP.out (by rw [← HGG.out]; omega), (hbq.trans (hq1.mono hbq.size)).trans (hq2.mono (Nat.le_trans hbq.size hq1.size))⟩
                  case measure => simp [intOf]; omega
          · have p1 : (nPi l m == nPi l n) = false := by simpa using hp
            refine wp_region_later (by kernel_rfl) (by kernel_rfl) ?_
            repeat (go_big_quiet_step (fail))
            refine wpQuiet_nil ?_
            rintro wq2 ⟨⟨_, hq2⟩, rfl⟩
            go_wp2
            go_roundw
            case rel => exact ⟨m + 1, _, _, hlt2, by go_num, rfl, rfl, st_skip HS2.out hp, (hbq.trans (hq1.mono hbq.size)).trans (hq2.mono (Nat.le_trans hbq.size hq1.size))⟩
            case measure => simp [intOf]; omega
        · obtain rfl : m = n := by omega
          go_wp2
          go_roundw
          case rel => exact ⟨m + 1, x, q, hlt, by go_num, rfl, rfl, st_row HS2.out, hbr.trans (hbq.mono hsr)⟩
          case measure => simp [intOf]; omega
    · obtain rfl : n = l.length := by omega
      rcases HST.out with ⟨h1, h2, h3⟩ | ⟨h1, h3⟩
      · obtain ⟨rfl, rfl, rfl⟩ := gap_none HG.out HOK.out h3
        subst h1 h2
        go_wp2
        go_ret3
        exact ⟨rfl, hbr⟩
      · obtain ⟨rfl, rfl, rfl⟩ := gap_some HG.out HOK.out h3
        have q2 : ¬ g < 0 := by omega
        go_wp2
        go_ret3
        exact ⟨rfl, hbr⟩
end Go.Proofs.Ytklkomgpaamcpaa
