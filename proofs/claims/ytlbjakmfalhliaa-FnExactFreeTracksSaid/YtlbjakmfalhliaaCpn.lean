import Derived.Test.YtlbjakmfalhliaaCnt
namespace Go.Proofs.Ytlbjakmfalhliaa
open Go.RowKit

/-- the pins of the first k steps -/
def cntT (d : Nat → Int) : Nat → Nat
  | 0 => 0
  | k + 1 => cntT d k + pc (d k).toNat
theorem cntT_le (d : Nat → Int) (hd : DWF d) : ∀ k, k ≤ 96 → cntT d k ≤ k * 4294967295
  | 0, _ => by simp [cntT]
  | k + 1, h => by
    have h1 := cntT_le d hd k (by omega)
    have h2 := pc_le (d k).toNat
    have h3 := hd k (by omega)
    simp only [cntT]
    omega
def cntI (d : Nat → Int) : Int := (cntT d 96 : Nat)
theorem indexD (d : Nat → Int) (k : Nat) (hk : k < 96) (w : World) : (Instr.index 37 (.agg (da d)) (.int .i64 k)).run Try.prog w = .ok (.int .u32 (d k)) w := by
  have h := dv_get d k hk
  simp [Instr.index, asIntOf, run_underlying Try.underlying37, go_sem, hk, da, h]
set_option maxRecDepth 20000 in
set_option maxHeartbeats 1000000 in
theorem count_any (d : Nat → Int) (w : World) (hd : DWF d) :
    Calls Try.prog 65 #[.agg (da d)] w fun e w' => e = .returned (.int .i64 (cntI d)) ∧ Below w.heap.size w w' := by
  have hb0 : Below w.heap.size w (w.alloc (.cells (da d) 37)) := (Below.refl _ _).alloc (Nat.le_refl _) _
  have D0 : Dr (w.alloc (.cells (da d) 37)) w.heap.size 37 d := heap_new' _ _ _ rfl
  have HR0 := hide D0.range
  have HI := hide (fun k hk => indexD d k hk)
  go_enter Try.func65, Try.ntmps65
  go_wp2_with (with_reducible refine wpList_load_da rfl 37 (.tmp 1) rfl w.heap.size 0 rfl d _ HR0.out Try.underlying37 rfl (dInfo d) ?_)
  go_loopw [3, 7] (fun n i wr => ∃ k : Nat, k ≤ 96 ∧ i = .int .i64 k ∧ n = .int .i64 (cntT d k : Nat) ∧ Below w.heap.size w wr)
    (fun _ i _ => 96 - (intOf i).toNat)
  case atStart => exact ⟨0, Nat.zero_le _, rfl, rfl, hb0⟩
  case round =>
    obtain ⟨k, hk, rfl, rfl, hb⟩ := hrel
    by_cases hlt : k < 96
    · have hx := HI.out k hlt
      obtain ⟨x, hxe⟩ : ∃ x : Nat, d k = (x : Int) := ⟨(d k).toNat, by have := hd k hlt; omega⟩
      have hxb : x ≤ 4294967295 := by have := hd k hlt; omega
      have HS := hide (show cntT d (k + 1) = cntT d k + pc x by simp [cntT, hxe])
      have h1 := cntT_le d hd k (by omega)
      have h2 := pc_le x
      rw [hxe] at hx
      clear hxe
      have hw1 : IntKind.i64.wrap ((cntT d k : Int) + (pc x : Int)) = (cntT d k : Int) + (pc x : Int) := IntWalk.i64_in _ (by omega)
      go_wp2_with (go_at_call 79; refine (ones_any x _ hxb).mono ?_; rintro e w2 ⟨rfl, hb2⟩; have hb3 := step_below hb2 hb)
      go_roundw
      case rel => exact ⟨k + 1, hlt, by go_num, by rw [HS.out]; rfl, hb3⟩
      case measure => simp [intOf]; omega
    · obtain rfl : k = 96 := by omega
      go_wp2
      go_ret
      exact ⟨rfl, hb⟩

set_option maxRecDepth 20000 in
set_option maxHeartbeats 1000000 in
theorem specCountPins_any (s : Int) (A : Option Addr) (c : Nat) (l : List (Int × Int)) (d : Nat → Int) (w : World) (hA : HA w A l) (hn : l.length ≤ 1048576) (hwf : HWF l) (hs : -32768 ≤ s ∧ s ≤ 32767) (hd : DWF d) :
    Calls Try.prog 29 #[.agg #[.int .i16 s, .slice A l.length c], .agg (da d)] w (Pair (.int .i64 (onlyI (askB s l d) (cntI d))) (.int .i64 (codeI (askB s l d))) w) := by
  have hb0 : Below w.heap.size w ((w.alloc (.cells #[.int .i16 s, .slice A l.length c] 30)).alloc (.cells (da d) 37)) := ((Below.refl _ _).alloc (Nat.le_refl _) _).alloc (by simp) _
  have hF : FP ((w.alloc (.cells #[.int .i16 s, .slice A l.length c] 30)).alloc (.cells (da d) 37)) w.heap.size s A l.length c := ⟨by simp [go_sem], by simp [go_sem]⟩
  have hD : Dr ((w.alloc (.cells #[.int .i16 s, .slice A l.length c] 30)).alloc (.cells (da d) 37)) (w.heap.size + 1) 37 d := heap_new' _ _ _ (by simp)
  go_enter Try.func29, Try.ntmps29
  go_wp2_with fail
  refine (l02Asked_any _ _ s A c l d _ hF hD (hA.below hb0) hn hwf hs hd).mono ?_
  rintro e w1 ⟨rfl, hb1⟩
  have b1 := step_below hb1 hb0
  have D1 := hD.keep hb1
  cases ha : askB s l d
  · simp only [codeI]
    have HA' := hide ha
    clear ha
    go_wp2
    go_ret2
    exact ⟨by rw [HA'.out]; rfl, b1⟩
  · simp only [codeI]
    have HA' := hide ha
    clear ha
    go_wp2_with fail
    go_loop [7, 8] (fun n i => ∃ k : Nat, k ≤ 96 ∧ i = .int .i64 k ∧ n = .int .i64 (cntT d k : Nat))
      (fun _ i => 96 - (intOf i).toNat)
    case atStart => exact ⟨0, Nat.zero_le _, rfl, rfl⟩
    case round =>
      obtain ⟨k, hk, rfl, rfl⟩ := hrel
      by_cases hlt : k < 96
      · have c1 := D1.cell hlt
        obtain ⟨x, hxe⟩ : ∃ x : Nat, d k = (x : Int) := ⟨(d k).toNat, by have := hd k hlt; omega⟩
        have hxb : x ≤ 4294967295 := by have := hd k hlt; omega
        have HS := hide (show cntT d (k + 1) = cntT d k + pc x by simp [cntT, hxe])
        have h1 := cntT_le d hd k (by omega)
        have h2 := pc_le x
        rw [hxe] at c1
        clear hxe
        have hw1 : IntKind.i64.wrap ((cntT d k : Int) + (pc x : Int)) = (cntT d k : Int) + (pc x : Int) := IntWalk.i64_in _ (by omega)
        go_wp2_with (go_at_call 64; refine (l02Count_any x _ hxb).mono ?_; rintro e w2 ⟨rfl, rfl⟩)
        go_round
        case rel => exact ⟨k + 1, hlt, by go_num, by rw [HS.out]; rfl⟩
        case measure => simp [intOf]; omega
      · obtain rfl : k = 96 := by omega
        go_wp2
        go_ret2
        exact ⟨by rw [HA'.out]; rfl, b1⟩

theorem implCountPins_any (s : Int) (A : Option Addr) (c : Nat) (l : List (Int × Int)) (d : Nat → Int) (w : World) (hA : HA w A l) (hn : l.length ≤ 1048576) (hwf : HWF l) (hs : -32768 ≤ s ∧ s ≤ 32767) (hd : DWF d) :
    Calls Try.prog 30 #[.agg #[.int .i16 s, .slice A l.length c], .agg (da d)] w (Pair (.int .i64 (onlyI (askB s l d) (cntI d))) (.int .i64 (codeI (askB s l d))) w) := by
  have hb0 : Below w.heap.size w ((w.alloc (.cells #[.int .i16 s, .slice A l.length c] 30)).alloc (.cells (da d) 37)) := ((Below.refl _ _).alloc (Nat.le_refl _) _).alloc (by simp) _
  have D0 : Dr ((w.alloc (.cells #[.int .i16 s, .slice A l.length c] 30)).alloc (.cells (da d) 37)) (w.heap.size + 1) 37 d := heap_new' _ _ _ (by simp)
  have HR0 := hide D0.range
  go_enter Try.func30, Try.ntmps30
  go_wp2_with (with_reducible refine wpList_load_da rfl 37 (.tmp 3) rfl (w.heap.size + 1) 0 rfl d _ HR0.out Try.underlying37 rfl (dInfo d) ?_)
  refine (implValidDrum_any s A c l d _ (hA.below hb0) hn hwf hs hd).mono ?_
  rintro e w1 ⟨rfl, hb1⟩
  have b1 := step_below hb1 hb0
  have D1 := D0.keep hb1
  have HR1 := hide D1.range
  cases ha : askB s l d
  · have HA' := hide ha
    clear ha
    go_wp2
    go_ret2
    exact ⟨by rw [HA'.out]; rfl, b1⟩
  · have HA' := hide ha
    clear ha
    go_wp2_with (first | (with_reducible refine wpList_load_da rfl 37 (.tmp 3) rfl (w.heap.size + 1) 0 rfl d _ HR1.out Try.underlying37 rfl (dInfo d) ?_) | (go_at_call 65; refine (count_any d _ hd).mono ?_; rintro e w2 ⟨rfl, hb2⟩))
    go_ret2
    exact ⟨by rw [HA'.out]; rfl, step_below hb2 b1⟩
end Go.Proofs.Ytlbjakmfalhliaa
