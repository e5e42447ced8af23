import Derived.Test.YtehcghaficbhiaaBit
namespace Go.Proofs.Ytehcghaficbhiaa
open Go.RowKit

theorem l03Bit_any (t : Nat) (w : World) (ht : t < 24) :
    Calls Try.prog 28 #[.int .i64 t] w fun e w' => e = .returned (.int .u32 ((2 : Int) ^ t)) ∧ w = w' := by
  have hp : (2 : Int) ^ t % 4294967296 = (2 : Int) ^ t := (pow_nat t (by omega)).trans (by push_cast; rfl)
  go_enter Try.func28, Try.ntmps28
  go_wp2
  go_ret
  exact ⟨rfl, rfl⟩

set_option maxRecDepth 20000 in
set_option maxHeartbeats 1000000 in
theorem l03Uses_any (g t : Nat) (d : Nat → Int) (w : World) (hD : Dr w g 32 d) (ht : t < 24) (hd : DWF d) :
    Calls Try.prog 27 #[.pointer (some ⟨g, 0, none⟩), .int .i64 t] w (Says (useT d t 96) w) := by
  go_enter Try.func27, Try.ntmps27
  go_wp2_with fail
  go_loopw [5] (fun i wr => ∃ k : Nat, k ≤ 96 ∧ i = .int .i64 k ∧ useT d t k = false ∧ Below w.heap.size w wr)
    (fun i _ => 96 - (intOf i).toNat)
  case atStart => exact ⟨0, Nat.zero_le _, rfl, rfl, Below.refl _ _⟩
  case round =>
    obtain ⟨k, hk, rfl, hu, hb⟩ := hrel
    have HU := hide hu
    clear hu
    by_cases hlt : k < 96
    · have c1 := Later.cell ((hD.keep hb).cell hlt)
      have hsz := hb.size
      obtain ⟨x1, x2⟩ := hd k hlt
      have hp := and_pow_ne (d := d) (k := k) (t := t) x1 x2 (by omega)
      have hki : (k : Int) < 96 := by omega
      cases hpb : pinB d k t
      · rw [hpb] at hp
        have HX := hide hpb
        clear hpb
        go_wp2_with fail
        refine wp_region_later (by kernel_rfl) (by kernel_rfl) ?_
        repeat (go_big_quiet_step ((go_at_call 28; with_reducible exact Later.same (l03Bit_any t _ ht))))
        refine wpQuiet_nil ?_
        rintro _ ⟨⟨wq, hq⟩, rfl⟩
        go_wp2
        go_roundw
        case rel => exact ⟨k + 1, hlt, by go_num, by rw [useT_succ, HU.out, HX.out]; rfl, hb.trans (hq.mono hsz)⟩
        case measure => simp [intOf]; omega
      · rw [hpb] at hp
        have HX := hide hpb
        clear hpb
        go_wp2_with fail
        refine wp_region_later (by kernel_rfl) (by kernel_rfl) ?_
        repeat (go_big_quiet_step ((go_at_call 28; with_reducible exact Later.same (l03Bit_any t _ ht))))
        refine wpQuiet_nil ?_
        rintro _ ⟨⟨wq, hq⟩, rfl⟩
        go_wp2
        go_ret
        exact ⟨ret_bool (useT_hit hlt HX.out).symm, hb.trans (hq.mono hsz)⟩
    · obtain rfl : k = 96 := by omega
      go_wp2
      go_ret
      exact ⟨ret_bool HU.out.symm, hb⟩

set_option maxRecDepth 20000 in
set_option maxHeartbeats 1000000 in
theorem used_any (d : Nat → Int) (w : World) (hd : DWF d) :
    Calls Try.prog 30 #[.agg (da d)] w fun e w' => e = .returned (.int .u32 (orT d 96 : Nat)) ∧ Below w.heap.size w w' := by
  have hb0 : Below w.heap.size w (w.alloc (.cells (da d) 32)) := (Below.refl _ _).alloc (Nat.le_refl _) _
  have D0 : Dr (w.alloc (.cells (da d) 32)) w.heap.size 32 d := heap_new' _ _ _ rfl
  have HR0 := hide D0.range
  have HI := hide (fun k hk => indexD d k hk)
  go_enter Try.func30, Try.ntmps30
  go_wp2_with (with_reducible refine wpList_load_da rfl 32 (.tmp 1) rfl w.heap.size 0 rfl d _ HR0.out Try.underlying32 rfl (dInfo d) ?_)
  go_loopw [3, 7] (fun n i wr => ∃ k : Nat, k ≤ 96 ∧ i = .int .i64 k ∧ n = .int .u32 (orT d k : Nat) ∧ Below w.heap.size w wr)
    (fun _ i _ => 96 - (intOf i).toNat)
  case atStart => exact ⟨0, Nat.zero_le _, rfl, rfl, hb0⟩
  case round =>
    obtain ⟨k, hk, rfl, rfl, hb⟩ := hrel
    by_cases hlt : k < 96
    · have hx := HI.out k hlt
      obtain ⟨x, hxe⟩ : ∃ x : Nat, d k = (x : Int) := ⟨(d k).toNat, by have := hd k hlt; omega⟩
      have hxb : x < 4294967296 := by have := hd k hlt; omega
      have hor := or_nat (orT d k) x (by have := orT_lt d hd k hk; omega) hxb
      have HS := hide (show orT d (k + 1) = orT d k ||| x by simp [orT, hxe])
      rw [hxe] at hx
      clear hxe
      go_wp2
      go_roundw
      case rel => exact ⟨k + 1, hlt, by go_num, by rw [HS.out, ← hor], hb⟩
      case measure => simp [intOf]; omega
    · obtain rfl : k = 96 := by omega
      go_wp2
      go_ret
      exact ⟨rfl, hb⟩
end Go.Proofs.Ytehcghaficbhiaa
