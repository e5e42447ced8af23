import Derived.Test.YtcepjiglhlmgdaaDoorIn
namespace Go.Proofs.YtcepjiglhlmgdaaDoor
open Go.RowKit Go.Shelf
attribute [local go_sem] Oper.semAt_some

/-- a pin of a drum -/
abbrev PinOf (d : Nat → Int) := { p : Nat × Nat // p.1 < 96 ∧ p.2 < 32 ∧ pinB d p.1 p.2 = true }
theorem bit_pin {d : Nat → Int} {k t : Nat} (hd : DWF d) (hk : k < 96) (h : (d k).toNat.testBit t = true) : pinB d k t = true := by
  rw [pin_bit (hd k hk).1]; exact h
theorem map_snoc {d : Nat → Int} (pre : List (PinOf d)) (x : PinOf d) : (pre ++ [x]).map (·.1) = pre.map (·.1) ++ [x.1] := by simp

theorem pins_call (d : Nat → Int) (w : World) : Calls Tryd.prog 37 #[.agg (da d)] w fun e w' => e = .returned (.func (.func 59) #[] #[.pointer (some ⟨w.heap.size, 0, none⟩)]) ∧ w' = w.alloc (.cells (da d) 49) := by
  go_enter Tryd.func37, Tryd.ntmps37
  go_wp2
  go_ret
  exact ⟨rfl, rfl⟩

set_option maxHeartbeats 2000000 in
set_option maxRecDepth 20000 in
theorem pins_stops (n : Nat) (hn : 2 ≤ n) (Bn : Nat) (d : Nat → Int) (hd : DWF d) (w : World) (hc : Dr w Bn 49 d) (hT : TabW w) :
    SeqStopsK Fence.wide n Tryd.prog 59 #[.pointer (some ⟨Bn, 0, none⟩)] (fun x : PinOf d => #[.int .i64 x.1.1, .int .i64 x.1.2]) (fun A B => TabW A → TabW B) (fun xs => xs.map (·.1) = pinsL d) (fun pre => pre.map (·.1) <+: pinsL d) 4000 w := by
  intro l J Jx W hW hJ hJx hY h0
  have D1 := hc.keep hW
  have T1 := hT.keep hW
  have HR1 := hide D1.range
  have HI := hide (fun k hk => indexD d k hk)
  show CallsIn Fence.wide n Tryd.prog 59 #[.func (.yield l) #[] #[], .pointer (some ⟨Bn, 0, none⟩)] W _
  refine callsIn_of_wp Tryd.func59 rfl trivial ?_ rfl
  simp only [Tryd.ntmps59, List.size_toArray, List.length_cons, List.length_nil, Nat.reduceAdd, Nat.reduceSub, Array.replicate_succ, Array.replicate_zero, List.push_toArray, List.append_toArray, List.nil_append, List.cons_append]
  gi_wp2_with (with_reducible refine wpListIn_load_da rfl 49 (.tmp 1) rfl Bn 0 rfl d _ HR1.out Tryd.underlying49 rfl (dInfo d) ?_)
  gi_loopw [6] (fun i wr => ∃ (k : Nat) (pre : List (PinOf d)), k ≤ 96 ∧ i = .int .i64 k ∧ pre.map (·.1) = pinsT d k ∧ J pre wr ∧ TabW wr) (fun i _ => 96 - (intOf i).toNat)
  case atStart => exact ⟨0, [], by omega, rfl, rfl, h0, T1⟩
  case round =>
    obtain ⟨k, pre, hk, rfl, hpre, hJs, hTs⟩ := hrel
    have HP := hide hpre
    clear hpre
    by_cases hlt : k < 96
    · have hx := HI.out k hlt
      obtain ⟨x, hxe⟩ : ∃ x : Nat, d k = (x : Int) := ⟨(d k).toNat, by have := hd k hlt; omega⟩
      have hxb : x < 4294967296 := by have := hd k hlt; omega
      have HXE := hide hxe
      rw [hxe] at hx
      clear hxe
      have hk1 : (k : Int) < 96 := by omega
      have hk2 : decide ((k : Int) < 96) = true := decide_eq_true hk1
      gi_wp2
      gi_loopw [4] (fun r wq => ∃ (y : Nat) (pre' : List (PinOf d)), r = .int .u32 y ∧ y < 4294967296 ∧ (∀ t, y.testBit t = true → x.testBit t = true) ∧ pre'.map (·.1) ++ (bitsL y).map (fun t => (k, t)) = pinsT d (k + 1) ∧ J pre' wq ∧ TabW wq) (fun r _ => (intOf r).toNat)
      case atStart => exact ⟨x, pre, rfl, hxb, fun _ h => h, by rw [HP.out, pinsT_succ, HXE.out, Int.toNat_natCast], hJs, hTs⟩
      case round =>
        obtain ⟨y, pre', rfl, hy, hsub, hmap, hJ2, hT2⟩ := hrel
        by_cases h0 : y = 0
        · subst h0
          have HM := hide (show pre'.map (·.1) = pinsT d (k + 1) by simpa [bitsL_zero] using hmap)
          clear hmap hJs hTs hsub
          gi_wp2
          go_roundw
          case rel => exact ⟨k + 1, pre', hlt, by go_num, HM.out, hJ2, hT2⟩
          case measure => simp [intOf]; omega
        · obtain ⟨l1, l2, l3, l4⟩ := low_facts hy h0
          have hbl := bitsL_low hy h0
          have hlen : pre'.length < 4000 := by
            have h1 := congrArg List.length hmap
            rw [List.length_append, List.length_map] at h1
            have h2 := pinsT_len d (k + 1)
            omega
          have HTZ := hide (fun W hW => tz_any y W hy h0 hW)
          obtain ⟨t, ht⟩ : ∃ t, Lib.ctz 32 y = t := ⟨_, rfl⟩
          obtain ⟨z, hz⟩ : ∃ z, y - 1 = z := ⟨_, rfl⟩
          obtain ⟨y', hy'⟩ : ∃ y', y &&& (y - 1) = y' := ⟨_, rfl⟩
          rw [ht] at l1 l2 hbl HTZ
          rw [hy'] at l3 l4 hbl
          have hsu : ((y : Int) - 1) % 4294967296 = (z : Int) := by omega
          have han : bits .and .u32 (y : Int) (z : Int) = (y' : Int) := by rw [and_nat y z hy (by omega), ← hz, hy']
          have hpos : 0 < y := by omega
          have hyz : (z : Int) = (y : Int) - 1 := by omega
          rw [hyz] at hsu han
          have hn1 : 1 ≤ n := by omega
          have hpin : pinB d k t = true := bit_pin hd hlt (by rw [HXE.out, Int.toNat_natCast]; exact hsub t l2)
          obtain ⟨fn, tmps, assign, body, hyy, hR⟩ := hY pre' ⟨(k, t), hlt, l1, hpin⟩ _ hJ2 hlen
          dsimp only at hyy
          have HM := hide (show (pre' ++ [(⟨(k, t), hlt, l1, hpin⟩ : PinOf d)]).map (·.1) ++ (bitsL y').map (fun t => (k, t)) = pinsT d (k + 1) by rw [map_snoc, ← hmap, hbl]; simp)
          have HL := hide l4
          have HS := hide hsub
          clear hbl hmap hsub l4 ht hz hy' h0 hJ2 hJs hTs hyz hsu
          gi_wp2_with (refine ⟨trivial, ?_⟩; gi_at_call 60; refine (callsIn_wide.2 (HTZ.out _ hT2)).mono ?_; rintro e w' ⟨rfl, rfl⟩)
          refine hR.mono ?_
          clear hyy hR
          rintro e W2 (⟨rfl, hJ3, hk3⟩ | ⟨rfl, hJx3⟩)
          · have hT3 := hk3 hT2
            gi_wp2
            go_roundw
            case rel => exact ⟨y', _, by go_num, by omega, fun t h => HS.out t (HL.out t h), HM.out, hJ3, hT3⟩
            case measure => simp [intOf]; omega
          · gi_wp2
            refine bodyPost_ret (results_none rfl _ _ _) rfl ?_
            exact ⟨⟨_, rfl⟩, .inr ⟨_, (List.prefix_append _ _).trans (HM.out ▸ pinsT_prefix d (by omega)), hJx3⟩⟩
    · obtain rfl : k = 96 := by omega
      gi_wp2
      go_end0
      exact ⟨⟨_, rfl⟩, .inl ⟨pre, HP.out, hJs⟩⟩
end Go.Proofs.YtcepjiglhlmgdaaDoor
