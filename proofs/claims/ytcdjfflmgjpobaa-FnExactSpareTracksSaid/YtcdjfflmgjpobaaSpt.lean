import Derived.Test.YtcdjfflmgjpobaaBit
import Derived.Test.YtcdjfflmgjpobaaOwz
namespace Go.Proofs.Ytcdjfflmgjpobaa
open Go.RowKit

theorem l03Bit_any (t : Nat) (w : World) (ht : t < 24) :
    Calls Try.prog 41 #[.int .i64 t] w fun e w' => e = .returned (.int .u32 ((2 : Int) ^ t)) ∧ w = w' := by
  have hp : (2 : Int) ^ t % 4294967296 = (2 : Int) ^ t := (pow_nat t (by omega)).trans (by push_cast; rfl)
  go_enter Try.func41, Try.ntmps41
  go_wp2
  go_ret
  exact ⟨rfl, rfl⟩

set_option maxRecDepth 20000 in
set_option maxHeartbeats 1000000 in
theorem l03Uses_any (g t : Nat) (d : Nat → Int) (w : World) (hD : Dr w g 29 d) (ht : t < 24) (hd : DWF d) :
    Calls Try.prog 38 #[.pointer (some ⟨g, 0, none⟩), .int .i64 t] w (Says (useT d t 96) w) := by
  go_enter Try.func38, Try.ntmps38
  go_wp2_with fail
  go_loopw [5] (fun i wr => ∃ k : Nat, k ≤ 96 ∧ i = .int .i64 k ∧ useT d t k = false ∧ Below w.heap.size w wr)
    (fun i _ => 96 - (intOf i).toNat)
  case atStart => exact ⟨0, Nat.zero_le _, rfl, rfl, Below.refl _ _⟩
  case round =>
    obtain ⟨k, hk, rfl, hu, hb⟩ := hrel
    have HU := hide hu
    clear hu
    by_cases hlt : k < 96
    · have c1 := Later.cell ((hD.keep hb).cell hlt)
      have hsz := hb.size
      obtain ⟨x1, x2⟩ := hd k hlt
      have hp := and_pow_ne (d := d) (k := k) (t := t) x1 x2 (by omega)
      have hki : (k : Int) < 96 := by omega
      cases hpb : pinB d k t
      · rw [hpb] at hp
        have HX := hide hpb
        clear hpb
        go_wp2_with fail
        refine wp_region_later (by kernel_rfl) (by kernel_rfl) ?_
        repeat (go_big_quiet_step ((go_at_call 41; with_reducible exact Later.same (l03Bit_any t _ ht))))
        refine wpQuiet_nil ?_
        rintro _ ⟨⟨wq, hq⟩, rfl⟩
        go_wp2
        go_roundw
        case rel => exact ⟨k + 1, hlt, by go_num, by rw [useT_succ, HU.out, HX.out]; rfl, hb.trans (hq.mono hsz)⟩
        case measure => simp [intOf]; omega
      · rw [hpb] at hp
        have HX := hide hpb
        clear hpb
        go_wp2_with fail
        refine wp_region_later (by kernel_rfl) (by kernel_rfl) ?_
        repeat (go_big_quiet_step ((go_at_call 41; with_reducible exact Later.same (l03Bit_any t _ ht))))
        refine wpQuiet_nil ?_
        rintro _ ⟨⟨wq, hq⟩, rfl⟩
        go_wp2
        go_ret
        exact ⟨ret_bool (useT_hit hlt HX.out).symm, hb.trans (hq.mono hsz)⟩
    · obtain rfl : k = 96 := by omega
      go_wp2
      go_ret
      exact ⟨ret_bool HU.out.symm, hb⟩

set_option maxRecDepth 20000 in
set_option maxHeartbeats 1000000 in
theorem used_any (d : Nat → Int) (w : World) (hd : DWF d) :
    Calls Try.prog 39 #[.agg (da d)] w fun e w' => e = .returned (.int .u32 (orT d 96 : Nat)) ∧ Below w.heap.size w w' := by
  have hb0 : Below w.heap.size w (w.alloc (.cells (da d) 29)) := (Below.refl _ _).alloc (Nat.le_refl _) _
  have D0 : Dr (w.alloc (.cells (da d) 29)) w.heap.size 29 d := heap_new' _ _ _ rfl
  have HR0 := hide D0.range
  have HI := hide (fun k hk => indexD d k hk)
  go_enter Try.func39, Try.ntmps39
  go_wp2_with (with_reducible refine wpList_load_da rfl 29 (.tmp 1) rfl w.heap.size 0 rfl d _ HR0.out Try.underlying29 rfl (dInfo d) ?_)
  go_loopw [3, 7] (fun n i wr => ∃ k : Nat, k ≤ 96 ∧ i = .int .i64 k ∧ n = .int .u32 (orT d k : Nat) ∧ Below w.heap.size w wr)
    (fun _ i _ => 96 - (intOf i).toNat)
  case atStart => exact ⟨0, Nat.zero_le _, rfl, rfl, hb0⟩
  case round =>
    obtain ⟨k, hk, rfl, rfl, hb⟩ := hrel
    by_cases hlt : k < 96
    · have hx := HI.out k hlt
      obtain ⟨x, hxe⟩ : ∃ x : Nat, d k = (x : Int) := ⟨(d k).toNat, by have := hd k hlt; omega⟩
      have hxb : x < 4294967296 := by have := hd k hlt; omega
      have hor := or_nat (orT d k) x (by have := orT_lt d hd k hk; omega) hxb
      have HS := hide (show orT d (k + 1) = orT d k ||| x by simp [orT, hxe])
      rw [hxe] at hx
      clear hxe
      go_wp2
      go_roundw
      case rel => exact ⟨k + 1, hlt, by go_num, by rw [HS.out, ← hor], hb⟩
      case measure => simp [intOf]; omega
    · obtain rfl : k = 96 := by omega
      go_wp2
      go_ret
      exact ⟨rfl, hb⟩
theorem own_nil' {w : World} {base : Nat} : w.ownsRow base 2 1 (.slice none 0 0) 0 [] := ⟨rfl, Or.inl ⟨rfl, rfl⟩⟩

set_option maxRecDepth 20000 in
set_option maxHeartbeats 2000000 in
theorem specSpareTracks_any (s : Int) (A : Option Addr) (c : Nat) (l : List (Int × Int)) (d : Nat → Int) (w : World) (hA : HA w A l) (hn : l.length ≤ 1048576) (hwf : HWF l) (hs : -32768 ≤ s ∧ s ≤ 32767) (hd : DWF d) :
    Calls Try.prog 18 #[.agg #[.int .i16 s, .slice A l.length c], .agg (da d)] w (OwnP w (spL s l d) (codeI (askB s l d))) := by
  obtain ⟨i0, hi, hz0, hz1, hz2⟩ := info_parts info2
  have hb0 : Below w.heap.size w ((w.alloc (.cells #[.int .i16 s, .slice A l.length c] 34)).alloc (.cells (da d) 29)) := ((Below.refl _ _).alloc (Nat.le_refl _) _).alloc (by simp) _
  have hF : FP ((w.alloc (.cells #[.int .i16 s, .slice A l.length c] 34)).alloc (.cells (da d) 29)) w.heap.size s A l.length c := ⟨by simp [go_sem], by simp [go_sem]⟩
  have hD : Dr ((w.alloc (.cells #[.int .i16 s, .slice A l.length c] 34)).alloc (.cells (da d) 29)) (w.heap.size + 1) 29 d := heap_new' _ _ _ (by simp)
  go_enter Try.func18, Try.ntmps18
  go_wp2_with fail
  refine (l02Asked_any _ _ s A c l d _ hF hD (hA.below hb0) hn hwf hs hd).mono ?_
  rintro e w1 ⟨rfl, hb1⟩
  have b1 := step_below hb1 hb0
  have F1 := hF.keep hb1
  have D1 := hD.keep hb1
  cases ha : askB s l d
  · simp only [codeI]
    have HY := hide (show spL s l d = [] by simp [spL, ha])
    have HX := hide (show codeI (askB s l d) = 1 by rw [ha]; rfl)
    clear ha
    go_wp2
    go_ret2
    exact ⟨some ⟨w1.heap.size, 0, none⟩, 0, by rw [HX.out, HY.out]; rfl, by rw [HY.out]; exact own_empty b1.size, b1.alloc b1.size _⟩
  · simp only [codeI]
    have hfa := ask_all ha
    have hl24 := hfa.2.1.2
    have HY := hide (show spL s l d = spT d l.length by simp [spL, ha, spT])
    have HX := hide (show codeI (askB s l d) = 0 by rw [ha]; rfl)
    clear ha hfa
    have hal : Below w1.heap.size w1 (w1.alloc (.cells #[] 2)) := (Below.refl _ _).alloc (Nat.le_refl _) _
    go_wp2_with fail
    go_loopw [7, 8] (fun v i wr => ∃ k : Nat, k ≤ l.length ∧ i = .int .i64 k ∧ wr.ownsRow w1.heap.size 2 1 v (spT d k).length (tcells (spT d k)) ∧ Below w1.heap.size w1 wr)
      (fun _ i _ => l.length - (intOf i).toNat)
    case atStart => exact ⟨0, Nat.zero_le _, rfl, own_empty (Nat.le_refl _), hal⟩
    case round =>
      obtain ⟨k, hk, rfl, hown, hb⟩ := hrel
      obtain ⟨A', c', rfl⟩ := own_shape hown
      have F3 := F1.keep hb
      have D3 := D1.keep hb
      have e2 := F3.2
      by_cases hlt : k < l.length
      · have hlen := spT_len d k
        have KU : ∀ v, useT d k 96 = v → Calls Try.prog 38 #[.pointer (some ⟨w.heap.size + 1, 0, none⟩), .int .i64 k] wr (Says v wr) := fun v hv => by
          rw [← hv]; exact l03Uses_any _ k d wr D3 (by omega) hd
        cases hf : useT d k 96
        · have HT := hide (spT_yes hf)
          have KU' := KU false hf
          clear hf KU
          go_wp2_with fail
          refine KU'.mono ?_
          rintro e w6 ⟨rfl, hb6⟩
          have hown6 := own_keep hown hb6
          have hbb := step_below hb6 hb
          have hnew : ∀ j u, ([.int .i64 (k : Int)] : List Value)[j]? = some u → (w6.alloc (.cells #[.int .i64 (k : Int)] 2)).cell? ((⟨w6.heap.size, 0, none⟩ : Addr).add j) = some u := cell_one_new w6 (.int .i64 (k : Int)) 2
          have own7 := hown6.alloc (.cells #[.int .i64 (k : Int)] 2)
          go_wp2_with (at_builtin; refine wpList_append_own _ rfl _ _ 44 rfl w1.heap.size 2 i0 (.int .i64 0) 1 8 Try.underlying44 hi hz0 hz1 hz2 rfl (by decide) _ _ _ rfl own7 ⟨w6.heap.size, 0, none⟩ 1 1 [.int .i64 (k : Int)] rfl rfl hnew (fun x hx => by simp at hx; subst hx; rfl) (by unfold maxLen; omega) (by omega) (by simp; have := hbb.size; omega) ?_; intro v' w8 hown8 hgrow8 hnil8)
          have hb8 := (hbb.alloc hbb.size (.cells #[.int .i64 (k : Int)] 2)).grown hgrow8 (by simp; have := hbb.size; omega) (fun j hj => (hown.lt j hj).1)
          go_roundw
          case rel => exact ⟨k + 1, hlt, by go_num, by rw [HT.out, List.length_append, tcells, List.map_append]; exact hown8, hb8⟩
          case measure => simp [intOf]; omega
        · have HT := hide (spT_no hf)
          have KU' := KU true hf
          clear hf KU
          go_wp2_with fail
          refine KU'.mono ?_
          rintro e w6 ⟨rfl, hb6⟩
          have hown6 := own_keep hown hb6
          have hbb := step_below hb6 hb
          go_wp2
          go_roundw
          case rel => exact ⟨k + 1, hlt, by go_num, by rw [HT.out]; exact hown6, hbb⟩
          case measure => simp [intOf]; omega
      · obtain rfl : k = l.length := by omega
        go_wp2
        go_ret2
        exact ⟨A', c', by rw [HX.out, HY.out]; rfl, by rw [HY.out]; exact own_base hown b1.size, step_below hb b1⟩

set_option maxRecDepth 20000 in
set_option maxHeartbeats 2000000 in
theorem implSpareTracks_any (s : Int) (A : Option Addr) (c : Nat) (l : List (Int × Int)) (d : Nat → Int) (w : World) (hA : HA w A l) (hn : l.length ≤ 1048576) (hwf : HWF l) (hs : -32768 ≤ s ∧ s ≤ 32767) (hd : DWF d) :
    Calls Try.prog 19 #[.agg #[.int .i16 s, .slice A l.length c], .agg (da d)] w (OwnP w (spL s l d) (codeI (askB s l d))) := by
  obtain ⟨i0, hi, hz0, hz1, hz2⟩ := info_parts info2
  have hb0 : Below w.heap.size w ((w.alloc (.cells #[.int .i16 s, .slice A l.length c] 34)).alloc (.cells (da d) 29)) := ((Below.refl _ _).alloc (Nat.le_refl _) _).alloc (by simp) _
  have D0 : Dr ((w.alloc (.cells #[.int .i16 s, .slice A l.length c] 34)).alloc (.cells (da d) 29)) (w.heap.size + 1) 29 d := heap_new' _ _ _ (by simp)
  have HR0 := hide D0.range
  go_enter Try.func19, Try.ntmps19
  go_wp2_with (first | (with_reducible refine wpList_load_da rfl 29 (.tmp 3) rfl (w.heap.size + 1) 0 rfl d _ HR0.out Try.underlying29 rfl (dInfo d) ?_) | (with_reducible refine wpList_build1 rfl (.tmp 13) rfl d rfl ?_))
  refine (machine1_any s A c l d _ (hA.below hb0) hn hwf hs hd _ (by simp)).mono ?_
  rintro e w2 ⟨rfl, hb2⟩
  have hx0 : Below ((w.alloc (.cells #[.int .i16 s, .slice A l.length c] 34)).alloc (.cells (da d) 29)).heap.size ((w.alloc (.cells #[.int .i16 s, .slice A l.length c] 34)).alloc (.cells (da d) 29)) (((w.alloc (.cells #[.int .i16 s, .slice A l.length c] 34)).alloc (.cells (da d) 29)).alloc (.cells (da d) 29)) := (Below.refl _ _).alloc (Nat.le_refl _) _
  have b2 := step_below hb2 (hb0.alloc hb0.size (.cells (da d) 29))
  have hy : Below w2.heap.size w2 (w2.alloc (.cells #[.int .i64 s, .slice A l.length c] 58)) := (Below.refl _ _).alloc (Nat.le_refl _) _
  have M3 : (w2.alloc (.cells #[.int .i64 s, .slice A l.length c] 58)).heap[w2.heap.size]? = some (.cells #[.int .i64 s, .slice A l.length c] 58 (0, 0)) := heap_alloc_new _ _
  have b3 := b2.alloc b2.size (.cells #[.int .i64 s, .slice A l.length c] 58)
  have D3 := ((D0.keep hx0).keep hb2).keep hy
  cases ha : askB s l d
  · have HY := hide (show spL s l d = [] by simp [spL, ha])
    have HX := hide (show codeI (askB s l d) = 1 by rw [ha]; rfl)
    clear ha
    go_wp2
    go_ret2
    exact ⟨none, 0, by rw [HX.out, HY.out]; rfl, by rw [HY.out]; exact ⟨rfl, Or.inl ⟨rfl, rfl⟩⟩, b3⟩
  have hfa := ask_all ha
  have hl24 := hfa.2.1.2
  have HY := hide (show spL s l d = spT d l.length by simp [spL, ha, spT])
  have HX := hide (show codeI (askB s l d) = 0 by rw [ha]; rfl)
  clear hfa ha
  have HR3 := hide D3.range
  go_wp2_with (with_reducible refine wpList_load_da rfl 29 (.tmp 3) rfl (w.heap.size + 1) 0 rfl d _ HR3.out Try.underlying29 rfl (dInfo d) ?_)
  refine (used_any d _ hd).mono ?_
  rintro e w3 ⟨rfl, hb3⟩
  have b4 := step_below hb3 b3
  have M4 := (hb3.block _ (Array.getElem?_eq_some_iff.1 M3).1).trans M3
  have m1 := cell_of_row _ _ 0 _ _ _ M4
  have m2 := cell_of_row _ _ 1 _ _ _ M4
  simp at m1 m2
  have HO := hide (orT_lt d hd 96 (Nat.le_refl _))
  have HB := hide (fun t => orT_bit d hd t 96 (Nat.le_refl _))
  obtain ⟨u, hu⟩ : ∃ u, orT d 96 = u := ⟨_, rfl⟩
  rw [hu] at HO HB ⊢
  clear hu
  have HT := fun W => tracks_any A l.length c hn W
  go_wp2_with (go_at_call 40; with_reducible refine (HT _).mono ?_; rintro e w' ⟨rfl, rfl⟩)
  go_loopw [9, 25] (fun v i wr => ∃ k : Nat, k ≤ l.length ∧ i = .int .i64 k ∧ wr.ownsRow w3.heap.size 2 1 v (spT d k).length (tcells (spT d k)) ∧ Below w3.heap.size w3 wr)
    (fun _ i _ => l.length - (intOf i).toNat)
  case atStart => exact ⟨0, Nat.zero_le _, rfl, ⟨rfl, Or.inl ⟨rfl, rfl⟩⟩, Below.refl _ _⟩
  case round =>
    obtain ⟨k, hk, rfl, hown, hb⟩ := hrel
    obtain ⟨A', c', rfl⟩ := own_shape hown
    by_cases hlt : k < l.length
    · have hlen := spT_len d k
      have hsa := shr_and u k HO.out
      rw [HB.out k] at hsa
      cases hf : useT d k 96
      · rw [hf] at hsa
        have HT := hide (spT_yes hf)
        clear hf
        have hnew : ∀ j u, ([.int .i64 (k : Int)] : List Value)[j]? = some u → (wr.alloc (.cells #[.int .i64 (k : Int)] 2)).cell? ((⟨wr.heap.size, 0, none⟩ : Addr).add j) = some u := cell_one_new wr (.int .i64 (k : Int)) 2
        have own7 := hown.alloc (.cells #[.int .i64 (k : Int)] 2)
        have hsz := hb.size
        go_wp2_with (at_builtin; refine wpList_append_own _ rfl _ _ 44 rfl w3.heap.size 2 i0 (.int .i64 0) 1 8 Try.underlying44 hi hz0 hz1 hz2 rfl (by decide) _ _ _ rfl own7 ⟨wr.heap.size, 0, none⟩ 1 1 [.int .i64 (k : Int)] rfl rfl hnew (fun x hx => by simp at hx; subst hx; rfl) (by unfold maxLen; omega) (by omega) (by simp; omega) ?_; intro v' w8 hown8 hgrow8 hnil8)
        have hb8 := (hb.alloc hb.size (.cells #[.int .i64 (k : Int)] 2)).grown hgrow8 (by simp; omega) (fun j hj => (hown.lt j hj).1)
        go_roundw
        case rel => exact ⟨k + 1, hlt, by go_num, by rw [HT.out, List.length_append, tcells, List.map_append]; exact hown8, hb8⟩
        case measure => simp [intOf]; omega
      · rw [hf] at hsa
        have HT := hide (spT_no hf)
        clear hf
        go_wp2
        go_roundw
        case rel => exact ⟨k + 1, hlt, by go_num, by rw [HT.out]; exact hown, hb⟩
        case measure => simp [intOf]; omega
    · obtain rfl : k = l.length := by omega
      go_wp2
      go_ret2
      exact ⟨A', c', by rw [HX.out, HY.out]; rfl, by rw [HY.out]; exact own_base hown b4.size, step_below hb b4⟩
end Go.Proofs.Ytcdjfflmgjpobaa
