import Derived.Test.YtncdgjaadlpncaaMak
namespace Go.Proofs.Ytncdgjaadlpncaa
open Go.RowKit

set_option maxRecDepth 20000 in
set_option maxHeartbeats 1000000 in
theorem changeAt_any (k t : Nat) (d : Nat → Int) (w : World) (hk : k < 96) (ht : t < 24) (hd : DWF d) :
    Calls Try.prog 105 #[.agg (da d), .int .i64 k, .int .i64 t] w fun e w' => e = .returned (.agg #[.int .i16 k, .int .i8 t, .bool (!pinB d k t)]) ∧ Below w.heap.size w w' := by
  obtain ⟨X0, hX⟩ : ∃ X, X = (w.alloc (.cells (da d) 29)).alloc (.cells #[.int .i16 0, .int .i8 0, .bool false] 99) := ⟨_, rfl⟩
  have b0 : Below w.heap.size w X0 := by rw [hX]; exact ((Below.refl _ _).alloc (Nat.le_refl _) _).alloc (by simp) _
  have D0 : Dr X0 w.heap.size 29 d := by rw [hX]; exact heap_old' (heap_new' _ _ _ rfl)
  have Z0 : X0.heap[w.heap.size + 1]? = some (.cells #[.int .i16 0, .int .i8 0, .bool false] 99 (0, 0)) := by rw [hX]; exact heap_new' _ _ _ (by simp)
  have HR := hide D0.range
  have hw1 : IntKind.i16.wrap (k : Int) = (k : Int) := by simp [IntKind.wrap, IntKind.signed, IntKind.bits]; omega
  have hw2 : IntKind.i8.wrap (t : Int) = (t : Int) := by simp [IntKind.wrap, IntKind.signed, IntKind.bits]; omega
  go_enter Try.func105, Try.ntmps105
  go_upto_region 1 with fail
  rw [← hX]
  clear hX
  go_wp2_with (with_reducible refine wpList_load_da rfl 29 (.tmp 3) rfl w.heap.size 0 rfl d _ HR.out Try.underlying29 rfl (dInfo d) ?_)
  refine (has_any k t d _ hk (by omega) hd).mono ?_
  rintro e w1 ⟨rfl, hb1⟩
  have b1 := step_below hb1 b0
  have Z1 := (hb1.block _ (Array.getElem?_eq_some_iff.1 Z0).1).trans Z0
  have z0 : w1.cell? ⟨w.heap.size + 1, 0, none⟩ = some (.int .i16 0) := by rw [cell_of_row _ _ _ _ _ _ Z1]; rfl
  have z1 : w1.cell? ⟨w.heap.size + 1, 1, none⟩ = some (.int .i8 0) := by rw [cell_of_row _ _ _ _ _ _ Z1]; rfl
  have z2 : w1.cell? ⟨w.heap.size + 1, 2, none⟩ = some (.bool false) := by rw [cell_of_row _ _ _ _ _ _ Z1]; rfl
  have f0 := frozen_of_row _ _ 0 _ _ Z1
  have f1 := frozen_of_row _ _ 1 _ _ Z1
  have f2 := frozen_of_row _ _ 2 _ _ Z1
  have HZ := hide Z1
  clear Z0 Z1
  have KB : ∀ u v z, Below w.heap.size w (((w1.setCell ⟨w.heap.size + 1, 0, none⟩ u).setCell ⟨w.heap.size + 1, 1, none⟩ v).setCell ⟨w.heap.size + 1, 2, none⟩ z) := fun u v z => ((b1.setCell (p := ⟨_, _, none⟩) (by dsimp only; omega) _).setCell (p := ⟨_, _, none⟩) (by dsimp only; omega) _).setCell (p := ⟨_, _, none⟩) (by dsimp only; omega) _
  have KH : Hid (∀ u v z, (((w1.setCell ⟨w.heap.size + 1, 0, none⟩ u).setCell ⟨w.heap.size + 1, 1, none⟩ v).setCell ⟨w.heap.size + 1, 2, none⟩ z).heap[w.heap.size + 1]? = some (.cells #[u, v, z] 99 (0, 0))) := hide fun u v z => by
    have := HZ.out
    simp [World.setCell, Array.getElem?_modify, this]
  have hi3 : (Try.prog.info? 99).map (·.size) = some 3 := by kernel_rfl
  have HI := hide hi3
  clear hi3
  go_wp2_with fail
  exact bodyPost_ret (v := .agg #[.int .i16 k, .int .i8 t, .bool (!pinB d k t)]) (results_cell_row Try.results105 _ _ (w.heap.size + 1) 99 #[.int .i16 k, .int .i8 t, .bool (!pinB d k t)] (0, 0) _ (by simp) (KH.out _ _ _) Try.underlying99 rfl HI.out) rfl ⟨rfl, KB _ _ _⟩

/-- what the program's loop answers -/
def mkD (s : Int) (n : Nat) (d : Nat → Int) (cl : List (Int × Int × Bool)) : Nat → Int := if mcC s n d cl = 0 then mcD d cl cl.length else fun _ => 0
def mkN (s : Int) (n : Nat) (d : Nat → Int) (cl : List (Int × Int × Bool)) : Int := if mcC s n d cl = 0 then 0 else (mcI s n d cl : Nat)
set_option maxRecDepth 20000 in
set_option maxHeartbeats 2000000 in
theorem changed_any (s : Int) (A : Option Addr) (n c : Nat) (d : Nat → Int) (B : Option Addr) (cB : Nat) (cl : List (Int × Int × Bool)) (w : World) (hs : 2 ≤ s ∧ s ≤ 96) (hn : n ≤ 24) (hd : DWF d)
    (hC : CgA w B cl) (hcn : cl.length ≤ 1048576) (hcw : CgWF cl) :
    Calls Try.prog 88 #[.agg #[.int .i64 s, .slice A n c], .agg (da d), .slice B cl.length cB] w (DrN (mkD s n d cl) (mkN s n d cl) (mcC s n d cl) w) := by
  have hz := zeroDrum
  obtain ⟨hs2, hs96⟩ := hs
  obtain ⟨X0, hX⟩ : ∃ X, X = ((w.alloc (.cells #[.int .i64 s, .slice A n c] 77)).alloc (.cells (da d) 29)).alloc (.cells za 29) := ⟨_, rfl⟩
  have b0 : Below w.heap.size w X0 := by rw [hX]; exact (((Below.refl _ _).alloc (Nat.le_refl _) _).alloc (by simp) _).alloc (by simp; omega) _
  have M0 : X0.cell? ⟨w.heap.size, 0, none⟩ = some (.int .i64 s) := by rw [hX]; simp [go_sem]
  have M1 : X0.cell? ⟨w.heap.size, 1, none⟩ = some (.slice A n c) := by rw [hX]; simp [go_sem]
  have D0 : Dr X0 (w.heap.size + 1) 29 d := by rw [hX]; exact heap_old' (heap_new' _ _ _ (by simp))
  have Z0 : Dr X0 (w.heap.size + 1 + 1) 29 (fun _ => 0) := by rw [hX, za_eq]; exact heap_new' _ _ _ (by simp)
  go_enter Try.func88, Try.ntmps88
  go_upto_region 1 with fail
  rw [← hX]
  clear hX hz
  go_wp2_with fail
  go_loopw [15] (fun i wr => ∃ k : Nat, k ≤ cl.length ∧ i = .int .i64 k ∧ McG s n d cl k ∧ wr.cell? ⟨w.heap.size, 0, none⟩ = some (.int .i64 s) ∧ wr.cell? ⟨w.heap.size, 1, none⟩ = some (.slice A n c) ∧ Dr wr (w.heap.size + 1) 29 (mcD d cl k) ∧ Dr wr (w.heap.size + 1 + 1) 29 (fun _ => 0) ∧ Below w.heap.size w wr)
    (fun i _ => cl.length - (intOf i).toNat)
  case atStart => exact ⟨0, Nat.zero_le _, rfl, fun j hj => absurd hj (Nat.not_lt_zero _), M0, M1, D0, Z0, b0⟩
  case round =>
    obtain ⟨k, hk, rfl, hG, m0, m1, Dk, Zk, hb⟩ := hrel
    have HG := hide hG
    clear hG M0 M1 D0 Z0
    by_cases hlt : k < cl.length
    · obtain ⟨bb, o, rfl, hbb, c1, c2, c3⟩ := hC k hlt
      have d1 := (hb.cell (p := ⟨bb, o + k * 3, none⟩) hbb).trans c1
      have d2 := (hb.cell (p := ⟨bb, o + k * 3 + 1, none⟩) hbb).trans c2
      have d3 := (hb.cell (p := ⟨bb, o + k * 3 + 2, none⟩) hbb).trans c3
      obtain ⟨⟨w1, w2⟩, ⟨w3, w4⟩⟩ := hcw k hlt
      have hki : (k : Int) < (cl.length : Int) := by omega
      obtain ⟨q, hq⟩ : ∃ q, mcD d cl k = q := ⟨_, rfl⟩
      have hqw : DWF q := by rw [← hq]; exact mcD_wf hd cl k
      have HB := hide (show mcB s n d cl k = if plB s n (cgS cl k) (cgT cl k) then (if pinB q (cgS cl k).toNat (cgT cl k).toNat = cgP cl k then 4 else 0) else 2 by rw [mcB, hq])
      have HT := hide (show mcD d cl (k + 1) = togD q (cgS cl k).toNat (cgT cl k).toNat by rw [mcD, hq])
      rw [hq] at Dk
      obtain ⟨x, hx⟩ : ∃ x, cgS cl k = x := ⟨_, rfl⟩
      obtain ⟨y, hy⟩ : ∃ y, cgT cl k = y := ⟨_, rfl⟩
      obtain ⟨z, hzz⟩ : ∃ z, cgP cl k = z := ⟨_, rfl⟩
      rw [hx] at d1 HB HT w1 w2
      rw [hy] at d2 HB HT w3 w4
      rw [hzz] at d3 HB
      have hwx : IntKind.i64.wrap x = x := IntWalk.i64_in _ (by omega)
      have hwy : IntKind.i64.wrap y = y := IntWalk.i64_in _ (by omega)
      have hmlt := World.block_lt_of_cell? _ _ m0
      clear c1 c2 c3 hx hy hzz hq
      obtain ⟨X2, hX2⟩ : ∃ X, X = wr.alloc (.cells #[.int .i16 x, .int .i8 y, .bool z] 99) := ⟨_, rfl⟩
      have hb2 : Below wr.heap.size wr X2 := by rw [hX2]; exact (Below.refl _ _).alloc (Nat.le_refl _) _
      have e0 : X2.cell? ⟨wr.heap.size, 0, none⟩ = some (.int .i16 x) := by rw [hX2]; simp [go_sem]
      have e1 : X2.cell? ⟨wr.heap.size, 1, none⟩ = some (.int .i8 y) := by rw [hX2]; simp [go_sem]
      have e2 : X2.cell? ⟨wr.heap.size, 2, none⟩ = some (.bool z) := by rw [hX2]; simp [go_sem]
      have helt : wr.heap.size < X2.heap.size := World.block_lt_of_cell? _ _ e0
      have bX := step_below hb2 hb
      have n0 := (hb2.cell (p := ⟨w.heap.size, 0, none⟩) hmlt).trans m0
      have n1 := (hb2.cell (p := ⟨w.heap.size, 1, none⟩) hmlt).trans m1
      have DX := Dk.keep hb2
      have ZX := Zk.keep hb2
      go_upto_region 4 with fail
      rw [← hX2]
      clear hX2 Dk Zk m0 m1 d1 d2 d3
      have L0 := Later.cell e0
      have L1 := Later.cell e1
      go_wp2_with fail
      refine wp_region_later (by kernel_rfl) (by kernel_rfl) ?_
      repeat (go_big_quiet_step (fail))
      refine wpQuiet_nil ?_
      rintro w3 ⟨⟨_, hq3⟩, rfl⟩
      have b3 := bX.trans (hq3.mono bX.size)
      have D3 := DX.keep hq3
      have Z3 := ZX.keep hq3
      have m0 := (hq3.cell (p := ⟨w.heap.size, 0, none⟩) (World.block_lt_of_cell? _ _ n0)).trans n0
      have m1 := (hq3.cell (p := ⟨w.heap.size, 1, none⟩) (World.block_lt_of_cell? _ _ n1)).trans n1
      have g0 := (hq3.cell (p := ⟨wr.heap.size, 0, none⟩) helt).trans e0
      have g1 := (hq3.cell (p := ⟨wr.heap.size, 1, none⟩) helt).trans e1
      have g2 := (hq3.cell (p := ⟨wr.heap.size, 2, none⟩) helt).trans e2
      have hsz3 := hq3.size
      clear DX ZX n0 n1 e0 e1 e2 L0 L1 hq3
      go_wp2_with fail
      refine (hasStep_any s x A n c _ (by omega)).mono ?_
      rintro e w5 ⟨rfl, hb5⟩
      have b5 := step_below hb5 b3
      have D5 := D3.keep hb5
      have Z5 := Z3.keep hb5
      have k0 := (hb5.cell (p := ⟨w.heap.size, 0, none⟩) (World.block_lt_of_cell? _ _ m0)).trans m0
      have k1 := (hb5.cell (p := ⟨w.heap.size, 1, none⟩) (World.block_lt_of_cell? _ _ m1)).trans m1
      have h0 := (hb5.cell (p := ⟨wr.heap.size, 0, none⟩) (World.block_lt_of_cell? _ _ g0)).trans g0
      have h1 := (hb5.cell (p := ⟨wr.heap.size, 1, none⟩) (World.block_lt_of_cell? _ _ g1)).trans g1
      have h2 := (hb5.cell (p := ⟨wr.heap.size, 2, none⟩) (World.block_lt_of_cell? _ _ g2)).trans g2
      clear D3 Z3 m0 m1 g0 g1 g2 hb5
      have R2 : w5.heap[w.heap.size + 1 + 1]? = some (.cells (da fun _ => 0) 29 (0, 0)) := Z5
      have HZ := hide R2
      clear R2
      cases hp1 : inB x 0 (s - 1)
      · have HM := hide (show mcB s n d cl k = 2 by rw [HB.out]; simp [plB, hp1])
        have HI := hide (mcI_bad hlt HG.out (by rw [HM.out]; decide))
        have HCC := hide ((mcC_bad hlt HG.out (by rw [HM.out]; decide)).trans HM.out)
        have HY := hide (show mkD s n d cl = fun _ => 0 by rw [mkD, HCC.out]; rfl)
        have HNN := hide (show mkN s n d cl = k by rw [mkN, HCC.out, HI.out]; rfl)
        clear hp1 Z5 D5
        go_wp2_with (first | (with_reducible refine wpList_build0 rfl rfl ?_) | (with_reducible refine wpList_store_row rfl 29 (.tmp 6) (.tmp 36) rfl (w.heap.size + 1 + 1) (da fun _ => 0) rfl rfl 29 _ HZ.out (by rw [da_size]; exact info29) (by simp only [da_size]) (da_one _) ?_))
        exact bodyPost_ret (v := .tuple #[.agg (da fun _ => 0), .int .i64 k, .int .i64 2]) (results_dr3 Try.results88 _ _ (w.heap.size + 1 + 1) 29 _ _ _ (by simp [Act.put]) (by simp [Act.put]) (by simp [Act.put]) (setRow_heap _ _ _ _ _ _ HZ.out)) rfl ⟨by rw [HY.out, HCC.out, HNN.out], below_setRow b5 (by omega)⟩
      go_wp2_with fail
      refine (hasTrack_any s y A n c _ (by omega)).mono ?_
      rintro e w6 ⟨rfl, hb6⟩
      have b6 := step_below hb6 b5
      have D6 := D5.keep hb6
      have Z6 := Z5.keep hb6
      have m0 := (hb6.cell (p := ⟨w.heap.size, 0, none⟩) (World.block_lt_of_cell? _ _ k0)).trans k0
      have m1 := (hb6.cell (p := ⟨w.heap.size, 1, none⟩) (World.block_lt_of_cell? _ _ k1)).trans k1
      have g0 := (hb6.cell (p := ⟨wr.heap.size, 0, none⟩) (World.block_lt_of_cell? _ _ h0)).trans h0
      have g1 := (hb6.cell (p := ⟨wr.heap.size, 1, none⟩) (World.block_lt_of_cell? _ _ h1)).trans h1
      have g2 := (hb6.cell (p := ⟨wr.heap.size, 2, none⟩) (World.block_lt_of_cell? _ _ h2)).trans h2
      clear D5 Z5 k0 k1 h0 h1 h2 hb6 HZ
      have R2 : w6.heap[w.heap.size + 1 + 1]? = some (.cells (da fun _ => 0) 29 (0, 0)) := Z6
      have HZ := hide R2
      clear R2
      cases hp2 : inB y 0 ((n : Int) - 1)
      · have HM := hide (show mcB s n d cl k = 2 by rw [HB.out]; simp [plB, hp2])
        have HI := hide (mcI_bad hlt HG.out (by rw [HM.out]; decide))
        have HCC := hide ((mcC_bad hlt HG.out (by rw [HM.out]; decide)).trans HM.out)
        have HY := hide (show mkD s n d cl = fun _ => 0 by rw [mkD, HCC.out]; rfl)
        have HNN := hide (show mkN s n d cl = k by rw [mkN, HCC.out, HI.out]; rfl)
        clear hp1 hp2 Z6 D6
        go_wp2_with (first | (with_reducible refine wpList_build0 rfl rfl ?_) | (with_reducible refine wpList_store_row rfl 29 (.tmp 6) (.tmp 36) rfl (w.heap.size + 1 + 1) (da fun _ => 0) rfl rfl 29 _ HZ.out (by rw [da_size]; exact info29) (by simp only [da_size]) (da_one _) ?_))
        exact bodyPost_ret (v := .tuple #[.agg (da fun _ => 0), .int .i64 k, .int .i64 2]) (results_dr3 Try.results88 _ _ (w.heap.size + 1 + 1) 29 _ _ _ (by simp [Act.put]) (by simp [Act.put]) (by simp [Act.put]) (setRow_heap _ _ _ _ _ _ HZ.out)) rfl ⟨by rw [HY.out, HCC.out, HNN.out], below_setRow b6 (by omega)⟩
      have hp : plB s n x y = true := by simp [plB, hp1, hp2]
      obtain ⟨a, t, hxa, hyt, ha1, ht1⟩ := plB_nat hp
      have ha96 : a < 96 := by omega
      have ht24 : t < 24 := by omega
      have hax : x.toNat = a := by omega
      have hty : y.toNat = t := by omega
      have HM := hide (show mcB s n d cl k = if pinB q a t = z then 4 else 0 by rw [HB.out, hp, hax, hty]; rfl)
      rw [hax, hty] at HT
      clear hp hp1 hp2 hax hty
      subst hxa hyt
      have KP : ∀ W, Calls Try.prog 105 #[.agg (da q), .int .i64 a, .int .i64 t] W fun e w' => e = .returned (.agg #[.int .i16 a, .int .i8 t, .bool (!pinB q a t)]) ∧ Below W.heap.size W w' := fun W => changeAt_any a t q W ha96 ht24 hqw
      have L0 := Later.cell g0
      have L1 := Later.cell g1
      have L2 := Later.cell g2
      have LD := hide D6.later
      obtain ⟨pb, hpb⟩ : ∃ pb, pinB q a t = pb := ⟨_, rfl⟩
      rw [hpb] at HM KP
      clear hpb
      by_cases hpz : pb = z
      · subst hpz
        rw [if_pos rfl] at HM
        have HI := hide (mcI_bad hlt HG.out (by rw [HM.out]; decide))
        have HCC := hide ((mcC_bad hlt HG.out (by rw [HM.out]; decide)).trans HM.out)
        have HY := hide (show mkD s n d cl = fun _ => 0 by rw [mkD, HCC.out]; rfl)
        have HNN := hide (show mkN s n d cl = k by rw [mkN, HCC.out, HI.out]; rfl)
        clear Z6 D6
        cases pb
        all_goals
          go_wp2_with fail
          refine wp_region_later (by kernel_rfl) (by kernel_rfl) ?_
          repeat (first | (go_big_quiet_want; with_reducible refine quiet_load_da 29 (.tmp 4) rfl (.pointer (some ⟨w.heap.size + 1, 0, none⟩)) rfl (.agg (da q)) (by rintro _ ⟨p, rfl⟩; exact LD.out p) ?_; go_simp; go_big_quiet_on) | go_big_quiet_step ((go_at_call 105; with_reducible exact Later.call (KP _))))
          refine wpQuiet_nil ?_
          rintro wz ⟨⟨_, hqz⟩, rfl⟩
          have bz := b6.trans (hqz.mono b6.size)
          have RZ := (hqz.block _ (Array.getElem?_eq_some_iff.1 HZ.out).1).trans HZ.out
          have HZ := hide RZ
          clear RZ
          go_wp2_with (first | (with_reducible refine wpList_build0 rfl rfl ?_) | (with_reducible refine wpList_store_row rfl 29 (.tmp 6) (.tmp 44) rfl (w.heap.size + 1 + 1) (da fun _ => 0) rfl rfl 29 _ HZ.out (by rw [da_size]; exact info29) (by simp only [da_size]) (da_one _) ?_))
          exact bodyPost_ret (v := .tuple #[.agg (da fun _ => 0), .int .i64 k, .int .i64 4]) (results_dr3 Try.results88 _ _ (w.heap.size + 1 + 1) 29 _ _ _ (by simp [Act.put]) (by simp [Act.put]) (by simp [Act.put]) (setRow_heap _ _ _ _ _ _ HZ.out)) rfl ⟨by rw [HY.out, HCC.out, HNN.out], below_setRow bz (by omega)⟩
      · rw [if_neg hpz] at HM
        have HG2 := hide (McG_succ HG.out HM.out)
        have hzp : z = !pb := by cases z <;> cases pb <;> simp_all
        subst hzp
        clear hpz HZ
        cases pb
        all_goals
          go_wp2_with fail
          refine wp_region_later (by kernel_rfl) (by kernel_rfl) ?_
          repeat (first | (go_big_quiet_want; with_reducible refine quiet_load_da 29 (.tmp 4) rfl (.pointer (some ⟨w.heap.size + 1, 0, none⟩)) rfl (.agg (da q)) (by rintro _ ⟨p, rfl⟩; exact LD.out p) ?_; go_simp; go_big_quiet_on) | go_big_quiet_step ((go_at_call 105; with_reducible exact Later.call (KP _))))
          refine wpQuiet_nil ?_
          rintro wz ⟨⟨_, hqz⟩, rfl⟩
          have bz := b6.trans (hqz.mono b6.size)
          have Dz := D6.keep hqz
          have Zz := Z6.keep hqz
          have k0 := (hqz.cell (p := ⟨w.heap.size, 0, none⟩) (World.block_lt_of_cell? _ _ m0)).trans m0
          have k1 := (hqz.cell (p := ⟨w.heap.size, 1, none⟩) (World.block_lt_of_cell? _ _ m1)).trans m1
          have HDz := hide Dz.range
          clear D6 Z6 m0 m1 g0 g1 g2 L0 L1 L2
          go_wp2_with (with_reducible refine wpList_load_da rfl 29 (.tmp 4) rfl (w.heap.size + 1) 0 rfl q _ HDz.out Try.underlying29 rfl (dInfo q) ?_)
          refine (toggled_any a t q _ ha96 ht24 hqw).mono ?_
          rintro e w8 ⟨rfl, hb8⟩
          have b8 := step_below hb8 bz
          have D8 := Dz.keep hb8
          have Z8 := Zz.keep hb8
          have p0 := (hb8.cell (p := ⟨w.heap.size, 0, none⟩) (World.block_lt_of_cell? _ _ k0)).trans k0
          have p1 := (hb8.cell (p := ⟨w.heap.size, 1, none⟩) (World.block_lt_of_cell? _ _ k1)).trans k1
          have HD8 := hide (show w8.heap[w.heap.size + 1]? = some (.cells (da q) 29 (0, 0)) from D8)
          clear Dz Zz k0 k1 D8
          go_wp2_with (with_reducible refine wpList_store_row rfl 29 (.tmp 4) (.tmp 49) rfl (w.heap.size + 1) (da (togD q a t)) rfl rfl 29 _ HD8.out (by rw [da_size]; exact info29) (by simp only [da_size]) (da_one _) ?_)
          have S1 : Dr (w8.setRow (w.heap.size + 1) (da (togD q a t))) (w.heap.size + 1) 29 (mcD d cl (k + 1)) := by rw [HT.out]; exact setRow_heap _ _ _ _ _ _ HD8.out
          have S2 : Dr (w8.setRow (w.heap.size + 1) (da (togD q a t))) (w.heap.size + 1 + 1) 29 (fun _ => 0) := (setRow_other _ _ _ _ (by omega)).trans Z8
          go_roundw
          case rel => exact ⟨k + 1, hlt, by go_num, HG2.out, (cell_block (setRow_other _ _ _ _ (by omega))).trans p0, (cell_block (setRow_other _ _ _ _ (by omega))).trans p1, S1, S2, below_setRow b8 (by omega)⟩
          case measure => simp [intOf]; omega
    · obtain rfl : k = cl.length := by omega
      have HCC := hide (mcC_all HG.out)
      have HY := hide (show mkD s n d cl = mcD d cl cl.length by rw [mkD, HCC.out]; rfl)
      have HNN := hide (show mkN s n d cl = 0 by rw [mkN, HCC.out]; rfl)
      have HR := hide Dk.range
      have R2 : wr.heap[w.heap.size + 1 + 1]? = some (.cells (da fun _ => 0) 29 (0, 0)) := Zk
      have HZ := hide R2
      clear R2 Zk Dk
      go_wp2_with (first | (with_reducible refine wpList_load_da rfl 29 (.tmp 4) rfl (w.heap.size + 1) 0 rfl (mcD d cl cl.length) _ HR.out Try.underlying29 rfl (dInfo (mcD d cl cl.length)) ?_) | (with_reducible refine wpList_store_row rfl 29 (.tmp 6) (.tmp 51) rfl (w.heap.size + 1 + 1) (da (mcD d cl cl.length)) rfl rfl 29 _ HZ.out (by rw [da_size]; exact info29) (by simp only [da_size]) (da_one _) ?_))
      exact bodyPost_ret (v := .tuple #[.agg (da (mcD d cl cl.length)), .int .i64 0, .int .i64 0]) (results_dr3 Try.results88 _ _ (w.heap.size + 1 + 1) 29 _ _ _ (by simp [Act.put]) (by simp [Act.put]) (by simp [Act.put]) (setRow_heap _ _ _ _ _ _ HZ.out)) rfl ⟨by rw [HY.out, HCC.out, HNN.out], below_setRow hb (by omega)⟩
end Go.Proofs.Ytncdgjaadlpncaa
