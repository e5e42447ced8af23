import Derived.Test.YtcepjiglhlmgdaaGreatDoorNby
namespace Go.Proofs.YtcepjiglhlmgdaaGreatDoor
open Go.RowKit Go.Shelf
attribute [local go_sem] Oper.semAt_some
theorem moves_make (w : World) : Calls Tryz.prog 79 #[] w fun e w' => e = .returned (.func (.func 87) #[] #[]) ∧ w' = w := by
  go_enter Tryz.func79, Tryz.ntmps79
  go_wp2
  go_ret
  exact ⟨rfl, rfl⟩
theorem own_cells {B Bx : Nat} {t : TypeId} {cs : Array Value} : OwnFrom B (fun (_ : Unit) W => W.heap[Bx]? = some (.cells cs t (0, 0))) := fun _ X Y row hs hg hr =>
  (hg.block Bx (Array.getElem?_eq_some_iff.1 hs).1 fun e => by
    obtain ⟨_, o, ho, hc⟩ := hr Bx e.symm
    rw [hs] at ho
    cases ho
    cases hc).trans hs
set_option maxHeartbeats 2000000 in
set_option maxRecDepth 20000 in
theorem choices_q (s a p : Int) (A : Option Addr) (c : Nat) (hl : List (Int × Int)) (Bn Bm : Nat) (w : World) (ha : 0 ≤ a ∧ a ≤ 199) (hp : 0 ≤ p ∧ p ≤ 47) (hs : 2 ≤ s ∧ s ≤ 96) (hA : HA w A hl) (hn : hl.length ≤ 24) (hg : HG s hl hl.length)
    (hN : w.heap[Bn]? = some (.cells #[.int .i16 a, .int .i8 p] 59 (0, 0))) (hM : w.heap[Bm]? = some (.cells #[.int .i64 s, .slice A hl.length c] 93 (0, 0))) :
    SeqQ Tryz.prog 78 #[.pointer (some ⟨Bn, 0, none⟩), .pointer (some ⟨Bm, 0, none⟩)] chE (chS s hl a p) w := by
  intro n l T J W hW hJ hY h0
  have hA1 := hA.below hW
  have hN1 := (hW.block _ (Array.getElem?_eq_some_iff.1 hN).1).trans hN
  have hM1 := (hW.block _ (Array.getElem?_eq_some_iff.1 hM).1).trans hM
  show CallsIn Fence.wide n Tryz.prog 78 #[.func (.yield l) #[] #[], .pointer (some ⟨Bn, 0, none⟩), .pointer (some ⟨Bm, 0, none⟩)] W _
  refine callsIn_of_wp_marks Tryz.func78 rfl trivial ?_ rfl
  simp only [Tryz.ntmps78, List.size_toArray, List.length_cons, List.length_nil, Nat.reduceAdd, Nat.reduceSub, Array.replicate_succ, Array.replicate_zero, List.push_toArray, List.append_toArray, List.nil_append, List.cons_append]
  have hnd : ∀ q : Nat, Fence.wide.depth.isSome = true → 1 ≤ q := fun q h => by simp [Fence.wide] at h
  gi_wp2
  obtain ⟨X, hX⟩ : ∃ X, X = W.alloc (.cells #[.func (.yield l) #[] #[]] 119) := ⟨_, rfl⟩
  have Y0 : Boxed X W.heap.size 119 (.func (.yield l) #[] #[]) := by rw [hX]; exact Boxed.new W _ _
  have b0 : Below W.heap.size W X := by rw [hX]; exact (Below.refl _ _).alloc (Nat.le_refl _) _
  have hA2 := hA1.below b0
  have hN2 := (b0.block _ (Array.getElem?_eq_some_iff.1 hN1).1).trans hN1
  have hM2 := (b0.block _ (Array.getElem?_eq_some_iff.1 hM1).1).trans hM1
  rw [← hX]
  clear hX hA hN hM hA1 hN1 hM1
  refine ⟨trivial, hnd _, (callsIn_wide.2 (moves_make X)).mono ?_⟩
  rintro e w5 ⟨rfl, rfl⟩
  gi_wp2
  have hXlt : W.heap.size < w5.heap.size := bxlt Y0
  have hT0 : T (chF s hl a p []) := h0
  refine wpIn_q (gf := 87) (lb := #[]) rfl (enters_of Tryz.func87 (by kernel_rfl) rfl) (moves_q w5) (Below.refl _ _) (fun _ => rfl)
    (fun ms => T (chF s hl a p ms)) hT0 (fun c _ V => c = .ret ∧ (∃ q, q <+: chS s hl a p ∧ J q V))
    (fun c _ V V' row hs hg hr => ⟨hs.1, by obtain ⟨q, h1, h2⟩ := hs.2; exact ⟨q, h1, hJ q V V' row h2 hg fun r e => by have := hr r e; omega⟩⟩)
    (fun B1 x a' V => ∃ Bx, B1 ≤ Bx ∧ V.heap[Bx]? = some (.cells #[.bool false, .int .i8 x.1, .int .i8 x.2, .int .i8 0] 63 (0, 0)) ∧ a' = { tmps := #[.func (.yield l) #[] #[], .pointer (some ⟨Bn, 0, none⟩), .pointer (some ⟨Bm, 0, none⟩), .pointer (some ⟨W.heap.size, 0, none⟩), .pointer (some ⟨Bx, 0, none⟩), undef, undef, undef, .func (.func 87) #[] #[], .agg #[.bool false, .int .i8 x.1, .int .i8 x.2, .int .i8 0], undef, undef, undef, undef, undef, undef, undef, undef, undef, undef, undef, undef, undef, undef, undef, undef, undef, undef, undef, undef, undef, undef, undef, undef, undef, undef, undef, undef, undef, undef, undef], defers := [] })
    (fun B1 x a' _ s V V' row hs hg hr => by
      obtain ⟨Bx, h1, h2, h3⟩ := hs
      exact ⟨Bx, h1, own_cells () V V' row h2 hg hr, h3⟩)
    ?assign ?body ?done ?stop
  case assign =>
    intro m r pre x V K hT hB hK
    gi_wp2
    exact hK _ _ ((Below.refl _ V).alloc (Nat.le_refl _) _) ⟨V.heap.size, Nat.le_refl _, heap_alloc_new _ _, rfl⟩
  case body =>
    rintro m r pre x B1 a' V hlr hlB hB1 hr hpre hT hB ⟨Bx, hBx, bX, rfl⟩
    have bV : Below W.heap.size W V := b0.trans (hB.mono b0.size)
    have Y3 := bxk Y0 hB
    have N3 := (hB.block _ (Array.getElem?_eq_some_iff.1 hN2).1).trans hN2
    have M3 := (hB.block _ (Array.getElem?_eq_some_iff.1 hM2).1).trans hM2
    have A3 := hA2.below hB
    obtain ⟨⟨x1, x2⟩, x3, x4⟩ := mvS_in (pre_mem hpre)
    have n0 := cell_of_row _ _ 0 _ _ _ N3
    have n1 := cell_of_row _ _ 1 _ _ _ N3
    have y0 := cell_of_row _ _ 0 _ _ _ bX
    have y1 := cell_of_row _ _ 1 _ _ _ bX
    have y2 := cell_of_row _ _ 2 _ _ _ bX
    have y3 := cell_of_row _ _ 3 _ _ _ bX
    simp at n0 n1 y0 y1 y2 y3
    gi_wp2
    refine ⟨trivial, hnd _, (CallsIn.inRound r (callsIn_wide.2 (noteBy_any a p false x.1 x.2 0 V ha hp ⟨x1, x2⟩ ⟨x3, x4⟩))).mono ?_⟩
    rintro e w6 ⟨rfl, hb6⟩
    obtain ⟨X6, hX6⟩ : ∃ X6, X6 = w6.alloc (.cells #[.int .i16 (a + x.1), .int .i8 (p + 12 * x.2)] 59) := ⟨_, rfl⟩
    have b6 : Below V.heap.size V X6 := by rw [hX6]; exact hb6.alloc hb6.size _
    have R6 : X6.heap[w6.heap.size]? = some (.cells #[.int .i16 (a + x.1), .int .i8 (p + 12 * x.2)] 59 (0, 0)) := by rw [hX6]; exact heap_alloc_new _ _
    have M6 := (b6.block _ (Array.getElem?_eq_some_iff.1 M3).1).trans M3
    have m0 := cell_of_row _ _ 0 _ _ _ M6
    have m1 := cell_of_row _ _ 1 _ _ _ M6
    have z0 := cell_of_row _ _ 0 _ _ _ R6
    have z1 := cell_of_row _ _ 1 _ _ _ R6
    simp at m0 m1 z0 z1
    have wz : IntKind.i64.wrap (a + x.1) = a + x.1 := IntWalk.i64_in _ (by omega)
    have wz2 : IntKind.i64.wrap (p + 12 * x.2) = p + 12 * x.2 := IntWalk.i64_in _ (by omega)
    rw [hX6] at m0 m1 z0 z1
    have KS := hasStep_any s (a + x.1) A hl.length c X6 (by omega)
    have hCR : inB (a + x.1) 0 (s - 1) = true → chR s hl a p x = (trk hl (p + 12 * x.2) hl.length).map fun t : Nat => (false, x.1, x.2, (t : Int)) := fun h => if_pos h
    have hCN : inB (a + x.1) 0 (s - 1) = false → chR s hl a p x = [] := fun h => by unfold chR; rw [h]; rfl
    gi_wp2
    rw [← hX6]
    cases hin : inB (a + x.1) 0 (s - 1)
    · rw [hin] at KS
      have HT := hide (show T (chF s hl a p (pre ++ [x])) by rw [chF_snoc, hCN hin, List.append_nil]; exact hT)
      clear hin hCR hCN hT
      refine ⟨trivial, hnd _, (CallsIn.inRound r (callsIn_wide.2 KS)).mono ?_⟩
      rintro e w7 ⟨rfl, hb7⟩
      gi_wp2
      have b7 : Below V.heap.size V w7 := b6.trans (hb7.mono b6.size)
      exact ⟨keepsFrom_below b7, b7.mono hB1, HT.out⟩
    · rw [hin] at KS
      have HR := hide (hCR hin)
      clear hin hCR hCN
      refine ⟨trivial, hnd _, (CallsIn.inRound r (callsIn_wide.2 KS)).mono ?_⟩
      rintro e w7 ⟨rfl, hb7⟩
      have b7 : Below V.heap.size V w7 := b6.trans (hb7.mono b6.size)
      have M7 := (hb7.block _ (Array.getElem?_eq_some_iff.1 M6).1).trans M6
      have R7 := (hb7.block _ (Array.getElem?_eq_some_iff.1 R6).1).trans R6
      have m0 := cell_of_row _ _ 0 _ _ _ M7
      have m1 := cell_of_row _ _ 1 _ _ _ M7
      have z0 := cell_of_row _ _ 0 _ _ _ R7
      have z1 := cell_of_row _ _ 1 _ _ _ R7
      simp at m0 m1 z0 z1
      have KT := tracksFor_any s (p + 12 * x.2) A c hl w7 (A3.below b7) hn hg
      gi_wp2
      refine ⟨trivial, hnd _, (CallsIn.inRound r (callsIn_wide.2 KT)).mono ?_⟩
      rintro e w8 ⟨A8, c8, rfl, own8, hb8⟩
      gi_wp2
      obtain ⟨tr, htr⟩ : ∃ tr, trk hl (p + 12 * x.2) hl.length = tr := ⟨_, rfl⟩
      have htn : tr.length ≤ 24 := by have h1 := trk_len hl (p + 12 * x.2) hl.length; rw [htr] at h1; omega
      have htl : ∀ t ∈ tr, t < 24 := fun t ht => by
        have h1 := trk_lt (l := hl) (p := p + 12 * x.2) (n := hl.length) (by rw [htr]; exact ht)
        omega
      have HR2 := hide (HR.out)
      rw [htr] at HR2 own8 ⊢
      have b8 : Below V.heap.size V w8 := b7.trans (hb8.mono b7.size)
      have X8 := (hb8.block _ (by have := b7.size; have := (Array.getElem?_eq_some_iff.1 bX).1; omega)).trans ((b7.block _ (Array.getElem?_eq_some_iff.1 bX).1).trans bX)
      have hV7 := b7.size
      have hBxV := (Array.getElem?_eq_some_iff.1 bX).1
      have hW5 := hB.size
      clear htr KT m0 m1 z0 z1 n0 n1 y0 y1 y2 y3 R7 M7 R6 M6 hX6 HR N3 M3 Y0 b0
      gi_loopw [7, 26] (fun _ i wr => ∃ (k : Nat) (tk : Int), k ≤ tr.length ∧ i = .int .i64 k ∧ T (chF s hl a p pre ++ (tr.take k).map fun t : Nat => (false, x.1, x.2, (t : Int))) ∧ Below B1 V wr ∧ KeepsFrom w5.heap.size V wr ∧ wr.heap[Bx]? = some (.cells #[.bool false, .int .i8 x.1, .int .i8 x.2, .int .i8 tk] 63 (0, 0)) ∧ wr.ownsRow w7.heap.size 2 1 (.slice A8 tr.length c8) tr.length (tcells tr))
        (fun _ i _ => tr.length - (intOf i).toNat)
      case atStart => exact ⟨0, 0, Nat.zero_le _, rfl, by simpa using hT, b8.mono hB1, keepsFrom_below b8, X8, own8⟩
      case round =>
        obtain ⟨k, tk, hk, rfl, hTk, hbk, hkk, hXk, hok⟩ := hrel
        by_cases hlt : k < tr.length
        · have hki : (k : Int) < (tr.length : Int) := by omega
          obtain ⟨g8, rfl⟩ : ∃ g8, A8 = some ⟨g8, 0, none⟩ := by
            rcases hok.2 with ⟨_, h0⟩ | ⟨g, cap, cur, h', _⟩
            · omega
            · cases h'; exact ⟨g, rfl⟩
          have ht := htl tr[k] (List.getElem_mem hlt)
          have hc := hok.cellAt k (by omega)
          have hcv : (tcells tr)[k]? = some (.int .i64 (tr[k] : Int)) := by simp [tcells, hlt]
          rw [hcv] at hc
          have hTS : chF s hl a p pre ++ (tr.take k).map (fun t : Nat => (false, x.1, x.2, (t : Int))) ++ [(false, x.1, x.2, (tr[k] : Int))] = chF s hl a p pre ++ (tr.take (k + 1)).map (fun t : Nat => (false, x.1, x.2, (t : Int))) := by
            rw [List.take_succ_eq_append_getElem hlt, List.map_append, List.append_assoc]
            rfl
          have hpx : chF s hl a p pre ++ (tr.take k).map (fun t : Nat => (false, x.1, x.2, (t : Int))) ++ [(false, x.1, x.2, (tr[k] : Int))] <+: chS s hl a p := by
            rw [hTS]
            have h1 := chF_pre (s := s) (l := hl) (a := a) (p := p) hpre
            rw [HR2.out] at h1
            exact List.IsPrefix.trans ⟨(tr.drop (k + 1)).map (fun t : Nat => (false, x.1, x.2, (t : Int))), by rw [List.append_assoc, ← List.map_append, List.take_append_drop]⟩ h1
          obtain ⟨t, htt⟩ : ∃ t : Nat, tr[k] = t := ⟨_, rfl⟩
          rw [htt] at ht hc hTS hpx
          have wt : IntKind.i8.wrap (t : Int) = t := by simp [IntKind.wrap, IntKind.signed, IntKind.bits]; omega
          have x0 := cell_of_row _ _ 3 _ _ _ hXk
          have xf := frozen_of_row _ _ 3 _ _ hXk
          simp at x0
          obtain ⟨U, hU⟩ : ∃ U, U = wr.setCell ⟨Bx, 3, none⟩ (.int .i8 t) := ⟨_, rfl⟩
          have XU : U.heap[Bx]? = some (.cells #[.bool false, .int .i8 x.1, .int .i8 x.2, .int .i8 t] 63 (0, 0)) := by rw [hU]; exact heap_setCell_same wr Bx 3 _ _ _ hXk
          have bU : Below B1 V U := by rw [hU]; exact hbk.setCell (p := ⟨Bx, 3, none⟩) hBx _
          have kU : KeepsFrom w5.heap.size V U := hkk.trans (by rw [hU]; exact (KeepsOthers.setCell wr _ _).from _)
          have oU : U.ownsRow w7.heap.size 2 1 (.slice (some ⟨g8, 0, none⟩) tr.length c8) tr.length (tcells tr) := by rw [hU]; exact ownsRow_setCell_below hok (by dsimp only; omega) _
          have bW : Below W.heap.size W U := bV.trans (bU.mono (by omega))
          have YU := ((bU.block _ (by omega)).trans Y3)
          have u0 := cell_of_row _ _ 0 _ _ _ XU
          have u1 := cell_of_row _ _ 1 _ _ _ XU
          have u2 := cell_of_row _ _ 2 _ _ _ XU
          have u3 := cell_of_row _ _ 3 _ _ _ XU
          have yU := cell_of_row _ _ 0 _ _ _ YU
          simp at u0 u1 u2 u3 yU
          obtain ⟨fn, tmps, assign, body, hy, hR⟩ := hY (m - 1) _ _ U hpx hTk bW
          dsimp only [chE] at hy
          rw [hU] at u0 u1 u2 u3 yU hy hR
          have HU := hide hU
          have HTS := hide hTS
          have HPX := hide hpx
          clear hU hTS hpx
          gi_wp2
          refine ⟨hnd _, (roundIn_in hR).mono ?_⟩
          clear hy hR u0 u1 u2 u3 yU
          rw [← HU.out]
          rintro e U2 (⟨rfl, hT3, hk3⟩ | ⟨rfl, hJ3, hkf⟩)
          · have XU2 := (hk3.block _ (Array.getElem?_eq_some_iff.1 XU).1).trans XU
            have oU2 := own_keep oU hk3
            have bU2 : Below B1 V U2 := bU.trans (hk3.mono (by have := bU.size; omega))
            have kU2 : KeepsFrom w5.heap.size V U2 := kU.trans (keepsFrom_below hk3)
            gi_wp2
            go_roundw
            case rel => exact ⟨k + 1, t, hlt, by go_num, by rw [← HTS.out]; exact hT3, bU2, kU2, XU2, oU2⟩
            case measure => simp [intOf]; omega
          · have kU2 : KeepsFrom w5.heap.size V U2 := kU.trans ⟨hkf.size, fun k o hB => hkf.same k o (by omega)⟩
            gi_wp2
            exact ⟨kU2, rfl, _, HPX.out, hJ3⟩
        · obtain rfl : k = tr.length := by omega
          have HT := hide (show T (chF s hl a p (pre ++ [x])) by rw [chF_snoc, HR2.out]; rw [List.take_length] at hTk; exact hTk)
          clear hTk
          gi_wp2
          exact ⟨hkk, hbk, HT.out⟩
  case done =>
    intro D U hD hT1 hU hK
    have bU : Below W.heap.size W U := b0.trans (hU.mono b0.size)
    have yU := (bxk Y0 hU).cell
    have hpl : chF s hl a p mvS ++ [(true, 0, 0, 0)] <+: chS s hl a p := List.prefix_refl _
    obtain ⟨fn, tmps, assign, body, hy, hR⟩ := hY (n - 1) _ _ U hpl hT1 bU
    dsimp only [chE] at hy
    gi_wp2
    refine ⟨hnd _, hR.mono ?_⟩
    clear hy hR
    rintro e U2 (⟨rfl, hT3, hk3⟩ | ⟨rfl, hJ3, hkf⟩)
    · have hK2 := (hk3.block D (Array.getElem?_eq_some_iff.1 hK).1).trans hK
      gi_wp2
      refine ⟨by simp, .inl ⟨_, _, rfl, run_takeDeferred hK2, ?_⟩⟩
      exact ⟨_, results_none rfl _ _ _, ⟨_, rfl⟩, .inl ⟨hT3, low_putObj _ (bU.trans (hk3.mono bU.size)) (Nat.le_refl _) (by omega)⟩⟩
    · have hK2 := hkf.same D _ (by omega) hK rfl
      gi_wp2
      refine ⟨by simp, .inl ⟨_, _, rfl, run_takeDeferred hK2, ?_⟩⟩
      exact ⟨_, results_none rfl _ _ _, ⟨_, rfl⟩, .inr ⟨_, hpl, hJ _ _ _ _ hJ3 (grownBy_putObj' U2 _ _) fun r e => by cases e; omega⟩⟩
  case stop =>
    rintro D c pre U hD hpre ⟨rfl, q, h1, h2⟩ hK
    gi_wp2
    refine ⟨by simp, .inl ⟨_, _, rfl, run_takeDeferred hK, ?_⟩⟩
    exact ⟨_, results_none rfl _ _ _, ⟨_, rfl⟩, .inr ⟨q, h1, hJ _ _ _ _ h2 (grownBy_putObj' U _ _) fun r e => by cases e; omega⟩⟩
end Go.Proofs.YtcepjiglhlmgdaaGreatDoor
