import Derived.Test.YtcocfnjbgceidaaDoorGbp
import Derived.Test.YtcocfnjbgceidaaDoorGbr
namespace Go.Proofs.YtcocfnjbgceidaaDoor
open Go.RowKit Go.Maps
theorem fw_all {s : Int} {l : List (Int × Int)} {d : Nat → Int} (h : askB s l d = true) (hd : DWF d) : gK (pinB d) l.length s.toNat = pinsL d := by
  obtain ⟨h1, h2, _, h4⟩ := ask_all h
  exact g_all hd (fun _ _ => rfl) (fun k t hk hp => by have := pin_in h4 hd hk hp; omega) (by omega) (by omega)
set_option maxRecDepth 20000 in
set_option maxHeartbeats 8000000 in
theorem specFreshWear_any (s : Int) (A : Option Addr) (c : Nat) (l : List (Int × Int)) (d : Nat → Int) (w : World) (hA : HA w A l) (hn : l.length ≤ 1048576) (hwf : HWF l) (hs : -32768 ≤ s ∧ s ≤ 32767) (hd : DWF d) :
    Calls Tryd.prog 5 #[.agg #[.int .i16 s, .slice A l.length c], .agg (da d)] w (WeC (fwT s l d) (fwZ s l d) (codeI (askB s l d)) w) := by
  obtain ⟨i0, hi, hz0, hz1, hz2⟩ := info_parts info2
  obtain ⟨j0, hj, hj0, hj1, hj2⟩ := info_parts info53
  obtain ⟨X, hX⟩ : ∃ X, X = ((w.alloc (.cells #[.int .i16 s, .slice A l.length c] 37)).alloc (.cells (da d) 39)).alloc (.cells #[.slice none 0 0, .slice none 0 0] 32) := ⟨_, rfl⟩
  have hb0 : Below w.heap.size w X := by rw [hX]; exact (((Below.refl _ _).alloc (Nat.le_refl _) _).alloc (by simp) _).alloc (by simp; omega) _
  have P0 : Bk X w.heap.size 37 #[.int .i16 s, .slice A l.length c] := by rw [hX]; exact ((Bk.new _ _ _ rfl).old _).old _
  have D0 : Dr X (w.heap.size + 1) 39 d := by rw [hX]; exact heap_old' (heap_new' _ _ _ (by simp))
  have P3 : Bk X (w.heap.size + 1 + 1) 32 #[.slice none 0 0, .slice none 0 0] := by rw [hX]; exact Bk.new _ _ _ (by simp)
  have hX3 := P3.lt
  have hF : FP X w.heap.size s A l.length c := ⟨P0.cell (i := 0) rfl, P0.cell (i := 1) rfl⟩
  go_enter Tryd.func5, Tryd.ntmps5
  go_upto_region 1 with fail
  try rw [← hX]
  clear hX
  go_wp2_with fail
  refine (l02Asked_any _ _ s A c l d _ hF D0 (hA.below hb0) hn hwf hs hd).mono ?_
  rintro e w1 ⟨rfl, hb1⟩
  have b1 := step_below hb1 hb0
  have F1 := P0.keep hb1
  have D1 := D0.keep hb1
  have Q1 := P3.keep hb1
  have hs1 := hb1.size
  cases ha : askB s l d
  · have HX := hide (show codeI (askB s l d) = 1 by rw [ha]; rfl)
    have HT := hide (show fwT s l d = [] by rw [fwT, ha]; rfl)
    have HZZ := hide (show fwZ s l d = [] by rw [fwZ, ha]; rfl)
    have HZ := hide (show w1.heap[w.heap.size + 1 + 1]? = some (.cells #[.slice none 0 0, .slice none 0 0] 32 (0, 0)) from Q1)
    simp only [codeI]
    clear ha
    go_wp2_with (first | (with_reducible refine wpList_build0 rfl rfl ?_) | (with_reducible refine wpList_store_row rfl 32 (.tmp 4) (.tmp 13) rfl (w.heap.size + 1 + 1) #[.slice none 0 0, .slice none 0 0] rfl rfl 32 _ HZ.out (infoWear _ _) (szWear _ _ _ _) (oneWear _ _ _ _ _ _) ?_))
    exact bodyPost_ret (v := .tuple #[.agg #[.slice none 0 0, .slice none 0 0], .int .i64 1]) (results_we Tryd.results5 _ _ (w.heap.size + 1 + 1) 32 #[.slice none 0 0, .slice none 0 0] _ rfl (by simp [Act.put]) (by simp [Act.put]) (setRow_heap _ _ _ _ _ _ HZ.out)) rfl ⟨none, 0, none, 0, by rw [HX.out, HT.out, HZZ.out]; rfl, by rw [HT.out]; exact World.ownsRow_nil _ _ _ _, by rw [HZZ.out]; exact World.ownsRow_nil _ _ _ _, below_setRow b1 (by omega)⟩
  have hfa := ask_all ha
  have HG := hide (fw_all ha hd)
  have HX := hide (show codeI (askB s l d) = 0 by rw [ha]; rfl)
  have HTT := hide (show fwT s l d = fwP (pinsL d) by rw [fwT, ha]; rfl)
  have HZZ := hide (show fwZ s l d = List.replicate l.length 0 by rw [fwZ, ha]; rfl)
  simp only [codeI]
  obtain ⟨S, hSs⟩ : ∃ S : Nat, s = (S : Int) := ⟨s.toNat, by omega⟩
  have hS2 : 2 ≤ S ∧ S ≤ 96 := by omega
  have hSn : s.toNat = S := by omega
  have hl24 := hfa.2.1.2
  rw [hSn] at HG
  clear ha hfa hSn
  subst hSs
  have e2 := F1.cell (i := 1) rfl
  go_upto_region 5 with (at_make; refine wpList_make_full _ rfl _ _ 30 rfl w1.heap.size 2 i0 _ 1 Tryd.underlying30 hi hz0 hz1 _ _ _ _ l.length rfl rfl (by omega) (by omega) (by rw [hz2]; omega) (by unfold maxLen; omega) (by simp) ?_; intro w2 hown2 hgrow2)
  have hb2 : Below w1.heap.size w1 w2 := (Below.refl _ _).grown hgrow2 (Nat.le_refl _) (fun j e => by cases e)
  clear hgrow2 e2
  rw [Nat.mul_one] at hown2
  have hown3 : w2.ownsRow w1.heap.size 2 1 (.slice (some ⟨w1.heap.size, 0, none⟩) l.length l.length) l.length (icells (List.replicate l.length 0)) := by rw [icells_replicate]; exact hown2
  obtain ⟨W3, hW3⟩ : ∃ W3, W3 = w2.alloc (.cells #[.slice none 0 0, .slice (some ⟨w1.heap.size, 0, none⟩) l.length l.length] 32) := ⟨_, rfl⟩
  have hb3 : Below w2.heap.size w2 W3 := by rw [hW3]; exact (Below.refl _ _).alloc (Nat.le_refl _) _
  have K3 : Bk W3 w2.heap.size 32 #[.slice none 0 0, .slice (some ⟨w1.heap.size, 0, none⟩) l.length l.length] := by rw [hW3]; exact Bk.new _ _ _ rfl
  have row3 := own_keep hown3 hb3
  have b3 := step_below hb3 hb2
  obtain ⟨G, hG⟩ : ∃ G, G = w2.heap.size := ⟨_, rfl⟩
  have hG1 : w1.heap.size < G := by rw [hG]; exact (hown2.lt w1.heap.size rfl).2
  rw [← hW3]
  rw [← hG] at K3 ⊢
  clear hW3 hG hown2 hown3 hb2 hb3
  have HS := hide hS2
  go_wp2_with fail
  go_loopw [8] (fun i wr => ∃ (k : Nat) (A1 : Option Addr) (q1 : Nat), k ≤ S ∧ i = .int .i64 k ∧ wr.ownsRow w1.heap.size 53 3 (.slice A1 (gK (pinB d) l.length k).length q1) (gK (pinB d) l.length k).length (wnC (fwP (gK (pinB d) l.length k))) ∧ Bk wr G 32 #[.slice A1 (gK (pinB d) l.length k).length q1, .slice (some ⟨w1.heap.size, 0, none⟩) l.length l.length] ∧ wr.ownsRow w1.heap.size 2 1 (.slice (some ⟨w1.heap.size, 0, none⟩) l.length l.length) l.length (icells (List.replicate l.length 0)) ∧ Below w1.heap.size w1 wr)
    (fun i _ => S - (intOf i).toNat)
  case atStart => exact ⟨0, none, 0, Nat.zero_le _, rfl, World.ownsRow_nil _ _ _ _, K3, row3, b3⟩
  case round =>
    clear K3 row3 b3
    obtain ⟨k, A1, q1, hk, rfl, hown, hB, hrow, hb⟩ := hrel
    have F3 := F1.keep hb
    have e1 := F3.cell (i := 0) rfl
    have hwS : IntKind.i64.wrap (S : Int) = (S : Int) := IntWalk.i64_in _ (by omega)
    by_cases hlt : k < S
    · have hk1 : (k : Int) < (S : Int) := by omega
      have hk2 : decide ((k : Int) < (S : Int)) = true := decide_eq_true hk1
      rw [← gI_zero] at hown hB
      go_wp2_with fail
      go_loopw [9] (fun i wq => ∃ (t : Nat) (A1 : Option Addr) (q1 : Nat), t ≤ l.length ∧ i = .int .i64 t ∧ wq.ownsRow w1.heap.size 53 3 (.slice A1 (gI (pinB d) l.length k t).length q1) (gI (pinB d) l.length k t).length (wnC (fwP (gI (pinB d) l.length k t))) ∧ Bk wq G 32 #[.slice A1 (gI (pinB d) l.length k t).length q1, .slice (some ⟨w1.heap.size, 0, none⟩) l.length l.length] ∧ wq.ownsRow w1.heap.size 2 1 (.slice (some ⟨w1.heap.size, 0, none⟩) l.length l.length) l.length (icells (List.replicate l.length 0)) ∧ Below w1.heap.size w1 wq)
        (fun i _ => l.length - (intOf i).toNat)
      case atStart => exact ⟨0, A1, q1, Nat.zero_le _, rfl, hown, hB, hrow, hb⟩
      case round =>
        clear hown hB hrow hb e1 F3
        obtain ⟨t, A1, q1, ht, rfl, hown, hB, hrow, hb⟩ := hrel
        have hbs := hb.size
        have D4 := D1.keep hb
        have F4 := F1.keep hb
        have e1 := F4.cell (i := 1) rfl
        by_cases hlt2 : t < l.length
        · have hti : (t : Int) < (l.length : Int) := by omega
          have KP : ∀ v, pinB d k t = v → ∀ W, W = wr → Calls Tryd.prog 16 #[.pointer (some ⟨w.heap.size + 1, 0, none⟩), .int .i64 k, .int .i64 t] W fun e w' => e = .returned (.bool v) ∧ W = w' := fun v hv W hW => by
            subst hW
            rw [← hv]
            exact l02Pin_any _ k t d _ D4 (by have := HS.out; omega) (by omega) hd
          cases hp : pinB d k t
          · have KP' := KP false hp _ rfl
            have HGI := hide (gI_no (n := l.length) (P := pinB d) hp)
            clear hp KP
            go_wp2_with (go_at_call 16; with_reducible refine KP'.mono ?_; rintro e w' ⟨rfl, rfl⟩)
            go_roundw
            case rel => exact ⟨t + 1, A1, q1, hlt2, by go_num, by rw [HGI.out]; exact hown, by rw [HGI.out]; exact hB, hrow, hb⟩
            case measure => simp [intOf]; omega
          · have KP' := KP true hp _ rfl
            have HGI := hide (gI_yes (n := l.length) (P := pinB d) hp)
            have hml := gI_len (pinB d) l.length k t
            have hml2 : (gI (pinB d) l.length k t).length ≤ 4000 := by
              have := HS.out
              have h1 : k * l.length ≤ 96 * 24 := Nat.mul_le_mul (by omega) hl24
              omega
            obtain ⟨m, hm⟩ : ∃ m, m = gI (pinB d) l.length k t := ⟨_, rfl⟩
            rw [← hm] at hown hB HGI hml2
            have hwk : IntKind.i8.wrap (k : Int) = (k : Int) := w8_wrap (by have := HS.out; omega)
            have hwt : IntKind.i8.wrap (t : Int) = (t : Int) := w8_wrap (by omega)
            have p0 := hB.cell (i := 0) rfl
            have own4 := hown.alloc (.cells #[.int .i8 (k : Int), .int .i8 (t : Int), .int .i64 0] 53)
            have B4 := hB.old (.cells #[.int .i8 (k : Int), .int .i8 (t : Int), .int .i64 0] 53)
            have row4 := hrow.alloc (.cells #[.int .i8 (k : Int), .int .i8 (t : Int), .int .i64 0] 53)
            have hbA := hb.alloc hbs (.cells #[.int .i8 (k : Int), .int .i8 (t : Int), .int .i64 0] 53)
            have hnew := cell_threeW wr (.int .i8 (k : Int)) (.int .i8 (t : Int)) (.int .i64 0) 53
            have hneB := own_neW own4 B4 (by decide)
            have hap := own_apart row4 own4 (by decide)
            have hol := fun j hj => (hown.lt j hj).1
            clear hp KP hown hB hrow hm hml D4
            go_wp2_with (first | (go_at_call 16; with_reducible refine KP'.mono ?_; rintro e w' ⟨rfl, rfl⟩) | (at_builtin; refine wpList_append_own _ rfl _ _ 29 rfl w1.heap.size 53 j0 (.agg #[.int .i8 0, .int .i8 0, .int .i64 0]) 3 16 Tryd.underlying29 hj hj0 hj1 hj2 rfl (by decide) _ _ _ rfl own4 ⟨wr.heap.size, 0, none⟩ 1 1 [.int .i8 (k : Int), .int .i8 (t : Int), .int .i64 0] rfl rfl hnew (fun x hx => by simp at hx; rcases hx with rfl | rfl | rfl <;> rfl) (by unfold maxLen; omega) (by omega) (by simp; omega) ?_; intro v6 w6 hown6 hgr6 hnil6; obtain ⟨A6, c6, rfl⟩ := own_shapeZ hown6; have B6 := B4.grown hgr6 hneB; have k6 : w6.cell? ⟨G, 0, none⟩ = some (.slice A1 m.length q1) := B6.cell (i := 0) rfl; have f6 := B6.frozen 0; have row6 := row4.kept hgr6 hap; have hb6 := hbA.grown hgr6 hbA.size hol; clear hgr6 hnil6 B4))
            have hne6 := own_neW hown6 B6 (by decide)
            have ow6 := own_setW (o := 0) hown6 hne6 (.slice A6 (m.length + 1) c6)
            have rw6 := own_setW (o := 0) row6 (own_neW row6 B6 (by decide)) (.slice A6 (m.length + 1) c6)
            go_roundw
            case rel => exact ⟨t + 1, A6, c6, hlt2, by go_num, by rw [HGI.out, List.length_append, fwP_snoc, wnC_append]; exact ow6, by rw [HGI.out, List.length_append]; exact heap_setCell_same w6 G 0 _ _ _ B6, rw6, hb6.setCell (p := ⟨G, 0, none⟩) (by dsimp only; omega) _⟩
            case measure => simp [intOf]; omega
        · have HT2 := hide (show t = l.length by omega)
          have hni : ¬ (t : Int) < (l.length : Int) := by omega
          have HGF := hide (gI_full (pinB d) l.length k)
          clear ht hlt2
          go_wp2
          go_roundw
          case rel => exact ⟨k + 1, A1, q1, hlt, by go_num, by rw [← HGF.out, ← HT2.out]; rw [HT2.out] at hown ⊢; exact hown, by rw [← HGF.out]; rw [HT2.out] at hB; exact hB, hrow, hb⟩
          case measure => simp [intOf]; omega
    · have HK := hide (show k = S by omega)
      have hni : ¬ (k : Int) < (S : Int) := by omega
      have hni2 : decide ((k : Int) < (S : Int)) = false := by simpa using hni
      have f0 := hB.cell (i := 0) rfl
      have f1 := hB.cell (i := 1) rfl
      have Q4 := Q1.keep hb
      have HZ := hide (show wr.heap[w.heap.size + 1 + 1]? = some (.cells #[.slice none 0 0, .slice none 0 0] 32 (0, 0)) from Q4)
      have b4 := step_below hb b1
      have hgl : gK (pinB d) l.length k = pinsL d := by rw [HK.out]; exact HG.out
      rw [hgl] at hown f0
      have hpl : (pinsL d).length = (fwP (pinsL d)).length := (fwP_len _).symm
      rw [hpl] at hown f0
      obtain ⟨T', hT'⟩ : ∃ T', T' = fwP (pinsL d) := ⟨_, rfl⟩
      rw [← hT'] at hown f0 HTT
      have owP := own_base (own_keepW hown (show w.heap.size + 1 + 1 < w1.heap.size by omega) #[.slice A1 T'.length q1, .slice (some ⟨w1.heap.size, 0, none⟩) l.length l.length]) (show w.heap.size ≤ w1.heap.size by omega)
      have owC := own_base (own_keepW hrow (show w.heap.size + 1 + 1 < w1.heap.size by omega) #[.slice A1 T'.length q1, .slice (some ⟨w1.heap.size, 0, none⟩) l.length l.length]) (show w.heap.size ≤ w1.heap.size by omega)
      clear hgl hpl hT' hown hrow hB Q4 hk hlt
      go_wp2_with (with_reducible refine wpList_store_row rfl 32 (.tmp 4) (.tmp 47) rfl (w.heap.size + 1 + 1) #[.slice A1 T'.length q1, .slice (some ⟨w1.heap.size, 0, none⟩) l.length l.length] rfl rfl 32 _ HZ.out (infoWear _ _) (szWear _ _ _ _) (oneWear _ _ _ _ _ _) ?_)
      exact bodyPost_ret (v := .tuple #[.agg #[.slice A1 T'.length q1, .slice (some ⟨w1.heap.size, 0, none⟩) l.length l.length], .int .i64 0]) (results_we Tryd.results5 _ _ (w.heap.size + 1 + 1) 32 #[.slice A1 T'.length q1, .slice (some ⟨w1.heap.size, 0, none⟩) l.length l.length] _ rfl (by simp [Act.put]) (by simp [Act.put]) (setRow_heap _ _ _ _ _ _ HZ.out)) rfl ⟨A1, q1, _, _, by rw [HX.out, HTT.out, HZZ.out, List.length_replicate], by rw [HTT.out]; exact owP, by rw [HZZ.out, List.length_replicate]; exact owC, below_setRow b4 (by omega)⟩
end Go.Proofs.YtcocfnjbgceidaaDoor
