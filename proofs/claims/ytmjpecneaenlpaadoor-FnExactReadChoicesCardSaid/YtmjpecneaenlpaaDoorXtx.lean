import Derived.Test.YtmjpecneaenlpaaDoorGay
import Derived.Test.YtmjpecneaenlpaaDoorGap
namespace Go.Proofs.YtmjpecneaenlpaaDoor
open Go.RowKit
def xtAt (l o t : Int) (k : Nat) : Int := if k = 0 then l else if k = 1 then o else t
def xtX (l o t : Int) (k : Nat) : ByteArray := ⟨(Lib.itoa (xtAt l o t k)).toArray⟩
theorem index3b (l o t : Int) (k : Nat) (hk : k < 3) (w : World) : (Instr.index 107 (.agg #[.int .i8 l, .int .i8 o, .int .i8 t]) (.int .i64 k)).run Tryd.prog w = .ok (.int .i8 (xtAt l o t k)) w := by
  have h3 : k = 0 ∨ k = 1 ∨ k = 2 := by omega
  rcases h3 with rfl | rfl | rfl <;> simp [Instr.index, asIntOf, run_underlying Tryd.underlying107, go_sem, xtAt]
theorem xtJ (l o t : Int) : txJ (xtX l o t) 47 3 = xtL false l o t := by
  simp [txJ_succ, txJ_zero, xtX, xtAt, xtL]
set_option maxRecDepth 20000 in
set_option maxHeartbeats 4000000 in
theorem choiceText_any (a : Bool) (l o t : Int) (w : World) (hl : -128 ≤ l ∧ l ≤ 127) (ho : -128 ≤ o ∧ o ≤ 127) (ht : -128 ≤ t ∧ t ≤ 127) (hT : PowW w) :
    Calls Tryd.prog 69 #[.agg #[.bool a, .int .i8 l, .int .i8 o, .int .i8 t]] w fun e w' => e = .returned (.string ⟨(xtL a l o t).toArray⟩) ∧ Below w.heap.size w w' := by
  obtain ⟨i0, hi, hz0, hz1, hz2⟩ := info_parts info9
  obtain ⟨X, hX⟩ : ∃ X, X = w.alloc (.cells #[.bool a, .int .i8 l, .int .i8 o, .int .i8 t] 75) := ⟨_, rfl⟩
  have b0 : Below w.heap.size w X := by rw [hX]; exact (Below.refl _ _).alloc (Nat.le_refl _) _
  have hTX := hT.below b0
  cases a
  · have HV := hide (show (⟨(xtL false l o t).toArray⟩ : ByteArray) = ⟨(txJ (xtX l o t) 47 3).toArray⟩ by rw [xtJ])
    have HL := hide (show (txJ (xtX l o t) 47 3).length ≤ 140737488355328 by rw [xtJ]; have := xtL_len (a := false) hl ho ht; omega)
    have HX := hide hX
    have e0 : X.cell? ⟨w.heap.size, 0, none⟩ = some (.bool false) := by rw [hX]; simp [go_sem]
    have e1 : X.cell? ⟨w.heap.size, 1, none⟩ = some (.int .i8 l) := by rw [hX]; simp [go_sem]
    have e2 : X.cell? ⟨w.heap.size, 2, none⟩ = some (.int .i8 o) := by rw [hX]; simp [go_sem]
    have e3 : X.cell? ⟨w.heap.size, 3, none⟩ = some (.int .i8 t) := by rw [hX]; simp [go_sem]
    clear hX hT
    go_enter Tryd.func69, Tryd.ntmps69
    go_upto_region 1 with fail
    rw [← HX.out]
    go_wp2_with fail
    go_loopw [3, 5, 15] (fun v _ i wr => ∃ k : Nat, k ≤ 3 ∧ i = .int .i64 k ∧ wr.ownsRow X.heap.size 9 1 v k (strs (txP (xtX l o t) k)) ∧ Below X.heap.size X wr)
      (fun _ _ i _ => 3 - (intOf i).toNat)
    case atStart => exact ⟨0, Nat.zero_le _, rfl, ⟨rfl, Or.inl ⟨rfl, rfl⟩⟩, Below.refl _ _⟩
    case round =>
      obtain ⟨k, hk, rfl, hown, hb⟩ := hrel
      obtain ⟨A', c', rfl⟩ := own_shapeS hown
      have hTr := hTX.below hb
      by_cases hlt : k < 3
      · have hix := fun W => index3b l o t k hlt W
        have hy8 : -128 ≤ xtAt l o t k ∧ xtAt l o t k ≤ 127 := by unfold xtAt; split; exact hl; split; exact ho; exact ht
        have KI := fun W hW => itoa_any (xtAt l o t k) W (by omega) (by omega) hW
        have HS := hide (txP_succ (xtX l o t) k)
        have hXk : xtX l o t k = ⟨(Lib.itoa (xtAt l o t k)).toArray⟩ := rfl
        obtain ⟨s, hs⟩ : ∃ s : ByteArray, s = ⟨(Lib.itoa (xtAt l o t k)).toArray⟩ := ⟨_, rfl⟩
        rw [← hs] at KI hXk
        have HXk := hide hXk
        obtain ⟨y, hy⟩ : ∃ y, xtAt l o t k = y := ⟨_, rfl⟩
        rw [hy] at hix hy8 KI
        have wy : IntKind.i64.wrap y = y := IntWalk.i64_in _ (by omega)
        have hki : (k : Int) < 3 := by omega
        clear hs hy hXk
        go_wp2_with fail
        refine (KI wr hTr).mono ?_
        rintro e w3 ⟨rfl, hb3⟩
        have own3 := own_keep hown hb3
        have b3 := step_below hb3 hb
        have hnew : ∀ j u, ([.string s] : List Value)[j]? = some u → (w3.alloc (.cells #[.string s] 9)).cell? ((⟨w3.heap.size, 0, none⟩ : Addr).add j) = some u := cell_one_new w3 (.string s) 9
        have own5 := own3.alloc (.cells #[.string s] 9)
        go_wp2_with (at_builtin; refine wpList_append_own _ rfl _ _ 47 rfl X.heap.size 9 i0 (.string ⟨#[]⟩) 1 16 Tryd.underlying47 hi hz0 hz1 hz2 rfl (by decide) _ _ _ rfl own5 ⟨w3.heap.size, 0, none⟩ 1 1 [.string s] rfl rfl hnew (fun x hx => by simp at hx; subst hx; rfl) (by unfold maxLen; omega) (by omega) (by simp; have := b3.size; omega) ?_; intro v' w6 hown6 hgrow6 hnil6)
        have hb6 := (b3.alloc b3.size (.cells #[.string s] 9)).grown hgrow6 (by simp; have := b3.size; omega) (fun j hj => (own3.lt j hj).1)
        go_roundw
        case rel => exact ⟨k + 1, hlt, by go_num, by rw [HS.out, HXk.out, strs, List.map_append]; exact hown6, hb6⟩
        case measure => simp [intOf]; omega
      · obtain rfl : k = 3 := by omega
        have KJ := joined_any (s := 47) hown (by omega) HL.out
        go_wp2_with (go_at_call 60; refine KJ.mono ?_; rintro e w' ⟨rfl, hbj⟩)
        go_ret
        exact ⟨by rw [HV.out]; rfl, step_below hbj (step_below hb b0)⟩
  · go_enter Tryd.func69, Tryd.ntmps69
    go_wp2
    go_ret
    exact ⟨rfl, by rw [← hX]; exact b0⟩
set_option maxRecDepth 20000 in
set_option maxHeartbeats 4000000 in
theorem implChoicesText_any (A : Option Addr) (c : Nat) (l : List Xc) (w : World) (hA : ChA w A l) (hn : l.length ≤ 1048576) (hwf : ChWF l) (hT : PowW w) :
    Calls Tryd.prog 45 #[.slice A l.length c] w fun e w' => e = .returned (.string (xtV l)) ∧ Below w.heap.size w w' := by
  obtain ⟨i0, hi, hz0, hz1, hz2⟩ := info_parts info9
  have KP := areChoices_any A c l w hA hn hwf
  by_cases hl : l.length ≤ 120
  · have hli : ¬ (l.length : Int) > 120 := by omega
    cases hx : xsB l
    · have HV := hide (show xtV l = ⟨#[]⟩ by rw [xtV, if_neg (by rw [hx]; simp)])
      rw [hx] at KP
      clear hx
      go_enter Tryd.func45, Tryd.ntmps45
      go_wp2_with fail
      refine KP.mono ?_
      rintro e w1 ⟨rfl, hb1⟩
      go_wp2
      go_ret
      exact ⟨by rw [HV.out]; rfl, hb1⟩
    · have HV := hide (show xtV l = ⟨(txJ (xtC l) 32 l.length).toArray⟩ by rw [xtV, if_pos ⟨hl, hx⟩])
      have HL := hide (show (txJ (xtC l) 32 l.length).length ≤ 140737488355328 by have := xtC_len l l.length hl (xsB_get hx); omega)
      have HG := hide (xsB_get hx)
      rw [hx] at KP
      clear hx
      go_enter Tryd.func45, Tryd.ntmps45
      go_wp2_with fail
      refine KP.mono ?_
      rintro e w0 ⟨rfl, hb0⟩
      go_wp2_with (at_make; refine wpList_make_own _ rfl _ _ 47 rfl w.heap.size 9 i0 _ 1 Tryd.underlying47 hi hz0 hz1 _ _ _ l.length rfl rfl (by omega) (by rw [hz2]; omega) (by unfold maxLen; omega) hb0.size ?_; intro w1 hown1 hgrow1)
      have hb1 : Below w.heap.size w w1 := hb0.grown hgrow1 hb0.size (fun j e => by cases e)
      clear hgrow1
      go_loopw [3, 5, 19] (fun v _ i wr => ∃ k : Nat, k ≤ l.length ∧ i = .int .i64 k ∧ wr.ownsRow w.heap.size 9 1 v k (strs (txP (xtC l) k)) ∧ Below w.heap.size w wr)
        (fun _ _ i _ => l.length - (intOf i).toNat)
      case atStart => exact ⟨0, Nat.zero_le _, rfl, hown1, hb1⟩
      case round =>
        obtain ⟨k, hk, rfl, hown, hb⟩ := hrel
        obtain ⟨A', c', rfl⟩ := own_shapeS hown
        by_cases hlt : k < l.length
        · obtain ⟨b, o, rfl, hbb, c1, c2, c3, c4⟩ := hA k hlt
          have d1 := (hb.cell (p := ⟨b, o + k * 4, none⟩) hbb).trans c1
          have d2 := (hb.cell (p := ⟨b, o + k * 4 + 1, none⟩) hbb).trans c2
          have d3 := (hb.cell (p := ⟨b, o + k * 4 + 2, none⟩) hbb).trans c3
          have d4 := (hb.cell (p := ⟨b, o + k * 4 + 3, none⟩) hbb).trans c4
          obtain ⟨wL, wO, wT⟩ := hwf k hlt
          have hki : (k : Int) < (l.length : Int) := by omega
          clear c1 c2 c3 c4
          have HS := hide (txP_succ (xtC l) k)
          have hXk : xtC l k = ⟨(xtL (chA l k) (chL l k) (chO l k) (chT l k)).toArray⟩ := rfl
          obtain ⟨q, hq⟩ : ∃ q, chA l k = q := ⟨_, rfl⟩
          obtain ⟨x, hx⟩ : ∃ x, chL l k = x := ⟨_, rfl⟩
          obtain ⟨y, hy⟩ : ∃ y, chO l k = y := ⟨_, rfl⟩
          obtain ⟨z, hzz⟩ : ∃ z, chT l k = z := ⟨_, rfl⟩
          rw [hq] at d1 hXk
          rw [hx] at d2 wL hXk
          rw [hy] at d3 wO hXk
          rw [hzz] at d4 wT hXk
          obtain ⟨X2, hX2⟩ : ∃ X, X = wr.alloc (.cells #[.bool q, .int .i8 x, .int .i8 y, .int .i8 z] 75) := ⟨_, rfl⟩
          have hb2 : Below wr.heap.size wr X2 := by rw [hX2]; exact (Below.refl _ _).alloc (Nat.le_refl _) _
          have e0 : X2.cell? ⟨wr.heap.size, 0, none⟩ = some (.bool q) := by rw [hX2]; simp [go_sem]
          have e1 : X2.cell? ⟨wr.heap.size, 1, none⟩ = some (.int .i8 x) := by rw [hX2]; simp [go_sem]
          have e2 : X2.cell? ⟨wr.heap.size, 2, none⟩ = some (.int .i8 y) := by rw [hX2]; simp [go_sem]
          have e3 : X2.cell? ⟨wr.heap.size, 3, none⟩ = some (.int .i8 z) := by rw [hX2]; simp [go_sem]
          have own2 := own_keep hown hb2
          have bX := step_below hb2 hb
          have KT := choiceText_any q x y z X2 wL wO wT (hT.below bX)
          obtain ⟨s, hs⟩ : ∃ s : ByteArray, s = ⟨(xtL q x y z).toArray⟩ := ⟨_, rfl⟩
          rw [← hs] at KT hXk
          have HXk := hide hXk
          clear hs hXk hq hx hy hzz
          go_upto_region 7 with fail
          rw [← hX2]
          clear hX2 d1 d2 d3 d4 hown
          go_wp2_with fail
          refine KT.mono ?_
          rintro e w3 ⟨rfl, hb3⟩
          have own3 := own_keep own2 hb3
          have b3 := step_below hb3 bX
          clear e0 e1 e2 e3 own2 KT
          have hnew : ∀ j u, ([.string s] : List Value)[j]? = some u → (w3.alloc (.cells #[.string s] 9)).cell? ((⟨w3.heap.size, 0, none⟩ : Addr).add j) = some u := cell_one_new w3 (.string s) 9
          have own5 := own3.alloc (.cells #[.string s] 9)
          go_wp2_with (at_builtin; refine wpList_append_own _ rfl _ _ 47 rfl w.heap.size 9 i0 (.string ⟨#[]⟩) 1 16 Tryd.underlying47 hi hz0 hz1 hz2 rfl (by decide) _ _ _ rfl own5 ⟨w3.heap.size, 0, none⟩ 1 1 [.string s] rfl rfl hnew (fun x hx => by simp at hx; subst hx; rfl) (by unfold maxLen; omega) (by omega) (by simp; have := b3.size; omega) ?_; intro v' w6 hown6 hgrow6 hnil6)
          have hb6 := (b3.alloc b3.size (.cells #[.string s] 9)).grown hgrow6 (by simp; have := b3.size; omega) (fun j hj => (own3.lt j hj).1)
          go_roundw
          case rel => exact ⟨k + 1, hlt, by go_num, by rw [HS.out, HXk.out, strs, List.map_append]; exact hown6, hb6⟩
          case measure => simp [intOf]; omega
        · obtain rfl : k = l.length := by omega
          have KJ := joined_any (s := 32) hown (by omega) HL.out
          go_wp2_with (go_at_call 60; refine KJ.mono ?_; rintro e w' ⟨rfl, hbj⟩)
          go_ret
          exact ⟨by rw [HV.out]; rfl, step_below hbj hb⟩
  · have hli : (l.length : Int) > 120 := by omega
    have HV := hide (show xtV l = ⟨#[]⟩ by rw [xtV, if_neg (by omega)])
    go_enter Tryd.func45, Tryd.ntmps45
    go_wp2
    go_ret
    exact ⟨by rw [HV.out]; rfl, Below.refl _ _⟩
end Go.Proofs.YtmjpecneaenlpaaDoor
