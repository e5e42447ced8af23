import Derived.Test.YtmjpecneaenlpaaDoorGax
import Derived.Test.YtmjpecneaenlpaaDoorGan
namespace Go.Proofs.YtmjpecneaenlpaaDoor
open Go.RowKit
theorem own_oneS {w : World} {base : Nat} (v : Value) (h : base ≤ w.heap.size) (hv : v.oneCell' = true) : (w.alloc (.cells #[v] 9)).ownsRow base 9 1 (.slice (some ⟨w.heap.size, 0, none⟩) 1 1) 1 [v] :=
  ⟨by first | rfl | simp, Or.inr ⟨w.heap.size, 1, #[v], rfl, h, heap_alloc_new _ _, by simp, by unfold maxLen; omega, by simp, by simp⟩⟩
set_option maxRecDepth 20000 in
set_option maxHeartbeats 4000000 in
theorem implFrameText_any (s : Int) (A : Option Addr) (c : Nat) (l : List (Int × Int)) (w : World) (hA : HA w A l) (hn : l.length ≤ 1048576) (hwf : HWF l) (hs : -32768 ≤ s ∧ s ≤ 32767) (hT : PsW w) :
    Calls Tryd.prog 38 #[.agg #[.int .i16 s, .slice A l.length c]] w fun e w' => e = .returned (.string (ftV s l)) ∧ Below w.heap.size w w' := by
  obtain ⟨i0, hi, hz0, hz1, hz2⟩ := info_parts info9
  have hb0 : Below w.heap.size w (w.alloc (.cells #[.int .i16 s, .slice A l.length c] 32)) := (Below.refl _ _).alloc (Nat.le_refl _) _
  have KP := machineFor_any s A c l (.slice none 0 0) true _ (hA.below hb0) hn hwf hs (fun _ W _ => fits_nil _ s A l.length c rfl W)
  rw [Bool.and_true] at KP
  cases hx : frB s l
  · have HV := hide (show ftV s l = ⟨#[]⟩ by rw [ftV, if_neg (by rw [hx]; simp)])
    rw [hx] at KP
    clear hx
    go_enter Tryd.func38, Tryd.ntmps38
    go_wp2_with fail
    refine KP.mono ?_
    rintro e w2 ⟨rfl, hb2⟩
    have hbx := (hb0.trans (hb2.mono hb0.size)).alloc (hb0.trans (hb2.mono hb0.size)).size (.cells #[.int .i64 s, .slice A l.length c] 102)
    go_wp2
    go_ret
    exact ⟨by rw [HV.out]; rfl, hbx⟩
  · have HV := hide (show ftV s l = ⟨(txJ (ftX s l) 32 (l.length + 1)).toArray⟩ by rw [ftV, if_pos hx])
    have HL := hide (show (txJ (ftX s l) 32 (l.length + 1)).length ≤ 140737488355328 by have := ftJ_len hx (l.length + 1) (Nat.le_refl _); omega)
    obtain ⟨⟨s1, s2⟩, ⟨h1, h2⟩, hG⟩ := frB_get hx
    have HG := hide hG
    rw [hx] at KP
    clear hx hG
    have H0 := hide (show (⟨(Lib.decDigits s.toNat).toArray⟩ : ByteArray) = ftX s l 0 by rw [ftX_zero])
    obtain ⟨sn, rfl⟩ := Int.eq_ofNat_of_zero_le (show 0 ≤ s by omega)
    rw [Int.toNat_natCast] at H0
    go_enter Tryd.func38, Tryd.ntmps38
    go_wp2_with fail
    refine KP.mono ?_
    rintro e w2 ⟨rfl, hb2⟩
    have hb2w := hb0.trans (hb2.mono hb0.size)
    go_upto_region 4 with fail
    obtain ⟨X, hX⟩ : ∃ X, X = w2.alloc (.cells #[.int .i64 sn, .slice A l.length c] 102) := ⟨_, rfl⟩
    have bX : Below w.heap.size w X := by rw [hX]; exact hb2w.alloc hb2w.size _
    have m0 : X.cell? ⟨w2.heap.size, 0, none⟩ = some (.int .i64 sn) := by rw [hX]; simp [go_sem]
    have m1 : X.cell? ⟨w2.heap.size, 1, none⟩ = some (.slice A l.length c) := by rw [hX]; simp [go_sem]
    rw [← hX]
    clear hX
    have KF := formatInt_any sn X (by omega) (by omega) (hT.1.below bX)
    rw [itoa_nat] at KF
    go_wp2_with fail
    refine KF.mono ?_
    rintro e w3 ⟨rfl, hb3⟩
    have b3 := step_below hb3 bX
    have n1 := (hb3.cell (p := ⟨w2.heap.size, 1, none⟩) (World.block_lt_of_cell? _ _ m1)).trans m1
    have n2 := (((Below.refl w3.heap.size w3).alloc (Nat.le_refl _) (.cells #[.string ⟨(Lib.decDigits sn).toArray⟩] 9)).cell (p := ⟨w2.heap.size, 1, none⟩) (World.block_lt_of_cell? _ _ n1)).trans n1
    go_wp2_with fail
    go_loopw [5, 7, 8, 23] (fun v _ _ i wr => ∃ k : Nat, k ≤ l.length ∧ i = .int .i64 k ∧ wr.ownsRow w.heap.size 9 1 v (k + 1) (strs (txP (ftX sn l) (k + 1))) ∧ Below w.heap.size w wr)
      (fun _ _ _ i _ => l.length - (intOf i).toNat)
    case atStart => exact ⟨0, Nat.zero_le _, rfl, by rw [txP_succ, ← H0.out]; exact own_oneS _ b3.size rfl, b3.alloc b3.size _⟩
    case round =>
      obtain ⟨k, hk, rfl, hown, hb⟩ := hrel
      obtain ⟨A', c', rfl⟩ := own_shapeS hown
      by_cases hlt : k < l.length
      · obtain ⟨b, o, rfl, hbb, c1, c2⟩ := hA k hlt
        have d1 := (hb.cell (p := ⟨b, o + k * 2, none⟩) hbb).trans c1
        have d2 := (hb.cell (p := ⟨b, o + k * 2 + 1, none⟩) hbb).trans c2
        have hki : (k : Int) < (l.length : Int) := by omega
        obtain ⟨⟨i1, i2⟩, i3, i4⟩ := HG.out k hlt
        have hX := ftX_succ (sn : Int) l k
        have HS := hide (txP_succ (ftX (sn : Int) l) (k + 1))
        obtain ⟨x, hx⟩ : ∃ x, hPi l k = x := ⟨_, rfl⟩
        obtain ⟨y, hy⟩ : ∃ y, hRe l k = y := ⟨_, rfl⟩
        rw [hx] at d1 i1 i2 hX
        rw [hy] at d2 i3 i4 hX
        obtain ⟨yn, rfl⟩ := Int.eq_ofNat_of_zero_le (show 0 ≤ y by omega)
        rw [Int.toNat_natCast] at hX
        have l1 := dec_len2 (show yn < 100 by omega)
        have l2 := pnV_len x
        have wa : IntKind.i64.wrap (yn : Int) = yn := IntWalk.i64_in _ (by omega)
        have wp : IntKind.i64.wrap x = x := IntWalk.i64_in _ (by omega)
        obtain ⟨X2, hX2⟩ : ∃ X, X = wr.alloc (.cells #[.int .i8 x, .int .i8 yn] 62) := ⟨_, rfl⟩
        have hbX : Below wr.heap.size wr X2 := by rw [hX2]; exact (Below.refl _ _).alloc (Nat.le_refl _) _
        have e0 : X2.cell? ⟨wr.heap.size, 0, none⟩ = some (.int .i8 x) := by rw [hX2]; simp [go_sem]
        have e1 : X2.cell? ⟨wr.heap.size, 1, none⟩ = some (.int .i8 yn) := by rw [hX2]; simp [go_sem]
        have own2 := own_keep hown hbX
        have bX2 := step_below hbX hb
        have KF := formatInt_any yn X2 (by omega) (by omega) (hT.1.below bX2)
        rw [itoa_nat] at KF
        have KN := fun W (hW : StpW W) => implPitchName_any x W hW
        obtain ⟨N, hN⟩ : ∃ D : ByteArray, D = ⟨(Lib.decDigits yn).toArray⟩ := ⟨_, rfl⟩
        obtain ⟨D, hD⟩ : ∃ N, pnV x = N := ⟨_, rfl⟩
        have hNs : N.size ≤ 3 := by rw [hN, ba_mk]; omega
        have hDs : D.size ≤ 3 := by rw [← hD, ← ba_size]; exact l2
        rw [← hN] at KF hX
        rw [hD] at KN hX
        have hDi : (D.size : Int) ≤ 3 := by omega
        have hNi : (N.size : Int) ≤ 3 := by omega
        have hDi2 : ((D ++ ⟨#[47]⟩ : ByteArray).size : Int) ≤ 4 := by rw [ByteArray.size_append]; have : (⟨#[47]⟩ : ByteArray).size = 1 := rfl; omega
        have HXk := hide hX
        clear hX hx hy c1 c2 hD hN l1 l2 hDs hNs
        go_upto_region 8 with fail
        rw [← hX2]
        clear hX2 d1 d2 hown
        go_wp2_with fail
        refine KF.mono ?_
        rintro e w4 ⟨rfl, hb3⟩
        have own4 := own_keep own2 hb3
        have b4 := step_below hb3 bX2
        have f1 := (hb3.cell (p := ⟨wr.heap.size, 0, none⟩) (World.block_lt_of_cell? _ _ e0)).trans e0
        have KN4 := KN w4 (hT.2.below b4)
        clear e0 e1 own2 KF KN
        go_wp2_with fail
        refine KN4.mono ?_
        rintro e w5 ⟨rfl, rfl⟩
        have hnew : ∀ j u, ([.string (D ++ ⟨#[47]⟩ ++ N)] : List Value)[j]? = some u → (w4.alloc (.cells #[.string (D ++ ⟨#[47]⟩ ++ N)] 9)).cell? ((⟨w4.heap.size, 0, none⟩ : Addr).add j) = some u := cell_one_new w4 (.string (D ++ ⟨#[47]⟩ ++ N)) 9
        have own5 := own4.alloc (.cells #[.string (D ++ ⟨#[47]⟩ ++ N)] 9)
        go_wp2_with (at_builtin; refine wpList_append_own _ rfl _ _ 47 rfl w.heap.size 9 i0 (.string ⟨#[]⟩) 1 16 Tryd.underlying47 hi hz0 hz1 hz2 rfl (by decide) _ _ _ rfl own5 ⟨w4.heap.size, 0, none⟩ 1 1 [.string (D ++ ⟨#[47]⟩ ++ N)] rfl rfl hnew (fun x hx => by simp at hx; subst hx; rfl) (by unfold maxLen; omega) (by omega) (by simp; have := b4.size; omega) ?_; intro v' w6 hown6 hgrow6 hnil6)
        have hb6 := (b4.alloc b4.size (.cells #[.string (D ++ ⟨#[47]⟩ ++ N)] 9)).grown hgrow6 (by simp; have := b4.size; omega) (fun j hj => (own4.lt j hj).1)
        go_roundw
        case rel => exact ⟨k + 1, hlt, by go_num, by rw [HS.out, HXk.out, strs, List.map_append]; exact hown6, hb6⟩
        case measure => simp [intOf]; omega
      · obtain rfl : k = l.length := by omega
        have KJ := joined_any (s := 32) hown (by omega) HL.out
        go_wp2_with (go_at_call 60; refine KJ.mono ?_; rintro e w' ⟨rfl, hbj⟩)
        go_ret
        exact ⟨by rw [HV.out]; rfl, step_below hbj hb⟩
end Go.Proofs.YtmjpecneaenlpaaDoor
