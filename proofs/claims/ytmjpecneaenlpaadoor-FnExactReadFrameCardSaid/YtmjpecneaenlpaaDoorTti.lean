import Derived.Test.YtmjpecneaenlpaaDoorGax
import Derived.Test.YtmjpecneaenlpaaDoorGas
namespace Go.Proofs.YtmjpecneaenlpaaDoor
open Go.RowKit
set_option maxRecDepth 20000 in
set_option maxHeartbeats 4000000 in
theorem implTuneText_any (A : Option Addr) (c : Nat) (l : List (Int × Int)) (w : World) (hA : NA w A l) (hn : l.length ≤ 1048576) (hwf : WF l) (hT : PsW w) :
    Calls Tryd.prog 33 #[.slice A l.length c] w fun e w' => e = .returned (.string (ttV l)) ∧ Below w.heap.size w w' := by
  obtain ⟨i0, hi, hz0, hz1, hz2⟩ := info_parts info9
  have KP := implValid_any A c l w hA hn hwf
  cases hx : okB l
  · have HV := hide (show ttV l = ⟨#[]⟩ by rw [ttV, if_neg (by rw [hx]; simp)])
    rw [hx] at KP
    clear hx
    go_enter Tryd.func33, Tryd.ntmps33
    go_wp2_with fail
    refine KP.mono ?_
    rintro e w1 ⟨rfl, hb1⟩
    go_wp2
    go_ret
    exact ⟨by rw [HV.out]; rfl, hb1⟩
  · have HV := hide (show ttV l = ⟨(txJ (ttC l) 32 l.length).toArray⟩ by rw [ttV, if_pos hx])
    have HL := hide (show (txJ (ttC l) 32 l.length).length ≤ 140737488355328 by have := ttJ_len hx l.length (Nat.le_refl _); omega)
    obtain ⟨hl, hG⟩ := okB_get hx
    have HG := hide hG
    rw [hx] at KP
    clear hx hG
    go_enter Tryd.func33, Tryd.ntmps33
    go_wp2_with fail
    refine KP.mono ?_
    rintro e w0 ⟨rfl, hb0⟩
    go_wp2_with (at_make; refine wpList_make_own _ rfl _ _ 47 rfl w.heap.size 9 i0 _ 1 Tryd.underlying47 hi hz0 hz1 _ _ _ l.length rfl rfl (by omega) (by rw [hz2]; omega) (by unfold maxLen; omega) hb0.size ?_; intro w1 hown1 hgrow1)
    have hb1 : Below w.heap.size w w1 := hb0.grown hgrow1 hb0.size (fun j e => by cases e)
    clear hgrow1
    go_loopw [3, 5, 6, 15] (fun v _ _ i wr => ∃ k : Nat, k ≤ l.length ∧ i = .int .i64 k ∧ wr.ownsRow w.heap.size 9 1 v k (strs (txP (ttC l) k)) ∧ Below w.heap.size w wr)
      (fun _ _ _ i _ => l.length - (intOf i).toNat)
    case atStart => exact ⟨0, Nat.zero_le _, rfl, hown1, hb1⟩
    case round =>
      obtain ⟨k, hk, rfl, hown, hb⟩ := hrel
      obtain ⟨A', c', rfl⟩ := own_shapeS hown
      by_cases hlt : k < l.length
      · obtain ⟨b, o, rfl, hbb, c1, c2⟩ := hA k hlt
        have d1 := (hb.cell (p := ⟨b, o + k * 2, none⟩) hbb).trans c1
        have d2 := (hb.cell (p := ⟨b, o + k * 2 + 1, none⟩) hbb).trans c2
        have hki : (k : Int) < (l.length : Int) := by omega
        obtain ⟨⟨i1, i2⟩, i3, i4⟩ := HG.out k hlt
        have hX : ttC l k = ⟨(Lib.decDigits (nAt l k).toNat).toArray⟩ ++ ⟨#[58]⟩ ++ pnV (nPi l k) := rfl
        have HS := hide (txP_succ (ttC l) k)
        obtain ⟨x, hx⟩ : ∃ x, nAt l k = x := ⟨_, rfl⟩
        obtain ⟨y, hy⟩ : ∃ y, nPi l k = y := ⟨_, rfl⟩
        rw [hx] at d1 i1 i2 hX
        rw [hy] at d2 i3 i4 hX
        obtain ⟨xn, rfl⟩ := Int.eq_ofNat_of_zero_le i1
        rw [Int.toNat_natCast] at hX
        have l1 := dec_len3 (show xn < 1000 by omega)
        have l2 := pnV_len y
        have wa : IntKind.i64.wrap (xn : Int) = xn := IntWalk.i64_in _ (by omega)
        have wp : IntKind.i64.wrap y = y := IntWalk.i64_in _ (by omega)
        obtain ⟨X2, hX2⟩ : ∃ X, X = wr.alloc (.cells #[.int .i16 xn, .int .i8 y] 54) := ⟨_, rfl⟩
        have hb2 : Below wr.heap.size wr X2 := by rw [hX2]; exact (Below.refl _ _).alloc (Nat.le_refl _) _
        have e0 : X2.cell? ⟨wr.heap.size, 0, none⟩ = some (.int .i16 xn) := by rw [hX2]; simp [go_sem]
        have e1 : X2.cell? ⟨wr.heap.size, 1, none⟩ = some (.int .i8 y) := by rw [hX2]; simp [go_sem]
        have own2 := own_keep hown hb2
        have bX := step_below hb2 hb
        have KF := formatInt_any xn X2 (by omega) (by omega) (hT.1.below bX)
        rw [itoa_nat] at KF
        have KN := fun W (hW : StpW W) => implPitchName_any y W hW
        obtain ⟨D, hD⟩ : ∃ D : ByteArray, D = ⟨(Lib.decDigits xn).toArray⟩ := ⟨_, rfl⟩
        obtain ⟨N, hN⟩ : ∃ N, pnV y = N := ⟨_, rfl⟩
        have hDs : D.size ≤ 3 := by rw [hD, ba_mk]; exact l1
        have hNs : N.size ≤ 3 := by rw [← hN, ← ba_size]; exact l2
        rw [← hD] at KF hX
        rw [hN] at KN hX
        have hDi : (D.size : Int) ≤ 3 := by omega
        have hNi : (N.size : Int) ≤ 3 := by omega
        have hDi2 : ((D ++ ⟨#[58]⟩ : ByteArray).size : Int) ≤ 4 := by rw [ByteArray.size_append]; have : (⟨#[58]⟩ : ByteArray).size = 1 := rfl; omega
        have HXk := hide hX
        clear hX hx hy c1 c2 hD hN l1 l2 hDs hNs
        go_upto_region 7 with fail
        rw [← hX2]
        clear hX2 d1 d2 hown
        go_wp2_with fail
        refine KF.mono ?_
        rintro e w4 ⟨rfl, hb3⟩
        have own4 := own_keep own2 hb3
        have b4 := step_below hb3 bX
        have f1 := (hb3.cell (p := ⟨wr.heap.size, 1, none⟩) (World.block_lt_of_cell? _ _ e1)).trans e1
        have KN4 := KN w4 (hT.2.below b4)
        clear e0 e1 own2 KF KN
        go_wp2_with fail
        refine KN4.mono ?_
        rintro e w5 ⟨rfl, rfl⟩
        obtain ⟨s, hs⟩ : ∃ s : ByteArray, s = D ++ ⟨#[58]⟩ ++ N := ⟨_, rfl⟩
        rw [← hs] at HXk
        rw [hs] at HXk
        clear hs
        have hnew : ∀ j u, ([.string (D ++ ⟨#[58]⟩ ++ N)] : List Value)[j]? = some u → (w4.alloc (.cells #[.string (D ++ ⟨#[58]⟩ ++ N)] 9)).cell? ((⟨w4.heap.size, 0, none⟩ : Addr).add j) = some u := cell_one_new w4 (.string (D ++ ⟨#[58]⟩ ++ N)) 9
        have own5 := own4.alloc (.cells #[.string (D ++ ⟨#[58]⟩ ++ N)] 9)
        go_wp2_with (at_builtin; refine wpList_append_own _ rfl _ _ 47 rfl w.heap.size 9 i0 (.string ⟨#[]⟩) 1 16 Tryd.underlying47 hi hz0 hz1 hz2 rfl (by decide) _ _ _ rfl own5 ⟨w4.heap.size, 0, none⟩ 1 1 [.string (D ++ ⟨#[58]⟩ ++ N)] rfl rfl hnew (fun x hx => by simp at hx; subst hx; rfl) (by unfold maxLen; omega) (by omega) (by simp; have := b4.size; omega) ?_; intro v' w6 hown6 hgrow6 hnil6)
        have hb6 := (b4.alloc b4.size (.cells #[.string (D ++ ⟨#[58]⟩ ++ N)] 9)).grown hgrow6 (by simp; have := b4.size; omega) (fun j hj => (own4.lt j hj).1)
        go_roundw
        case rel => exact ⟨k + 1, hlt, by go_num, by rw [HS.out, HXk.out, strs, List.map_append]; exact hown6, hb6⟩
        case measure => simp [intOf]; omega
      · obtain rfl : k = l.length := by omega
        have KJ := joined_any (s := 32) hown (by omega) HL.out
        go_wp2_with (go_at_call 60; refine KJ.mono ?_; rintro e w' ⟨rfl, hbj⟩)
        go_ret
        exact ⟨by rw [HV.out]; rfl, step_below hbj hb⟩
end Go.Proofs.YtmjpecneaenlpaaDoor
