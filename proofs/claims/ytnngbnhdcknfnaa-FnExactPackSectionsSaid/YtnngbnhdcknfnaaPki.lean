import Derived.Test.YtnngbnhdcknfnaaPk
namespace Go.Proofs.Ytnngbnhdcknfnaa
open Go.RowKit
def pmV (s g : Int) (zs : List Int) : List (Int × Int) := if s < pkP g zs zs.length then [] else pkL g zs zs.length
def pmC (s g : Int) (zs : List Int) : Int := if s < pkP g zs zs.length then 3 else 0

set_option maxRecDepth 20000 in
set_option maxHeartbeats 4000000 in
theorem packed_any (s : Int) (A : Option Addr) (n c : Nat) (B : Option Addr) (d : Nat) (zs : List Int) (g : Int) (w : World) (hs : 2 ≤ s ∧ s ≤ 96) (hB : SZ w B zs) (hall : PkG g zs) :
    Calls Try.prog 79 #[.agg #[.int .i64 s, .slice A n c], .slice B zs.length d, .int .i64 g] w (OwnS w (pmV s g zs) (pmC s g zs)) := by
  obtain ⟨i0, hi, hz0, hz1, hz2⟩ := info_parts info90
  obtain ⟨X, hX⟩ : ∃ X, X = w.alloc (.cells #[.int .i64 s, .slice A n c] 82) := ⟨_, rfl⟩
  have hb0 : Below w.heap.size w X := by rw [hX]; exact (Below.refl _ _).alloc (Nat.le_refl _) _
  have M0 : Bk X w.heap.size 82 #[.int .i64 s, .slice A n c] := by rw [hX]; exact Bk.new _ _ _ rfl
  have HF := hide (pkF_in hall)
  have HM := hide (pkP_mono hall)
  obtain ⟨h12, ⟨hg1, hg2⟩, hzz⟩ := hall
  have HZ := hide hzz
  obtain ⟨hs1, hs2⟩ := hs
  have B1 := hB.below hb0
  clear hzz hB
  go_enter Try.func79, Try.ntmps79
  go_upto_region 1 with fail
  rw [← hX]
  clear hX
  go_wp2_with fail
  go_loopw [8, 9, 14] (fun v f i wr => ∃ k : Nat, k ≤ zs.length ∧ i = .int .i64 k ∧ f = .int .i64 (pkF g zs k) ∧ pkP g zs k ≤ s ∧ wr.ownsRow X.heap.size 90 2 v (pkL g zs k).length (secC (pkL g zs k)) ∧ Below X.heap.size X wr)
    (fun _ _ i _ => zs.length - (intOf i).toNat)
  case atStart => exact ⟨0, Nat.zero_le _, rfl, by rw [pkF_zero], by rw [pkP_zero]; omega, ⟨rfl, Or.inl ⟨rfl, rfl⟩⟩, Below.refl _ _⟩
  case round =>
    obtain ⟨k, hk, rfl, rfl, hps, hown, hb⟩ := hrel
    obtain ⟨A', c', rfl⟩ := own_shape hown
    have HPS := hide hps
    clear hps
    by_cases hlt : k < zs.length
    · obtain ⟨b', p, rfl, hbb, d1⟩ := B1 k hlt
      have d2 := (hb.cell (p := ⟨b', p + k, none⟩) hbb).trans d1
      obtain ⟨z1, z2⟩ := HZ.out k hlt
      obtain ⟨f1, f2⟩ := HF.out k hk
      have HS := hide (pkP_succ g zs k)
      have HFS := hide (pkF_succ g zs k)
      have HL := hide (pkL_succ g zs k)
      have hlen := pkL_len g zs k
      have hmono := HM.out (k + 1) zs.length hlt (Nat.le_refl _)
      rw [pkP_succ] at hmono
      have HMO := hide hmono
      have hsz := hb.size
      have g0 := (M0.keep hb).cell (i := 0) rfl
      obtain ⟨fr, hfr⟩ : ∃ fr, fr = pkF g zs k := ⟨_, rfl⟩
      obtain ⟨z, hz⟩ : ∃ z, z = zAt zs k := ⟨_, rfl⟩
      rw [← hfr] at f1 f2 HS HL HFS HMO ⊢
      rw [← hz] at z1 z2 HS HL d1 d2 HFS HMO
      clear hfr hz d1 hmono
      by_cases hgt : s < fr + z
      · have hpn : s < pkP g zs zs.length := by have := HMO.out; omega
        have HX := hide (show pmC s g zs = 3 from if_pos hpn)
        have HY := hide (show pmV s g zs = [] from if_pos hpn)
        clear hpn
        go_wp2
        go_ret2
        rw [HX.out, HY.out]
        exact ownS_nil none 0 3 ⟨rfl, Or.inl ⟨rfl, rfl⟩⟩ (step_below hb hb0)
      · have hw1 : IntKind.i16.wrap fr = fr := by simp [IntKind.wrap, IntKind.signed, IntKind.bits]; omega
        have hw2 : IntKind.i16.wrap z = z := by simp [IntKind.wrap, IntKind.signed, IntKind.bits]; omega
        have own3 := hown.alloc (.cells #[.int .i16 fr, .int .i16 z] 90)
        have hnew := cell_two_new' wr (.int .i16 fr) (.int .i16 z) 90
        go_wp2_with (at_builtin; refine wpList_append_own _ rfl _ _ 38 rfl X.heap.size 90 i0 (.agg #[.int .i16 0, .int .i16 0]) 2 4 Try.underlying38 hi hz0 hz1 hz2 rfl (by decide) _ _ _ rfl own3 ⟨wr.heap.size, 0, none⟩ 1 1 [.int .i16 fr, .int .i16 z] rfl rfl hnew (fun x hx => by simp at hx; rcases hx with rfl | rfl <;> rfl) (by unfold maxLen; omega) (by omega) (by simp; have := hb.size; omega) ?_; intro v' w3 hown3 hgrow3 hnil3; have hb3 := (hb.alloc hb.size (.cells #[.int .i16 fr, .int .i16 z] 90)).grown hgrow3 (by simp; have := hb.size; omega) (fun j hj => (hown.lt j hj).1))
        go_roundw
        case rel => exact ⟨k + 1, hlt, by go_num, by rw [HFS.out], by rw [HS.out]; omega, by rw [HL.out, List.length_append, secC_append]; exact hown3, hb3⟩
        case measure => simp [intOf]; omega
    · obtain rfl : k = zs.length := by omega
      have hng : ¬ s < pkP g zs zs.length := by have := HPS.out; omega
      have HX := hide (show pmC s g zs = 0 from if_neg hng)
      have HY := hide (show pmV s g zs = pkL g zs zs.length from if_neg hng)
      clear hng
      go_wp2
      go_ret2
      rw [HX.out, HY.out]
      exact ⟨A', c', rfl, own_base hown hb0.size, step_below hb hb0⟩

set_option maxRecDepth 20000 in
set_option maxHeartbeats 4000000 in
theorem implPackSections_any (s : Int) (A : Option Addr) (c : Nat) (l : List (Int × Int)) (B : Option Addr) (d : Nat) (zs : List Int) (g : Int) (w : World) (hA : HA w A l) (hn : l.length ≤ 1048576) (hwf : HWF l) (hs : -32768 ≤ s ∧ s ≤ 32767) (hB : SZ w B zs) (hm : zs.length ≤ 1048576) (hzwf : ZWF zs) :
    Calls Try.prog 47 #[.agg #[.int .i16 s, .slice A l.length c], .slice B zs.length d, .int .i64 g] w (OwnS w (pkV s l zs g) (pkC s l zs g)) := by
  obtain ⟨X, hX⟩ : ∃ X, X = w.alloc (.cells #[.int .i16 s, .slice A l.length c] 36) := ⟨_, rfl⟩
  have hb0 : Below w.heap.size w X := by rw [hX]; exact (Below.refl _ _).alloc (Nat.le_refl _) _
  have F0 : Bk X w.heap.size 36 #[.int .i16 s, .slice A l.length c] := by rw [hX]; exact Bk.new _ _ _ rfl
  have f0 := F0.cell (i := 0) rfl
  have f1 := F0.cell (i := 1) rfl
  go_enter Try.func47, Try.ntmps47
  go_upto_region 1 with fail
  rw [← hX]
  clear hX
  go_wp2_with fail
  refine (machineFor_any s A c l _ true _ (hA.below hb0) hn hwf hs (fun _ W _ => fits_nil _ s A l.length c rfl W)).mono ?_
  rintro e w1 ⟨rfl, hb1⟩
  rw [Bool.and_true]
  have b1 := step_below hb1 hb0
  clear f0 f1
  cases hp : frB s l
  · have hcc : pkC s l zs g = 1 := by simp [pkC, hp]
    have HX := hide hcc
    have HY := hide (show pkV s l zs g = [] by simp [pkV, hcc])
    clear hp hcc
    go_wp2
    go_ret2
    rw [HX.out, HY.out]
    exact ownS_nil none 0 1 ⟨rfl, Or.inl ⟨rfl, rfl⟩⟩ (b1.alloc b1.size _)
  have hfr := frB_all hp
  have hs9 := hfr.1
  have HP := hide (show pkC s l zs g = if pkO g zs zs.length then (if s < pkP g zs zs.length then 3 else 0) else 2 by simp [pkC, hp])
  clear hp hfr
  simp only [if_true]
  have hal : Below w1.heap.size w1 (w1.alloc (.cells #[.int .i64 s, .slice A l.length c] 82)) := (Below.refl _ _).alloc (Nat.le_refl _) _
  have M0 : Bk (w1.alloc (.cells #[.int .i64 s, .slice A l.length c] 82)) w1.heap.size 82 #[.int .i64 s, .slice A l.length c] := Bk.new _ _ _ rfl
  have b2 := step_below hal b1
  go_upto_region 2 with fail
  obtain ⟨Y, hY⟩ : ∃ Y, Y = w1.alloc (.cells #[.int .i64 s, .slice A l.length c] 82) := ⟨_, rfl⟩
  rw [← hY] at hal M0 b2 ⊢
  clear hY
  have B2 := hB.below b2
  by_cases h12 : zs.length ≤ 12
  · have h12' : (zs.length : Int) ≤ 12 := by omega
    cases hgap : inB g 0 96
    · have K1 : ∀ W, Calls Try.prog 64 #[.int .i64 g, .int .i64 0, .int .i64 96] W fun e w' => e = .returned (.bool false) ∧ W = w' := fun W => by rw [← hgap]; exact within_any _ _ _ W
      have hno : pkO g zs zs.length = false := by simp [pkO, hgap]
      have hcc : pkC s l zs g = 2 := by rw [HP.out, hno]; rfl
      have HX := hide hcc
      have HY := hide (show pkV s l zs g = [] by simp [pkV, hcc])
      clear hcc hno hgap
      go_wp2_with (go_at_call 64; with_reducible refine (K1 _).mono ?_; rintro e w' ⟨rfl, rfl⟩)
      go_ret2
      rw [HX.out, HY.out]
      exact ownS_nil none 0 2 ⟨rfl, Or.inl ⟨rfl, rfl⟩⟩ b2
    have K1 : ∀ W, Calls Try.prog 64 #[.int .i64 g, .int .i64 0, .int .i64 96] W fun e w' => e = .returned (.bool true) ∧ W = w' := fun W => by rw [← hgap]; exact within_any _ _ _ W
    have HG := hide (show pkO g zs 0 = true by simp [pkO, h12, hgap])
    clear hgap
    go_wp2_with (go_at_call 64; with_reducible refine (K1 _).mono ?_; rintro e w' ⟨rfl, rfl⟩)
    go_loopw [29] (fun i wr => ∃ k : Nat, k ≤ zs.length ∧ i = .int .i64 k ∧ pkO g zs k = true ∧ Y = wr)
      (fun i _ => zs.length - (intOf i).toNat)
    case atStart => exact ⟨0, Nat.zero_le _, rfl, HG.out, rfl⟩
    case round =>
      obtain ⟨k, hk, rfl, hok, rfl⟩ := hrel
      by_cases hlt : k < zs.length
      · obtain ⟨b', p, rfl, hbb, d1⟩ := B2 k hlt
        have hzr := hzwf k hlt
        have hsu := pkO_succ g zs k
        rw [hok, Bool.true_and] at hsu
        cases hz : inB (zAt zs k) 1 96
        · have K2 : ∀ W, Calls Try.prog 64 #[.int .i64 (zAt zs k), .int .i64 1, .int .i64 96] W fun e w' => e = .returned (.bool false) ∧ W = w' := fun W => by rw [← hz]; exact within_any _ _ _ W
          rw [hz] at hsu
          have hno := pkO_no hsu hlt
          have hcc : pkC s l zs g = 2 := by rw [HP.out, hno]; rfl
          have HX := hide hcc
          have HY := hide (show pkV s l zs g = [] by simp [pkV, hcc])
          clear hcc hno hsu hok hz K1
          go_wp2_with (go_at_call 64; with_reducible refine (K2 _).mono ?_; rintro e w' ⟨rfl, rfl⟩)
          go_ret2
          rw [HX.out, HY.out]
          exact ownS_nil none 0 2 ⟨rfl, Or.inl ⟨rfl, rfl⟩⟩ b2
        · have K2 : ∀ W, Calls Try.prog 64 #[.int .i64 (zAt zs k), .int .i64 1, .int .i64 96] W fun e w' => e = .returned (.bool true) ∧ W = w' := fun W => by rw [← hz]; exact within_any _ _ _ W
          rw [hz] at hsu
          have HSU := hide hsu
          clear hsu hok hz K1
          go_wp2_with (go_at_call 64; with_reducible refine (K2 _).mono ?_; rintro e w' ⟨rfl, rfl⟩)
          go_roundw
          case rel => exact ⟨k + 1, hlt, by go_num, HSU.out, trivial⟩
          case measure => simp [intOf]; omega
      · obtain rfl : k = zs.length := by omega
        have hall := pkO_all hok
        have HX := hide (show pmC s g zs = pkC s l zs g by rw [HP.out, hok]; rfl)
        have HY := hide (show pmV s g zs = pkV s l zs g by
          unfold pkV pmV
          rw [HP.out, hok]
          by_cases h : s < pkP g zs zs.length <;> simp [h])
        have HK := hide hok
        have m0 := M0.cell (i := 0) rfl
        have m1 := M0.cell (i := 1) rfl
        clear hok K1
        go_wp2_with fail
        refine (packed_any s A l.length c B d zs g _ hs9 B2 hall).mono ?_
        rintro e w3 ⟨C, q, rfl, own3, hb3⟩
        rw [HX.out] at *
        rw [HY.out] at *
        go_wp2
        go_ret2
        exact ⟨C, q, rfl, own_base own3 b2.size, step_below hb3 b2⟩
  · have hcc : pkC s l zs g = 2 := by rw [HP.out]; simp [pkO, h12]
    have HX := hide hcc
    have HY := hide (show pkV s l zs g = [] by simp [pkV, hcc])
    clear hcc HP
    go_wp2
    go_ret2
    rw [HX.out, HY.out]
    exact ownS_nil none 0 2 ⟨rfl, Or.inl ⟨rfl, rfl⟩⟩ b2
end Go.Proofs.Ytnngbnhdcknfnaa
