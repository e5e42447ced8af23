import Derived.Test.YtakdnmakgblamaaDwm
import Derived.Test.YtakdnmakgblamaaWps
import Derived.StillTailTactics
import Derived.Deep.CutRange
namespace Go.Proofs.Ytakdnmakgblamaa
open Go.RowKit Go.Maps
def dwC (s : Int) (h : List (Int × Int)) (l : List (Int × Int × Int)) (z : List Int) : Int := codeI (weB s h l z)
def dwR (s : Int) (h : List (Int × Int)) (l : List (Int × Int × Int)) (z : List Int) : Nat → Int := if weB s h l z then dwD l l.length else fun _ => 0
theorem or_set {l : List (Int × Int × Int)} {k a t : Nat} (ha : wnS l k = a) (ht : wnT l k = t) (i : Nat) : (if i = a then bits .or .u32 (dwD l k a) (2 ^ t % 4294967296) else dwD l k i) = dwD l (k + 1) i := by
  rw [dwD, orW, ha, ht]
  simp
set_option maxRecDepth 20000 in
set_option maxHeartbeats 8000000 in
theorem specDrumOfWear_any (s : Int) (A : Option Addr) (c : Nat) (h : List (Int × Int)) (P : Option Addr) (d : Nat) (l : List (Int × Int × Int)) (U : Option Addr) (v : Nat) (z : List Int) (w : World)
    (hA : HA w A h) (hn : h.length ≤ 1048576) (hwf : HWF h) (hs : -32768 ≤ s ∧ s ≤ 32767) (hL : WnA w P l) (hU : SZ w U z) (hl : l.length ≤ 1048576) (hz : z.length ≤ 1048576) (hlw : WnWF l) (_ : ZWF z) :
    Calls Try.prog 24 #[.agg #[.int .i16 s, .slice A h.length c], .agg #[.slice P l.length d, .slice U z.length v]] w (DrC (dwR s h l z) (dwC s h l z) w) := by
  have hzd := zeroDrum
  obtain ⟨X, hX⟩ : ∃ X, X = (((w.alloc (.cells #[.int .i16 s, .slice A h.length c] 41)).alloc (.cells #[.slice P l.length d, .slice U z.length v] 45)).alloc (.cells za 53)) := ⟨_, rfl⟩
  have hb0 : Below w.heap.size w X := by rw [hX]; exact (((Below.refl _ _).alloc (Nat.le_refl _) _).alloc (by simp) _).alloc (by simp; omega) _
  have P0 : Bk X w.heap.size 41 #[.int .i16 s, .slice A h.length c] := by rw [hX]; exact (Bk.new _ _ _ rfl).old _ |>.old _
  have P1 : Bk X (w.heap.size + 1) 45 #[.slice P l.length d, .slice U z.length v] := by rw [hX]; exact (Bk.new _ _ _ (by simp)).old _
  have P2 : Bk X (w.heap.size + 1 + 1) 53 (da fun _ => 0) := by rw [hX, za_eq]; exact Bk.new _ _ _ (by simp)
  have hX3 := P2.lt
  go_enter Try.func24, Try.ntmps24
  go_upto_region 1 with fail
  rw [← hX]
  clear hX
  obtain ⟨Y, hY⟩ : ∃ Y, Y = X.alloc (.cells (da fun _ => 0) 53) := ⟨_, rfl⟩
  have hbY : Below X.heap.size X Y := by rw [hY]; exact (Below.refl _ _).alloc (Nat.le_refl _) _
  have Q0 := P0.keep hbY
  have Q1 := P1.keep hbY
  have Q2 := P2.keep hbY
  have Q3 : Bk Y X.heap.size 53 (da fun _ => 0) := by rw [hY]; exact Bk.new _ _ _ rfl
  have bY := step_below hbY hb0
  have hzz : za.size = (da fun _ => 0).size := by rw [za_eq]
  have KW := l06Ok_any w.heap.size (w.heap.size + 1) s A c h P d l U v z Y ⟨Q0.cell (i := 0) rfl, Q0.cell (i := 1) rfl⟩ (Q1.cell (i := 0) rfl) (Q1.cell (i := 1) rfl) (hA.below bY) (hL.below bY) (hU.below bY) hn hl hz hwf hs hlw
  go_upto_region 2 with (first | (with_reducible refine wpList_build0 rfl rfl ?_) | (with_reducible refine wpList_store_new rfl 53 (.tmp 6) (.tmp 8) rfl (fun _ => 0) rfl rfl 53 _ (dInfo fun _ => 0) hzz ?_))
  rw [← hY]
  clear hY hzd hzz
  go_wp2_with fail
  refine KW.mono ?_
  rintro e w2 ⟨rfl, hb2⟩
  have b2 := step_below hb2 bY
  have R1 := Q1.keep hb2
  have R2 := Q2.keep hb2
  have R3 := Q3.keep hb2
  have hs2 := hb2.size
  clear KW P0 P1 P2 Q0 Q1 Q2 Q3
  cases h1 : weB s h l z
  · have HX := hide (show dwC s h l z = 1 by simp [dwC, h1, codeI])
    have HY := hide (show dwR s h l z = fun _ => 0 by simp [dwR, h1])
    have HZ := hide (show w2.heap[w.heap.size + 1 + 1]? = some (.cells (da fun _ => 0) 53 (0, 0)) from R2)
    have HR := hide (show Dr w2 X.heap.size 53 (fun _ => 0) from R3).range
    clear h1
    go_wp2_with (first | (with_reducible refine wpList_load_da rfl 53 (.tmp 6) rfl (X.heap.size) 0 rfl (fun _ => 0) _ HR.out Try.underlying53 rfl (dInfo fun _ => 0) ?_) | (with_reducible refine wpList_store_row rfl 53 (.tmp 4) (.tmp 11) rfl (w.heap.size + 1 + 1) (da fun _ => 0) rfl rfl 53 _ HZ.out (by rw [da_size]; exact info53) (by simp only [da_size]) (da_one _) ?_))
    exact bodyPost_ret (v := .tuple #[.agg (da fun _ => 0), .int .i64 1]) (results_dr Try.results24 _ _ (w.heap.size + 1 + 1) 53 _ _ (by simp [Act.put]) (by simp [Act.put]) (setRow_heap _ _ _ _ _ _ HZ.out)) rfl ⟨by rw [HY.out, HX.out], below_setRow b2 (by omega)⟩
  · have HX := hide (show dwC s h l z = 0 by simp [dwC, h1, codeI])
    have HY := hide (show dwR s h l z = dwD l l.length by simp [dwR, h1])
    have HO := hide (onD_of h1)
    obtain ⟨g, hg⟩ : ∃ g, g = X.heap.size := ⟨_, rfl⟩
    have hgw : w.heap.size + 1 + 1 < g := by omega
    rw [← hg] at R3
    clear h1 hA hU
    go_wp2_with fail
    rw [← hg]
    clear hg
    go_loopw [7] (fun i wr => ∃ k : Nat, k ≤ l.length ∧ i = .int .i64 k ∧ Bk wr (w.heap.size + 1) 45 #[.slice P l.length d, .slice U z.length v] ∧ Bk wr (w.heap.size + 1 + 1) 53 (da fun _ => 0) ∧ Dr wr g 53 (dwD l k) ∧ Below w.heap.size w wr)
      (fun i _ => l.length - (intOf i).toNat)
    case atStart => exact ⟨0, Nat.zero_le _, rfl, R1, R2, R3, b2⟩
    case round =>
      obtain ⟨k, hk, rfl, E1, E2, E3, hb⟩ := hrel
      have e0 := E1.cell (i := 0) rfl
      by_cases hlt : k < l.length
      · obtain ⟨pb, o, rfl, hbb, c1, c2, c3⟩ := hL k hlt
        obtain ⟨⟨a1, a2⟩, t1, t2⟩ := HO.out k hlt
        obtain ⟨a, ha⟩ : ∃ a : Nat, wnS l k = a := ⟨(wnS l k).toNat, by omega⟩
        obtain ⟨t, ht⟩ : ∃ t : Nat, wnT l k = t := ⟨(wnT l k).toNat, by omega⟩
        have hOS := hide (or_set ha ht)
        rw [ha] at c1 a1 a2
        rw [ht] at c2 t1 t2
        have ha96 : a < 96 := by omega
        have ht24 : t < 24 := by omega
        have hd1 : Below wr.heap.size wr wr.drew := (Below.refl _ _).drew
        have hbd := hb.drew
        have d1 := (hbd.cell (p := ⟨pb, o + k * 3, none⟩) hbb).trans c1
        have d2 := (hbd.cell (p := ⟨pb, o + k * 3 + 1, none⟩) hbb).trans c2
        have E1d := E1.keep hd1
        have E2d := E2.keep hd1
        have E3d := E3.keep hd1
        clear c1 c2 c3 hL ha ht
        go_wp2_with fail
        refine wp_region_still_tail 18 (by kernel_rfl) (by kernel_rfl) ?_
        change wpStill _ _ wr.drew (fun a' => wpList _ _ _ _ a' wr.drew) _ _
        simp only [List.take_succ_cons, List.take_zero, List.drop_succ_cons, List.drop_zero]
        clear E1 E2 E3 hb hd1 e0
        generalize wr.drew = wd at *
        have c0 := E1d.cell (i := 0) rfl
        have c4 := E3d.cell ha96
        have f4 := E3d.frozen a
        have hai : (a : Int) < 96 := by omega
        have hti : (t : Int) < 24 := by omega
        repeat still_step
        refine wpStill_nil ?_
        go_wp2
        go_roundw
        case rel => exact ⟨k + 1, hlt, by go_num, E1d.other (by omega) _, E2d.other (by omega) _, (E3d.set a _).congr fun i _ => by rw [Nat.min_eq_left (by omega)]; exact hOS.out i, hbd.setCell (p := ⟨_, _, none⟩) (by dsimp only; omega) _⟩
        case measure => simp [intOf]; omega
      · obtain rfl : k = l.length := by omega
        have HZ := hide (show wr.heap[w.heap.size + 1 + 1]? = some (.cells (da fun _ => 0) 53 (0, 0)) from E2)
        have HR := hide E3.range
        go_wp2_with (first | (with_reducible refine wpList_load_da rfl 53 (.tmp 6) rfl (g) 0 rfl (dwD l l.length) _ HR.out Try.underlying53 rfl (dInfo (dwD l l.length)) ?_) | (with_reducible refine wpList_store_row rfl 53 (.tmp 4) (.tmp 37) rfl (w.heap.size + 1 + 1) (da (dwD l l.length)) rfl rfl 53 _ HZ.out (by rw [da_size]; exact info53) (by simp only [da_size]) (da_one _) ?_))
        exact bodyPost_ret (v := .tuple #[.agg (da (dwD l l.length)), .int .i64 0]) (results_dr Try.results24 _ _ (w.heap.size + 1 + 1) 53 _ _ (by simp [Act.put]) (by simp [Act.put]) (setRow_heap _ _ _ _ _ _ HZ.out)) rfl ⟨by rw [HY.out, HX.out], below_setRow hb (by omega)⟩
end Go.Proofs.Ytakdnmakgblamaa
