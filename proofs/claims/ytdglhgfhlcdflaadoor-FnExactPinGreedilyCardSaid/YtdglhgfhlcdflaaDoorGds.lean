import Derived.Test.YtdglhgfhlcdflaaDoorGdi
import Derived.Test.YtdglhgfhlcdflaaDoorGbk
import Derived.Test.YtdglhgfhlcdflaaDoorGaf
namespace Go.Proofs.YtdglhgfhlcdflaaDoor
open Go.RowKit
theorem own_someP {w : World} {base n c : Nat} {A : Option Addr} {e : TypeId} {size : Nat} {xs : List Value} (h : w.ownsRow base e size (.slice A n c) n xs) (hn : 0 < n) : ∃ g, A = some ⟨g, 0, none⟩ := by
  rcases h.2 with ⟨h', h0⟩ | ⟨g', cap, cur, h', hgb, _⟩
  · omega
  · simp at h'
    exact ⟨g', h'.1⟩
set_option maxRecDepth 20000 in
set_option maxHeartbeats 2000000 in
theorem l03Fits_any (f : Nat) (s : Int) (A : Option Addr) (c : Nat) (l : List (Int × Int)) (C : Option Addr) (ct : Nat) (L : List (Int × Int)) (w : World) (hF : FP w f s A l.length c) (hA : HA w A l) (hn : l.length ≤ 1048576) (hwf : HWF l) (hs : -32768 ≤ s ∧ s ≤ 32767) (hC : NA w C L) (hL : L.length ≤ 1048576) (hLw : WF L) :
    Calls Tryd.prog 29 #[.pointer (some ⟨f, 0, none⟩), .slice C L.length ct, .int .i64 0] w (SaysI (pgK s l true L) w) := by
  obtain ⟨RK, hRK⟩ : ∃ RK, RK = pgK s l true L := ⟨_, rfl⟩
  rw [← hRK]
  have HRK := hide hRK
  clear hRK
  go_enter Tryd.func29, Tryd.ntmps29
  go_wp2_with fail
  refine (l02Frame_any f s A c l w hF hA hn hwf hs).mono ?_
  rintro e w1 ⟨rfl, hb1⟩
  cases h1 : frB s l
  · have HX := hide (show RK = 1 by rw [HRK.out, pgK, h1]; rfl)
    clear h1
    go_wp2
    go_ret
    exact ⟨by rw [HX.out]; rfl, hb1⟩
  have hfa := frB_all h1
  go_wp2_with fail
  refine (l01Ok_any C ct L w1 (hC.below hb1) hL hLw).mono ?_
  rintro e w2 ⟨rfl, hb2⟩
  have b2 := step_below hb2 hb1
  cases h2 : okB L
  · have HX := hide (show RK = 1 by rw [HRK.out, pgK, h1, h2, Bool.and_false]; rfl)
    clear h1 h2 hfa
    go_wp2
    go_ret
    exact ⟨by rw [HX.out]; rfl, b2⟩
  have hRK2 : RK = if lenI L ≤ s then 0 else 2 := by rw [HRK.out, pgK, h1, h2]; rfl
  obtain ⟨le, hle⟩ : ∃ le, le = lenI L := ⟨_, rfl⟩
  have KL : ∀ p : Later w2, Calls Tryd.prog 45 #[.slice C L.length ct] p.w fun e w' => e = .returned (.int .i64 le) ∧ p.w = w' := fun p => by rw [hle]; exact specLength_any C ct L p.w ((hC.below b2).below p.h) hL hLw
  rw [← hle] at hRK2
  have e0 := Later.cell (hF.keep b2).1
  have hws : IntKind.i64.wrap s = s := IntWalk.i64_in _ (by omega)
  obtain ⟨hs1, hs2⟩ := hs
  have HRK2 := hide hRK2
  clear h1 h2 hfa hle hRK2
  obtain ⟨bg, hbg⟩ : ∃ bg, decide (s < le) = bg := ⟨_, rfl⟩
  have hib : inB 0 0 20000 = true := by decide
  have K2 : ∀ W, Calls Tryd.prog 46 #[.int .i64 0, .int .i64 0, .int .i64 20000] W fun e w' => e = .returned (.bool true) ∧ W = w' := fun W => by rw [← hib]; exact l00In_any 0 0 20000 W
  clear hib
  cases bg
  · have HX := hide (show RK = 0 by rw [HRK2.out, if_pos (by have := of_decide_eq_false hbg; omega)])
    go_wp2_with fail
    refine wp_region_later (by kernel_rfl) (by kernel_rfl) ?_
    repeat (go_big_quiet_step (first | (go_at_call 45; with_reducible exact Later.same (KL _)) | (go_at_call 46; with_reducible exact Later.same (K2 _))))
    refine wpQuiet_nil ?_
    rintro _ ⟨⟨wq, hq⟩, rfl⟩
    go_wp2
    go_ret
    exact ⟨by rw [HX.out]; rfl, step_below hq b2⟩
  · have HX := hide (show RK = 2 by rw [HRK2.out, if_neg (by have := of_decide_eq_true hbg; omega)])
    go_wp2_with fail
    refine wp_region_later (by kernel_rfl) (by kernel_rfl) ?_
    repeat (go_big_quiet_step (first | (go_at_call 45; with_reducible exact Later.same (KL _)) | (go_at_call 46; with_reducible exact Later.same (K2 _))))
    refine wpQuiet_nil ?_
    rintro _ ⟨⟨wq, hq⟩, rfl⟩
    go_wp2
    go_ret
    exact ⟨by rw [HX.out]; rfl, step_below hq b2⟩
set_option maxRecDepth 20000 in
set_option maxHeartbeats 4000000 in
theorem l03Tracks_any (f g : Nat) (S : Nat) (A : Option Addr) (c : Nat) (l : List (Int × Int)) (d : Nat → Int) (k : Nat) (p : Int) (w : World) (hF : FP w f S A l.length c) (hD : Dr w g 43 d) (hA : HA w A l) (hS : 2 ≤ S ∧ S ≤ 96) (hl : l.length ≤ 24) (hg : HG S l l.length) (hk : k < S) (hp : 0 ≤ p ∧ p ≤ 47) (hd : DWF d) :
    Calls Tryd.prog 47 #[.pointer (some ⟨f, 0, none⟩), .pointer (some ⟨g, 0, none⟩), .agg #[.int .i16 k, .int .i8 p]] w (OwnL w (grL S l d k p)) := by
  obtain ⟨i0, hi, hz0, hz1, hz2⟩ := info_parts info2
  have HGG := hide hg
  clear hg
  obtain ⟨X, hX⟩ : ∃ X, X = w.alloc (.cells #[.int .i16 k, .int .i8 p] 65) := ⟨_, rfl⟩
  have b0 : Below w.heap.size w X := by rw [hX]; exact (Below.refl _ _).alloc (Nat.le_refl _) _
  have N0 : Bk X w.heap.size 65 #[.int .i16 k, .int .i8 p] := by rw [hX]; exact Bk.new _ _ _ rfl
  obtain ⟨hp1, hp2⟩ := hp
  go_enter Tryd.func47, Tryd.ntmps47
  go_upto_region 1 with fail
  rw [← hX]
  clear hX
  have hE : (X.alloc (.cells #[] 2)).ownsRow X.heap.size 2 1 (.slice (some ⟨X.heap.size, 0, none⟩) 0 0) 0 [] := own_empty (Nat.le_refl _)
  have bE : Below X.heap.size X (X.alloc (.cells #[] 2)) := (Below.refl _ _).alloc (Nat.le_refl _) _
  go_wp2_with fail
  go_loopw [7, 8] (fun v iv wr => ∃ (j n : Nat), j ≤ l.length ∧ iv = .int .i64 j ∧ ((List.range j).filter (grB S l d k p)).length = n ∧ n ≤ j ∧ wr.ownsRow X.heap.size 2 1 v n (tcells ((List.range j).filter (grB S l d k p))) ∧ Below X.heap.size X wr)
    (fun _ i _ => l.length - (intOf i).toNat)
  case atStart => exact ⟨0, 0, Nat.zero_le _, rfl, rfl, Nat.le_refl _, hE, bE⟩
  case round =>
    clear hE bE
    obtain ⟨j, n, hjl, rfl, hfl, hnj, hown, hb⟩ := hrel
    have HFL := hide hfl
    clear hfl
    obtain ⟨Av, cv, rfl⟩ := own_shape hown
    have bw := step_below hb b0
    have F1 := hF.keep bw
    have D1 := hD.keep bw
    have q0 := F1.2
    by_cases hlt : j < l.length
    · have hji : (j : Int) < (l.length : Int) := by omega
      have hjw : IntKind.i64.wrap ((j : Int) + 1) = (j : Int) + 1 := IntWalk.i64_in _ (by omega)
      obtain ⟨bh, oh, rfl, hbh, h1, h2⟩ := (hA.below bw) j hlt
      have q1 := Later.cell q0
      have q2 := Later.cell h1
      have NR := N0.keep hb
      have q3 := Later.cell (NR.cell (i := 0) rfl)
      have q4 := Later.cell (NR.cell (i := 1) rfl)
      have hkw : IntKind.i64.wrap (k : Int) = (k : Int) := IntWalk.i64_in _ (by omega)
      obtain ⟨x, hx⟩ : ∃ x, x = hPi l j := ⟨_, rfl⟩
      rw [← hx] at q2
      have hxb := (HGG.out.at hlt).1
      rw [← hx] at hxb
      obtain ⟨hx1, hx2⟩ := hxb
      clear h1 h2
      have KF : ∀ v, freeB S d (hRe l j).toNat k j = v → ∀ q : Later wr, Calls Tryd.prog 68 #[.pointer (some ⟨f, 0, none⟩), .pointer (some ⟨g, 0, none⟩), .int .i64 k, .int .i64 j] q.w fun e w' => e = .returned (.bool v) ∧ q.w = w' := fun v hv q => by
        rw [← hv]
        exact l02Free_any f g S _ c l d k j q.w (F1.keep q.h) (D1.keep q.h) (hA.below (step_below q.h bw)) hS hl HGG.out hk hlt hd
      by_cases hxp : x = p
      · have hxe : (x == p) = true := by simpa using hxp
        cases hfb : freeB S d (hRe l j).toNat k j
        · have KF' := KF false hfb
          have HF := hide (show (List.range (j + 1)).filter (grB S l d k p) = (List.range j).filter (grB S l d k p) by rw [List.range_succ, List.filter_append]; simp [grB, hfb])
          clear hfb KF hx
          go_wp2_with fail
          refine wp_region_later (by kernel_rfl) (by kernel_rfl) ?_
          repeat (go_big_quiet_step ((go_at_call 68; with_reducible exact Later.same (KF' _))))
          refine wpQuiet_nil ?_
          rintro _ ⟨⟨wz, hqz⟩, rfl⟩
          go_wp2
          go_roundw
          case rel => exact ⟨j + 1, n, hlt, by go_num, by rw [HF.out]; exact HFL.out, by omega, by rw [HF.out]; exact own_keep hown hqz, step_below hqz hb⟩
          case measure => simp [intOf]; omega
        · have KF' := KF true hfb
          have HF := hide (show (List.range (j + 1)).filter (grB S l d k p) = (List.range j).filter (grB S l d k p) ++ [j] by rw [List.range_succ, List.filter_append]; simp [grB, hfb, ← hx, hxp])
          clear hfb KF hx
          go_wp2_with fail
          refine wp_region_later (by kernel_rfl) (by kernel_rfl) ?_
          repeat (go_big_quiet_step ((go_at_call 68; with_reducible exact Later.same (KF' _))))
          refine wpQuiet_nil ?_
          rintro wz ⟨⟨_, hqz⟩, rfl⟩
          have ownz := own_keep hown hqz
          have bz := step_below hqz hb
          have hnew : ∀ q u, ([.int .i64 (j : Int)] : List Value)[q]? = some u → (wz.alloc (.cells #[.int .i64 (j : Int)] 2)).cell? ((⟨wz.heap.size, 0, none⟩ : Addr).add q) = some u := cell_one_new wz (.int .i64 (j : Int)) 2
          have own7 := ownz.alloc (.cells #[.int .i64 (j : Int)] 2)
          have hsz := bz.size
          clear q1 q2 q3 q4
          go_wp2_with (at_builtin; refine wpList_append_own _ rfl _ _ 51 rfl X.heap.size 2 i0 (.int .i64 0) 1 8 Tryd.underlying51 hi hz0 hz1 hz2 rfl (by decide) _ _ _ rfl own7 ⟨wz.heap.size, 0, none⟩ 1 1 [.int .i64 (j : Int)] rfl rfl hnew (fun x hx => by simp at hx; subst hx; rfl) (by unfold maxLen; omega) (by omega) (by simp; omega) ?_; intro v' w8 hown8 hgrow8 hnil8)
          have hb8 := (bz.alloc bz.size (.cells #[.int .i64 (j : Int)] 2)).grown hgrow8 (by simp; omega) (fun q hq => (ownz.lt q hq).1)
          go_roundw
          case rel => exact ⟨j + 1, n + 1, hlt, by go_num, by rw [HF.out, List.length_append, HFL.out]; rfl, by omega, by rw [HF.out, tcells, List.map_append]; exact hown8, hb8⟩
          case measure => simp [intOf]; omega
      · have hxe : (x == p) = false := by simpa using hxp
        have HF := hide (show (List.range (j + 1)).filter (grB S l d k p) = (List.range j).filter (grB S l d k p) by rw [List.range_succ, List.filter_append]; simp [grB, ← hx, hxp])
        clear KF hx
        go_wp2_with fail
        refine wp_region_later (by kernel_rfl) (by kernel_rfl) ?_
        repeat (go_big_quiet_step (fail))
        refine wpQuiet_nil ?_
        rintro _ ⟨⟨wz, hqz⟩, rfl⟩
        go_wp2
        go_roundw
        case rel => exact ⟨j + 1, n, hlt, by go_num, by rw [HF.out]; exact HFL.out, by omega, by rw [HF.out]; exact own_keep hown hqz, step_below hqz hb⟩
        case measure => simp [intOf]; omega
    · have HJ := hide (show j = l.length by omega)
      have hjn : ¬ (j : Int) < (l.length : Int) := by omega
      have HL := hide (show (grL S l d k p).length = n by rw [grL, ← HJ.out]; exact HFL.out)
      have HO := hide (show tcells ((List.range j).filter (grB S l d k p)) = tcells (grL S l d k p) by rw [grL, ← HJ.out])
      clear hjl hlt
      go_wp2
      go_ret
      exact ⟨Av, cv, by rw [HL.out]; rfl, by rw [HL.out, ← HO.out]; exact own_base hown b0.size, bw⟩
def gsI (S : Nat) (l L : List (Int × Int)) : Int := match gdF S l L with
  | some i => (i : Int)
  | none => -1
def gsD (S : Nat) (l L : List (Int × Int)) : Nat → Int := match gdF S l L with
  | some _ => fun _ => 0
  | none => gdD S l L L.length
set_option maxRecDepth 20000 in
set_option maxHeartbeats 8000000 in
theorem l03Greedy_any (f : Nat) (S : Nat) (A : Option Addr) (c : Nat) (l : List (Int × Int)) (C : Option Addr) (ct : Nat) (L : List (Int × Int)) (w : World) (hF : FP w f S A l.length c) (hA : HA w A l) (hC : NA w C L) (hS : 2 ≤ S ∧ S ≤ 96) (hl : l.length ≤ 24) (hg : HG (S : Int) l l.length) (hok : okB L = true) (hlen : lenI L ≤ S) :
    Calls Tryd.prog 30 #[.pointer (some ⟨f, 0, none⟩), .slice C L.length ct] w fun e w' => e = .returned (.tuple #[.agg (da (gsD S l L)), .int .i64 (gsI S l L)]) ∧ Below w.heap.size w w' := by
  obtain ⟨RI, hRI⟩ : ∃ RI, RI = gsI S l L := ⟨_, rfl⟩
  obtain ⟨RD, hRD⟩ : ∃ RD, RD = gsD S l L := ⟨_, rfl⟩
  rw [← hRI, ← hRD]
  have HRI := hide hRI
  have HRD := hide hRD
  clear hRI hRD
  have HOK := hide hok
  have hn120 := ok_len hok
  have HAT := hide (show ∀ j, j < L.length → (nAt L j).toNat < S ∧ 0 ≤ nAt L j from fun j hj => by
    have h1 := bk_in hok j hj
    have h2 := ok_in hok j hj
    omega)
  have HPI := hide (show ∀ j, j < L.length → 0 ≤ nPi L j ∧ nPi L j ≤ 47 from fun j hj => (ok_in hok j hj).2)
  have HGG := hide hg
  clear hok hlen hg
  have hz := zeroDrum
  obtain ⟨X, hX⟩ : ∃ X, X = (w.alloc (.cells za 43)).alloc (.cells (da fun _ => 0) 43) := ⟨_, rfl⟩
  have b0 : Below w.heap.size w X := by rw [hX]; exact ((Below.refl _ _).alloc (Nat.le_refl _) _).alloc (by simp) _
  have R0 : Dr X w.heap.size 43 (fun _ => 0) := by rw [hX, za_eq]; exact heap_old' (heap_new' _ _ _ rfl)
  have D0 : Dr X (w.heap.size + 1) 43 (gdD S l L 0) := by rw [hX]; exact heap_new' _ _ _ (by simp)
  go_enter Tryd.func30, Tryd.ntmps30
  go_upto_region 2 with (first | (with_reducible refine wpList_build0 rfl rfl ?_) | (with_reducible refine wpList_store_newP rfl 43 (.tmp 6) (.tmp 9) rfl (da fun _ => 0) (by simp [Act.eval]) rfl 43 _ (by rw [da_size]; exact info43) (by rw [za_eq]) (da_one _) ?_))
  rw [← hX]
  clear hX hz
  go_wp2_with fail
  go_loopw [7, 8] (fun iv _ wr => ∃ i : Nat, i ≤ L.length ∧ iv = .int .i64 i ∧ (∀ j, j < i → gdO S l L j = true) ∧ Dr wr w.heap.size 43 (fun _ => 0) ∧ Dr wr (w.heap.size + 1) 43 (gdD S l L i) ∧ Below w.heap.size w wr)
    (fun i _ _ => L.length - (intOf i).toNat)
  case atStart => exact ⟨0, Nat.zero_le _, rfl, fun j hj => absurd hj (Nat.not_lt_zero _), R0, D0, b0⟩
  case round =>
    clear R0 D0
    obtain ⟨i, hiL, rfl, hall, RR, DR, bw⟩ := hrel
    have HALL := hide hall
    clear hall
    have hdw := gdD_wf S l L i
    obtain ⟨q, hq⟩ : ∃ q, q = gdD S l L i := ⟨_, rfl⟩
    have HQ := hide hq
    rw [← hq] at DR hdw
    clear hq
    by_cases hlt : i < L.length
    · have hii : (i : Int) < (L.length : Int) := by omega
      have hiw : IntKind.i64.wrap ((i : Int) + 1) = (i : Int) + 1 := IntWalk.i64_in _ (by omega)
      obtain ⟨a, ha⟩ : ∃ a : Nat, nAt L i = (a : Int) := ⟨(nAt L i).toNat, by have := HAT.out i hlt; omega⟩
      obtain ⟨p, hp⟩ : ∃ p : Int, nPi L i = p := ⟨_, rfl⟩
      have hp47 := HPI.out i hlt
      rw [hp] at hp47
      have haS : a < S := by have := (HAT.out i hlt).1; omega
      have hat : (nAt L i).toNat = a := by omega
      have HGT := hide (show gdT S l L i = grL S l q a p by rw [gdT, hat, hp, ← HQ.out])
      have KT := l03Tracks_any f (w.heap.size + 1) S A c l q a p wr (hF.keep bw) DR (hA.below bw) hS hl HGG.out haS hp47 hdw
      obtain ⟨bn, on, rfl, hbn, n1, n2⟩ := (hC.below bw) i hlt
      rw [hp] at n2
      rw [ha] at n1
      have HAp := hide hat
      obtain ⟨TL, hTL⟩ : ∃ TL, TL = grL S l q a p := ⟨_, rfl⟩
      rw [← hTL] at HGT KT
      clear ha hat hp hTL
      go_wp2_with fail
      refine KT.mono ?_
      rintro e w5 ⟨Av, cv, rfl, own5, hb5⟩
      have b5 := step_below hb5 bw
      have D5 := DR.keep hb5
      have R5 := RR.keep hb5
      have n1' := (hb5.cell (p := ⟨bn, on + i * 2, none⟩) hbn).trans n1
      have hg1 := DR.lt
      have hbn5 := Nat.lt_of_lt_of_le hbn hb5.size
      clear KT n1 n2 hbn DR RR
      cases TL with
      | nil =>
        have hO : gdO S l L i = false := by unfold gdO; rw [HGT.out]; rfl
        have hF2 := gdF_some hlt HALL.out hO
        have HX := hide (show RI = (i : Int) by rw [HRI.out, gsI, hF2])
        have HY := hide (show RD = fun _ => 0 by rw [HRD.out, gsD, hF2])
        clear hO hF2
        have HR5 := hide (show w5.heap[w.heap.size]? = some (.cells (da fun _ => 0) 43 (0, 0)) from R5)
        go_wp2_with (first | (with_reducible refine wpList_build0 rfl rfl ?_) | (with_reducible refine wpList_store_row rfl 43 (.tmp 4) (.tmp 25) rfl w.heap.size (da fun _ => 0) rfl rfl 43 _ HR5.out (by rw [da_size]; exact info43) (by simp only [da_size]) (da_one _) ?_))
        exact bodyPost_ret (v := .tuple #[.agg (da fun _ => 0), .int .i64 i]) (results_dr Tryd.results30 _ _ w.heap.size 43 _ _ (by simp [Act.put]) (by simp [Act.put]) (setRow_heap _ _ _ _ _ _ HR5.out)) rfl ⟨by rw [HX.out, HY.out], below_setRow b5 (Nat.le_refl _)⟩
      | cons t ts =>
        have hti := gdT_in HGT.out
        have ht24 : t < 24 := by omega
        have HO := hide (show gdO S l L i = true by unfold gdO; rw [HGT.out]; simp)
        have hpn : pinB q a t = false := by
          have h3 := hti.2.2
          rw [← HQ.out, HAp.out] at h3
          have h4 := (HGG.out.at hti.1).2
          exact free_pin haS (by omega) h3
        have hox := or_xor (d := q) (k := a) (t := t) (hdw a (by omega)).1 (by omega) hpn
        rw [pow_nat t (by omega), ← show (2 : Int) ^ t = ((2 ^ t : Nat) : Int) by push_cast; rfl] at hox
        have HS := hide (show gdD S l L (i + 1) = fun x => if x = a then bits .or .u32 (q a) ((2 : Int) ^ t) else q x by
          rw [gdD_succ S l L i HGT.out, ← HQ.out, HAp.out, hox]
          funext x
          simp only [togD, pow_nat t (show t < 32 by omega)]
          rw [← show (2 : Int) ^ t = ((2 ^ t : Nat) : Int) by push_cast; rfl])
        obtain ⟨g5, hgA⟩ := own_someP own5 (by simp)
        subst hgA
        have c5 := own5.cellAt 0 (by simp)
        have hc5 : w5.cell? ⟨g5, 0, none⟩ = some (.int .i64 t) := c5.trans rfl
        have hlt5 := World.block_lt_of_cell? _ _ hc5
        obtain ⟨m, hm⟩ : ∃ m, m = (t :: ts).length := ⟨_, rfl⟩
        have hm0 : 0 < m := by rw [hm]; simp
        have hmi : ((m : Int) == 0) = false := by rw [beq_eq_false_iff_ne]; omega
        have hmi2 : (0 : Int) < (m : Int) := by omega
        rw [← hm]
        clear hm hpn hox hti c5 own5
        go_upto_region 8 with fail
        have tb : Below w5.heap.size w5 w5.drew := (Below.refl _ _).drew
        have D6 := D5.keep tb
        have R6 := R5.keep tb
        have b6 := step_below tb b5
        have n6 := (tb.cell (p := ⟨bn, on + i * 2, none⟩) hbn5).trans n1'
        have t6 := (tb.cell (p := ⟨g5, 0, none⟩) hlt5).trans hc5
        refine wp_region_still_tail 13 (by kernel_rfl) (by kernel_rfl) ?_
        change wpStill _ _ w5.drew (fun a' => wpList _ _ _ _ a' w5.drew) _ _
        simp only [List.take_succ_cons, List.take_zero, List.drop_succ_cons, List.drop_zero]
        clear D5 R5 tb n1' hc5
        generalize w5.drew = wd at *
        have c1 := D6.cell (show a < 96 by omega)
        have f1 := D6.frozen a
        obtain ⟨x1, x2⟩ := hdw a (by omega)
        have hai : (a : Int) < 96 := by omega
        have KBit : Calls Tryd.prog 48 #[.int .i64 t] wd fun e w' => e = .returned (.int .u32 ((2 : Int) ^ t)) ∧ w' = wd := (l03Bit_any t wd ht24).mono fun e w' ⟨h1, h2⟩ => ⟨h1, h2.symm⟩
        repeat (first | still_call KBit | still_step)
        refine wpStill_nil ?_
        obtain ⟨V, hV⟩ : ∃ V, V = wd.setCell ⟨w.heap.size + 1, a, none⟩ (.int .u32 (bits .or .u32 (q a) ((2 : Int) ^ t))) := ⟨_, rfl⟩
        have DV : Dr V (w.heap.size + 1) 43 (fun x => if x = a then bits .or .u32 (q a) ((2 : Int) ^ t) else q x) := by rw [hV]; exact D6.set a _
        have RV : Dr V w.heap.size 43 (fun _ => 0) := by rw [hV]; exact R6.other (by omega) _
        have bV : Below w.heap.size w V := by rw [hV]; exact b6.setCell (p := ⟨_, _, none⟩) (by dsimp only; omega) _
        go_wp2_with fail
        try rw [← hV]
        go_roundw
        case rel => exact ⟨i + 1, hlt, by go_num, fun j hj => by
          rcases Nat.lt_or_ge j i with h | h
          · exact HALL.out j h
          · rw [show j = i by omega]; exact HO.out, by first | exact RV | (rw [← hV]; exact RV), by first | (rw [HS.out]; exact DV) | (rw [← hV, HS.out]; exact DV), by first | exact bV | (rw [← hV]; exact bV)⟩
        case measure => simp [intOf]; omega
    · have HI := hide (show i = L.length by omega)
      have hin : ¬ (i : Int) < (L.length : Int) := by omega
      have hF2 : gdF S l L = none := gdF_none (by rw [← HI.out]; exact HALL.out)
      have HX := hide (show RI = -1 by rw [HRI.out, gsI, hF2])
      have HY := hide (show RD = q by rw [HRD.out, gsD, hF2, HQ.out, HI.out])
      clear hF2 hiL hlt
      have HDR := hide DR.range
      have HR5 := hide (show wr.heap[w.heap.size]? = some (.cells (da fun _ => 0) 43 (0, 0)) from RR)
      go_wp2_with (first | (with_reducible refine wpList_load_da rfl 43 (.tmp 6) rfl (w.heap.size + 1) 0 rfl q _ HDR.out Tryd.underlying43 rfl (dInfo q) ?_) | (with_reducible refine wpList_store_row rfl 43 (.tmp 4) (.tmp 40) rfl w.heap.size (da q) rfl rfl 43 _ HR5.out (by rw [da_size]; exact info43) (by simp only [da_size]) (da_one _) ?_))
      exact bodyPost_ret (v := .tuple #[.agg (da q), .int .i64 (-1)]) (results_dr Tryd.results30 _ _ w.heap.size 43 _ _ (by simp [Act.put]) (by simp [Act.put]) (setRow_heap _ _ _ _ _ _ HR5.out)) rfl ⟨by rw [HX.out, HY.out], below_setRow bw (Nat.le_refl _)⟩
end Go.Proofs.YtdglhgfhlcdflaaDoor
