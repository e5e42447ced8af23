import Derived.Test.YtdglhgfhlcdflaaDoorGbk
import Derived.Test.YtdglhgfhlcdflaaDoorGbe
import Derived.Test.YtdglhgfhlcdflaaDoorGay
import Derived.Test.YtdglhgfhlcdflaaDoorGbi
namespace Go.Proofs.YtdglhgfhlcdflaaDoor
open Go.RowKit
theorem yieldsIf_buildD0 {ops : Array Oper} {S : World → Prop} {op : Oper} {a : Act} (hw : Region.wanted op (yielded ops a.tmps) = true) (ho : op.op = .build 43 #[]) : YieldsIf Tryd.prog ops S op (.agg (da fun _ => 0)) a :=
  .inl ⟨hw, fun w' _ => by
    unfold execOp
    simp only [ho, Sem.run_bind, run_build w' 43 ((#[] : Array (Nat × Operand)).map fun (i, x) => (i, a.eval x)) za (by simpa using built0), Result.andThen_ok]
    rw [za_eq]
    rfl⟩
/-- what a tune, a frame and a drum ask: the code -/
def tkK (s : Int) (l : List (Int × Int)) (d : Nat → Int) (L : List (Int × Int)) : Int := pgK s l (drB s l.length d) L
set_option maxRecDepth 20000 in
set_option maxHeartbeats 2000000 in
theorem l03Whole_any (f g : Nat) (s : Int) (A : Option Addr) (c : Nat) (l : List (Int × Int)) (C : Option Addr) (ct : Nat) (L : List (Int × Int)) (d : Nat → Int) (w : World) (hF : FP w f s A l.length c) (hD : Dr w g 43 d) (hA : HA w A l) (hn : l.length ≤ 1048576) (hwf : HWF l) (hs : -32768 ≤ s ∧ s ≤ 32767) (hd : DWF d) (hC : NA w C L) (hL : L.length ≤ 1048576) (hLw : WF L) :
    Calls Tryd.prog 38 #[.pointer (some ⟨f, 0, none⟩), .slice C L.length ct, .pointer (some ⟨g, 0, none⟩)] w (SaysI (tkK s l d L) w) := by
  obtain ⟨RK, hRK⟩ : ∃ RK, RK = tkK s l d L := ⟨_, rfl⟩
  rw [← hRK]
  have HRK := hide hRK
  clear hRK
  go_enter Tryd.func38, Tryd.ntmps38
  go_wp2_with fail
  refine (l02Frame_any f s A c l w hF hA hn hwf hs).mono ?_
  rintro e w1 ⟨rfl, hb1⟩
  cases h1 : frB s l
  · have HX := hide (show RK = 1 by rw [HRK.out, tkK, pgK, h1]; rfl)
    clear h1
    go_wp2
    go_ret
    exact ⟨by rw [HX.out]; rfl, hb1⟩
  have hfa := frB_all h1
  go_wp2_with fail
  refine (l01Ok_any C ct L w1 (hC.below hb1) hL hLw).mono ?_
  rintro e w2 ⟨rfl, hb2⟩
  have b2 := step_below hb2 hb1
  cases h2 : okB L
  · have HX := hide (show RK = 1 by rw [HRK.out, tkK, pgK, h1, h2, Bool.and_false]; rfl)
    clear h1 h2 hfa
    go_wp2
    go_ret
    exact ⟨by rw [HX.out]; rfl, b2⟩
  go_wp2_with fail
  refine (l02Drum_any f g s A l.length c d w2 (hF.keep b2) (hD.keep b2) hfa.2.1.2 hfa.1 hd).mono ?_
  rintro e w3 ⟨rfl, hb3⟩
  have b3 := step_below hb3 b2
  cases h3 : drB s l.length d
  · have HX := hide (show RK = 1 by rw [HRK.out, tkK, pgK, h1, h2, h3]; rfl)
    clear h1 h2 h3 hfa
    go_wp2
    go_ret
    exact ⟨by rw [HX.out]; rfl, b3⟩
  have hRK2 : RK = if lenI L ≤ s then 0 else 2 := by rw [HRK.out, tkK, pgK, h1, h2, h3]; rfl
  obtain ⟨le, hle⟩ : ∃ le, le = lenI L := ⟨_, rfl⟩
  have KL : ∀ p : Later w3, Calls Tryd.prog 45 #[.slice C L.length ct] p.w fun e w' => e = .returned (.int .i64 le) ∧ p.w = w' := fun p => by rw [hle]; exact specLength_any C ct L p.w ((hC.below b3).below p.h) hL hLw
  rw [← hle] at hRK2
  have e0 := Later.cell (hF.keep b3).1
  have hws : IntKind.i64.wrap s = s := IntWalk.i64_in _ (by omega)
  obtain ⟨hs1, hs2⟩ := hs
  have HRK2 := hide hRK2
  clear h1 h2 h3 hfa hle hRK2
  obtain ⟨bg, hbg⟩ : ∃ bg, decide (s < le) = bg := ⟨_, rfl⟩
  go_wp2_with fail
  refine wp_region_later (by kernel_rfl) (by kernel_rfl) ?_
  repeat (go_big_quiet_step ((go_at_call 45; with_reducible exact Later.same (KL _))))
  refine wpQuiet_nil ?_
  rintro _ ⟨⟨wq, hq⟩, rfl⟩
  cases bg
  · have HX := hide (show RK = 0 by rw [HRK2.out, if_pos (by have := of_decide_eq_false hbg; omega)])
    go_wp2
    go_ret
    exact ⟨by rw [HX.out]; rfl, step_below hq b3⟩
  · have HX := hide (show RK = 2 by rw [HRK2.out, if_neg (by have := of_decide_eq_true hbg; omega)])
    go_wp2
    go_ret
    exact ⟨by rw [HX.out]; rfl, step_below hq b3⟩
/-- tracks, and whether the tune is pinned -/
def OwnTB (w : World) (b : Bool) (xs : List Nat) (e : Ending) (w' : World) : Prop := ∃ (A : Option Addr) (c : Nat) (ys : List Nat), e = .returned (.tuple #[.slice A ys.length c, .bool b]) ∧ w'.ownsRow w.heap.size 2 1 (.slice A ys.length c) ys.length (tcells ys) ∧ Below w.heap.size w w' ∧ (b = true → ys = xs)
set_option maxRecDepth 20000 in
set_option maxHeartbeats 8000000 in
theorem l03Played_any (f g : Nat) (S : Nat) (A : Option Addr) (c : Nat) (l : List (Int × Int)) (C : Option Addr) (ct : Nat) (L : List (Int × Int)) (d : Nat → Int) (w : World) (hF : FP w f S A l.length c) (hD : Dr w g 43 d) (hA : HA w A l) (hS : 2 ≤ S ∧ S ≤ 96) (hl : l.length ≤ 24) (hwf : HWF l) (hg : HG S l l.length) (hdr : drB (S : Int) l.length d = true) (hd : DWF d) (hC : NA w C L) (hok : okB L = true) (hlen : lenI L ≤ S) :
    Calls Tryd.prog 39 #[.pointer (some ⟨f, 0, none⟩), .slice C L.length ct, .pointer (some ⟨g, 0, none⟩)] w (OwnTB w (tkB S l L d) (tkN l L d L.length)) := by
  obtain ⟨i0, hi, hz0, hz1, hz2⟩ := info_parts info2
  obtain ⟨RB, hRB⟩ : ∃ RB, RB = tkB S l L d := ⟨_, rfl⟩
  rw [← hRB]
  have HRB := hide hRB
  clear hRB
  have HOK := hide hok
  have hn120 := ok_len hok
  have HAT := hide (show ∀ j, j < L.length → (nAt L j).toNat < S ∧ 0 ≤ nAt L j from fun j hj => by
    have h1 := bk_in hok j hj
    have h2 := ok_in hok j hj
    omega)
  have HPI := hide (show ∀ j, j < L.length → 0 ≤ nPi L j ∧ nPi L j ≤ 47 from fun j hj => (ok_in hok j hj).2)
  have HDR := hide hdr
  have HGG := hide hg
  have KC := l02Clashes_any f g S A c l d w hF hD hA hS hl hg hdr hd
  clear hok hlen hdr hg
  go_enter Tryd.func39, Tryd.ntmps39
  go_wp2_with fail
  refine KC.mono ?_
  rintro e w2 ⟨A2, c2, rfl, own2, b2⟩
  clear own2 KC
  by_cases hcl : (clsF S d l (pinsL d)).length = 0
  case neg =>
    have HX := hide (show RB = false by rw [HRB.out, tkB, decide_eq_false hcl]; rfl)
    have hlen4 : (clsF S d l (pinsL d)).length ≤ 4000 := by
      have h1 := List.length_filter_le (fun p : Nat × Nat => nextB S d p.1 p.2 (hRe l p.2).toNat) (pinsL d)
      have h2 := pinsT_len d 96
      unfold clsF
      unfold pinsL at h1 ⊢
      omega
    obtain ⟨N, hN⟩ : ∃ N, (clsF S d l (pinsL d)).length = N := ⟨_, rfl⟩
    rw [hN] at hcl hlen4 ⊢
    have hN0 : (0 : Int) < (N : Int) := by omega
    clear hN
    go_wp2
    go_ret2
    exact ⟨some ⟨w2.heap.size, 0, none⟩, 0, [], by rw [HX.out]; rfl, own_empty b2.size, b2.alloc b2.size _, fun h => by rw [HX.out] at h; cases h⟩
  have HB1 := hide (show RB = ((List.range L.length).all (trO l d L) && decide (cntI d = (L.length : Int))) by rw [HRB.out, tkB, decide_eq_true hcl, Bool.true_and])
  rw [hcl]
  clear hcl
  have HD2 := hide (hD.keep b2).range
  obtain ⟨X4, hX4⟩ : ∃ X, X = w2.alloc (.cells (da d) 43) := ⟨_, rfl⟩
  have b24 : Below w2.heap.size w2 X4 := by rw [hX4]; exact (Below.refl _ _).alloc (Nat.le_refl _) _
  have R4 : Dr X4 w2.heap.size 43 d := by rw [hX4]; exact heap_new' _ _ _ rfl
  have hz := zeroDrum
  go_upto_region 5 with (first | (with_reducible refine wpList_load_da rfl 43 (.tmp 22) rfl g 0 rfl d _ HD2.out Tryd.underlying43 rfl (dInfo d) ?_) | (with_reducible refine wpList_store_newP rfl 43 (.tmp 9) (.tmp 23) rfl (da d) rfl rfl 43 _ (by rw [da_size]; exact info43) (by rw [za_eq, da_size, da_size]) (da_one _) ?_))
  rw [← hX4]
  have HXS := hide (show X4.heap.size = w2.heap.size + 1 by rw [hX4, World.size_alloc])
  clear hX4 hz HD2
  have hX4l := R4.lt
  have hE5 : (X4.alloc (.cells #[] 2)).ownsRow X4.heap.size 2 1 (.slice (some ⟨X4.heap.size, 0, none⟩) 0 0) 0 [] := own_empty (Nat.le_refl _)
  have b5 := b24.alloc b24.size (.cells #[] 2)
  have R5 : Dr (X4.alloc (.cells #[] 2)) w2.heap.size 43 d := heap_old' R4
  go_wp2_with fail
  go_loopw [10, 11, 12, 13] (fun v iv _ _ wr => ∃ i : Nat, i ≤ L.length ∧ iv = .int .i64 i ∧ (∀ j, j < i → trO l d L j = true) ∧ (∃ r, TkR l L d i r ∧ Dr wr w2.heap.size 43 r) ∧ wr.ownsRow X4.heap.size 2 1 v i (tcells (tkN l L d i)) ∧ Below w2.heap.size w2 wr)
    (fun _ i _ _ _ => L.length - (intOf i).toNat)
  case atStart => exact ⟨0, Nat.zero_le _, rfl, fun j hj => absurd hj (Nat.not_lt_zero _), ⟨d, tkR_zero l L hd, R5⟩, hE5, b5⟩
  case round =>
    clear hE5 b5 R5 R4 b24
    obtain ⟨i, hiL, rfl, hall, ⟨r, hTk, DR⟩, hown, hb⟩ := hrel
    obtain ⟨Av, cv, rfl⟩ := own_shape hown
    have HALL := hide hall
    have HTK := hide hTk
    clear hall hTk
    have bw := step_below hb b2
    have hne1 := hb.size
    by_cases hlt : i < L.length
    · have hii : (i : Int) < (L.length : Int) := by omega
      obtain ⟨bn, on, rfl, hbn, n1, n2⟩ := (hC.below bw) i hlt
      obtain ⟨a, ha⟩ : ∃ a : Nat, nAt L i = (a : Int) := ⟨(nAt L i).toNat, by have := HAT.out i hlt; omega⟩
      obtain ⟨p, hp⟩ : ∃ p : Int, nPi L i = p := ⟨_, rfl⟩
      have hp47 := HPI.out i hlt
      rw [hp] at n2 hp47
      rw [ha] at n1
      have haS : a < S := by have := (HAT.out i hlt).1; omega
      have hat : (nAt L i).toNat = a := by omega
      have HAp := hide (And.intro ha (And.intro hat hp))
      clear ha hat hp
      have HSL := hide (tkR_list (r := r) HOK.out HALL.out hlt hl (by rw [HAp.out.2.1]; omega) HTK.out)
      obtain ⟨hp1, hp2⟩ := hp47
      go_wp2_with fail
      go_loopw [12, 13] (fun tv kv wq => ∃ k : Nat, k ≤ l.length ∧ kv = .int .i64 k ∧ (((List.range k).filter (trB l r a p) = [] ∧ tv = .int .i64 (-1)) ∨ ∃ t : Nat, t < l.length ∧ (List.range k).filter (trB l r a p) = [t] ∧ tv = .int .i64 t) ∧ Below wr.heap.size wr wq)
        (fun _ k _ => l.length - (intOf k).toNat)
      case atStart => exact ⟨0, Nat.zero_le _, rfl, Or.inl ⟨rfl, rfl⟩, Below.refl _ _⟩
      case round =>
        obtain ⟨k, hk, rfl, hfil, hbq⟩ := hrel
        have F1 := (hF.keep (step_below hbq bw))
        have D1 := DR.keep hbq
        by_cases hkl : k < l.length
        · have hki : (k : Int) < (l.length : Int) := by omega
          have hkw : IntKind.i64.wrap ((k : Int) + 1) = (k : Int) + 1 := IntWalk.i64_in _ (by omega)
          obtain ⟨bh, oh, rfl, hbh, h1, h2⟩ := (hA.below (step_below hbq bw)) k hkl
          have q0 := F1.2
          have q1 := Later.cell q0
          have q2 := Later.cell h1
          have q3 := Later.cell ((hbq.cell (p := ⟨bn, on + i * 2, none⟩) hbn).trans n1)
          have q4 := Later.cell ((hbq.cell (p := ⟨bn, on + i * 2 + 1, none⟩) hbn).trans n2)
          have haw : IntKind.i64.wrap (a : Int) = (a : Int) := IntWalk.i64_in _ (by omega)
          obtain ⟨x, hx⟩ : ∃ x, x = hPi l k := ⟨_, rfl⟩
          rw [← hx] at q2
          have hxb := (HGG.out.at hkl).1
          rw [← hx] at hxb
          obtain ⟨hx1, hx2⟩ := hxb
          clear h1 h2
          have KP : ∀ v, pinB r a k = v → ∀ p : Later wr, Calls Tryd.prog 59 #[.pointer (some ⟨w2.heap.size, 0, none⟩), .int .i64 (a : Int), .int .i64 k] p.w fun e w' => e = .returned (.bool v) ∧ p.w = w' := fun v hv p => by
            rw [← hv]
            exact l02Pin_any _ a k r _ (D1.keep p.h) (by omega) (by omega) HTK.out.1
          by_cases hxp : x = p
          · have hxe : (x == p) = true := by simpa using hxp
            cases hpb : pinB r a k
            · have KP' := KP false hpb
              have HF := hide (show (List.range (k + 1)).filter (trB l r a p) = (List.range k).filter (trB l r a p) by rw [List.range_succ, List.filter_append]; simp [trB, hpb])
              clear hpb KP hx
              go_wp2_with fail
              refine wp_region_later (by kernel_rfl) (by kernel_rfl) ?_
              repeat (go_big_quiet_step ((go_at_call 59; with_reducible exact Later.same (KP' _))))
              refine wpQuiet_nil ?_
              rintro _ ⟨⟨wz, hqz⟩, rfl⟩
              go_wp2
              go_roundw
              case rel => exact ⟨k + 1, hkl, by go_num, by rw [HF.out]; exact hfil, step_below hqz hbq⟩
              case measure => simp [intOf]; omega
            · have KP' := KP true hpb
              have HF := hide (show (List.range (k + 1)).filter (trB l r a p) = (List.range k).filter (trB l r a p) ++ [k] by rw [List.range_succ, List.filter_append]; simp [trB, hpb, ← hx, hxp])
              clear hpb KP hx
              rcases hfil with ⟨hf, rfl⟩ | ⟨t, htl, hf, rfl⟩
              · rw [hf] at HF
                go_wp2_with fail
                refine wp_region_later (by kernel_rfl) (by kernel_rfl) ?_
                repeat (go_big_quiet_step ((go_at_call 59; with_reducible exact Later.same (KP' _))))
                refine wpQuiet_nil ?_
                rintro _ ⟨⟨wz, hqz⟩, rfl⟩
                go_wp2
                go_roundw
                case rel => exact ⟨k + 1, hkl, by go_num, Or.inr ⟨k, hkl, by rw [HF.out]; rfl, rfl⟩, step_below hqz hbq⟩
                case measure => simp [intOf]; omega
              · rw [hf] at HF
                have HX := hide (show RB = false by
                  have h3 : ((List.range l.length).filter (trB l r a p)).length ≥ 2 := by
                    have h4 : ((List.range (k + 1)).filter (trB l r a p)).Sublist ((List.range l.length).filter (trB l r a p)) := List.Sublist.filter _ (List.range_sublist.2 (by omega))
                    have h5 := h4.length_le
                    rw [HF.out] at h5
                    simpa using h5
                  have h6 : trO l d L i = false := by
                    unfold trO
                    rw [← HSL.out, HAp.out.2.1, HAp.out.2.2]
                    unfold trL
                    simp only [decide_eq_false_iff_not]
                    omega
                  rw [HB1.out, show (List.range L.length).all (trO l d L) = false by rw [List.all_eq_false]; exact ⟨i, List.mem_range.2 hlt, by simp [h6]⟩]
                  rfl)
                have ht0 : (0 : Int) ≤ (t : Int) := by omega
                go_wp2_with fail
                refine wp_region_later (by kernel_rfl) (by kernel_rfl) ?_
                repeat (go_big_quiet_step ((go_at_call 59; with_reducible exact Later.same (KP' _))))
                refine wpQuiet_nil ?_
                rintro wz ⟨⟨_, hqz⟩, rfl⟩
                have bz := step_below (step_below hqz hbq) bw
                go_wp2
                go_ret2
                exact ⟨some ⟨wz.heap.size, 0, none⟩, 0, [], by rw [HX.out]; rfl, own_empty bz.size, bz.alloc bz.size _, fun h => by rw [HX.out] at h; cases h⟩
          · have hxe : (x == p) = false := by simpa using hxp
            have HF := hide (show (List.range (k + 1)).filter (trB l r a p) = (List.range k).filter (trB l r a p) by rw [List.range_succ, List.filter_append]; simp [trB, ← hx, hxp])
            clear KP hx
            go_wp2_with fail
            refine wp_region_later (by kernel_rfl) (by kernel_rfl) ?_
            repeat (go_big_quiet_step (fail))
            refine wpQuiet_nil ?_
            rintro _ ⟨⟨wz, hqz⟩, rfl⟩
            go_wp2
            go_roundw
            case rel => exact ⟨k + 1, hkl, by go_num, by rw [HF.out]; exact hfil, step_below hqz hbq⟩
            case measure => simp [intOf]; omega
        · have HK := hide (show k = l.length by omega)
          have hkn : ¬ (k : Int) < (l.length : Int) := by omega
          have hfl : (List.range l.length).filter (trB l r a p) = (List.range k).filter (trB l r a p) := by rw [HK.out]
          have hsl2 : trL l d (nAt L i).toNat (nPi L i) = (List.range k).filter (trB l r a p) := by
            rw [← HSL.out, HAp.out.2.1, HAp.out.2.2, ← hfl]
            rfl
          have q0 := F1.2
          rcases hfil with ⟨hf, rfl⟩ | ⟨t, htl, hf, rfl⟩
          · have HX := hide (show RB = false by
              have h6 : trO l d L i = false := by
                unfold trO
                rw [hsl2, hf]
                rfl
              rw [HB1.out, show (List.range L.length).all (trO l d L) = false by rw [List.all_eq_false]; exact ⟨i, List.mem_range.2 hlt, by simp [h6]⟩]
              rfl)
            have bz := step_below hbq bw
            clear hf hfl hsl2 hk hkl
            go_wp2
            go_ret2
            exact ⟨some ⟨wr.heap.size, 0, none⟩, 0, [], by rw [HX.out]; rfl, own_empty bz.size, bz.alloc bz.size _, fun h => by rw [HX.out] at h; cases h⟩
          · have hO : trO l d L i = true := by
              unfold trO
              rw [hsl2, hf]
              rfl
            have hT : trT l d L i = t := by
              unfold trT
              rw [hsl2, hf]
              rfl
            have HOO := hide hO
            have HTT := hide hT
            have HN := hide (show tkN l L d (i + 1) = tkN l L d i ++ [t] by rw [tkN_succ, hT])
            have ht0 : (0 : Int) ≤ (t : Int) := by omega
            have htn : ¬ (t : Int) < 0 := by omega
            clear hf hfl hsl2 hO hT hk hkl
            have tb := (Below.refl wr.heap.size wr).drew
            have bD := step_below tb hbq
            have DD := D1.keep tb
            have q3 := (bD.cell (p := ⟨bn, on + i * 2, none⟩) hbn).trans n1
            go_upto_region 19 with fail
            refine wp_region_still_tail 11 (by kernel_rfl) (by kernel_rfl) ?_
            change wpStill _ _ wr.drew (fun a' => wpList _ _ _ _ a' wr.drew) _ _
            simp only [List.take_succ_cons, List.take_zero, List.drop_succ_cons, List.drop_zero]
            have ownD := own_keep hown bD
            have bDD := step_below bD hb
            clear D1 tb hbq q0
            generalize wr.drew = wd at *
            have c1 := DD.cell (show a < 96 by omega)
            have f1 := DD.frozen a
            obtain ⟨x1, x2⟩ := HTK.out.1 a (by omega)
            have hai : (a : Int) < 96 := by omega
            have KBit : Calls Tryd.prog 48 #[.int .i64 t] wd fun e w' => e = .returned (.int .u32 ((2 : Int) ^ t)) ∧ w' = wd := (l03Bit_any t wd (by omega)).mono fun e w' ⟨h1, h2⟩ => ⟨h1, h2.symm⟩
            repeat (first | still_call KBit | still_step)
            refine wpStill_nil ?_
            obtain ⟨V, hV⟩ : ∃ V, V = wd.setCell ⟨w2.heap.size, a, none⟩ (.int .u32 (bits .andNot .u32 (r a) ((2 : Int) ^ t))) := ⟨_, rfl⟩
            have hTk2 := tkR_step HOO.out hl (by rw [HAp.out.2.1]; omega) HTK.out
            rw [HAp.out.2.1, HTT.out, pow_nat t (by omega), ← show (2 : Int) ^ t = ((2 ^ t : Nat) : Int) by push_cast; rfl] at hTk2
            have DV : Dr V w2.heap.size 43 (fun x => if x = a then bits .andNot .u32 (r a) ((2 : Int) ^ t) else r x) := by rw [hV]; exact DD.set a _
            have ownV : V.ownsRow X4.heap.size 2 1 (.slice Av i cv) i (tcells (tkN l L d i)) := by rw [hV]; exact ownsRow_setCell_below ownD (a := ⟨w2.heap.size, a, none⟩) hX4l _
            have bV : Below w2.heap.size w2 V := by rw [hV]; exact bDD.setCell (p := ⟨_, _, none⟩) (Nat.le_refl _) _
            go_upto_region 20 with fail
            rw [← hV]
            clear hV DD c1 f1 bDD ownD x1 x2 q3
            have HTK2 := hide hTk2
            clear hTk2
            have hnew : ∀ j u, ([.int .i64 (t : Int)] : List Value)[j]? = some u → (V.alloc (.cells #[.int .i64 (t : Int)] 2)).cell? ((⟨V.heap.size, 0, none⟩ : Addr).add j) = some u := cell_one_new V (.int .i64 (t : Int)) 2
            have own7 := ownV.alloc (.cells #[.int .i64 (t : Int)] 2)
            have D7 : Bk (V.alloc (.cells #[.int .i64 (t : Int)] 2)) w2.heap.size 43 (da (fun x => if x = a then bits .andNot .u32 (r a) ((2 : Int) ^ t) else r x)) := heap_old' DV
            have hsz := bV.size
            have hXs : X4.heap.size ≤ V.heap.size := by
              have := HXS.out
              have := DR.lt
              have := bD.size
              have := D7.lt
              have := DV.lt
              omega
            go_wp2_with (at_builtin; refine wpList_append_own _ rfl _ _ 51 rfl X4.heap.size 2 i0 (.int .i64 0) 1 8 Tryd.underlying51 hi hz0 hz1 hz2 rfl (by decide) _ _ _ rfl own7 ⟨V.heap.size, 0, none⟩ 1 1 [.int .i64 (t : Int)] rfl rfl hnew (fun x hx => by simp at hx; subst hx; rfl) (by unfold maxLen; omega) (by omega) (by simp; omega) ?_; intro v' w8 hown8 hgrow8 hnil8)
            have hb8 := (bV.alloc bV.size (.cells #[.int .i64 (t : Int)] 2)).grown hgrow8 (by simp; omega) (fun j hj => by have := (ownV.lt j hj).1; omega)
            have D8 : Dr w8 w2.heap.size 43 (fun x => if x = a then bits .andNot .u32 (r a) ((2 : Int) ^ t) else r x) := Bk.grown D7 hgrow8 (fun e => by have := (own7.lt _ e).1; omega)
            go_roundw
            case rel => exact ⟨i + 1, hlt, by go_num, fun j hj => by
              rcases Nat.lt_or_ge j i with h | h
              · exact HALL.out j h
              · rw [show j = i by omega]; exact HOO.out, ⟨_, HTK2.out, D8⟩, by rw [HN.out, tcells, List.map_append]; exact hown8, hb8⟩
            case measure => simp [intOf]; omega
    · have HI := hide (show i = L.length by omega)
      have hin : ¬ (i : Int) < (L.length : Int) := by omega
      have tb := (Below.refl wr.heap.size wr).drew
      have DD := DR.keep tb
      have ownD := own_keep hown tb
      have bD := step_below tb bw
      have hEQ : ∀ W, (Op.equalIn 10000 43 (.agg (dv r).toArray) (.agg (da fun _ => 0))).run Tryd.prog W = .ok (sameD r fun _ => 0) W := fun W => eqDr r (fun _ => 0) HTK.out.1 zero_wf W
      have hall2 : ∀ j, j < L.length → trO l d L j = true := by rw [← HI.out]; exact HALL.out
      have hTk2 : TkR l L d L.length r := by rw [← HI.out]; exact HTK.out
      have hsm := tkR_end HOK.out hd hall2 hl (fun j hj => by have := (HAT.out j hj).1; omega) hTk2
      have HX := hide (show RB = sameD r (fun _ => 0) by
        rw [HB1.out, hsm, show (List.range L.length).all (trO l d L) = true by simp only [List.all_eq_true, List.mem_range]; exact hall2, Bool.true_and])
      obtain ⟨bs, hbs⟩ : ∃ bs, bs = sameD r (fun _ => 0) := ⟨_, rfl⟩
      rw [← hbs] at HX hEQ
      clear hall2 hTk2 hsm hbs hiL hlt
      go_upto_region 21 with fail
      refine wp_region_held_drew (S := fun w' => w'.rangeAt w2.heap.size 0 (dv r)) (by kernel_rfl) DD.range fun hS1 => ?_
      clear tb DD DR hown
      generalize wr.drew = wd at *
      refine wpAnyH_take (i := 0) (v := .slice Av i cv) rfl (by kernel_rfl) (by kernel_rfl) (by kernel_rfl) (fun _ _ _ h => h) (Or.inl ⟨by rfl, fun w' _ => by go_simp⟩) hS1 ?_
      change wpAnyH _ _ _ _ _ _ _ (Act.put _ (some 86) _) _
      simp only [Act.put, List.setIfInBounds_toArray, List.set_cons_zero, List.set_cons_succ]
      refine wpAnyH_take (i := 1) rfl (by kernel_rfl) (by kernel_rfl) (by kernel_rfl) (fun _ _ _ h => h) (yieldsIf_load_mid (by rfl) _ _ rfl w2.heap.size 0 rfl (dv r) _ (fun _ h => h) Tryd.underlying43 rfl (dInfo r)) hS1 ?_
      simp only [Act.put, List.setIfInBounds_toArray, List.set_cons_zero, List.set_cons_succ]
      refine wpAnyH_take (i := 2) rfl (by kernel_rfl) (by kernel_rfl) (by kernel_rfl) (fun _ _ _ h => h) (yieldsIf_buildD0 (by rfl) rfl) hS1 ?_
      simp only [Act.put, List.setIfInBounds_toArray, List.set_cons_zero, List.set_cons_succ]
      refine wpAnyH_take (i := 3) (v := .bool bs) rfl (by kernel_rfl) (by kernel_rfl) (by kernel_rfl) (fun _ _ _ h => h) (Or.inl ⟨by rfl, fun w' _ => by go_simp⟩) hS1 ?_
      change wpAnyH _ _ _ _ _ _ _ (Act.put _ (some 89) _) _
      simp only [Act.put, List.setIfInBounds_toArray, List.set_cons_zero, List.set_cons_succ]
      refine wpAnyH_take (i := 4) (v := .slice Av i cv) rfl (by kernel_rfl) (by kernel_rfl) (by kernel_rfl) (fun _ _ _ h => h) (Or.inl ⟨by rfl, fun w' _ => by go_simp⟩) hS1 ?_
      change wpAnyH _ _ _ _ _ _ _ (Act.put _ (some 6) _) _
      simp only [Act.put, List.setIfInBounds_toArray, List.set_cons_zero, List.set_cons_succ]
      refine wpAnyH_take (i := 5) (v := .bool bs) rfl (by kernel_rfl) (by kernel_rfl) (by kernel_rfl) (fun _ _ _ h => h) (Or.inl ⟨by rfl, fun w' _ => by go_simp⟩) hS1 ?_
      change wpAnyH _ _ _ _ _ _ _ (Act.put _ (some 7) _) _
      simp only [Act.put, List.setIfInBounds_toArray, List.set_cons_zero, List.set_cons_succ]
      refine wpAnyH_done (by kernel_rfl) ?_ _
      clear hS1
      go_wp2
      go_ret2
      exact ⟨Av, cv, tkN l L d i, by rw [HX.out, tkN_len]; rfl, by rw [tkN_len]; exact own_base ownD (by have := b2.size; omega), bD, fun _ => by rw [HI.out]⟩
end Go.Proofs.YtdglhgfhlcdflaaDoor
