import Derived.Test.YtehmkablandefaaGreatDoorGba
import Derived.Test.YtehmkablandefaaGreatDoorGbd
namespace Go.Proofs.YtehmkablandefaaGreatDoor
open Go.RowKit
theorem scN_len (l : List (Int × Int)) (d : Nat → Int) (F T : Nat) : (scN l d F T).length ≤ T * l.length := by
  rw [scN, noL_len]
  exact gK_len _ _ _
theorem scN_wf {S : Nat} {l : List (Int × Int)} {d : Nat → Int} {F T : Nat} (hg : HG (S : Int) l l.length) (hdr : drB (S : Int) l.length d = true) (hd : DWF d) (hS : S ≤ 96) (hl : l.length ≤ 24) (h : F + T ≤ S) : WF (scN l d F T) := by
  rw [← sc_main hdr hd hS hl h]
  intro j hj
  have h1 := note_mem _ j hj
  obtain ⟨y, hy, e⟩ := List.mem_map.1 h1
  have h2 := scT_mem hg hdr hd (by omega) hy
  have e1 := congrArg Prod.fst e
  have e2 := congrArg Prod.snd e
  dsimp only [ctM] at e1 e2
  omega
set_option maxRecDepth 20000 in
set_option maxHeartbeats 8000000 in
theorem l04Section_any (f g : Nat) (S : Nat) (A : Option Addr) (c : Nat) (l : List (Int × Int)) (d : Nat → Int) (F T : Nat) (w : World) (hF : FP w f S A l.length c) (hD : Dr w g 43 d) (hA : HA w A l) (hS : 2 ≤ S ∧ S ≤ 96) (hl : l.length ≤ 24) (hwf : HWF l) (hg : HG S l l.length) (hdr : drB (S : Int) l.length d = true) (hd : DWF d) (hFT : F + T ≤ S) :
    Calls Tryz.prog 29 #[.pointer (some ⟨f, 0, none⟩), .pointer (some ⟨g, 0, none⟩), .agg #[.int .i16 F, .int .i16 T]] w (OwnT w (sortU (scN l d F T))) := by
  obtain ⟨i0, hi, hz0, hz1, hz2⟩ := info_parts info83
  have HWT := hide (scN_wf hg hdr hd hS.2 hl hFT)
  have HS := hide hS
  have HFT := hide hFT
  obtain ⟨X, hX⟩ : ∃ X, X = w.alloc (.cells #[.int .i16 F, .int .i16 T] 68) := ⟨_, rfl⟩
  have b0 : Below w.heap.size w X := by rw [hX]; exact (Below.refl _ _).alloc (Nat.le_refl _) _
  have B5 : Bk X w.heap.size 68 #[.int .i16 F, .int .i16 T] := by rw [hX]; exact Bk.new _ _ _ rfl
  have hal : Below X.heap.size X (X.alloc (.cells #[] 83)) := (Below.refl _ _).alloc (Nat.le_refl _) _
  have hE : (X.alloc (.cells #[] 83)).ownsRow X.heap.size 83 2 (.slice (some ⟨X.heap.size, 0, none⟩) 0 0) 0 [] := own_emptyT _ _ (Nat.le_refl _)
  replace hF := hF.keep b0
  replace hD := hD.keep b0
  replace hA := hA.below b0
  clear hg hdr hFT
  go_enter Tryz.func29, Tryz.ntmps29
  go_upto_region 1 with fail
  rw [← hX]
  clear hX
  go_wp2_with fail
  go_loopw [7, 8] (fun v i wr => ∃ (k : Nat) (A1 : Option Addr) (q1 : Nat), k ≤ T ∧ v = .slice A1 (gK (fun k t => pinB d (F + k) t) l.length k).length q1 ∧ i = .int .i64 k ∧ wr.ownsRow X.heap.size 83 2 (.slice A1 (gK (fun k t => pinB d (F + k) t) l.length k).length q1) (gK (fun k t => pinB d (F + k) t) l.length k).length (cellsOf (noL l (gK (fun k t => pinB d (F + k) t) l.length k))) ∧ Below X.heap.size X wr)
    (fun _ i _ => T - (intOf i).toNat)
  case atStart => exact ⟨0, some ⟨X.heap.size, 0, none⟩, 0, Nat.zero_le _, rfl, rfl, hE, hal⟩
  case round =>
    clear hE hal
    obtain ⟨k, A1, q1, hk, rfl, rfl, hown, hb⟩ := hrel
    have F3 := B5.keep hb
    have e1 := F3.cell (i := 1) rfl
    have hwS : IntKind.i64.wrap (T : Int) = (T : Int) := IntWalk.i64_in _ (by have := HFT.out; omega)
    by_cases hlt : k < T
    · have hk1 : (k : Int) < (T : Int) := by omega
      have hk2 : decide ((k : Int) < (T : Int)) = true := decide_eq_true hk1
      rw [← gI_zero] at hown ⊢
      go_wp2_with fail
      go_loopw [7, 9] (fun v i wq => ∃ (t : Nat) (A1 : Option Addr) (q1 : Nat), t ≤ l.length ∧ v = .slice A1 (gI (fun k t => pinB d (F + k) t) l.length k t).length q1 ∧ i = .int .i64 t ∧ wq.ownsRow X.heap.size 83 2 (.slice A1 (gI (fun k t => pinB d (F + k) t) l.length k t).length q1) (gI (fun k t => pinB d (F + k) t) l.length k t).length (cellsOf (noL l (gI (fun k t => pinB d (F + k) t) l.length k t))) ∧ Below X.heap.size X wq)
        (fun _ i _ => l.length - (intOf i).toNat)
      case atStart => exact ⟨0, A1, q1, Nat.zero_le _, rfl, rfl, hown, hb⟩
      case round =>
        clear hown hb e1 F3
        obtain ⟨t, A1, q1, ht, rfl, rfl, hown, hb⟩ := hrel
        have hbs := hb.size
        have D4 := hD.keep hb
        have F4 := hF.keep hb
        have e1 := F4.2
        have e0 := (B5.keep hb).cell (i := 0) rfl
        have hwF : IntKind.i64.wrap (F : Int) = (F : Int) := IntWalk.i64_in _ (by have := HFT.out; have := HS.out; omega)
        have hwa : IntKind.i64.wrap ((F : Int) + (k : Int)) = (F : Int) + (k : Int) := IntWalk.i64_in _ (by have := HFT.out; have := HS.out; omega)
        by_cases hlt2 : t < l.length
        · have hti : (t : Int) < (l.length : Int) := by omega
          have KP : ∀ v, pinB d (F + k) t = v → ∀ W, W = wr → Calls Tryz.prog 56 #[.pointer (some ⟨g, 0, none⟩), .int .i64 ((F : Int) + (k : Int)), .int .i64 t] W fun e w' => e = .returned (.bool v) ∧ W = w' := fun v hv W hW => by
            subst hW
            rw [← hv]
            rw [← Int.natCast_add]
            exact l02Pin_any _ (F + k) t d _ D4 (by have := HS.out; have := HFT.out; omega) (by omega) hd
          cases hp : pinB d (F + k) t
          · have KP' := KP false hp _ rfl
            have HGI := hide (gI_no (n := l.length) (P := fun k t => pinB d (F + k) t) hp)
            clear hp KP
            go_wp2_with (go_at_call 56; with_reducible refine KP'.mono ?_; rintro e w' ⟨rfl, rfl⟩)
            go_roundw
            case rel => exact ⟨t + 1, A1, q1, hlt2, by rw [HGI.out], by go_num, by rw [HGI.out]; exact hown, hb⟩
            case measure => simp [intOf]; omega
          · have KP' := KP true hp _ rfl
            have HGI := hide (gI_yes (n := l.length) (P := fun k t => pinB d (F + k) t) hp)
            have hml := gI_len (fun k t => pinB d (F + k) t) l.length k t
            have hml2 : (gI (fun k t => pinB d (F + k) t) l.length k t).length ≤ 4000 := by
              have := HS.out
              have := HFT.out
              have h1 : k * l.length ≤ 96 * 24 := Nat.mul_le_mul (by omega) hl
              omega
            obtain ⟨m, hm⟩ : ∃ m, m = gI (fun k t => pinB d (F + k) t) l.length k t := ⟨_, rfl⟩
            rw [← hm] at hown HGI hml2 ⊢
            have hwk : IntKind.i16.wrap (k : Int) = (k : Int) := IntWalk.i16_in _ (by have := HS.out; have := HFT.out; omega)
            obtain ⟨b, o, hAe, hbb, c1, c2⟩ := (hA.below hb) t hlt2
            rw [hAe] at e1
            obtain ⟨p, hpe⟩ : ∃ p, p = hPi l t := ⟨_, rfl⟩
            rw [← hpe] at c1
            have HSN := hide (show noL l (m ++ [(k, t)]) = noL l m ++ [((k : Int), p)] by rw [noL_snoc, hpe])
            have own4 := hown.alloc (.cells #[.int .i16 (k : Int), .int .i8 p] 83)
            have hbA := hb.alloc hbs (.cells #[.int .i16 (k : Int), .int .i8 p] 83)
            have hnew := cell_two_newN wr (.int .i16 (k : Int)) (.int .i8 p) 83
            have hol := fun j hj => (hown.lt j hj).1
            clear hp KP hown hm hml D4 hpe hAe c2 hbb
            go_wp2_with (first | (go_at_call 56; with_reducible refine KP'.mono ?_; rintro e w' ⟨rfl, rfl⟩) | (at_builtin; refine wpList_append_own _ rfl _ _ 35 rfl X.heap.size 83 i0 (.agg #[.int .i16 0, .int .i8 0]) 2 4 Tryz.underlying35 hi hz0 hz1 hz2 rfl (by decide) _ _ _ rfl own4 ⟨wr.heap.size, 0, none⟩ 1 1 [.int .i16 (k : Int), .int .i8 p] rfl rfl hnew (fun x hx => by simp at hx; rcases hx with rfl | rfl <;> rfl) (by unfold maxLen; omega) (by omega) (by simp; omega) ?_; intro v6 w6 hown6 hgr6 hnil6; obtain ⟨A6, c6, rfl⟩ := own_shapeN hown6; have hb6 := hbA.grown hgr6 hbA.size hol; clear hgr6 hnil6))
            go_roundw
            case rel => exact ⟨t + 1, A6, c6, hlt2, by rw [HGI.out, List.length_append]; rfl, by go_num, by rw [HGI.out, List.length_append, HSN.out, cellsOf_append]; exact hown6, hb6⟩
            case measure => simp [intOf]; omega
        · have HT2 := hide (show t = l.length by omega)
          have hni : ¬ (t : Int) < (l.length : Int) := by omega
          have HGF := hide (gI_full (fun k t => pinB d (F + k) t) l.length k)
          clear ht hlt2
          have hf1 := HFT.out
          have hf2 := HS.out
          go_wp2
          go_roundw
          case rel => exact ⟨k + 1, A1, q1, hlt, by rw [← HGF.out, ← HT2.out], by go_num, by rw [← HGF.out, ← HT2.out]; rw [HT2.out] at hown ⊢; exact hown, hb⟩
          case measure => simp [intOf]; omega
    · have HK := hide (show k = T by omega)
      have hni : ¬ (k : Int) < (T : Int) := by omega
      have hni2 : decide ((k : Int) < (T : Int)) = false := by simpa using hni
      have hgl : gK (fun k t => pinB d (F + k) t) l.length k = gK (fun k t => pinB d (F + k) t) l.length T := by rw [HK.out]
      rw [hgl] at hown ⊢
      have hll : (gK (fun k t => pinB d (F + k) t) l.length T).length = (scN l d F T).length := (noL_len l _).symm
      rw [hll] at hown ⊢
      have KS := hide (l01Sorted_any A1 q1 (scN l d F T) wr (NA.of_own hown) (by have := scN_len l d F T; have := HS.out; have := HFT.out; have h1 : T * l.length ≤ 96 * 24 := Nat.mul_le_mul (by omega) hl; omega) HWT.out)
      obtain ⟨N, hN⟩ : ∃ N, N = scN l d F T := ⟨_, rfl⟩
      obtain ⟨M, hM⟩ : ∃ M, M = sortU (scN l d F T) := ⟨_, rfl⟩
      rw [← hM] at KS ⊢
      rw [← hN] at KS ⊢
      have HM := hide hM
      clear hgl hll hN hM hown hk hlt
      go_wp2_with fail
      refine KS.out.mono ?_
      rintro e w5 ⟨C5, q5, rfl, own5, hb5⟩
      go_wp2
      go_ret
      obtain rfl := HM.out
      exact ⟨C5, q5, rfl, own_base own5 (by have := hb.size; have := b0.size; omega), step_below hb5 (step_below hb b0)⟩
set_option maxHeartbeats 1000000 in
theorem l04Made_any (C : Option Addr) (q : Nat) (l : List (Int × Int)) (w w0 : World) (hn : l.length ≤ 1048576) (hb : Below w0.heap.size w0 w) (hown : w.ownsRow w0.heap.size 83 2 (.slice C l.length q) l.length (cellsOf l)) :
    Calls Tryz.prog 28 #[.slice C l.length q] w (OwnN w0 (if l.length ≤ 120 then l else []) (if l.length ≤ 120 then 0 else 3)) := by
  go_enter Tryz.func28, Tryz.ntmps28
  by_cases h : l.length ≤ 120
  · have HI := hide h
    have h1 : ¬ ((120 : Int) < (l.length : Int)) := by omega
    clear h
    go_wp2
    go_ret2
    first | rw [if_pos HI.out, if_pos HI.out] | rw [if_pos HI.out] | skip
    exact ⟨C, q, rfl, hown, hb⟩
  · have HI := hide h
    have h1 : (120 : Int) < (l.length : Int) := by omega
    clear h
    go_wp2
    go_ret2
    first | rw [if_neg HI.out, if_neg HI.out] | rw [if_neg HI.out] | skip
    exact ownN_nil (some ⟨w.heap.size, 0, none⟩) 0 3 (own_emptyT _ _ hb.size) (hb.alloc hb.size _)
set_option maxHeartbeats 1000000 in
theorem l04Whole_any (bf bd bp : Nat) (s : Int) (A : Option Addr) (c : Nat) (l : List (Int × Int)) (q : Nat → Int) (B : Option Addr) (d : Nat) (m : List (Int × Int)) (o : Nat → Int) (w : World) (hF : FP w bf s A l.length c) (hA : HA w A l) (hn : l.length ≤ 1048576) (hwf : HWF l) (hs : -32768 ≤ s ∧ s ≤ 32767) (hD : Dr w bd 43 q) (hq : DWF q)
    (hP : Bk w bp 47 (prA B m.length d o)) (hB : SecA w B m) (hm : m.length ≤ 1048576) (hswf : SWF m) (howf : OWF o) :
    Calls Tryz.prog 26 #[.pointer (some ⟨bf, 0, none⟩), .pointer (some ⟨bd, 0, none⟩), .pointer (some ⟨bp, 0, none⟩)] w (SaysI (codeI (prgB s l m o && drB s l.length q)) w) := by
  go_enter Tryz.func26, Tryz.ntmps26
  go_wp2_with fail
  refine (l04Ok_any bf bp s A c l B d m o w hF hA hn hwf hs hP hB hm hswf howf).mono ?_
  rintro e w1 ⟨rfl, hb1⟩
  cases hp : prgB s l m o
  · go_wp2
    go_ret
    exact ⟨by rw [hp]; rfl, hb1⟩
  · have hfa := frB_all (show frB s l = true by simp only [prgB, Bool.and_eq_true] at hp; exact hp.1.1.1)
    go_wp2_with fail
    refine (l02Drum_any _ _ s A l.length c q _ (hF.keep hb1) (hD.keep hb1) hfa.2.1.2 hfa.1 hq).mono ?_
    rintro e w2 ⟨rfl, hb2⟩
    cases hdd : drB s l.length q
    · go_wp2
      go_ret
      exact ⟨by rw [hp, hdd]; rfl, step_below hb2 hb1⟩
    · go_wp2
      go_ret
      exact ⟨by rw [hp, hdd]; rfl, step_below hb2 hb1⟩
def snL (l m : List (Int × Int)) (q : Nat → Int) (x : Int) : List (Int × Int) := sortU (scN l q (secF m x.toNat).toNat (secS m x.toNat).toNat)
def snC (s : Int) (l : List (Int × Int)) (q : Nat → Int) (m : List (Int × Int)) (o : Nat → Int) (x : Int) : Int := if prgB s l m o && drB s l.length q then (if inB x 0 ((m.length : Int) - 1) then (if (snL l m q x).length ≤ 120 then 0 else 3) else 2) else 1
def snV (s : Int) (l : List (Int × Int)) (q : Nat → Int) (m : List (Int × Int)) (o : Nat → Int) (x : Int) : List (Int × Int) := if snC s l q m o x = 0 then snL l m q x else []
theorem snV_len (s : Int) (l : List (Int × Int)) (q : Nat → Int) (m : List (Int × Int)) (o : Nat → Int) (x : Int) : (snV s l q m o x).length ≤ 1048576 := by
  unfold snV
  split
  · rename_i h
    unfold snC at h
    split at h
    · split at h
      · split at h
        · omega
        · cases h
      · cases h
    · cases h
  · simp
set_option maxRecDepth 20000 in
set_option maxHeartbeats 2000000 in
theorem specSectionTune_any (s : Int) (A : Option Addr) (c : Nat) (l : List (Int × Int)) (q : Nat → Int) (B : Option Addr) (d : Nat) (m : List (Int × Int)) (o : Nat → Int) (x : Int) (w : World) (hA : HA w A l) (hn : l.length ≤ 1048576) (hwf : HWF l) (hs : -32768 ≤ s ∧ s ≤ 32767) (hq : DWF q) (hB : SecA w B m) (hm : m.length ≤ 1048576) (hswf : SWF m) (howf : OWF o) :
    Calls Tryz.prog 8 #[.agg #[.int .i16 s, .slice A l.length c], .agg (da q), .agg (prA B m.length d o), .int .i64 x] w (OwnN w (snV s l q m o x) (snC s l q m o x)) := by
  go_enter Tryz.func8, Tryz.ntmps8
  go_upto_region 1 with fail
  obtain ⟨X, hX⟩ : ∃ X, X = ((w.alloc (.cells #[.int .i16 s, .slice A l.length c] 41)).alloc (.cells (da q) 43)).alloc (.cells (prA B m.length d o) 47) := ⟨_, rfl⟩
  have hb0 : Below w.heap.size w X := by rw [hX]; exact (((Below.refl _ _).alloc (Nat.le_refl _) _).alloc (by simp) _).alloc (by simp; omega) _
  have F0 : FP X w.heap.size s A l.length c := by
    have h : Bk X w.heap.size 41 #[.int .i16 s, .slice A l.length c] := by rw [hX]; exact ((Bk.new _ _ _ rfl).old _).old _
    exact ⟨h.cell rfl, h.cell rfl⟩
  have D0 : Dr X (w.heap.size + 1) 43 q := by rw [hX]; exact heap_old' (heap_new' _ _ _ (by simp))
  have P0 : Bk X (w.heap.size + 1 + 1) 47 (prA B m.length d o) := by rw [hX]; exact Bk.new _ _ _ (by simp)
  rw [← hX]
  clear hX
  go_wp2_with fail
  refine (l04Whole_any w.heap.size (w.heap.size + 1) (w.heap.size + 1 + 1) s A c l q B d m o X F0 (hA.below hb0) hn hwf hs D0 hq P0 (hB.below hb0) hm hswf howf).mono ?_
  rintro e w1 ⟨rfl, hb1⟩
  have b1 := step_below hb1 hb0
  have F1 := F0.keep hb1
  have D1 := D0.keep hb1
  have P1 := P0.keep hb1
  have A1 := hA.below b1
  have B1 := hB.below b1
  cases hp : (prgB s l m o && drB s l.length q)
  · simp only [codeI]
    have hcc : snC s l q m o x = 1 := by simp only [snC, hp]; rfl
    have HX := hide hcc
    have HY := hide (show snV s l q m o x = [] by simp [snV, hcc])
    clear hcc hp
    go_wp2
    go_ret2
    rw [HX.out, HY.out]
    exact ownN_nil (some ⟨w1.heap.size, 0, none⟩) 0 1 (own_emptyT _ _ b1.size) (b1.alloc b1.size _)
  simp only [codeI]
  have hp' := hp
  rw [Bool.and_eq_true] at hp'
  have hpa := prgB_all hp'.1
  have hfa := frB_all (show frB s l = true by have := hp'.1; simp only [prgB, Bool.and_eq_true] at this; exact this.1.1.1)
  have c0 := P1.slice
  cases h2 : inB x 0 ((m.length : Int) - 1)
  · have K2 : ∀ W, Calls Tryz.prog 27 #[.int .i64 x, .int .i64 0, .int .i64 ((m.length : Int) - 1)] W fun e w' => e = .returned (.bool false) ∧ W = w' := fun W => by rw [← h2]; exact l00In_any _ _ _ W
    have hcc : snC s l q m o x = 2 := by simp only [snC, hp, h2]; rfl
    have HX := hide hcc
    have HY := hide (show snV s l q m o x = [] by simp [snV, hcc])
    have hm12 := hpa.2.1
    clear hcc hp h2 hpa hp' hfa
    go_wp2_with (go_at_call 27; with_reducible refine (K2 _).mono ?_; rintro e w' ⟨rfl, rfl⟩)
    go_ret2
    rw [HX.out, HY.out]
    exact ownN_nil (some ⟨w1.heap.size, 0, none⟩) 0 2 (own_emptyT _ _ b1.size) (b1.alloc b1.size _)
  have K2 : ∀ W, Calls Tryz.prog 27 #[.int .i64 x, .int .i64 0, .int .i64 ((m.length : Int) - 1)] W fun e w' => e = .returned (.bool true) ∧ W = w' := fun W => by rw [← h2]; exact l00In_any _ _ _ W
  obtain ⟨k, hk⟩ : ∃ k : Nat, x = (k : Int) := ⟨x.toNat, by simp [inB] at h2; omega⟩
  subst hk
  have hlt : k < m.length := by simp [inB] at h2; omega
  have hin := sec_in hpa.2.2.1 k hlt
  have hs96 := hpa.1
  have hm12 := hpa.2.1
  obtain ⟨S, rfl⟩ : ∃ S : Nat, s = (S : Int) := ⟨s.toNat, by omega⟩
  obtain ⟨F, hF⟩ : ∃ F : Nat, secF m k = (F : Int) := ⟨(secF m k).toNat, by omega⟩
  obtain ⟨T, hT⟩ : ∃ T : Nat, secS m k = (T : Int) := ⟨(secS m k).toNat, by omega⟩
  have hL : snL l m q k = sortU (scN l q F T) := by simp [snL, hF, hT]
  have HC := hide (show snC S l q m o k = if (sortU (scN l q F T)).length ≤ 120 then 0 else 3 by simp only [snC, hp, h2, hL, if_true])
  have HV := hide (show snV S l q m o k = if (sortU (scN l q F T)).length ≤ 120 then sortU (scN l q F T) else [] by simp only [snV, snC, hp, h2, hL, if_true]; split <;> simp_all)
  have KS := hide (l04Section_any w.heap.size (w.heap.size + 1) S A c l q F T w1 F1 D1 A1 (by omega) hfa.2.1.2 hwf hfa.2.2 hp'.2 hq (by omega))
  have hsl : (sortU (scN l q F T)).length ≤ 1048576 := by
    have h1 := sortU_le (scN l q F T)
    have h3 := scN_len l q F T
    have h4 : T * l.length ≤ 96 * 24 := Nat.mul_le_mul (by omega) hfa.2.1.2
    omega
  obtain ⟨b', p, rfl, hbb, d1, d2⟩ := B1 k hlt
  rw [hF] at d1
  rw [hT] at d2
  obtain ⟨M, hM⟩ : ∃ M, M = sortU (scN l q F T) := ⟨_, rfl⟩
  rw [← hM] at KS HC HV hsl
  clear hp hp' h2 hpa hfa hL hM hin hF hT
  go_wp2_with (go_at_call 27; with_reducible refine (K2 _).mono ?_; rintro e w' ⟨rfl, rfl⟩)
  refine KS.out.mono ?_
  rintro e w3 ⟨C3, q3, rfl, own3, hb3⟩
  have KM := hide (l04Made_any C3 q3 M w3 w1 hsl hb3 own3)
  rw [← HC.out] at KM
  rw [← HV.out] at KM
  clear own3
  go_wp2_with fail
  refine KM.out.mono ?_
  rintro e w4 ⟨C4, q4, rfl, own4, hb4⟩
  go_wp2
  go_ret2
  exact ⟨C4, q4, rfl, own_base own4 b1.size, step_below hb4 b1⟩
end Go.Proofs.YtehmkablandefaaGreatDoor
