import Derived.Test.YtcocfnjbgceidaaGreatRen
import Derived.BigQuiet
namespace Go.Proofs.YtcocfnjbgceidaaGreat
open Go.RowKit Go.Maps
theorem pinL_get (T : List Wp) (a : Int) (k : Nat) (hk : k < T.length) : (pinL T a T.length).getD k (0, 0, 0, 0, 0) = (wnS T k, wnT T k, wnP T k, 1, a) := by
  have h := wn_get T k hk
  simp [pinL, List.getD, hk]
  rw [h]
  exact ⟨rfl, rfl, rfl⟩
/-- whether there are parts that do -/
def ptB (T : List Wp) (z : List Int) (a b : Int) : Bool := wholeB T z a b && !((hamL T z b T.length z.length).any fun x => decide (x.2.2.2.2 < x.2.2.2.1))
def ptC (T : List Wp) (z : List Int) (a b : Int) : Int := if ptB T z a b then 0 else 4
def ptP (T : List Wp) (z : List Int) (a b t : Int) : Int := if ptB T z a b then rnS (pinL T a T.length) t else 0
def ptH (T : List Wp) (z : List Int) (a b t : Int) : Int := if ptB T z a b then rnS (hamL T z b T.length z.length) t else 0
/-- pins and strokes that are valid, as far as parts go -/
def PtV (T : List Wp) (z : List Int) : Prop := T.length ≤ 2304 ∧ z.length ≤ 24 ∧ (∀ k, k < T.length → (0 ≤ wnT T k ∧ wnT T k < z.length) ∧ 0 ≤ wnP T k ∧ wnP T k ≤ 1000000) ∧ ∀ k, k < z.length → 0 ≤ zAt z k ∧ zAt z k ≤ 1000000
theorem whole_pin {T : List Wp} {z : List Int} {a b : Int} (h : wholeB T z a b = true) {k : Nat} (hk : k < T.length) : wnP T k ≤ a := by
  simp only [wholeB, Bool.and_eq_true, List.all_eq_true] at h
  have := h.1 _ (List.getElem_mem hk)
  rw [wn_get T k hk] at this
  simpa using this
theorem whole_ham {T : List Wp} {z : List Int} {a b : Int} (h : wholeB T z a b = true) {k : Nat} (hk : k < z.length) : zAt z k ≤ b := by
  simp only [wholeB, Bool.and_eq_true, List.all_eq_true] at h
  have := h.2 _ (List.getElem_mem hk)
  simpa [zAt, List.getD, hk] using this
theorem pin_good {T : List Wp} {z : List Int} {a b : Int} (hv : PtV T z) (hw : wholeB T z a b = true) (ha : 1 ≤ a ∧ a ≤ 1000000) : PcGood (pinL T a T.length) := fun k hk => by
  rw [pinL_len T a T.length (Nat.le_refl _)] at hk
  have h1 := (hv.2.2.1 k hk).2
  have h2 := whole_pin hw hk
  unfold pcU pcL pcM
  rw [pinL_get T a k hk]
  simp only
  omega
theorem ham_good {T : List Wp} {z : List Int} {a b : Int} (hv : PtV T z) (hw : wholeB T z a b = true) (hb : 1 ≤ b ∧ b ≤ 1000000) (hn : (hamL T z b T.length z.length).any (fun x => decide (x.2.2.2.2 < x.2.2.2.1)) = false) : PcGood (hamL T z b T.length z.length) := fun k hk => by
  have hk' : k < z.length := by rw [hamL_len] at hk; exact hk
  have h1 := hv.2.2.2 k hk'
  have h2 := whole_ham hw hk'
  have h3 : ¬ pcL (hamL T z b T.length z.length) k < pcM (hamL T z b T.length z.length) k := fun h => by
    have := pc_any_hit hk h
    rw [hn] at this
    cases this
  unfold pcU pcL pcM at *
  rw [hamL_get T z b T.length z.length k hk'] at *
  simp only at *
  omega
set_option maxRecDepth 20000 in
set_option maxHeartbeats 4000000 in
theorem partsFor_any (s : Int) (A : Option Addr) (n c M N q : Nat) (C : Option Addr) (D : DataW Unit) (T : List Wp) (z : List Int) (a b t : Int) (w : World) (hown : w.ownsMap Tryz.prog 138 (plainElem Tryz.prog 2) M N D) (hD : ReadsW D T) (hsz : Maps.size D ≤ 1048576) (hT : AscL T) (h8 : In8 T) (hZ : SZ w C z) (hlw : WnWF T) (hv : PtV T z) (ha : 1 ≤ a ∧ a ≤ 1000000) (hb : 1 ≤ b ∧ b ≤ 1000000) (ht : 0 ≤ t ∧ t ≤ 1000000) :
    Calls Tryz.prog 74 #[.agg #[.int .i64 s, .slice A n c, .map (some M), .slice C z.length q], .agg #[.int .i64 a, .int .i64 b], .int .i64 t] w fun e w' => e = .returned (.tuple #[.int .i64 (ptP T z a b t), .int .i64 (ptH T z a b t), .int .i64 (ptC T z a b)]) ∧ Below w.heap.size w w' := by
  obtain ⟨X, hX⟩ : ∃ X, X = (w.alloc (.cells #[.int .i64 s, .slice A n c, .map (some M), .slice C z.length q] 106)).alloc (.cells #[.int .i64 a, .int .i64 b] 63) := ⟨_, rfl⟩
  have hb0 : Below w.heap.size w X := by rw [hX]; exact ((Below.refl _ _).alloc (Nat.le_refl _) _).alloc (by simp) _
  have RW : Bk X w.heap.size 106 #[.int .i64 s, .slice A n c, .map (some M), .slice C z.length q] := by rw [hX]; exact (Bk.new _ _ _ rfl).old _
  have RL : Bk X (w.heap.size + 1) 63 #[.int .i64 a, .int .i64 b] := by rw [hX]; exact Bk.new _ _ _ (by simp)
  have hlT : T.length ≤ 1048576 := by have := hv.1; omega
  have hlz : z.length ≤ 1048576 := by have := hv.2.1; omega
  have KP := pieces_any s A n c M N q C D T z a b X (map_keep hown hb0) hD hsz hT h8 (hZ.below hb0) hlz hlT (fun k hk => (hv.2.2.1 k hk).1) hlw
  go_enter Tryz.func74, Tryz.ntmps74
  go_upto_region 1 with fail
  rw [← hX]
  clear hX
  have c0 := RW.cell (i := 0) rfl
  have c1 := RW.cell (i := 1) rfl
  have c2 := RW.cell (i := 2) rfl
  have c3 := RW.cell (i := 3) rfl
  have l0 := RL.cell (i := 0) rfl
  have l1 := RL.cell (i := 1) rfl
  go_wp2_with fail
  refine KP.mono ?_
  rintro e w2 ⟨P1, q1, P2, q2, rfl, own1, own2, hb2⟩
  have b2 := step_below hb2 hb0
  have RW2 := RW.keep hb2
  have RL2 := RL.keep hb2
  clear c0 c1 c2 c3 l0 l1 KP
  obtain ⟨Y, hY⟩ : ∃ Y, Y = w2.alloc (.cells #[.slice P1 T.length q1, .slice P2 z.length q2] 152) := ⟨_, rfl⟩
  have hbY : Below w2.heap.size w2 Y := by rw [hY]; exact (Below.refl _ _).alloc (Nat.le_refl _) _
  have bY := step_below hbY b2
  have K3 : Bk Y w2.heap.size 152 #[.slice P1 T.length q1, .slice P2 z.length q2] := by rw [hY]; exact Bk.new _ _ _ rfl
  have RW3 := RW2.keep hbY
  have RL3 := RL2.keep hbY
  have o1 := own_keep own1 hbY
  have o2 := own_keep own2 hbY
  have hPA : PcA Y P1 (pinL T a T.length) := PcA.of_own (l := pinL T a T.length) (by rw [pinL_len T a T.length (Nat.le_refl _)]; exact o1)
  have hHA : PcA Y P2 (hamL T z b T.length z.length) := PcA.of_own (l := hamL T z b T.length z.length) (by rw [hamL_len]; exact o2)
  have hmY := map_keep hown bY
  have KE := exceeds_any M C q N z D T a b Y hmY hD (hZ.below bY) hlz
  go_upto_region 2 with (first | (with_reducible refine wpList_store_newA rfl 152 (.tmp 9) (.tmp 12) rfl #[.slice P1 T.length q1, .slice P2 z.length q2] rfl rfl 152 _ (infoPcs _ _) (szWear _ _ _ _) (oneWear _ _ _ _ _ _) ?_))
  rw [← hY]
  clear hY hown hD hsz hT h8 hZ RW RL RW2 RL2 own1 own2 o1 o2 hmY hlw
  have c2 := RW3.cell (i := 2) rfl
  have c3 := RW3.cell (i := 3) rfl
  have l0 := RL3.cell (i := 0) rfl
  have l1 := RL3.cell (i := 1) rfl
  have hlpH : (hamL T z b T.length z.length).length = z.length := hamL_len _ _ _ _ _
  have hlpP : (pinL T a T.length).length = T.length := pinL_len T a T.length (Nat.le_refl _)
  have HV := hide hv
  have HH := hide hlpH
  have HP := hide hlpP
  clear hv hlpH hlpP
  cases hw : wholeB T z a b
  · rw [hw] at KE
    have HB := hide (show ptB T z a b = false by rw [ptB, hw]; rfl)
    clear hw
    go_wp2_with (first | (go_at_call 91; refine KE.mono ?_; rintro e w3 ⟨rfl, hb3⟩))
    go_ret3
    rw [ptP, ptH, ptC, HB.out]
    exact ⟨rfl, step_below hb3 bY⟩
  · rw [hw] at KE
    have HW := hide hw
    clear hw
    go_wp2_with (first | (go_at_call 91; refine KE.mono ?_; rintro e w3 ⟨rfl, hb3⟩; have K33 := K3.keep hb3; have p1 := K33.cell (i := 1) rfl))
    have KC := containsPc_any P2 q2 (hamL T z b T.length z.length) w3 (hHA.below hb3) (by rw [HH.out]; exact hlz)
    rw [HH.out] at KC
    have b3 := step_below hb3 bY
    have hPA3 := hPA.below hb3
    have hHA3 := hHA.below hb3
    cases hq : (hamL T z b T.length z.length).any (fun x => decide (x.2.2.2.2 < x.2.2.2.1))
    · rw [hq] at KC
      have HB := hide (show ptB T z a b = true by rw [ptB, HW.out, hq]; rfl)
      have HG1 := hide (pin_good HV.out HW.out ha)
      have HG2 := hide (ham_good HV.out HW.out hb hq)
      clear hq
      go_wp2_with fail
      refine KC.mono ?_
      rintro e w4 ⟨rfl, hb4⟩
      have b4 := step_below hb4 b3
      have K4 := K33.keep hb4
      have k0 := Later.cell (K4.cell (i := 0) rfl)
      have k1 := Later.cell (K4.cell (i := 1) rfl)
      have K1 : ∀ p : Later w4, Calls Tryz.prog 97 #[.slice P1 T.length q1, .int .i64 t] p.w fun e w' => e = .returned (.int .i64 (rnS (pinL T a T.length) t)) ∧ Below p.w.heap.size p.w w' := fun p => by
        have h := renewalsOf_any P1 q1 (pinL T a T.length) t p.w ((hPA3.below hb4).below p.h) (by rw [HP.out]; exact hlT) HG1.out ht
        rw [HP.out] at h
        exact h
      have K2 : ∀ p : Later w4, Calls Tryz.prog 97 #[.slice P2 z.length q2, .int .i64 t] p.w fun e w' => e = .returned (.int .i64 (rnS (hamL T z b T.length z.length) t)) ∧ Below p.w.heap.size p.w w' := fun p => by
        have h := renewalsOf_any P2 q2 (hamL T z b T.length z.length) t p.w ((hHA3.below hb4).below p.h) (by rw [HH.out]; exact hlz) HG2.out ht
        rw [HH.out] at h
        exact h
      have HR := hide (show ptP T z a b t = rnS (pinL T a T.length) t ∧ ptH T z a b t = rnS (hamL T z b T.length z.length) t ∧ ptC T z a b = 0 by rw [ptP, ptH, ptC, HB.out]; exact ⟨rfl, rfl, rfl⟩)
      generalize rnS (pinL T a T.length) t = r1 at *
      generalize rnS (hamL T z b T.length z.length) t = r2 at *
      clear p1 hPA hHA hPA3 hHA3 KC KE K33 K3
      go_wp2_with fail
      refine wp_region_later (by kernel_rfl) (by kernel_rfl) ?_
      repeat (go_big_quiet_step (first | (go_at_call 97; first | with_reducible exact Later.call (K1 _) | with_reducible exact Later.call (K2 _))))
      refine wpQuiet_nil ?_
      rintro _ ⟨⟨wq, hq⟩, rfl⟩
      go_wp2
      go_ret3
      exact ⟨by rw [HR.out.1, HR.out.2.1, HR.out.2.2]; rfl, b4.trans (hq.mono b4.size)⟩
    · rw [hq] at KC
      have HB := hide (show ptB T z a b = false by rw [ptB, HW.out, hq]; rfl)
      clear hq
      go_wp2_with fail
      refine KC.mono ?_
      rintro e w4 ⟨rfl, hb4⟩
      go_wp2
      go_ret3
      rw [ptP, ptH, ptC, HB.out]
      exact ⟨rfl, step_below hb4 b3⟩
end Go.Proofs.YtcocfnjbgceidaaGreat
