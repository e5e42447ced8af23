import Derived.Test.YtehmkablandefaaGreatDoorScs
import Derived.Test.YtehmkablandefaaGreatDoorSni
namespace Go.Proofs.YtehmkablandefaaGreatDoor
open Go.RowKit
/-- where the section of a quarter begins, and how many steps it has -/
def caF (m : List (Int × Int)) (o : Nat → Int) (k : Nat) : Int := if o k < 0 then 0 else secF m (o k).toNat
def caT (m : List (Int × Int)) (o : Nat → Int) (k : Nat) : Int := if o k < 0 then 0 else secS m (o k).toNat
/-- the section of a quarter, as numbers -/
def CaIn (S : Nat) (m : List (Int × Int)) (o : Nat → Int) (k F T : Nat) : Prop := (o k = -1 ∧ F = 0 ∧ T = 0) ∨ ∃ j : Nat, j < m.length ∧ o k = (j : Int) ∧ secF m j = (F : Int) ∧ secS m j = (T : Int) ∧ F + T ≤ S ∧ 1 ≤ T
theorem ca_in {S : Nat} {l m : List (Int × Int)} {o : Nat → Int} (h : prgB (S : Int) l m o = true) {k : Nat} (hk : k < 48) : ∃ F T : Nat, caF m o k = (F : Int) ∧ caT m o k = (T : Int) ∧ F + T ≤ S ∧ CaIn S m o k F T := by
  have hpa := prgB_all h
  have ho := hpa.2.2.2 k hk
  simp only [ordG, inB, Bool.and_eq_true, decide_eq_true_eq] at ho
  by_cases h1 : o k < 0
  · refine ⟨0, 0, by simp [caF, h1], by simp [caT, h1], by omega, Or.inl ⟨by omega, rfl, rfl⟩⟩
  · obtain ⟨j, hj⟩ : ∃ j : Nat, o k = (j : Int) := ⟨(o k).toNat, by omega⟩
    have hjl : j < m.length := by omega
    have hin := sec_in hpa.2.2.1 j hjl
    refine ⟨(secF m j).toNat, (secS m j).toNat, ?_, ?_, by omega, Or.inr ⟨j, hjl, hj, by omega, by omega, by omega, by omega⟩⟩
    · rw [caF, if_neg h1, hj, Int.toNat_natCast]; omega
    · rw [caT, if_neg h1, hj, Int.toNat_natCast]; omega
def caL (l m : List (Int × Int)) (q o : Nat → Int) (x : Int) : List (Int × Int) := sortU (scN l q (caF m o x.toNat).toNat (caT m o x.toNat).toNat)
def caC (s : Int) (l : List (Int × Int)) (q : Nat → Int) (m : List (Int × Int)) (o : Nat → Int) (x : Int) : Int := if prgB s l m o && drB s l.length q then (if inB x 0 47 then (if (caL l m q o x).length ≤ 120 then 0 else 3) else 2) else 1
def caV (s : Int) (l : List (Int × Int)) (q : Nat → Int) (m : List (Int × Int)) (o : Nat → Int) (x : Int) : List (Int × Int) := if caC s l q m o x = 0 then caL l m q o x else []
theorem caV_len (s : Int) (l : List (Int × Int)) (q : Nat → Int) (m : List (Int × Int)) (o : Nat → Int) (x : Int) : (caV s l q m o x).length ≤ 1048576 := by
  unfold caV
  split
  · rename_i h
    unfold caC at h
    split at h
    · split at h
      · split at h
        · omega
        · cases h
      · cases h
    · cases h
  · simp
theorem scN_none (l : List (Int × Int)) (q : Nat → Int) (F : Nat) : sortU (scN l q F 0) = [] := rfl
set_option maxRecDepth 20000 in
set_option maxHeartbeats 4000000 in
theorem l04Chime_any (f g h : Nat) (S : Nat) (A : Option Addr) (c : Nat) (l : List (Int × Int)) (q : Nat → Int) (B : Option Addr) (d : Nat) (m : List (Int × Int)) (o : Nat → Int) (k F T : Nat) (w : World) (hF : FP w f S A l.length c) (hD : Dr w g 43 q) (hP : Bk w h 47 (prA B m.length d o)) (hA : HA w A l) (hB : SecA w B m) (hS : 2 ≤ S ∧ S ≤ 96) (hl : l.length ≤ 24) (hwf : HWF l) (hg : HG S l l.length) (hdr : drB (S : Int) l.length q = true) (hq : DWF q) (hm12 : m.length ≤ 12) (hk : k < 48) (hc : CaIn S m o k F T) :
    Calls Tryz.prog 43 #[.pointer (some ⟨f, 0, none⟩), .pointer (some ⟨g, 0, none⟩), .pointer (some ⟨h, 0, none⟩), .int .i64 k] w (OwnN w (sortU (scN l q F T)) T) := by
  have c1 := hP.order k _ (o48_get o k hk)
  have hki : (k : Int) < 48 := by omega
  rcases hc with ⟨h1, rfl, rfl⟩ | ⟨j, hj, h1, h2, h3, hFT, hT1⟩
  · rw [h1] at c1
    have HN := hide (scN_none l q 0)
    go_enter Tryz.func43, Tryz.ntmps43
    go_wp2
    go_ret2
    rw [HN.out]
    exact ownN_nil (some ⟨w.heap.size, 0, none⟩) 0 0 (own_emptyT _ _ (Nat.le_refl _)) ((Below.refl _ _).alloc (Nat.le_refl _) _)
  rw [h1] at c1
  have c0 := hP.slice
  have hji : (j : Int) < (m.length : Int) := by omega
  obtain ⟨b', p, rfl, hbb, d1, d2⟩ := hB j hj
  rw [h2] at d1
  rw [h3] at d2
  have hj8 : -128 ≤ (j : Int) ∧ (j : Int) ≤ 127 := by omega
  have hn0 : ¬ (j : Int) < 0 := by omega
  have hwT : IntKind.i64.wrap (T : Int) = (T : Int) := IntWalk.i64_in _ (by omega)
  have KS := fun W (hW : Below w.heap.size w W) => l04Section_any f g S A c l q F T W (hF.keep hW) (hD.keep hW) (hA.below hW) hS hl hwf hg hdr hq hFT
  obtain ⟨M, hM⟩ : ∃ M, M = sortU (scN l q F T) := ⟨_, rfl⟩
  rw [← hM] at KS ⊢
  have KS := hide KS
  clear hF hD hP hA hB hwf hg hdr hq h1 h2 h3 hM
  go_enter Tryz.func43, Tryz.ntmps43
  go_wp2_with fail
  obtain ⟨X, hX⟩ : ∃ X, X = w.alloc (.cells #[.int .i16 F, .int .i16 T] 68) := ⟨_, rfl⟩
  have b0 : Below w.heap.size w X := by rw [hX]; exact (Below.refl _ _).alloc (Nat.le_refl _) _
  have Z0 : Bk X w.heap.size 68 #[.int .i16 F, .int .i16 T] := by rw [hX]; exact Bk.new _ _ _ rfl
  rw [← hX]
  clear hX
  have tb1 : Below X.heap.size X X.drew := (Below.refl _ _).drew
  have Z1 := Z0.keep tb1
  refine wp_region_held_drew (S := fun w' => w'.cell? ⟨w.heap.size, 0, none⟩ = some (.int .i16 F) ∧ w'.cell? ⟨w.heap.size, 1, none⟩ = some (.int .i16 T)) (by kernel_rfl) ⟨Z1.cell (i := 0) rfl, Z1.cell (i := 1) rfl⟩ fun hS1 => ?_
  have b1 := step_below tb1 b0
  generalize X.drew = W1 at *
  refine wpAnyH_take (i := 0) (v := .pointer (some ⟨f, 0, none⟩)) rfl (by kernel_rfl) (by kernel_rfl) (by kernel_rfl) (fun _ _ _ h => h) (Or.inl ⟨by rfl, fun w' _ => by go_simp⟩) hS1 ?_
  change wpAnyH _ _ _ _ _ _ _ (Act.put _ (some 28) _) _
  simp only [Act.put, List.setIfInBounds_toArray, List.set_cons_zero, List.set_cons_succ]
  refine wpAnyH_take (i := 1) (v := .pointer (some ⟨g, 0, none⟩)) rfl (by kernel_rfl) (by kernel_rfl) (by kernel_rfl) (fun _ _ _ h => h) (Or.inl ⟨by rfl, fun w' _ => by go_simp⟩) hS1 ?_
  change wpAnyH _ _ _ _ _ _ _ (Act.put _ (some 29) _) _
  simp only [Act.put, List.setIfInBounds_toArray, List.set_cons_zero, List.set_cons_succ]
  refine wpAnyH_take (i := 2) (v := .agg #[.int .i16 F, .int .i16 T]) rfl (by kernel_rfl) (by kernel_rfl) (by kernel_rfl) (fun _ _ _ h => h) (Or.inl ⟨by rfl, fun w' h => ?_⟩) hS1 ?_
  · have c0 := h.1
    have c1 := h.2
    clear h
    go_simp
  change wpAnyH _ _ _ _ _ _ _ (Act.put _ (some 30) _) _
  simp only [Act.put, List.setIfInBounds_toArray, List.set_cons_zero, List.set_cons_succ]
  refine wpAnyH_take (i := 4) (v := .pointer (some ⟨w.heap.size, 1, none⟩)) rfl (by kernel_rfl) (by kernel_rfl) (by kernel_rfl) (fun _ _ _ h => h) (Or.inl ⟨by rfl, fun w' _ => by go_simp⟩) hS1 ?_
  change wpAnyH _ _ _ _ _ _ _ (Act.put _ (some 32) _) _
  simp only [Act.put, List.setIfInBounds_toArray, List.set_cons_zero, List.set_cons_succ]
  refine wpAnyH_take (i := 5) (v := .int .i16 T) rfl (by kernel_rfl) (by kernel_rfl) (by kernel_rfl) (fun _ _ _ h => h) (Or.inl ⟨by rfl, fun w' h => ?_⟩) hS1 ?_
  · have c0 := h.2
    clear h
    go_simp
  change wpAnyH _ _ _ _ _ _ _ (Act.put _ (some 33) _) _
  simp only [Act.put, List.setIfInBounds_toArray, List.set_cons_zero, List.set_cons_succ]
  refine wpAnyH_take (i := 6) (v := .int .i64 T) rfl (by kernel_rfl) (by kernel_rfl) (by kernel_rfl) (fun _ _ _ h => h) (Or.inl ⟨by rfl, fun w' _ => by go_simp⟩) hS1 ?_
  change wpAnyH _ _ _ _ _ _ _ (Act.put _ (some 34) _) _
  simp only [Act.put, List.setIfInBounds_toArray, List.set_cons_zero, List.set_cons_succ]
  refine wpAnyH_ready (rs := [3]) (by kernel_rfl) (by simp) (AllReadyH.cons rfl ?_ AllReadyH.nil)
  intro K hK
  rw [if_pos (by rfl)]
  go_simp
  refine (KS.out _ b1).mono ?_
  rintro en w6 ⟨C6, q6, rfl, own6, hb6⟩
  have Z6 := Z1.keep hb6
  refine hK.out _ _ ⟨Z6.cell (i := 0) rfl, Z6.cell (i := 1) rfl⟩ (fun hS6 => ?_)
  clear hK K
  try (change wpAnyH _ _ _ _ _ _ _ (Act.put _ (some 31) _) _)
  try simp only [Act.put, List.setIfInBounds_toArray, List.set_cons_zero, List.set_cons_succ]
  refine wpAnyH_take (i := 7) (v := .slice C6 M.length q6) rfl (by kernel_rfl) (by kernel_rfl) (by kernel_rfl) (fun _ _ _ h => h) (Or.inl ⟨by rfl, fun w' _ => by go_simp⟩) hS6 ?_
  change wpAnyH _ _ _ _ _ _ _ (Act.put _ (some 8) _) _
  simp only [Act.put, List.setIfInBounds_toArray, List.set_cons_zero, List.set_cons_succ]
  refine wpAnyH_take (i := 8) (v := .int .i64 T) rfl (by kernel_rfl) (by kernel_rfl) (by kernel_rfl) (fun _ _ _ h => h) (Or.inl ⟨by rfl, fun w' _ => by go_simp⟩) hS6 ?_
  change wpAnyH _ _ _ _ _ _ _ (Act.put _ (some 9) _) _
  simp only [Act.put, List.setIfInBounds_toArray, List.set_cons_zero, List.set_cons_succ]
  refine wpAnyH_done (by kernel_rfl) ?_ _
  have hbs := b1.size
  clear hS1 hS6 Z1 Z6
  go_wp2
  go_ret2
  exact ⟨C6, q6, rfl, own_base own6 hbs, step_below hb6 b1⟩
set_option maxRecDepth 20000 in
set_option maxHeartbeats 2000000 in
theorem specChimeAt_any (s : Int) (A : Option Addr) (c : Nat) (l : List (Int × Int)) (q : Nat → Int) (B : Option Addr) (d : Nat) (m : List (Int × Int)) (o : Nat → Int) (x : Int) (w : World) (hA : HA w A l) (hn : l.length ≤ 1048576) (hwf : HWF l) (hs : -32768 ≤ s ∧ s ≤ 32767) (hq : DWF q) (hB : SecA w B m) (hm : m.length ≤ 1048576) (hswf : SWF m) (howf : OWF o) :
    Calls Tryz.prog 20 #[.agg #[.int .i16 s, .slice A l.length c], .agg (da q), .agg (prA B m.length d o), .int .i64 x] w (OwnN w (caV s l q m o x) (caC s l q m o x)) := by
  go_enter Tryz.func20, Tryz.ntmps20
  go_upto_region 1 with fail
  obtain ⟨X, hX⟩ : ∃ X, X = ((w.alloc (.cells #[.int .i16 s, .slice A l.length c] 41)).alloc (.cells (da q) 43)).alloc (.cells (prA B m.length d o) 47) := ⟨_, rfl⟩
  have hb0 : Below w.heap.size w X := by rw [hX]; exact (((Below.refl _ _).alloc (Nat.le_refl _) _).alloc (by simp) _).alloc (by simp; omega) _
  have F0 : FP X w.heap.size s A l.length c := by
    have h : Bk X w.heap.size 41 #[.int .i16 s, .slice A l.length c] := by rw [hX]; exact ((Bk.new _ _ _ rfl).old _).old _
    exact ⟨h.cell rfl, h.cell rfl⟩
  have D0 : Dr X (w.heap.size + 1) 43 q := by rw [hX]; exact heap_old' (heap_new' _ _ _ (by simp))
  have P0 : Bk X (w.heap.size + 1 + 1) 47 (prA B m.length d o) := by rw [hX]; exact Bk.new _ _ _ (by simp)
  rw [← hX]
  clear hX
  go_wp2_with fail
  refine (l04Whole_any w.heap.size (w.heap.size + 1) (w.heap.size + 1 + 1) s A c l q B d m o X F0 (hA.below hb0) hn hwf hs D0 hq P0 (hB.below hb0) hm hswf howf).mono ?_
  rintro e w1 ⟨rfl, hb1⟩
  have b1 := step_below hb1 hb0
  have F1 := F0.keep hb1
  have D1 := D0.keep hb1
  have P1 := P0.keep hb1
  have A1 := hA.below b1
  have B1 := hB.below b1
  cases hp : (prgB s l m o && drB s l.length q)
  · simp only [codeI]
    have hcc : caC s l q m o x = 1 := by simp only [caC, hp]; rfl
    have HX := hide hcc
    have HY := hide (show caV s l q m o x = [] by simp [caV, hcc])
    clear hcc hp
    go_wp2
    go_ret2
    rw [HX.out, HY.out]
    exact ownN_nil (some ⟨w1.heap.size, 0, none⟩) 0 1 (own_emptyT _ _ b1.size) (b1.alloc b1.size _)
  simp only [codeI]
  have hp' := hp
  rw [Bool.and_eq_true] at hp'
  have hpa := prgB_all hp'.1
  have hfa := frB_all (show frB s l = true by have := hp'.1; simp only [prgB, Bool.and_eq_true] at this; exact this.1.1.1)
  have c0 := P1.slice
  cases h2 : inB x 0 47
  · have K2 : ∀ W, Calls Tryz.prog 42 #[.int .i64 x] W fun e w' => e = .returned (.bool false) ∧ W = w' := fun W => by rw [← h2]; exact l04Quarter_any _ W
    have hcc : caC s l q m o x = 2 := by simp only [caC, hp, h2]; rfl
    have HX := hide hcc
    have HY := hide (show caV s l q m o x = [] by simp [caV, hcc])
    clear hcc hp h2 hpa hp' hfa
    go_wp2_with (go_at_call 42; with_reducible refine (K2 _).mono ?_; rintro e w' ⟨rfl, rfl⟩)
    go_ret2
    rw [HX.out, HY.out]
    exact ownN_nil (some ⟨w1.heap.size, 0, none⟩) 0 2 (own_emptyT _ _ b1.size) (b1.alloc b1.size _)
  have K2 : ∀ W, Calls Tryz.prog 42 #[.int .i64 x] W fun e w' => e = .returned (.bool true) ∧ W = w' := fun W => by rw [← h2]; exact l04Quarter_any _ W
  obtain ⟨k, hk⟩ : ∃ k : Nat, x = (k : Int) := ⟨x.toNat, by simp [inB] at h2; omega⟩
  subst hk
  have hlt : k < 48 := by simp [inB] at h2; omega
  have hs96 := hpa.1
  have hm12 := hpa.2.1
  obtain ⟨S, rfl⟩ : ∃ S : Nat, s = (S : Int) := ⟨s.toNat, by omega⟩
  obtain ⟨F, T, hF, hT, hFT, hci⟩ := ca_in hp'.1 hlt
  have hL : caL l m q o k = sortU (scN l q F T) := by simp [caL, hF, hT]
  have HC := hide (show caC S l q m o k = if (sortU (scN l q F T)).length ≤ 120 then 0 else 3 by simp only [caC, hp, h2, hL, if_true])
  have HV := hide (show caV S l q m o k = if (sortU (scN l q F T)).length ≤ 120 then sortU (scN l q F T) else [] by simp only [caV, caC, hp, h2, hL, if_true]; split <;> simp_all)
  have KS := hide (l04Chime_any w.heap.size (w.heap.size + 1) (w.heap.size + 1 + 1) S A c l q B d m o k F T w1 F1 D1 P1 A1 B1 (by omega) hfa.2.1.2 hwf hfa.2.2 hp'.2 hq hm12 hlt hci)
  have hsl : (sortU (scN l q F T)).length ≤ 1048576 := by
    have h1 := sortU_le (scN l q F T)
    have h3 := scN_len l q F T
    have h4 : T * l.length ≤ 96 * 24 := Nat.mul_le_mul (by omega) hfa.2.1.2
    omega
  obtain ⟨M, hM⟩ : ∃ M, M = sortU (scN l q F T) := ⟨_, rfl⟩
  rw [← hM] at KS HC HV hsl
  clear hp hp' h2 hpa hfa hL hM hF hT hci
  go_wp2_with (go_at_call 42; with_reducible refine (K2 _).mono ?_; rintro e w' ⟨rfl, rfl⟩)
  refine KS.out.mono ?_
  rintro e w3 ⟨C3, q3, rfl, own3, hb3⟩
  have KM := hide (l04Made_any C3 q3 M w3 w1 hsl hb3 own3)
  rw [← HC.out] at KM
  rw [← HV.out] at KM
  clear own3
  go_wp2_with fail
  refine KM.out.mono ?_
  rintro e w4 ⟨C4, q4, rfl, own4, hb4⟩
  go_wp2
  go_ret2
  exact ⟨C4, q4, rfl, own_base own4 b1.size, step_below hb4 b1⟩
end Go.Proofs.YtehmkablandefaaGreatDoor
namespace Go.Proofs.YtehmkablandefaaGreatDoor
open Go.RowKit
set_option maxRecDepth 20000 in
set_option maxHeartbeats 4000000 in
theorem playedAt_any (S : Nat) (s : Int) (A : Option Addr) (n c : Nat) (B : Option Addr) (d : Nat) (m : List (Int × Int)) (o : Nat → Int) (k F T : Nat) (w : World) (hB : SecA w B m) (hm12 : m.length ≤ 12) (hk : k < 48) (hc : CaIn S m o k F T) :
    Calls Tryz.prog 45 #[.agg (plA s A n c B m.length d o), .int .i64 k] w fun e w' => e = .returned (.agg #[.int .i16 F, .int .i16 T]) ∧ Below w.heap.size w w' := by
  have hki : (k : Int) < 48 := by omega
  obtain ⟨Y, hY⟩ : ∃ Y, Y = w.alloc (.cells (plA s A n c B m.length d o) 76) := ⟨_, rfl⟩
  have b0 : Below w.heap.size w Y := by rw [hY]; exact (Below.refl _ _).alloc (Nat.le_refl _) _
  have Q0 : Bk Y w.heap.size 76 (plA s A n c B m.length d o) := by rw [hY]; exact Bk.new _ _ _ rfl
  have hYs : Y.heap.size = w.heap.size + 1 := by rw [hY, World.size_alloc]
  obtain ⟨X, hX⟩ : ∃ X, X = Y.alloc (.cells #[.int .i16 0, .int .i16 0] 68) := ⟨_, rfl⟩
  have b1 : Below w.heap.size w X := by rw [hX]; exact b0.alloc (by omega) _
  have bX : Below Y.heap.size Y X := by rw [hX]; exact (Below.refl _ _).alloc (Nat.le_refl _) _
  have Q1 := Q0.keep bX
  have Z1 : Bk X (w.heap.size + 1) 68 #[.int .i16 0, .int .i16 0] := by rw [hX, ← hYs]; exact Bk.new _ _ _ rfl
  have c1 := Q1.plOrd k _ (o48_get o k hk)
  have z0 := Z1.cell (i := 0) rfl
  have z1 := Z1.cell (i := 1) rfl
  have f0 := Z1.frozen 0
  have f1 := Z1.frozen 1
  have HI := hide (show (Tryz.prog.info? 68).map (·.size) = some 2 by kernel_rfl)
  have key : ∀ (W : World) (u v : Value) (cs : Array Value), Bk W (w.heap.size + 1) 68 cs → cs.size = 2 → Bk ((W.setCell ⟨w.heap.size + 1, 0, none⟩ u).setCell ⟨w.heap.size + 1, 1, none⟩ v) (w.heap.size + 1) 68 #[u, v] := fun W u v cs h hcs => by
    unfold Bk at h ⊢
    obtain ⟨l⟩ := cs
    match l, hcs with
    | [x, y], _ => simp [World.setCell, Array.getElem?_modify, h]
  rcases hc with ⟨h1, rfl, rfl⟩ | ⟨j, hj, h1, h2, h3, hFT, hT1⟩
  · rw [h1] at c1
    go_enter Tryz.func45, Tryz.ntmps45
    go_upto_region 1 with fail
    rw [← hY]
    try rw [← hX]
    clear hX hY hYs
    have HR := hide (key X (.int .i16 0) (.int .i16 0) _ Z1 rfl)
    clear key
    go_wp2_with fail
    exact bodyPost_ret (v := .agg #[.int .i16 0, .int .i16 0]) (results_cell_row Tryz.results45 _ _ (w.heap.size + 1) 68 #[.int .i16 0, .int .i16 0] (0, 0) _ (by simp [Act.put]) HR.out Tryz.underlying68 rfl HI.out) rfl ⟨rfl, (b1.setCell (p := ⟨_, _, none⟩) (by dsimp only; omega) _).setCell (p := ⟨_, _, none⟩) (by dsimp only; omega) _⟩
  rw [h1] at c1
  have g0 := Q1.plSecs
  have hji : (j : Int) < (m.length : Int) := by omega
  obtain ⟨b', p, rfl, hbb, d1, d2⟩ := (hB.below b1) j hj
  rw [h2] at d1
  rw [h3] at d2
  have hj8 : -128 ≤ (j : Int) ∧ (j : Int) ≤ 127 := by omega
  have hne : ((j : Int) == -1) = false := by rw [beq_eq_false_iff_ne]; omega
  go_enter Tryz.func45, Tryz.ntmps45
  go_upto_region 1 with fail
  rw [← hY]
  try rw [← hX]
  clear hX hY hYs
  go_upto_region 3 with fail
  have HR := hide (key X.drew (.int .i16 F) (.int .i16 T) _ (Z1.keep (Below.refl _ _).drew) rfl)
  have HB := hide (show Below w.heap.size w ((X.drew.setCell ⟨w.heap.size + 1, 0, none⟩ (.int .i16 F)).setCell ⟨w.heap.size + 1, 1, none⟩ (.int .i16 T)) from (b1.drew.setCell (p := ⟨_, _, none⟩) (by dsimp only; omega) _).setCell (p := ⟨_, _, none⟩) (by dsimp only; omega) _)
  clear key
  go_region
  all_goals go_wp2_with fail
  all_goals exact bodyPost_ret (v := .agg #[.int .i16 F, .int .i16 T]) (results_cell_row Tryz.results45 _ _ (w.heap.size + 1) 68 #[.int .i16 F, .int .i16 T] (0, 0) _ (by simp [Act.put]) HR.out Tryz.underlying68 rfl HI.out) rfl ⟨rfl, HB.out⟩
end Go.Proofs.YtehmkablandefaaGreatDoor
