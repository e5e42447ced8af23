import Derived.Test.YtcepjiglhlmgdaaGreatDoorGbf
namespace Go.Proofs.YtcepjiglhlmgdaaGreatDoor
open Go.RowKit
theorem setRow_size' (w : World) (g : Nat) (cs : Array Value) : (w.setRow g cs).heap.size = w.heap.size := by simp [World.setRow]
theorem okB_getP {l : List (Int × Int)} (h : okB l = true) : l.length ≤ 120 ∧ ∀ j, j < l.length → (0 ≤ nAt l j ∧ nAt l j ≤ 199) ∧ (0 ≤ nPi l j ∧ nPi l j ≤ 47) := by
  rw [okB_eq] at h
  simp only [Bool.and_eq_true, decide_eq_true_eq] at h
  refine ⟨h.1.1, fun j hj => ?_⟩
  cases hn : noteB (nAt l j) (nPi l j)
  · have := rangeB_no l j hj hn
    rw [this] at h
    exact absurd h.1.2 (by decide)
  · simpa [noteB] using hn
set_option maxRecDepth 20000 in
set_option maxHeartbeats 4000000 in
theorem drumFor_any (p : Nat → Addr) (s : Int) (A : Option Addr) (c : Nat) (hl : List (Int × Int)) (B : Option Addr) (ct : Nat) (t : List (Int × Int)) (C : Option Addr) (cl : Nat) (L : List Xc) (w : World) (hE : ErrP p w) (hA : HA w A hl) (hn : hl.length ≤ 1048576) (hwf : HWF hl) (hs : -32768 ≤ s ∧ s ≤ 32767)
    (hB : NA w B t) (hnt : t.length ≤ 1048576) (hwt : WF t) (hC : ChA w C L) (hnL : L.length ≤ 1048576) (hwL : ChWF L) :
    Calls Tryz.prog 24 #[.agg #[.int .i16 s, .slice A hl.length c], .slice B t.length ct, .slice C L.length cl] w fun e w' => e = .returned (.tuple #[.agg (da (dfD s hl t L)), dfV p s hl t L]) ∧ Below w.heap.size w w' := by
  have hz := zeroDrum
  obtain ⟨X, hX⟩ : ∃ X, X = (w.alloc (.cells #[.int .i16 s, .slice A hl.length c] 35)).alloc (.cells za 53) := ⟨_, rfl⟩
  have b0 : Below w.heap.size w X := by rw [hX]; exact ((Below.refl _ _).alloc (Nat.le_refl _) _).alloc (by simp) _
  have R1 : X.heap[w.heap.size]? = some (.cells #[.int .i16 s, .slice A hl.length c] 35 (0, 0)) := by rw [hX]; exact heap_old' (heap_new' _ _ _ rfl)
  have D1 : Dr X (w.heap.size + 1) 53 (fun _ => 0) := by rw [hX, za_eq]; exact heap_new' _ _ _ (by simp)
  have f0 := cell_of_row _ _ 0 _ _ _ R1
  have f1 := cell_of_row _ _ 1 _ _ _ R1
  simp at f0 f1
  have HX := hide hX
  have KM := machineFor_any s A c hl (.slice none 0 0) true X (hA.below b0) hn hwf hs (fun _ W _ => fits_nil _ s A hl.length c rfl W)
  rw [Bool.and_true] at KM
  have KV := fun W (h : NA W B t) => implValid_any B ct t W h hnt hwt
  have KC := fun W (h : ChA W C L) => areChoices_any C cl L W h hnL hwL
  clear hX R1
  go_enter Tryz.func24, Tryz.ntmps24
  go_upto_region 1 with fail
  rw [← HX.out]
  go_wp2_with fail
  refine KM.mono ?_
  rintro e w2 ⟨rfl, hb2⟩
  have b2 := step_below hb2 b0
  go_upto_region 2 with fail
  obtain ⟨X3, hX3⟩ : ∃ X3, X3 = w2.alloc (.cells #[.int .i64 s, .slice A hl.length c] 93) := ⟨_, rfl⟩
  have hb3 : Below w2.heap.size w2 X3 := by rw [hX3]; exact (Below.refl _ _).alloc (Nat.le_refl _) _
  have b3 := step_below hb3 b2
  have M3 : X3.heap[w2.heap.size]? = some (.cells #[.int .i64 s, .slice A hl.length c] 93 (0, 0)) := by rw [hX3]; exact heap_alloc_new _ _
  have D3 := (D1.keep hb2).keep hb3
  have A3 := hA.below b3
  have B3 := hB.below b3
  have C3 := hC.below b3
  rw [← hX3]
  obtain ⟨gm, hgm⟩ : ∃ gm, gm = w2.heap.size := ⟨_, rfl⟩
  rw [← hgm] at M3 ⊢
  have hwg : w.heap.size + 1 < gm := by have := D1.lt; have := hb2.size; omega
  have HAw := hide hA
  have HBw := hide hB
  have HCw := hide hC
  clear hX3 hgm f0 f1 D1 KM HX hA hB hC
  cases hf : frB s hl
  · have HR := hide (dfR_1 (p := p) (dfQ_no (s := s) (hl := hl) (t := t) (L := L) (by simp [hf])))
    clear hf
    go_wp2_with fail
    have hd1 : Below X3.heap.size X3 X3.drew := (Below.refl _ _).drew
    have hbw := step_below hd1 b3
    have hE0 : X3.drew.cell? ⟨0, 0, none⟩ = some (erV (p 0)) := (hE.keep hbw).1 0 (by omega)
    have Zd : X3.drew.heap[w.heap.size + 1]? = some (.cells (da fun _ => 0) 53 (0, 0)) := D3.keep hd1
    have hbl : Tryz.prog.built 53 [] = some (da fun _ => 0) := by rw [built0, za_eq]
    refine wp_region_held_drew (S := fun w' => w'.cell? ⟨0, 0, none⟩ = some (erV (p 0))) (by kernel_rfl) hE0 fun hS5 => ?_
    refine wpAnyH_take (i := 0) (v := .agg (da fun _ => 0)) rfl (by kernel_rfl) (by kernel_rfl) (by kernel_rfl) (fun _ _ _ h => h) (Or.inl ⟨by rfl, fun w' h => ?_⟩) hS5 ?_
    · clear h
      go_simp
      exact za_eq
    change wpAnyH _ _ _ _ _ _ _ (Act.put _ (some 31) _) _
    simp only [Act.put, List.setIfInBounds_toArray, List.set_cons_zero, List.set_cons_succ]
    refine wpAnyH_take (i := 1) (v := erV (p 0)) rfl (by kernel_rfl) (by kernel_rfl) (by kernel_rfl) (fun _ _ _ h => h) (Or.inl ⟨by rfl, fun w' h => ?_⟩) hS5 ?_
    · go_simp
    change wpAnyH _ _ _ _ _ _ _ (Act.put _ (some 32) _) _
    simp only [Act.put, List.setIfInBounds_toArray, List.set_cons_zero, List.set_cons_succ]
    refine wpAnyH_ready (rs := [2]) (by kernel_rfl) (by simp) (AllReadyH.cons rfl ?_ AllReadyH.nil)
    intro K hK
    rw [if_pos (by rfl)]
    refine wp_store_row 53 (.tmp 6) (.tmp 31) rfl (w.heap.size + 1) (da fun _ => 0) rfl rfl 53 _ Zd (by rw [da_size]; exact info53) (by simp only [da_size]) (da_one _) ?_
    have hb9 : Below w.heap.size w (X3.drew.setRow (w.heap.size + 1) (da fun _ => 0)) := below_setRow hbw (by omega)
    have hE9 := (hE.keep hb9).1 0 (by omega)
    refine hK.out _ _ hE9 (fun hS9 => ?_)
    clear hK K
    refine wpAnyH_take (i := 3) (v := erV (p 0)) rfl (by kernel_rfl) (by kernel_rfl) (by kernel_rfl) (fun _ _ _ h => h) (Or.inl ⟨by rfl, fun w' _ => by go_simp⟩) hS9 ?_
    change wpAnyH _ _ _ _ _ _ _ (Act.put _ (some 7) _) _
    simp only [Act.put, List.setIfInBounds_toArray]
    refine wpAnyH_done (by kernel_rfl) ?_ _
    have HZ9 := hide (setRow_heap _ _ _ _ _ _ Zd : (X3.drew.setRow (w.heap.size + 1) (da fun _ => 0)).heap[w.heap.size + 1]? = some (.cells (da fun _ => 0) 53 (0, 0)))
    have HB9 := hide hb9
    clear hS5 hS9 hE9 hb9 Zd hE0
    go_wp2_with fail
    exact bodyPost_ret (v := .tuple #[.agg (da fun _ => 0), erV (p 0)]) (results_dr Tryz.results24 _ _ (w.heap.size + 1) 53 _ _ (by simp) (by simp) HZ9.out) rfl ⟨by rw [HR.out.2.1, HR.out.2.2], HB9.out⟩
  cases ho : okB t
  · have HR := hide (dfR_1 (p := p) (dfQ_no (s := s) (hl := hl) (t := t) (L := L) (by simp [ho])))
    have KV3 := KV X3 B3
    rw [ho] at KV3
    clear hf ho KV KC
    go_wp2_with fail
    refine KV3.mono ?_
    rintro e w4 ⟨rfl, hb4⟩
    have b4 := step_below hb4 b3
    have D4 := D3.keep hb4
    go_wp2_with fail
    have hd1 : Below w4.heap.size w4 w4.drew := (Below.refl _ _).drew
    have hbw := step_below hd1 b4
    have hE0 : w4.drew.cell? ⟨0, 0, none⟩ = some (erV (p 0)) := (hE.keep hbw).1 0 (by omega)
    have Zd : w4.drew.heap[w.heap.size + 1]? = some (.cells (da fun _ => 0) 53 (0, 0)) := D4.keep hd1
    have hbl : Tryz.prog.built 53 [] = some (da fun _ => 0) := by rw [built0, za_eq]
    refine wp_region_held_drew (S := fun w' => w'.cell? ⟨0, 0, none⟩ = some (erV (p 0))) (by kernel_rfl) hE0 fun hS5 => ?_
    refine wpAnyH_take (i := 0) (v := .agg (da fun _ => 0)) rfl (by kernel_rfl) (by kernel_rfl) (by kernel_rfl) (fun _ _ _ h => h) (Or.inl ⟨by rfl, fun w' h => ?_⟩) hS5 ?_
    · clear h
      go_simp
      exact za_eq
    change wpAnyH _ _ _ _ _ _ _ (Act.put _ (some 31) _) _
    simp only [Act.put, List.setIfInBounds_toArray, List.set_cons_zero, List.set_cons_succ]
    refine wpAnyH_take (i := 1) (v := erV (p 0)) rfl (by kernel_rfl) (by kernel_rfl) (by kernel_rfl) (fun _ _ _ h => h) (Or.inl ⟨by rfl, fun w' h => ?_⟩) hS5 ?_
    · go_simp
    change wpAnyH _ _ _ _ _ _ _ (Act.put _ (some 32) _) _
    simp only [Act.put, List.setIfInBounds_toArray, List.set_cons_zero, List.set_cons_succ]
    refine wpAnyH_ready (rs := [2]) (by kernel_rfl) (by simp) (AllReadyH.cons rfl ?_ AllReadyH.nil)
    intro K hK
    rw [if_pos (by rfl)]
    refine wp_store_row 53 (.tmp 6) (.tmp 31) rfl (w.heap.size + 1) (da fun _ => 0) rfl rfl 53 _ Zd (by rw [da_size]; exact info53) (by simp only [da_size]) (da_one _) ?_
    have hb9 : Below w.heap.size w (w4.drew.setRow (w.heap.size + 1) (da fun _ => 0)) := below_setRow hbw (by omega)
    have hE9 := (hE.keep hb9).1 0 (by omega)
    refine hK.out _ _ hE9 (fun hS9 => ?_)
    clear hK K
    refine wpAnyH_take (i := 3) (v := erV (p 0)) rfl (by kernel_rfl) (by kernel_rfl) (by kernel_rfl) (fun _ _ _ h => h) (Or.inl ⟨by rfl, fun w' _ => by go_simp⟩) hS9 ?_
    change wpAnyH _ _ _ _ _ _ _ (Act.put _ (some 7) _) _
    simp only [Act.put, List.setIfInBounds_toArray]
    refine wpAnyH_done (by kernel_rfl) ?_ _
    have HZ9 := hide (setRow_heap _ _ _ _ _ _ Zd : (w4.drew.setRow (w.heap.size + 1) (da fun _ => 0)).heap[w.heap.size + 1]? = some (.cells (da fun _ => 0) 53 (0, 0)))
    have HB9 := hide hb9
    clear hS5 hS9 hE9 hb9 Zd hE0
    go_wp2_with fail
    exact bodyPost_ret (v := .tuple #[.agg (da fun _ => 0), erV (p 0)]) (results_dr Tryz.results24 _ _ (w.heap.size + 1) 53 _ _ (by simp) (by simp) HZ9.out) rfl ⟨by rw [HR.out.2.1, HR.out.2.2], HB9.out⟩
  have KV3 := KV X3 B3
  rw [ho] at KV3
  cases hx : xsB L
  · have HR := hide (dfR_1 (p := p) (dfQ_no (s := s) (hl := hl) (t := t) (L := L) (by simp [hx])))
    rw [hx] at KC
    clear hf ho KV hx
    go_wp2_with fail
    refine KV3.mono ?_
    rintro e w4 ⟨rfl, hb4⟩
    have b4 := step_below hb4 b3
    have D4 := D3.keep hb4
    go_wp2_with fail
    refine (KC w4 (C3.below hb4)).mono ?_
    rintro e w5 ⟨rfl, hb5⟩
    have b5 := step_below hb5 b4
    have D5 := D4.keep hb5
    go_wp2_with fail
    have hd1 : Below w5.heap.size w5 w5.drew := (Below.refl _ _).drew
    have hbw := step_below hd1 b5
    have hE0 : w5.drew.cell? ⟨0, 0, none⟩ = some (erV (p 0)) := (hE.keep hbw).1 0 (by omega)
    have Zd : w5.drew.heap[w.heap.size + 1]? = some (.cells (da fun _ => 0) 53 (0, 0)) := D5.keep hd1
    have hbl : Tryz.prog.built 53 [] = some (da fun _ => 0) := by rw [built0, za_eq]
    refine wp_region_held_drew (S := fun w' => w'.cell? ⟨0, 0, none⟩ = some (erV (p 0))) (by kernel_rfl) hE0 fun hS5 => ?_
    refine wpAnyH_take (i := 0) (v := .agg (da fun _ => 0)) rfl (by kernel_rfl) (by kernel_rfl) (by kernel_rfl) (fun _ _ _ h => h) (Or.inl ⟨by rfl, fun w' h => ?_⟩) hS5 ?_
    · clear h
      go_simp
      exact za_eq
    change wpAnyH _ _ _ _ _ _ _ (Act.put _ (some 31) _) _
    simp only [Act.put, List.setIfInBounds_toArray, List.set_cons_zero, List.set_cons_succ]
    refine wpAnyH_take (i := 1) (v := erV (p 0)) rfl (by kernel_rfl) (by kernel_rfl) (by kernel_rfl) (fun _ _ _ h => h) (Or.inl ⟨by rfl, fun w' h => ?_⟩) hS5 ?_
    · go_simp
    change wpAnyH _ _ _ _ _ _ _ (Act.put _ (some 32) _) _
    simp only [Act.put, List.setIfInBounds_toArray, List.set_cons_zero, List.set_cons_succ]
    refine wpAnyH_ready (rs := [2]) (by kernel_rfl) (by simp) (AllReadyH.cons rfl ?_ AllReadyH.nil)
    intro K hK
    rw [if_pos (by rfl)]
    refine wp_store_row 53 (.tmp 6) (.tmp 31) rfl (w.heap.size + 1) (da fun _ => 0) rfl rfl 53 _ Zd (by rw [da_size]; exact info53) (by simp only [da_size]) (da_one _) ?_
    have hb9 : Below w.heap.size w (w5.drew.setRow (w.heap.size + 1) (da fun _ => 0)) := below_setRow hbw (by omega)
    have hE9 := (hE.keep hb9).1 0 (by omega)
    refine hK.out _ _ hE9 (fun hS9 => ?_)
    clear hK K
    refine wpAnyH_take (i := 3) (v := erV (p 0)) rfl (by kernel_rfl) (by kernel_rfl) (by kernel_rfl) (fun _ _ _ h => h) (Or.inl ⟨by rfl, fun w' _ => by go_simp⟩) hS9 ?_
    change wpAnyH _ _ _ _ _ _ _ (Act.put _ (some 7) _) _
    simp only [Act.put, List.setIfInBounds_toArray]
    refine wpAnyH_done (by kernel_rfl) ?_ _
    have HZ9 := hide (setRow_heap _ _ _ _ _ _ Zd : (w5.drew.setRow (w.heap.size + 1) (da fun _ => 0)).heap[w.heap.size + 1]? = some (.cells (da fun _ => 0) 53 (0, 0)))
    have HB9 := hide hb9
    clear hS5 hS9 hE9 hb9 Zd hE0
    go_wp2_with fail
    exact bodyPost_ret (v := .tuple #[.agg (da fun _ => 0), erV (p 0)]) (results_dr Tryz.results24 _ _ (w.heap.size + 1) 53 _ _ (by simp) (by simp) HZ9.out) rfl ⟨by rw [HR.out.2.1, HR.out.2.2], HB9.out⟩
  rw [hx] at KC
  obtain ⟨⟨s1, s2⟩, ⟨n1, n2⟩, hG⟩ := frB_all hf
  obtain ⟨t1, t2⟩ := okB_getP ho
  have HAll := hide (And.intro hf (And.intro ho hx))
  have HT2 := hide t2
  obtain ⟨S, hSS⟩ : ∃ S : Nat, s = (S : Int) := ⟨s.toNat, by omega⟩
  have HG := hide hG
  clear hf ho KV hx t2 hG
  subst hSS
  go_wp2_with fail
  refine KV3.mono ?_
  rintro e w4 ⟨rfl, hb4⟩
  have b4 := step_below hb4 b3
  go_wp2_with fail
  refine (KC w4 (C3.below hb4)).mono ?_
  rintro e w5 ⟨rfl, hb5⟩
  have b5 := step_below hb5 b4
  have hb35 := hb4.trans (hb5.mono hb4.size)
  have D5 := D3.keep hb35
  have M5 := (hb35.block _ (Array.getElem?_eq_some_iff.1 M3).1).trans M3
  have A5 := A3.below hb35
  have B5 := B3.below hb35
  have C5 := C3.below hb35
  clear KV3 KC D3 M3 A3 B3 C3
  by_cases hne : L.length = t.length
  · have hnei : ((L.length : Int) != (t.length : Int)) = false := by simp [hne]
    have HQ := hide (dfQ_yes (s := S) (hl := hl) HAll.out hne)
    have HNE := hide hne
    clear hne
    go_wp2_with fail
    go_upto_region 7 with fail
    obtain ⟨X6, hX6⟩ : ∃ X6, X6 = w5.alloc (.cells za 53) := ⟨_, rfl⟩
    have hb6 : Below w5.heap.size w5 X6 := by rw [hX6]; exact (Below.refl _ _).alloc (Nat.le_refl _) _
    have b6 := step_below hb6 b5
    have G6 : Dr X6 w5.heap.size 53 (fun _ => 0) := by rw [hX6, za_eq]; exact heap_alloc_new _ _
    have D6 := D5.keep hb6
    have M6 := (hb6.block _ (Array.getElem?_eq_some_iff.1 M5).1).trans M5
    rw [← hX6]
    obtain ⟨gd, hgd⟩ : ∃ gd, gd = w5.heap.size := ⟨_, rfl⟩
    rw [← hgd] at G6 ⊢
    have hmd : gm < gd := by have := (Array.getElem?_eq_some_iff.1 M5).1; omega
    have hw6 := b6.size
    have hgd6 : gd + 1 = X6.heap.size := by rw [hX6, hgd]; simp
    have hg6 := hide hgd6
    have hgdlt : gd < X6.heap.size := by omega
    have hwgd : w.heap.size < gd := by omega
    have h5 : w.heap.size ≤ w5.heap.size := b5.size
    have HA6 : ∀ kk, kk < gd → True := fun _ _ => trivial
    clear hX6 hgd D5 M5 A5 B5 C5 hgd6
    go_wp2_with fail
    go_loopw [11, 12, 13, 43] (fun _ _ _ i wr => ∃ (k : Nat) (d : Nat → Int), k ≤ L.length ∧ i = .int .i64 k ∧ dfS S hl t L k = some d ∧ Dr wr gd 53 d ∧ Dr wr (w.heap.size + 1) 53 (fun _ => 0) ∧ wr.heap[gm]? = some (.cells #[.int .i64 S, .slice A hl.length c] 93 (0, 0)) ∧ Below w.heap.size w wr ∧ X6.heap.size ≤ wr.heap.size)
      (fun _ _ _ i _ => L.length - (intOf i).toNat)
    case atStart => exact ⟨0, _, Nat.zero_le _, rfl, rfl, G6, D6, M6, b6, Nat.le_refl _⟩
    case round =>
      clear G6 D6 M6
      obtain ⟨k, d, hk, rfl, hdk, G6, D6, M6, bw, hsz⟩ := hrel
      by_cases hlt : k < L.length
      · have hkt : k < t.length := by rw [← HNE.out]; exact hlt
        obtain ⟨bt, ot, hBe, hbt', c1', c2'⟩ := HBw.out k hkt
        obtain ⟨bc, oc, hCe, hbc', e0', e1', e2', e3'⟩ := HCw.out k hlt
        subst hBe hCe
        have c1 := (bw.cell (p := ⟨bt, _, none⟩) hbt').trans c1'
        have c2 := (bw.cell (p := ⟨bt, _, none⟩) hbt').trans c2'
        have e0 := (bw.cell (p := ⟨bc, _, none⟩) hbc').trans e0'
        have e1 := (bw.cell (p := ⟨bc, _, none⟩) hbc').trans e1'
        have e2 := (bw.cell (p := ⟨bc, _, none⟩) hbc').trans e2'
        have e3 := (bw.cell (p := ⟨bc, _, none⟩) hbc').trans e3'
        have hbt : bt < wr.heap.size := Nat.lt_of_lt_of_le hbt' bw.size
        clear c1' c2' e0' e1' e2' e3'
        obtain ⟨ha, hq⟩ := HT2.out k hkt
        have hki : (k : Int) < (L.length : Int) := by omega
        have hki2 : (k : Int) < (t.length : Int) := by omega
        have hYes := dfS_yes hdk
        have hNo := dfS_no hdk
        have hFs := dfF_some hlt hdk
        have hdw := dfS_wf hdk
        have hxk : xk L k = (chA L k, chL L k, chO L k, chT L k) := rfl
        obtain ⟨a, hae⟩ : ∃ a, nAt t k = a := ⟨_, rfl⟩
        obtain ⟨q, hqe⟩ : ∃ q, nPi t k = q := ⟨_, rfl⟩
        obtain ⟨xa, hxa⟩ : ∃ xa, chA L k = xa := ⟨_, rfl⟩
        obtain ⟨xl, hxl⟩ : ∃ xl, chL L k = xl := ⟨_, rfl⟩
        obtain ⟨xo, hxo⟩ : ∃ xo, chO L k = xo := ⟨_, rfl⟩
        obtain ⟨xt, hxt⟩ : ∃ xt, chT L k = xt := ⟨_, rfl⟩
        rw [hae] at c1 ha hYes hNo
        rw [hqe] at c2 hq hYes hNo
        rw [hxa] at e0 hxk
        rw [hxl] at e1 hxk
        rw [hxo] at e2 hxk
        rw [hxt] at e3 hxk
        rw [hxk] at hYes hNo
        have HYes := hide hYes
        have HNo := hide hNo
        have HFs := hide hFs
        have HDK := hide hdk
        obtain ⟨X7, hX7⟩ : ∃ X7, X7 = wr.alloc (.cells #[.bool xa, .int .i8 xl, .int .i8 xo, .int .i8 xt] 63) := ⟨_, rfl⟩
        have hb7 : Below wr.heap.size wr X7 := by rw [hX7]; exact (Below.refl _ _).alloc (Nat.le_refl _) _
        have b7 := step_below hb7 bw
        have R7 : X7.heap[wr.heap.size]? = some (.cells #[.bool xa, .int .i8 xl, .int .i8 xo, .int .i8 xt] 63 (0, 0)) := by rw [hX7]; exact heap_alloc_new _ _
        have G7 := G6.keep hb7
        have D7 := D6.keep hb7
        have M7 := (hb7.block _ (Array.getElem?_eq_some_iff.1 M6).1).trans M6
        have A7 := HAw.out.below b7
        have n7 := (hb7.cell (p := ⟨bt, ot + k * 2, none⟩) hbt).trans c1
        have p7 := (hb7.cell (p := ⟨bt, ot + k * 2 + 1, none⟩) hbt).trans c2
        have m0 := cell_of_row _ _ 0 _ _ _ M7
        have m1 := cell_of_row _ _ 1 _ _ _ M7
        have x0 := cell_of_row _ _ 0 _ _ _ R7
        have x1 := cell_of_row _ _ 1 _ _ _ R7
        have x2 := cell_of_row _ _ 2 _ _ _ R7
        have x3 := cell_of_row _ _ 3 _ _ _ R7
        simp at m0 m1 x0 x1 x2 x3
        have KO := fun W hW => offers_any S a q A c hl (xa, xl, xo, xt) W ha hq (by omega) hW n2 HG.out
        obtain ⟨ob, hob⟩ : ∃ ob, ob = decide ((xa, xl, xo, xt) ∈ chS S hl a q) := ⟨_, rfl⟩
        rw [← hob] at KO
        have HOB := hide hob
        go_upto_region 10 with fail
        rw [← hX7]
        obtain ⟨gx, hgx⟩ : ∃ gx, gx = wr.heap.size := ⟨_, rfl⟩
        rw [← hgx] at R7 x0 x1 x2 x3 ⊢
        have hdx : gd < gx := by omega
        have hbtd : bt ≠ gd := by omega
        clear hob hX7 hgx hae hqe hxa hxl hxo hxt hxk hYes hNo hFs hdk c1 c2 e0 e1 e2 e3 G6 D6 M6
        have hWd : Below X7.heap.size X7 X7.drew := (Below.refl _ _).drew
        refine wp_region_held_drew (S := fun Y => Y.cell? ⟨gm, 0, none⟩ = some (.int .i64 S) ∧ Y.cell? ⟨gm, 1, none⟩ = some (.slice A hl.length c) ∧ Y.cell? ⟨bt, ot + k * 2, none⟩ = some (.int .i16 a) ∧ Y.cell? ⟨bt, ot + k * 2 + 1, none⟩ = some (.int .i8 q) ∧ Y.cell? ⟨gx, 0, none⟩ = some (.bool xa) ∧ Y.cell? ⟨gx, 1, none⟩ = some (.int .i8 xl) ∧ Y.cell? ⟨gx, 2, none⟩ = some (.int .i8 xo) ∧ Y.cell? ⟨gx, 3, none⟩ = some (.int .i8 xt)) (by kernel_rfl) ⟨m0, m1, n7, p7, x0, x1, x2, x3⟩ fun hS => ?_
        clear m0 m1 n7 p7 x0 x1 x2 x3
        have b7 := step_below hWd b7
        generalize X7.drew = W1 at *
        refine wpAnyH_take (i := 0) (v := .agg #[.int .i64 S, .slice A hl.length c]) rfl (by kernel_rfl) (by kernel_rfl) (by kernel_rfl) (fun _ _ _ h => h) (Or.inl ⟨by rfl, fun w' h => ?_⟩) hS ?_
        · have c0 := h.1
          have c1 := h.2.1
          clear h
          go_simp
        change wpAnyH _ _ _ _ _ _ _ (Act.put _ (some 48) _) _
        simp only [Act.put, List.setIfInBounds_toArray, List.set_cons_zero, List.set_cons_succ]
        refine wpAnyH_take (i := 1) (v := .slice (some ⟨bt, ot, none⟩) t.length ct) rfl (by kernel_rfl) (by kernel_rfl) (by kernel_rfl) (fun _ _ _ h => h) (Or.inl ⟨by rfl, fun w' _ => by go_simp⟩) hS ?_
        change wpAnyH _ _ _ _ _ _ _ (Act.put _ (some 49) _) _
        simp only [Act.put, List.setIfInBounds_toArray, List.set_cons_zero, List.set_cons_succ]
        refine wpAnyH_take (i := 2) (v := .int .i64 k) rfl (by kernel_rfl) (by kernel_rfl) (by kernel_rfl) (fun _ _ _ h => h) (Or.inl ⟨by rfl, fun w' _ => by go_simp⟩) hS ?_
        change wpAnyH _ _ _ _ _ _ _ (Act.put _ (some 50) _) _
        simp only [Act.put, List.setIfInBounds_toArray, List.set_cons_zero, List.set_cons_succ]
        refine wpAnyH_take (i := 3) (v := .pointer (some ⟨bt, ot + k * 2, none⟩)) rfl (by kernel_rfl) (by kernel_rfl) (by kernel_rfl) (fun _ _ _ h => h) (Or.inl ⟨by rfl, fun w' _ => by go_simp⟩) hS ?_
        change wpAnyH _ _ _ _ _ _ _ (Act.put _ (some 51) _) _
        simp only [Act.put, List.setIfInBounds_toArray, List.set_cons_zero, List.set_cons_succ]
        refine wpAnyH_take (i := 4) (v := .agg #[.int .i16 a, .int .i8 q]) rfl (by kernel_rfl) (by kernel_rfl) (by kernel_rfl) (fun _ _ _ h => h) (Or.inl ⟨by rfl, fun w' h => ?_⟩) hS ?_
        · have c0 := h.1
          have c1 := h.2.1
          have c2 := h.2.2.1
          have c3 := h.2.2.2.1
          clear h
          go_simp
        change wpAnyH _ _ _ _ _ _ _ (Act.put _ (some 52) _) _
        simp only [Act.put, List.setIfInBounds_toArray, List.set_cons_zero, List.set_cons_succ]
        refine wpAnyH_take (i := 5) (v := .agg #[.bool xa, .int .i8 xl, .int .i8 xo, .int .i8 xt]) rfl (by kernel_rfl) (by kernel_rfl) (by kernel_rfl) (fun _ _ _ h => h) (Or.inl ⟨by rfl, fun w' h => ?_⟩) hS ?_
        · have c0 := h.1
          have c1 := h.2.1
          have c2 := h.2.2.1
          have c3 := h.2.2.2.1
          have c4 := h.2.2.2.2.1
          have c5 := h.2.2.2.2.2.1
          have c6 := h.2.2.2.2.2.2.1
          have c7 := h.2.2.2.2.2.2.2
          clear h
          go_simp
        change wpAnyH _ _ _ _ _ _ _ (Act.put _ (some 53) _) _
        simp only [Act.put, List.setIfInBounds_toArray, List.set_cons_zero, List.set_cons_succ]
        refine wpAnyH_ready (rs := [6]) (by kernel_rfl) (by simp) (AllReadyH.cons rfl ?_ AllReadyH.nil)
        intro K hK
        rw [if_pos (by rfl)]
        go_simp
        refine (KO W1 (A7.below hWd)).mono ?_
        rintro e W2 ⟨rfl, hbc1⟩
        have b8 := step_below hbc1 b7
        refine hK.out _ _ ⟨(hbc1.cell (p := ⟨_, _, none⟩) (World.block_lt_of_cell? _ _ hS.1)).trans hS.1, (hbc1.cell (p := ⟨_, _, none⟩) (World.block_lt_of_cell? _ _ hS.2.1)).trans hS.2.1, (hbc1.cell (p := ⟨_, _, none⟩) (World.block_lt_of_cell? _ _ hS.2.2.1)).trans hS.2.2.1, (hbc1.cell (p := ⟨_, _, none⟩) (World.block_lt_of_cell? _ _ hS.2.2.2.1)).trans hS.2.2.2.1, (hbc1.cell (p := ⟨_, _, none⟩) (World.block_lt_of_cell? _ _ hS.2.2.2.2.1)).trans hS.2.2.2.2.1, (hbc1.cell (p := ⟨_, _, none⟩) (World.block_lt_of_cell? _ _ hS.2.2.2.2.2.1)).trans hS.2.2.2.2.2.1, (hbc1.cell (p := ⟨_, _, none⟩) (World.block_lt_of_cell? _ _ hS.2.2.2.2.2.2.1)).trans hS.2.2.2.2.2.2.1, (hbc1.cell (p := ⟨_, _, none⟩) (World.block_lt_of_cell? _ _ hS.2.2.2.2.2.2.2)).trans hS.2.2.2.2.2.2.2⟩ (fun hS1 => ?_)
        clear hK K
        try (change wpAnyH _ _ _ _ _ _ _ (Act.put _ (some 54) _) _)
        try simp only [Act.put, List.setIfInBounds_toArray, List.set_cons_zero, List.set_cons_succ]
        refine wpAnyH_take (i := 7) (v := .bool ob) rfl (by kernel_rfl) (by kernel_rfl) (by kernel_rfl) (fun _ _ _ h => h) (Or.inl ⟨by rfl, fun w' _ => by go_simp⟩) hS1 ?_
        change wpAnyH _ _ _ _ _ _ _ (Act.put _ (some 13) _) _
        simp only [Act.put, List.setIfInBounds_toArray, List.set_cons_zero, List.set_cons_succ]
        refine wpAnyH_done (by kernel_rfl) ?_ _
        have hc7 : Below X7.heap.size X7 W2 := hWd.trans (hbc1.mono hWd.size)
        have G8 := G7.keep hc7
        have D8 := D7.keep hc7
        have M8 := (hc7.block _ (Array.getElem?_eq_some_iff.1 M7).1).trans M7
        have A8 := A7.below hc7
        have hsz8 := hc7.size
        have hsz7 := hb7.size
        clear hS KO hbc1 hWd hc7 G7 D7 M7 A7 R7 hb7
        cases ob
        · have hnot : ¬ (xa, xl, xo, xt) ∈ chS S hl a q := of_decide_eq_false HOB.out.symm
          have HR := hide (dfR_4 (p := p) HQ.out (HFs.out (HNo.out fun h => hnot h.1)))
          have HZ := hide (show W2.heap[w.heap.size + 1]? = some (.cells (da fun _ => 0) 53 (0, 0)) from D8)
          clear hnot hS1
          go_wp2_with (first | (with_reducible refine wpList_build0 rfl rfl ?_) | (with_reducible refine wpList_store_row rfl 53 (.tmp 6) (.tmp 69) rfl (w.heap.size + 1) (da fun _ => 0) rfl rfl 53 _ HZ.out (by rw [da_size]; exact info53) (by simp only [da_size]) (da_one _) ?_))
          exact bodyPost_ret (v := .tuple #[.agg (da fun _ => 0), unfitV k]) (results_dr Tryz.results24 _ _ (w.heap.size + 1) 53 _ _ (by simp) (by simp) (setRow_heap _ _ _ _ _ _ HZ.out)) rfl ⟨by rw [HR.out.2.1, HR.out.2.2], below_setRow b8 (by omega)⟩
        · have hyes : (xa, xl, xo, xt) ∈ chS S hl a q := of_decide_eq_true HOB.out.symm
          go_upto_region 12 with fail
          clear b7 W1
          have HYS := hide hyes
          have KP := fun W hW => placed_any S A c hl d a q xa xl xo xt W ha hq (by omega) hW n2 HG.out hdw hyes
          obtain ⟨pb, hpb⟩ : ∃ pb, pb = plO S hl d a (xa, xl, xo, xt) := ⟨_, rfl⟩
          obtain ⟨dd, hdd⟩ : ∃ dd, dd = plD S hl d a (xa, xl, xo, xt) := ⟨_, rfl⟩
          rw [← hpb, ← hdd] at KP
          have HPB := hide hpb
          have HDD := hide hdd
          clear hpb hdd hyes
          have hWd : Below W2.heap.size W2 W2.drew := (Below.refl _ _).drew
          have A7 := A8
          have D9 := G8.keep hWd
          refine wp_region_held_drew (S := fun Y => Y.cell? ⟨gm, 0, none⟩ = some (.int .i64 S) ∧ Y.cell? ⟨gm, 1, none⟩ = some (.slice A hl.length c) ∧ Y.cell? ⟨bt, ot + k * 2, none⟩ = some (.int .i16 a) ∧ Y.cell? ⟨bt, ot + k * 2 + 1, none⟩ = some (.int .i8 q) ∧ Y.cell? ⟨gx, 0, none⟩ = some (.bool xa) ∧ Y.cell? ⟨gx, 1, none⟩ = some (.int .i8 xl) ∧ Y.cell? ⟨gx, 2, none⟩ = some (.int .i8 xo) ∧ Y.cell? ⟨gx, 3, none⟩ = some (.int .i8 xt)) (by kernel_rfl) hS1 fun hS => ?_
          clear hS1
          have b8 := step_below hWd b8
          generalize W2.drew = V1 at *
          refine wpAnyH_take (i := 0) (v := .agg #[.int .i64 S, .slice A hl.length c]) rfl (by kernel_rfl) (by kernel_rfl) (by kernel_rfl) (fun _ _ _ h => h) (Or.inl ⟨by rfl, fun w' h => ?_⟩) hS ?_
          · have c0 := h.1
            have c1 := h.2.1
            clear h
            go_simp
          change wpAnyH _ _ _ _ _ _ _ (Act.put _ (some 57) _) _
          simp only [Act.put, List.setIfInBounds_toArray, List.set_cons_zero, List.set_cons_succ]
          refine wpAnyH_take (i := 2) (v := .slice (some ⟨bt, ot, none⟩) t.length ct) rfl (by kernel_rfl) (by kernel_rfl) (by kernel_rfl) (fun _ _ _ h => h) (Or.inl ⟨by rfl, fun w' _ => by go_simp⟩) hS ?_
          change wpAnyH _ _ _ _ _ _ _ (Act.put _ (some 59) _) _
          simp only [Act.put, List.setIfInBounds_toArray, List.set_cons_zero, List.set_cons_succ]
          refine wpAnyH_take (i := 3) (v := .int .i64 k) rfl (by kernel_rfl) (by kernel_rfl) (by kernel_rfl) (fun _ _ _ h => h) (Or.inl ⟨by rfl, fun w' _ => by go_simp⟩) hS ?_
          change wpAnyH _ _ _ _ _ _ _ (Act.put _ (some 60) _) _
          simp only [Act.put, List.setIfInBounds_toArray, List.set_cons_zero, List.set_cons_succ]
          refine wpAnyH_take (i := 4) (v := .pointer (some ⟨bt, ot + k * 2, none⟩)) rfl (by kernel_rfl) (by kernel_rfl) (by kernel_rfl) (fun _ _ _ h => h) (Or.inl ⟨by rfl, fun w' _ => by go_simp⟩) hS ?_
          change wpAnyH _ _ _ _ _ _ _ (Act.put _ (some 61) _) _
          simp only [Act.put, List.setIfInBounds_toArray, List.set_cons_zero, List.set_cons_succ]
          refine wpAnyH_take (i := 5) (v := .agg #[.int .i16 a, .int .i8 q]) rfl (by kernel_rfl) (by kernel_rfl) (by kernel_rfl) (fun _ _ _ h => h) (Or.inl ⟨by rfl, fun w' h => ?_⟩) hS ?_
          · have c0 := h.1
            have c1 := h.2.1
            have c2 := h.2.2.1
            have c3 := h.2.2.2.1
            clear h
            go_simp
          change wpAnyH _ _ _ _ _ _ _ (Act.put _ (some 62) _) _
          simp only [Act.put, List.setIfInBounds_toArray, List.set_cons_zero, List.set_cons_succ]
          refine wpAnyH_take (i := 6) (v := .agg #[.bool xa, .int .i8 xl, .int .i8 xo, .int .i8 xt]) rfl (by kernel_rfl) (by kernel_rfl) (by kernel_rfl) (fun _ _ _ h => h) (Or.inl ⟨by rfl, fun w' h => ?_⟩) hS ?_
          · have c0 := h.1
            have c1 := h.2.1
            have c2 := h.2.2.1
            have c3 := h.2.2.2.1
            have c4 := h.2.2.2.2.1
            have c5 := h.2.2.2.2.2.1
            have c6 := h.2.2.2.2.2.2.1
            have c7 := h.2.2.2.2.2.2.2
            clear h
            go_simp
          change wpAnyH _ _ _ _ _ _ _ (Act.put _ (some 63) _) _
          simp only [Act.put, List.setIfInBounds_toArray, List.set_cons_zero, List.set_cons_succ]
          refine wpAnyH_ready (rs := [1]) (by kernel_rfl) (by simp) (AllReadyH.cons rfl ?_ AllReadyH.nil)
          intro K hK
          rw [if_pos (by rfl)]
          refine wp_load_mid 53 (.tmp 10) rfl gd 0 rfl (dv d) _ D9.range Tryz.underlying53 rfl (dInfo d) ?_
          refine hK.out _ _ hS (fun hS => ?_)
          clear hK K
          try (change wpAnyH _ _ _ _ _ _ _ (Act.put _ (some 58) _) _)
          try simp only [Act.put, List.setIfInBounds_toArray, List.set_cons_zero, List.set_cons_succ]
          refine wpAnyH_ready (rs := [7]) (by kernel_rfl) (by simp) (AllReadyH.cons rfl ?_ AllReadyH.nil)
          intro K hK
          rw [if_pos (by rfl)]
          go_simp
          refine (KP V1 (A7.below hWd)).mono ?_
          rintro e V2 ⟨rfl, hbc1⟩
          have b9 := step_below hbc1 b8
          refine hK.out _ _ ⟨(hbc1.cell (p := ⟨_, _, none⟩) (World.block_lt_of_cell? _ _ hS.1)).trans hS.1, (hbc1.cell (p := ⟨_, _, none⟩) (World.block_lt_of_cell? _ _ hS.2.1)).trans hS.2.1, (hbc1.cell (p := ⟨_, _, none⟩) (World.block_lt_of_cell? _ _ hS.2.2.1)).trans hS.2.2.1, (hbc1.cell (p := ⟨_, _, none⟩) (World.block_lt_of_cell? _ _ hS.2.2.2.1)).trans hS.2.2.2.1, (hbc1.cell (p := ⟨_, _, none⟩) (World.block_lt_of_cell? _ _ hS.2.2.2.2.1)).trans hS.2.2.2.2.1, (hbc1.cell (p := ⟨_, _, none⟩) (World.block_lt_of_cell? _ _ hS.2.2.2.2.2.1)).trans hS.2.2.2.2.2.1, (hbc1.cell (p := ⟨_, _, none⟩) (World.block_lt_of_cell? _ _ hS.2.2.2.2.2.2.1)).trans hS.2.2.2.2.2.2.1, (hbc1.cell (p := ⟨_, _, none⟩) (World.block_lt_of_cell? _ _ hS.2.2.2.2.2.2.2)).trans hS.2.2.2.2.2.2.2⟩ (fun hS1 => ?_)
          clear hK K
          try (change wpAnyH _ _ _ _ _ _ _ (Act.put _ (some 64) _) _)
          try simp only [Act.put, List.setIfInBounds_toArray, List.set_cons_zero, List.set_cons_succ]
          refine wpAnyH_take (i := 8) (v := .tuple #[.agg (da dd), .bool pb]) rfl (by kernel_rfl) (by kernel_rfl) (by kernel_rfl) (fun _ _ _ h => h) (Or.inl ⟨by rfl, fun w' _ => by go_simp⟩) hS1 ?_
          change wpAnyH _ _ _ _ _ _ _ (Act.put _ (some 56) _) _
          simp only [Act.put, List.setIfInBounds_toArray, List.set_cons_zero, List.set_cons_succ]
          refine wpAnyH_take (i := 9) (v := .agg (da dd)) rfl (by kernel_rfl) (by kernel_rfl) (by kernel_rfl) (fun _ _ _ h => h) (Or.inl ⟨by rfl, fun w' _ => by go_simp⟩) hS1 ?_
          change wpAnyH _ _ _ _ _ _ _ (Act.put _ (some 65) _) _
          simp only [Act.put, List.setIfInBounds_toArray, List.set_cons_zero, List.set_cons_succ]
          refine wpAnyH_take (i := 10) (v := .bool pb) rfl (by kernel_rfl) (by kernel_rfl) (by kernel_rfl) (fun _ _ _ h => h) (Or.inl ⟨by rfl, fun w' _ => by go_simp⟩) hS1 ?_
          change wpAnyH _ _ _ _ _ _ _ (Act.put _ (some 66) _) _
          simp only [Act.put, List.setIfInBounds_toArray, List.set_cons_zero, List.set_cons_succ]
          have D10 := D9.keep hbc1
          refine wpAnyH_ready (rs := [11]) (by kernel_rfl) (by simp) (AllReadyH.cons rfl ?_ AllReadyH.nil)
          intro K hK
          rw [if_pos (by rfl)]
          refine wp_store_row 53 (.tmp 10) (.tmp 65) rfl gd (da dd) rfl rfl 53 (da d) D10 (by rw [da_size]; exact info53) (by simp only [da_size]) (da_one _) ?_
          have hgrw := setRow_heap _ _ _ (da dd) _ _ D10
          have hne1 : gd ≠ gm := by omega
          have hsw : ∀ k, k ≠ gd → (V2.setRow gd (da dd)).heap[k]? = V2.heap[k]? := fun k hk => setRow_other _ _ _ _ hk
          refine hK.out _ _ (by obtain ⟨q1, q2, q3, q4, q5, q6, q7, q8⟩ := hS1; exact ⟨(World.cell?_of_block (hsw _ (by dsimp only; omega))).trans q1, (World.cell?_of_block (hsw _ (by dsimp only; omega))).trans q2, (World.cell?_of_block (hsw _ (by dsimp only; omega))).trans q3, (World.cell?_of_block (hsw _ (by dsimp only; omega))).trans q4, (World.cell?_of_block (hsw _ (by dsimp only; omega))).trans q5, (World.cell?_of_block (hsw _ (by dsimp only; omega))).trans q6, (World.cell?_of_block (hsw _ (by dsimp only; omega))).trans q7, (World.cell?_of_block (hsw _ (by dsimp only; omega))).trans q8⟩) (fun hS2 => ?_)
          clear hK K
          refine wpAnyH_take (i := 12) (v := .bool pb) rfl (by kernel_rfl) (by kernel_rfl) (by kernel_rfl) (fun _ _ _ h => h) (Or.inl ⟨by rfl, fun w' _ => by go_simp⟩) hS2 ?_
          change wpAnyH _ _ _ _ _ _ _ (Act.put _ (some 13) _) _
          simp only [Act.put, List.setIfInBounds_toArray]
          refine wpAnyH_done (by kernel_rfl) ?_ _
          have hc8 : Below W2.heap.size W2 V2 := hWd.trans (hbc1.mono hWd.size)
          have D10r := D8.keep hc8
          have M10 := (hc8.block _ (Array.getElem?_eq_some_iff.1 M8).1).trans M8
          have b10 : Below w.heap.size w (V2.setRow gd (da dd)) := below_setRow b9 (by omega)
          obtain ⟨Y, hY⟩ : ∃ Y, Y = V2.setRow gd (da dd) := ⟨_, rfl⟩
          rw [← hY] at hgrw hsw b10 hS2 ⊢
          have GY : Dr Y gd 53 dd := hgrw
          have DY : Dr Y (w.heap.size + 1) 53 (fun _ => 0) := (hsw _ (by omega)).trans D10r
          have MY := (hsw gm (by omega)).trans M10
          have hszY : X6.heap.size ≤ Y.heap.size := by rw [hY]; have h1 := (setRow_size' V2 gd (da dd)); have := hc8.size; omega
          clear hY D8 M8 G8 D9 D10 D10r M10 hS hS2 KP hWd hbc1
          cases pb
          · have HR := hide (dfR_4 (p := p) HQ.out (HFs.out (HNo.out fun h => by rw [← HPB.out] at h; exact absurd h.2 (by decide))))
            have HZ := hide (show Y.heap[w.heap.size + 1]? = some (.cells (da fun _ => 0) 53 (0, 0)) from DY)
            go_wp2_with (first | (with_reducible refine wpList_build0 rfl rfl ?_) | (with_reducible refine wpList_store_row rfl 53 (.tmp 6) (.tmp 69) rfl (w.heap.size + 1) (da fun _ => 0) rfl rfl 53 _ HZ.out (by rw [da_size]; exact info53) (by simp only [da_size]) (da_one _) ?_))
            exact bodyPost_ret (v := .tuple #[.agg (da fun _ => 0), unfitV k]) (results_dr Tryz.results24 _ _ (w.heap.size + 1) 53 _ _ (by simp) (by simp) (setRow_heap _ _ _ _ _ _ HZ.out)) rfl ⟨by rw [HR.out.2.1, HR.out.2.2], below_setRow b10 (by omega)⟩
          · have HDN := hide (show dfS S hl t L (k + 1) = some dd by rw [HYes.out HYS.out HPB.out.symm, HDD.out, plD, if_pos HPB.out.symm])
            go_wp2_with fail
            go_roundw
            case rel => exact ⟨k + 1, dd, hlt, by go_num, HDN.out, GY, DY, MY, b10, hszY⟩
            case measure => simp [intOf]; omega
      · obtain rfl : k = L.length := by omega
        have HR := hide (dfR_0 (p := p) HQ.out (dfF_none hdk) hdk)
        have HZ := hide (show wr.heap[w.heap.size + 1]? = some (.cells (da fun _ => 0) 53 (0, 0)) from D6)
        have HG6 := hide G6.range
        go_wp2_with (first | (with_reducible refine wpList_load_da rfl 53 (.tmp 10) rfl gd 0 rfl d _ HG6.out Tryz.underlying53 rfl (dInfo d) ?_) | (with_reducible refine wpList_store_row rfl 53 (.tmp 6) (.tmp 74) rfl (w.heap.size + 1) (da d) rfl rfl 53 _ HZ.out (by rw [da_size]; exact info53) (by simp only [da_size]) (da_one _) ?_))
        exact bodyPost_ret (v := .tuple #[.agg (da d), .nilIface]) (results_dr Tryz.results24 _ _ (w.heap.size + 1) 53 _ _ (by simp) (by simp) (setRow_heap _ _ _ _ _ _ HZ.out)) rfl ⟨by rw [HR.out.2.1, HR.out.2.2], below_setRow bw (by omega)⟩
  · have hnei : ((L.length : Int) != (t.length : Int)) = true := by simp; omega
    have HR := hide (dfR_2 (p := p) (dfQ_uneven (s := S) (hl := hl) HAll.out hne))
    have HZ := hide (show w5.heap[w.heap.size + 1]? = some (.cells (da fun _ => 0) 53 (0, 0)) from D5)
    clear hne
    go_wp2_with (first | (with_reducible refine wpList_build0 rfl rfl ?_) | (with_reducible refine wpList_store_row rfl 53 (.tmp 6) (.tmp 38) rfl (w.heap.size + 1) (da fun _ => 0) rfl rfl 53 _ HZ.out (by rw [da_size]; exact info53) (by simp only [da_size]) (da_one _) ?_))
    exact bodyPost_ret (v := .tuple #[.agg (da fun _ => 0), unevenV]) (results_dr Tryz.results24 _ _ (w.heap.size + 1) 53 _ _ (by simp) (by simp) (setRow_heap _ _ _ _ _ _ HZ.out)) rfl ⟨by rw [HR.out.2.1, HR.out.2.2], below_setRow b5 (by omega)⟩
end Go.Proofs.YtcepjiglhlmgdaaGreatDoor
