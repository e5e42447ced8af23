import Derived.Test.YtcepjiglhlmgdaaGreatDoorPut7
import Derived.Test.YtcepjiglhlmgdaaGreatDoorDrf
namespace Go.Proofs.YtcepjiglhlmgdaaGreatDoor
open Go.RowKit
/-- the drum, and the index of the first choice that does not fit -/
def fiD (S : Nat) (hl t : List (Int × Int)) (L : List Xc) : Nat → Int := match dfF S hl t L with | some _ => fun _ => 0 | none => (dfS S hl t L L.length).getD fun _ => 0
def fiI (S : Nat) (hl t : List (Int × Int)) (L : List Xc) : Int := match dfF S hl t L with | some k => (k : Int) | none => -1
theorem fi_some {S : Nat} {hl t : List (Int × Int)} {L : List Xc} {k : Nat} (h : dfF S hl t L = some k) : fiD S hl t L = (fun _ => 0) ∧ fiI S hl t L = k := by
  constructor
  · unfold fiD; rw [h]
  · unfold fiI; rw [h]
theorem fi_none {S : Nat} {hl t : List (Int × Int)} {L : List Xc} {d : Nat → Int} (h : dfS S hl t L L.length = some d) : fiD S hl t L = d ∧ fiI S hl t L = -1 := by
  have hf := dfF_none h
  constructor
  · unfold fiD; rw [hf, h]; rfl
  · unfold fiI; rw [hf]
theorem take_mem {CH : List (Bool × Int × Int × Int)} {k : Nat} {x : Bool × Int × Int × Int} (h : k < CH.length) : decide (x ∈ CH.take (k + 1)) = (decide (x ∈ CH.take k) || decide ((chA CH k, chL CH k, chO CH k, chT CH k) = x)) := by
  have hs : CH.take (k + 1) = CH.take k ++ [CH[k]] := List.take_succ_eq_append_getElem h
  have hg : (chA CH k, chL CH k, chO CH k, chT CH k) = CH[k] := ch_get CH k h
  rw [hg]
  simp only [hs, List.mem_append, List.mem_singleton]
  by_cases h1 : x ∈ CH.take k
  · simp [h1]
  · by_cases h2 : CH[k] = x
    · simp [h2]
    · have h3 : ¬ x = CH[k] := fun e => h2 e.symm
      simp [h1, h2, h3]
theorem FP.of {w w' : World} {b : Nat} {s : Int} {A : Option Addr} {n c : Nat} (h : FP w b s A n c) (hb : Below w.heap.size w w') : FP w' b s A n c := h.keep hb
theorem chS_len (s : Int) (hl : List (Int × Int)) (a p : Int) (hn : hl.length ≤ 24) : (chS s hl a p).length ≤ 1048576 := by
  have h1 := foI_len s hl a p 7 (by omega)
  rw [foI_all] at h1
  rw [chS, List.length_append]
  simp
  omega
theorem ne_parts {ya xa : Bool} {yl yo yt xl xo xt : Int} (h : ¬ (ya, yl, yo, yt) = (xa, xl, xo, xt)) : ¬ (ya = xa ∧ yl = xl ∧ yo = xo ∧ yt = xt) := fun ⟨h1, h2, h3, h4⟩ => h (by rw [h1, h2, h3, h4])
set_option maxRecDepth 20000 in
set_option maxHeartbeats 4000000 in
theorem l07Fit_any (b : Nat) (S : Nat) (A : Option Addr) (c : Nat) (hl : List (Int × Int)) (B : Option Addr) (ct : Nat) (t : List (Int × Int)) (C : Option Addr) (cl : Nat) (L : List Xc) (w : World) (hF : FP w b S A hl.length c) (hA : HA w A hl) (hS0 : 2 ≤ S ∧ S ≤ 96) (hn : hl.length ≤ 24) (hg : HG S hl hl.length)
    (hB : NA w B t) (hok : okB t = true) (hC : ChA w C L) (hlen : L.length = t.length) :
    Calls Tryz.prog 20 #[.pointer (some ⟨b, 0, none⟩), .slice B t.length ct, .slice C L.length cl] w fun e w' => e = .returned (.tuple #[.agg (da (fiD S hl t L)), .int .i64 (fiI S hl t L)]) ∧ Below w.heap.size w w' := by
  have hz := zeroDrum
  obtain ⟨t1, t2⟩ := okB_getP hok
  have HT2 := hide t2
  have HG := hide hg
  have hbl := hF.lt
  obtain ⟨RD, hRD⟩ : ∃ RD, RD = fiD S hl t L := ⟨_, rfl⟩
  obtain ⟨RI, hRI⟩ : ∃ RI, RI = fiI S hl t L := ⟨_, rfl⟩
  rw [← hRD, ← hRI]
  have HRD := hide hRD
  have HRI := hide hRI
  have HLEN := hide hlen
  have hzz : za.size = (da fun _ => 0).size := by rw [za_eq]
  clear hRD hRI t2 hok hg hlen
  go_enter Tryz.func20, Tryz.ntmps20
  go_upto_region 1 with fail
  obtain ⟨X0, hX0⟩ : ∃ X0, X0 = w.alloc (.cells za 53) := ⟨_, rfl⟩
  have b00 : Below w.heap.size w X0 := by rw [hX0]; exact (Below.refl _ _).alloc (Nat.le_refl _) _
  have Z00 : Dr X0 w.heap.size 53 (fun _ => 0) := by rw [hX0, za_eq]; exact heap_alloc_new _ _
  have HSZ := hide (show X0.heap.size = w.heap.size + 1 by rw [hX0]; simp)
  rw [← hX0]
  clear hX0
  go_upto_region 2 with (first | (with_reducible refine wpList_build0 rfl rfl ?_) | (with_reducible refine wpList_store_new rfl 53 (.tmp 8) (.tmp 13) rfl (fun _ => 0) rfl rfl 53 _ (dInfo fun _ => 0) hzz ?_))
  obtain ⟨X, hX⟩ : ∃ X, X = X0.alloc (.cells (da fun _ => 0) 53) := ⟨_, rfl⟩
  have hb0 : Below X0.heap.size X0 X := by rw [hX]; exact (Below.refl _ _).alloc (Nat.le_refl _) _
  have b0 : Below w.heap.size w X := step_below hb0 b00
  have Z0 := Z00.keep hb0
  have G0 : Dr X (w.heap.size + 1) 53 (fun _ => 0) := by rw [hX, ← HSZ.out]; exact heap_alloc_new _ _
  rw [← hX, HSZ.out]
  clear hX hb0 b00 Z00 HSZ
  go_wp2_with fail
  go_loopw [9, 10, 11, 12] (fun iv _ _ _ wr => ∃ (i : Nat) (d : Nat → Int), i ≤ t.length ∧ iv = .int .i64 i ∧ dfS S hl t L i = some d ∧ Dr wr (w.heap.size + 1) 53 d ∧ Dr wr w.heap.size 53 (fun _ => 0) ∧ Below w.heap.size w wr)
    (fun iv _ _ _ _ => t.length - (intOf iv).toNat)
  case atStart => exact ⟨0, _, Nat.zero_le _, rfl, rfl, G0, Z0, b0⟩
  case round =>
    clear G0 Z0 b0
    obtain ⟨i, d, hi, rfl, hdk, G1, Z1, bw⟩ := hrel
    by_cases hlt : i < t.length
    · have hltL : i < L.length := by rw [HLEN.out]; exact hlt
      obtain ⟨bt, ot, hBe, hbt', c1', c2'⟩ := hB i hlt
      obtain ⟨bc, oc, hCe, hbc', e0', e1', e2', e3'⟩ := hC i hltL
      subst hBe hCe
      have c1 := (bw.cell (p := ⟨bt, _, none⟩) hbt').trans c1'
      have c2 := (bw.cell (p := ⟨bt, _, none⟩) hbt').trans c2'
      obtain ⟨ha, hq⟩ := HT2.out i hlt
      have hii : (i : Int) < (t.length : Int) := by omega
      have hiL : (i : Int) < (L.length : Int) := by omega
      have hYes := dfS_yes hdk
      have hNo := dfS_no hdk
      have hFs := dfF_some hltL hdk
      have hdw := dfS_wf hdk
      have hxk : xk L i = (chA L i, chL L i, chO L i, chT L i) := rfl
      obtain ⟨a, hae⟩ : ∃ a, nAt t i = a := ⟨_, rfl⟩
      obtain ⟨q, hqe⟩ : ∃ q, nPi t i = q := ⟨_, rfl⟩
      obtain ⟨xa, hxa⟩ : ∃ xa, chA L i = xa := ⟨_, rfl⟩
      obtain ⟨xl, hxl⟩ : ∃ xl, chL L i = xl := ⟨_, rfl⟩
      obtain ⟨xo, hxo⟩ : ∃ xo, chO L i = xo := ⟨_, rfl⟩
      obtain ⟨xt, hxt⟩ : ∃ xt, chT L i = xt := ⟨_, rfl⟩
      rw [hae] at c1 c1' ha hYes hNo
      rw [hqe] at c2 c2' hq hYes hNo
      rw [hxa] at e0' hxk
      rw [hxl] at e1' hxk
      rw [hxo] at e2' hxk
      rw [hxt] at e3' hxk
      rw [hxk] at hYes hNo
      have HYes := hide hYes
      have HNo := hide hNo
      have HFs := hide hFs
      have HDK := hide hdk
      have KFor := fun W (h1 : FP W b S A hl.length c) (h2 : HA W A hl) => l07For_any b S A c hl a q W h1 h2 ha hq (by omega) hn
      obtain ⟨CH, hCH⟩ : ∃ CH, CH = chS S hl a q := ⟨_, rfl⟩
      rw [← hCH] at KFor hYes hNo
      have HCH := hide hCH
      clear hae hqe hxa hxl hxo hxt hxk hYes hNo hFs hdk hCH
      go_wp2_with fail
      refine (KFor wr (FP.of hF bw) (hA.below bw)).mono ?_
      rintro e w1 ⟨C5, q5, rfl, own5, hb1⟩
      have b1 := step_below hb1 bw
      have G2 := G1.keep hb1
      have Z2 := Z1.keep hb1
      have ACH := ChA.of_own own5
      have hCHl : CH.length ≤ 1048576 := by rw [HCH.out]; exact chS_len _ _ _ _ hn
      clear c1 c2 G1 Z1 own5 KFor
      go_wp2_with fail
      go_loopw [11, 12] (fun sb kv wr => ∃ (k : Nat) (s' : Bool), k ≤ CH.length ∧ kv = .int .i64 k ∧ sb = .bool s' ∧ s' = decide ((xa, xl, xo, xt) ∈ CH.take k) ∧ Below w1.heap.size w1 wr)
        (fun _ kv _ => CH.length - (intOf kv).toNat)
      case atStart => exact ⟨0, false, Nat.zero_le _, rfl, rfl, by simp, Below.refl _ _⟩
      case round =>
        obtain ⟨k, s', hk, rfl, rfl, hs', bk⟩ := hrel
        by_cases hkl : k < CH.length
        · have hkk : (k : Int) < (CH.length : Int) := by omega
          have hTM := take_mem (x := (xa, xl, xo, xt)) hkl
          rw [← hs'] at hTM
          have hWd : Below wr.heap.size wr wr.drew := (Below.refl _ _).drew
          have bk2 := bk.trans (hWd.mono bk.size)
          cases s'
          · obtain ⟨ba, oa, hAe, hba, y0', y1', y2', y3'⟩ := ACH k hkl
            subst hAe
            obtain ⟨ya, hya⟩ : ∃ ya, chA CH k = ya := ⟨_, rfl⟩
            obtain ⟨yl, hyl⟩ : ∃ yl, chL CH k = yl := ⟨_, rfl⟩
            obtain ⟨yo, hyo⟩ : ∃ yo, chO CH k = yo := ⟨_, rfl⟩
            obtain ⟨yt, hyt⟩ : ∃ yt, chT CH k = yt := ⟨_, rfl⟩
            rw [hya] at y0' hTM
            rw [hyl] at y1' hTM
            rw [hyo] at y2' hTM
            rw [hyt] at y3' hTM
            have y0 := (bk2.cell (p := ⟨ba, _, none⟩) hba).trans y0'
            have y1 := (bk2.cell (p := ⟨ba, _, none⟩) hba).trans y1'
            have y2 := (bk2.cell (p := ⟨ba, _, none⟩) hba).trans y2'
            have y3 := (bk2.cell (p := ⟨ba, _, none⟩) hba).trans y3'
            have bW := b1.trans (bk2.mono b1.size)
            have e0 := (bW.cell (p := ⟨bc, _, none⟩) hbc').trans e0'
            have e1 := (bW.cell (p := ⟨bc, _, none⟩) hbc').trans e1'
            have e2 := (bW.cell (p := ⟨bc, _, none⟩) hbc').trans e2'
            have e3 := (bW.cell (p := ⟨bc, _, none⟩) hbc').trans e3'
            clear hs' hya hyl hyo hyt y0' y1' y2' y3'
            by_cases hyx : (ya, yl, yo, yt) = (xa, xl, xo, xt)
            · have HTM := hide (show true = decide ((xa, xl, xo, xt) ∈ CH.take (k + 1)) by rw [hTM, decide_eq_true hyx]; rfl)
              obtain ⟨h1, h2, h3, h4⟩ : xa = ya ∧ xl = yl ∧ xo = yo ∧ xt = yt := by simpa [eq_comm] using hyx
              clear hTM hyx
              subst h1 h2 h3 h4
              go_upto_region 10 with fail
              refine wp_region_held_drew (S := fun Y => Y.cell? ⟨ba, oa + k * 4, none⟩ = some (.bool xa) ∧ Y.cell? ⟨ba, oa + k * 4 + 1, none⟩ = some (.int .i8 xl) ∧ Y.cell? ⟨ba, oa + k * 4 + 2, none⟩ = some (.int .i8 xo) ∧ Y.cell? ⟨ba, oa + k * 4 + 3, none⟩ = some (.int .i8 xt) ∧ Y.cell? ⟨bc, oc + i * 4, none⟩ = some (.bool xa) ∧ Y.cell? ⟨bc, oc + i * 4 + 1, none⟩ = some (.int .i8 xl) ∧ Y.cell? ⟨bc, oc + i * 4 + 2, none⟩ = some (.int .i8 xo) ∧ Y.cell? ⟨bc, oc + i * 4 + 3, none⟩ = some (.int .i8 xt)) (by kernel_rfl) ⟨y0, y1, y2, y3, e0, e1, e2, e3⟩ fun hS => ?_
              clear y0 y1 y2 y3 e0 e1 e2 e3 hWd bW
              generalize wr.drew = W1 at *
              refine wpAnyH_take (i := 0) (v := .bool false) rfl (by kernel_rfl) (by kernel_rfl) (by kernel_rfl) (fun _ _ _ h => h) (Or.inl ⟨by rfl, fun w' _ => by go_simp⟩) hS ?_
              change wpAnyH _ _ _ _ _ _ _ (Act.put _ (some 32) _) _
              simp only [Act.put, List.setIfInBounds_toArray, List.set_cons_zero, List.set_cons_succ]
              refine wpAnyH_take (i := 1) (v := .bool false) rfl (by kernel_rfl) (by kernel_rfl) (by kernel_rfl) (fun _ _ _ h => h) (Or.inl ⟨by rfl, fun w' _ => by go_simp⟩) hS ?_
              change wpAnyH _ _ _ _ _ _ _ (Act.put _ (some 33) _) _
              simp only [Act.put, List.setIfInBounds_toArray, List.set_cons_zero, List.set_cons_succ]
              refine wpAnyH_take (i := 2) (v := .slice (some ⟨ba, oa, none⟩) CH.length q5) rfl (by kernel_rfl) (by kernel_rfl) (by kernel_rfl) (fun _ _ _ h => h) (Or.inl ⟨by rfl, fun w' _ => by go_simp⟩) hS ?_
              change wpAnyH _ _ _ _ _ _ _ (Act.put _ (some 34) _) _
              simp only [Act.put, List.setIfInBounds_toArray, List.set_cons_zero, List.set_cons_succ]
              refine wpAnyH_take (i := 3) (v := .int .i64 k) rfl (by kernel_rfl) (by kernel_rfl) (by kernel_rfl) (fun _ _ _ h => h) (Or.inl ⟨by rfl, fun w' _ => by go_simp⟩) hS ?_
              change wpAnyH _ _ _ _ _ _ _ (Act.put _ (some 35) _) _
              simp only [Act.put, List.setIfInBounds_toArray, List.set_cons_zero, List.set_cons_succ]
              refine wpAnyH_take (i := 4) (v := .pointer (some ⟨ba, oa + k * 4, none⟩)) rfl (by kernel_rfl) (by kernel_rfl) (by kernel_rfl) (fun _ _ _ h => h) (Or.inl ⟨by rfl, fun w' _ => by go_simp⟩) hS ?_
              change wpAnyH _ _ _ _ _ _ _ (Act.put _ (some 36) _) _
              simp only [Act.put, List.setIfInBounds_toArray, List.set_cons_zero, List.set_cons_succ]
              refine wpAnyH_take (i := 5) (v := .agg #[.bool xa, .int .i8 xl, .int .i8 xo, .int .i8 xt]) rfl (by kernel_rfl) (by kernel_rfl) (by kernel_rfl) (fun _ _ _ h => h) (Or.inl ⟨by rfl, fun w' h => ?_⟩) hS ?_
              · have c0 := h.1
                have c1 := h.2.1
                have c2 := h.2.2.1
                have c3 := h.2.2.2.1
                have c4 := h.2.2.2.2.1
                have c5 := h.2.2.2.2.2.1
                have c6 := h.2.2.2.2.2.2.1
                have c7 := h.2.2.2.2.2.2.2
                clear h
                go_simp
              change wpAnyH _ _ _ _ _ _ _ (Act.put _ (some 37) _) _
              simp only [Act.put, List.setIfInBounds_toArray, List.set_cons_zero, List.set_cons_succ]
              refine wpAnyH_take (i := 6) (v := .slice (some ⟨bc, oc, none⟩) L.length cl) rfl (by kernel_rfl) (by kernel_rfl) (by kernel_rfl) (fun _ _ _ h => h) (Or.inl ⟨by rfl, fun w' _ => by go_simp⟩) hS ?_
              change wpAnyH _ _ _ _ _ _ _ (Act.put _ (some 38) _) _
              simp only [Act.put, List.setIfInBounds_toArray, List.set_cons_zero, List.set_cons_succ]
              refine wpAnyH_take (i := 7) (v := .int .i64 i) rfl (by kernel_rfl) (by kernel_rfl) (by kernel_rfl) (fun _ _ _ h => h) (Or.inl ⟨by rfl, fun w' _ => by go_simp⟩) hS ?_
              change wpAnyH _ _ _ _ _ _ _ (Act.put _ (some 39) _) _
              simp only [Act.put, List.setIfInBounds_toArray, List.set_cons_zero, List.set_cons_succ]
              refine wpAnyH_take (i := 8) (v := .pointer (some ⟨bc, oc + i * 4, none⟩)) rfl (by kernel_rfl) (by kernel_rfl) (by kernel_rfl) (fun _ _ _ h => h) (Or.inl ⟨by rfl, fun w' _ => by go_simp⟩) hS ?_
              change wpAnyH _ _ _ _ _ _ _ (Act.put _ (some 40) _) _
              simp only [Act.put, List.setIfInBounds_toArray, List.set_cons_zero, List.set_cons_succ]
              refine wpAnyH_take (i := 9) (v := .agg #[.bool xa, .int .i8 xl, .int .i8 xo, .int .i8 xt]) rfl (by kernel_rfl) (by kernel_rfl) (by kernel_rfl) (fun _ _ _ h => h) (Or.inl ⟨by rfl, fun w' h => ?_⟩) hS ?_
              · have c0 := h.1
                have c1 := h.2.1
                have c2 := h.2.2.1
                have c3 := h.2.2.2.1
                have c4 := h.2.2.2.2.1
                have c5 := h.2.2.2.2.2.1
                have c6 := h.2.2.2.2.2.2.1
                have c7 := h.2.2.2.2.2.2.2
                clear h
                go_simp
              change wpAnyH _ _ _ _ _ _ _ (Act.put _ (some 41) _) _
              simp only [Act.put, List.setIfInBounds_toArray, List.set_cons_zero, List.set_cons_succ]
              refine wpAnyH_take (i := 10) (v := .bool true) rfl (by kernel_rfl) (by kernel_rfl) (by kernel_rfl) (fun _ _ _ h => h) (Or.inl ⟨by rfl, fun w' _ => by go_simp⟩) hS ?_
              change wpAnyH _ _ _ _ _ _ _ (Act.put _ (some 42) _) _
              simp only [Act.put, List.setIfInBounds_toArray, List.set_cons_zero, List.set_cons_succ]
              refine wpAnyH_take (i := 11) (v := .bool true) rfl (by kernel_rfl) (by kernel_rfl) (by kernel_rfl) (fun _ _ _ h => h) (Or.inl ⟨by rfl, fun w' _ => by go_simp⟩) hS ?_
              change wpAnyH _ _ _ _ _ _ _ (Act.put _ (some 43) _) _
              simp only [Act.put, List.setIfInBounds_toArray, List.set_cons_zero, List.set_cons_succ]
              refine wpAnyH_take (i := 12) (v := .bool true) rfl (by kernel_rfl) (by kernel_rfl) (by kernel_rfl) (fun _ _ _ h => h) (Or.inl ⟨by rfl, fun w' _ => by go_simp⟩) hS ?_
              change wpAnyH _ _ _ _ _ _ _ (Act.put _ (some 11) _) _
              simp only [Act.put, List.setIfInBounds_toArray, List.set_cons_zero, List.set_cons_succ]
              refine wpAnyH_done (by kernel_rfl) ?_ _
              go_wp2_with fail
              go_roundw
              case rel => exact ⟨k + 1, true, hkl, by go_num, rfl, HTM.out, bk2⟩
              case measure => simp [intOf]; omega
            · have HTM := hide (show false = decide ((xa, xl, xo, xt) ∈ CH.take (k + 1)) by rw [hTM, decide_eq_false hyx]; rfl)
              have hneq := ne_parts hyx
              clear hTM hyx
              go_upto_region 10 with fail
              refine wp_region_held_drew (S := fun Y => Y.cell? ⟨ba, oa + k * 4, none⟩ = some (.bool ya) ∧ Y.cell? ⟨ba, oa + k * 4 + 1, none⟩ = some (.int .i8 yl) ∧ Y.cell? ⟨ba, oa + k * 4 + 2, none⟩ = some (.int .i8 yo) ∧ Y.cell? ⟨ba, oa + k * 4 + 3, none⟩ = some (.int .i8 yt) ∧ Y.cell? ⟨bc, oc + i * 4, none⟩ = some (.bool xa) ∧ Y.cell? ⟨bc, oc + i * 4 + 1, none⟩ = some (.int .i8 xl) ∧ Y.cell? ⟨bc, oc + i * 4 + 2, none⟩ = some (.int .i8 xo) ∧ Y.cell? ⟨bc, oc + i * 4 + 3, none⟩ = some (.int .i8 xt)) (by kernel_rfl) ⟨y0, y1, y2, y3, e0, e1, e2, e3⟩ fun hS => ?_
              clear y0 y1 y2 y3 e0 e1 e2 e3 hWd bW
              generalize wr.drew = W1 at *
              refine wpAnyH_take (i := 0) (v := .bool false) rfl (by kernel_rfl) (by kernel_rfl) (by kernel_rfl) (fun _ _ _ h => h) (Or.inl ⟨by rfl, fun w' _ => by go_simp⟩) hS ?_
              change wpAnyH _ _ _ _ _ _ _ (Act.put _ (some 32) _) _
              simp only [Act.put, List.setIfInBounds_toArray, List.set_cons_zero, List.set_cons_succ]
              refine wpAnyH_take (i := 1) (v := .bool false) rfl (by kernel_rfl) (by kernel_rfl) (by kernel_rfl) (fun _ _ _ h => h) (Or.inl ⟨by rfl, fun w' _ => by go_simp⟩) hS ?_
              change wpAnyH _ _ _ _ _ _ _ (Act.put _ (some 33) _) _
              simp only [Act.put, List.setIfInBounds_toArray, List.set_cons_zero, List.set_cons_succ]
              refine wpAnyH_take (i := 2) (v := .slice (some ⟨ba, oa, none⟩) CH.length q5) rfl (by kernel_rfl) (by kernel_rfl) (by kernel_rfl) (fun _ _ _ h => h) (Or.inl ⟨by rfl, fun w' _ => by go_simp⟩) hS ?_
              change wpAnyH _ _ _ _ _ _ _ (Act.put _ (some 34) _) _
              simp only [Act.put, List.setIfInBounds_toArray, List.set_cons_zero, List.set_cons_succ]
              refine wpAnyH_take (i := 3) (v := .int .i64 k) rfl (by kernel_rfl) (by kernel_rfl) (by kernel_rfl) (fun _ _ _ h => h) (Or.inl ⟨by rfl, fun w' _ => by go_simp⟩) hS ?_
              change wpAnyH _ _ _ _ _ _ _ (Act.put _ (some 35) _) _
              simp only [Act.put, List.setIfInBounds_toArray, List.set_cons_zero, List.set_cons_succ]
              refine wpAnyH_take (i := 4) (v := .pointer (some ⟨ba, oa + k * 4, none⟩)) rfl (by kernel_rfl) (by kernel_rfl) (by kernel_rfl) (fun _ _ _ h => h) (Or.inl ⟨by rfl, fun w' _ => by go_simp⟩) hS ?_
              change wpAnyH _ _ _ _ _ _ _ (Act.put _ (some 36) _) _
              simp only [Act.put, List.setIfInBounds_toArray, List.set_cons_zero, List.set_cons_succ]
              refine wpAnyH_take (i := 5) (v := .agg #[.bool ya, .int .i8 yl, .int .i8 yo, .int .i8 yt]) rfl (by kernel_rfl) (by kernel_rfl) (by kernel_rfl) (fun _ _ _ h => h) (Or.inl ⟨by rfl, fun w' h => ?_⟩) hS ?_
              · have c0 := h.1
                have c1 := h.2.1
                have c2 := h.2.2.1
                have c3 := h.2.2.2.1
                have c4 := h.2.2.2.2.1
                have c5 := h.2.2.2.2.2.1
                have c6 := h.2.2.2.2.2.2.1
                have c7 := h.2.2.2.2.2.2.2
                clear h
                go_simp
              change wpAnyH _ _ _ _ _ _ _ (Act.put _ (some 37) _) _
              simp only [Act.put, List.setIfInBounds_toArray, List.set_cons_zero, List.set_cons_succ]
              refine wpAnyH_take (i := 6) (v := .slice (some ⟨bc, oc, none⟩) L.length cl) rfl (by kernel_rfl) (by kernel_rfl) (by kernel_rfl) (fun _ _ _ h => h) (Or.inl ⟨by rfl, fun w' _ => by go_simp⟩) hS ?_
              change wpAnyH _ _ _ _ _ _ _ (Act.put _ (some 38) _) _
              simp only [Act.put, List.setIfInBounds_toArray, List.set_cons_zero, List.set_cons_succ]
              refine wpAnyH_take (i := 7) (v := .int .i64 i) rfl (by kernel_rfl) (by kernel_rfl) (by kernel_rfl) (fun _ _ _ h => h) (Or.inl ⟨by rfl, fun w' _ => by go_simp⟩) hS ?_
              change wpAnyH _ _ _ _ _ _ _ (Act.put _ (some 39) _) _
              simp only [Act.put, List.setIfInBounds_toArray, List.set_cons_zero, List.set_cons_succ]
              refine wpAnyH_take (i := 8) (v := .pointer (some ⟨bc, oc + i * 4, none⟩)) rfl (by kernel_rfl) (by kernel_rfl) (by kernel_rfl) (fun _ _ _ h => h) (Or.inl ⟨by rfl, fun w' _ => by go_simp⟩) hS ?_
              change wpAnyH _ _ _ _ _ _ _ (Act.put _ (some 40) _) _
              simp only [Act.put, List.setIfInBounds_toArray, List.set_cons_zero, List.set_cons_succ]
              refine wpAnyH_take (i := 9) (v := .agg #[.bool xa, .int .i8 xl, .int .i8 xo, .int .i8 xt]) rfl (by kernel_rfl) (by kernel_rfl) (by kernel_rfl) (fun _ _ _ h => h) (Or.inl ⟨by rfl, fun w' h => ?_⟩) hS ?_
              · have c0 := h.1
                have c1 := h.2.1
                have c2 := h.2.2.1
                have c3 := h.2.2.2.1
                have c4 := h.2.2.2.2.1
                have c5 := h.2.2.2.2.2.1
                have c6 := h.2.2.2.2.2.2.1
                have c7 := h.2.2.2.2.2.2.2
                clear h
                go_simp
              change wpAnyH _ _ _ _ _ _ _ (Act.put _ (some 41) _) _
              simp only [Act.put, List.setIfInBounds_toArray, List.set_cons_zero, List.set_cons_succ]
              refine wpAnyH_take (i := 10) (v := .bool false) rfl (by kernel_rfl) (by kernel_rfl) (by kernel_rfl) (fun _ _ _ h => h) (Or.inl ⟨by rfl, fun w' _ => by go_simp; try (exact fun q1 q2 q3 q4 => hneq ⟨q1, q2, q3, q4⟩)⟩) hS ?_
              change wpAnyH _ _ _ _ _ _ _ (Act.put _ (some 42) _) _
              simp only [Act.put, List.setIfInBounds_toArray, List.set_cons_zero, List.set_cons_succ]
              refine wpAnyH_take (i := 11) (v := .bool false) rfl (by kernel_rfl) (by kernel_rfl) (by kernel_rfl) (fun _ _ _ h => h) (Or.inl ⟨by rfl, fun w' _ => by go_simp⟩) hS ?_
              change wpAnyH _ _ _ _ _ _ _ (Act.put _ (some 43) _) _
              simp only [Act.put, List.setIfInBounds_toArray, List.set_cons_zero, List.set_cons_succ]
              refine wpAnyH_take (i := 12) (v := .bool false) rfl (by kernel_rfl) (by kernel_rfl) (by kernel_rfl) (fun _ _ _ h => h) (Or.inl ⟨by rfl, fun w' _ => by go_simp⟩) hS ?_
              change wpAnyH _ _ _ _ _ _ _ (Act.put _ (some 11) _) _
              simp only [Act.put, List.setIfInBounds_toArray, List.set_cons_zero, List.set_cons_succ]
              refine wpAnyH_done (by kernel_rfl) ?_ _
              go_wp2_with fail
              go_roundw
              case rel => exact ⟨k + 1, false, hkl, by go_num, rfl, HTM.out, bk2⟩
              case measure => simp [intOf]; omega
          · have HTM := hide (show true = decide ((xa, xl, xo, xt) ∈ CH.take (k + 1)) by rw [hTM]; rfl)
            clear hTM hs'
            go_upto_region 10 with fail
            refine wp_region_held_drew (S := fun _ => True) (by kernel_rfl) trivial fun hS => ?_
            clear hWd
            generalize wr.drew = W1 at *
            refine wpAnyH_take (i := 0) (v := .bool true) rfl (by kernel_rfl) (by kernel_rfl) (by kernel_rfl) (fun _ _ _ h => h) (Or.inl ⟨by rfl, fun w' _ => by go_simp⟩) hS ?_
            change wpAnyH _ _ _ _ _ _ _ (Act.put _ (some 32) _) _
            simp only [Act.put, List.setIfInBounds_toArray, List.set_cons_zero, List.set_cons_succ]
            refine wpAnyH_take (i := 1) (v := .bool true) rfl (by kernel_rfl) (by kernel_rfl) (by kernel_rfl) (fun _ _ _ h => h) (Or.inl ⟨by rfl, fun w' _ => by go_simp⟩) hS ?_
            change wpAnyH _ _ _ _ _ _ _ (Act.put _ (some 33) _) _
            simp only [Act.put, List.setIfInBounds_toArray, List.set_cons_zero, List.set_cons_succ]
            refine wpAnyH_take (i := 2) (v := undef) rfl (by kernel_rfl) (by kernel_rfl) (by kernel_rfl) (fun _ _ _ h => h) (Or.inr ⟨by rfl, rfl⟩) hS ?_
            change wpAnyH _ _ _ _ _ _ _ (Act.put _ (some 34) _) _
            simp only [Act.put, List.setIfInBounds_toArray, List.set_cons_zero, List.set_cons_succ]
            refine wpAnyH_take (i := 3) (v := undef) rfl (by kernel_rfl) (by kernel_rfl) (by kernel_rfl) (fun _ _ _ h => h) (Or.inr ⟨by rfl, rfl⟩) hS ?_
            change wpAnyH _ _ _ _ _ _ _ (Act.put _ (some 35) _) _
            simp only [Act.put, List.setIfInBounds_toArray, List.set_cons_zero, List.set_cons_succ]
            refine wpAnyH_take (i := 4) (v := undef) rfl (by kernel_rfl) (by kernel_rfl) (by kernel_rfl) (fun _ _ _ h => h) (Or.inr ⟨by rfl, rfl⟩) hS ?_
            change wpAnyH _ _ _ _ _ _ _ (Act.put _ (some 36) _) _
            simp only [Act.put, List.setIfInBounds_toArray, List.set_cons_zero, List.set_cons_succ]
            refine wpAnyH_take (i := 5) (v := undef) rfl (by kernel_rfl) (by kernel_rfl) (by kernel_rfl) (fun _ _ _ h => h) (Or.inr ⟨by rfl, rfl⟩) hS ?_
            change wpAnyH _ _ _ _ _ _ _ (Act.put _ (some 37) _) _
            simp only [Act.put, List.setIfInBounds_toArray, List.set_cons_zero, List.set_cons_succ]
            refine wpAnyH_take (i := 6) (v := undef) rfl (by kernel_rfl) (by kernel_rfl) (by kernel_rfl) (fun _ _ _ h => h) (Or.inr ⟨by rfl, rfl⟩) hS ?_
            change wpAnyH _ _ _ _ _ _ _ (Act.put _ (some 38) _) _
            simp only [Act.put, List.setIfInBounds_toArray, List.set_cons_zero, List.set_cons_succ]
            refine wpAnyH_take (i := 7) (v := undef) rfl (by kernel_rfl) (by kernel_rfl) (by kernel_rfl) (fun _ _ _ h => h) (Or.inr ⟨by rfl, rfl⟩) hS ?_
            change wpAnyH _ _ _ _ _ _ _ (Act.put _ (some 39) _) _
            simp only [Act.put, List.setIfInBounds_toArray, List.set_cons_zero, List.set_cons_succ]
            refine wpAnyH_take (i := 8) (v := undef) rfl (by kernel_rfl) (by kernel_rfl) (by kernel_rfl) (fun _ _ _ h => h) (Or.inr ⟨by rfl, rfl⟩) hS ?_
            change wpAnyH _ _ _ _ _ _ _ (Act.put _ (some 40) _) _
            simp only [Act.put, List.setIfInBounds_toArray, List.set_cons_zero, List.set_cons_succ]
            refine wpAnyH_take (i := 9) (v := undef) rfl (by kernel_rfl) (by kernel_rfl) (by kernel_rfl) (fun _ _ _ h => h) (Or.inr ⟨by rfl, rfl⟩) hS ?_
            change wpAnyH _ _ _ _ _ _ _ (Act.put _ (some 41) _) _
            simp only [Act.put, List.setIfInBounds_toArray, List.set_cons_zero, List.set_cons_succ]
            refine wpAnyH_take (i := 10) (v := undef) rfl (by kernel_rfl) (by kernel_rfl) (by kernel_rfl) (fun _ _ _ h => h) (Or.inr ⟨by rfl, rfl⟩) hS ?_
            change wpAnyH _ _ _ _ _ _ _ (Act.put _ (some 42) _) _
            simp only [Act.put, List.setIfInBounds_toArray, List.set_cons_zero, List.set_cons_succ]
            refine wpAnyH_take (i := 11) (v := .bool true) rfl (by kernel_rfl) (by kernel_rfl) (by kernel_rfl) (fun _ _ _ h => h) (Or.inl ⟨by rfl, fun w' _ => by go_simp⟩) hS ?_
            change wpAnyH _ _ _ _ _ _ _ (Act.put _ (some 43) _) _
            simp only [Act.put, List.setIfInBounds_toArray, List.set_cons_zero, List.set_cons_succ]
            refine wpAnyH_take (i := 12) (v := .bool true) rfl (by kernel_rfl) (by kernel_rfl) (by kernel_rfl) (fun _ _ _ h => h) (Or.inl ⟨by rfl, fun w' _ => by go_simp⟩) hS ?_
            change wpAnyH _ _ _ _ _ _ _ (Act.put _ (some 11) _) _
            simp only [Act.put, List.setIfInBounds_toArray, List.set_cons_zero, List.set_cons_succ]
            refine wpAnyH_done (by kernel_rfl) ?_ _
            go_wp2_with fail
            go_roundw
            case rel => exact ⟨k + 1, true, hkl, by go_num, rfl, HTM.out, bk2⟩
            case measure => simp [intOf]; omega
        · obtain rfl : k = CH.length := by omega
          rw [List.take_length] at hs'
          have HOB := hide hs'
          have bW0 := b1.trans (bk.mono b1.size)
          have G3 := G2.keep bk
          have Z3 := Z2.keep bk
          have hWd : Below wr.heap.size wr wr.drew := (Below.refl _ _).drew
          have bW := bW0.trans (hWd.mono bW0.size)
          have G4 := G3.keep hWd
          have Z4 := Z3.keep hWd
          clear hs' G2 Z2 G3 Z3 bk ACH
          cases s'
          · have hnot : ¬ (xa, xl, xo, xt) ∈ chS S hl a q := by rw [← HCH.out]; exact of_decide_eq_false HOB.out.symm
            have hr := fi_some (HFs.out (HNo.out fun h => hnot h.1))
            rw [← HRD.out, ← HRI.out] at hr
            have HR := hide hr
            clear hr hnot
            go_upto_region 11 with fail
            refine wp_region_held_drew (S := fun _ => True) (by kernel_rfl) trivial fun hS => ?_
            clear hWd
            generalize wr.drew = W1 at *
            refine wpAnyH_take (i := 0) (v := .bool false) rfl (by kernel_rfl) (by kernel_rfl) (by kernel_rfl) (fun _ _ _ h => h) (Or.inl ⟨by rfl, fun w' _ => by go_simp⟩) hS ?_
            change wpAnyH _ _ _ _ _ _ _ (Act.put _ (some 44) _) _
            simp only [Act.put, List.setIfInBounds_toArray, List.set_cons_zero, List.set_cons_succ]
            refine wpAnyH_take (i := 1) (v := .bool true) rfl (by kernel_rfl) (by kernel_rfl) (by kernel_rfl) (fun _ _ _ h => h) (Or.inl ⟨by rfl, fun w' _ => by go_simp⟩) hS ?_
            change wpAnyH _ _ _ _ _ _ _ (Act.put _ (some 45) _) _
            simp only [Act.put, List.setIfInBounds_toArray, List.set_cons_zero, List.set_cons_succ]
            refine wpAnyH_take (i := 2) (v := .bool true) rfl (by kernel_rfl) (by kernel_rfl) (by kernel_rfl) (fun _ _ _ h => h) (Or.inl ⟨by rfl, fun w' _ => by go_simp⟩) hS ?_
            change wpAnyH _ _ _ _ _ _ _ (Act.put _ (some 46) _) _
            simp only [Act.put, List.setIfInBounds_toArray, List.set_cons_zero, List.set_cons_succ]
            refine wpAnyH_take (i := 3) (v := undef) rfl (by kernel_rfl) (by kernel_rfl) (by kernel_rfl) (fun _ _ _ h => h) (Or.inr ⟨by rfl, rfl⟩) hS ?_
            change wpAnyH _ _ _ _ _ _ _ (Act.put _ (some 47) _) _
            simp only [Act.put, List.setIfInBounds_toArray, List.set_cons_zero, List.set_cons_succ]
            refine wpAnyH_take (i := 4) (v := undef) rfl (by kernel_rfl) (by kernel_rfl) (by kernel_rfl) (fun _ _ _ h => h) (Or.inr ⟨by rfl, rfl⟩) hS ?_
            change wpAnyH _ _ _ _ _ _ _ (Act.put _ (some 48) _) _
            simp only [Act.put, List.setIfInBounds_toArray, List.set_cons_zero, List.set_cons_succ]
            refine wpAnyH_take (i := 5) (v := undef) rfl (by kernel_rfl) (by kernel_rfl) (by kernel_rfl) (fun _ _ _ h => h) (Or.inr ⟨by rfl, rfl⟩) hS ?_
            change wpAnyH _ _ _ _ _ _ _ (Act.put _ (some 49) _) _
            simp only [Act.put, List.setIfInBounds_toArray, List.set_cons_zero, List.set_cons_succ]
            refine wpAnyH_take (i := 6) (v := undef) rfl (by kernel_rfl) (by kernel_rfl) (by kernel_rfl) (fun _ _ _ h => h) (Or.inr ⟨by rfl, rfl⟩) hS ?_
            change wpAnyH _ _ _ _ _ _ _ (Act.put _ (some 50) _) _
            simp only [Act.put, List.setIfInBounds_toArray, List.set_cons_zero, List.set_cons_succ]
            refine wpAnyH_take (i := 7) (v := undef) rfl (by kernel_rfl) (by kernel_rfl) (by kernel_rfl) (fun _ _ _ h => h) (Or.inr ⟨by rfl, rfl⟩) hS ?_
            change wpAnyH _ _ _ _ _ _ _ (Act.put _ (some 51) _) _
            simp only [Act.put, List.setIfInBounds_toArray, List.set_cons_zero, List.set_cons_succ]
            refine wpAnyH_take (i := 8) (v := undef) rfl (by kernel_rfl) (by kernel_rfl) (by kernel_rfl) (fun _ _ _ h => h) (Or.inr ⟨by rfl, rfl⟩) hS ?_
            change wpAnyH _ _ _ _ _ _ _ (Act.put _ (some 52) _) _
            simp only [Act.put, List.setIfInBounds_toArray, List.set_cons_zero, List.set_cons_succ]
            refine wpAnyH_take (i := 9) (v := undef) rfl (by kernel_rfl) (by kernel_rfl) (by kernel_rfl) (fun _ _ _ h => h) (Or.inr ⟨by rfl, rfl⟩) hS ?_
            change wpAnyH _ _ _ _ _ _ _ (Act.put _ (some 53) _) _
            simp only [Act.put, List.setIfInBounds_toArray, List.set_cons_zero, List.set_cons_succ]
            refine wpAnyH_take (i := 10) (v := undef) rfl (by kernel_rfl) (by kernel_rfl) (by kernel_rfl) (fun _ _ _ h => h) (Or.inr ⟨by rfl, rfl⟩) hS ?_
            change wpAnyH _ _ _ _ _ _ _ (Act.put _ (some 54) _) _
            simp only [Act.put, List.setIfInBounds_toArray, List.set_cons_zero, List.set_cons_succ]
            refine wpAnyH_take (i := 11) (v := undef) rfl (by kernel_rfl) (by kernel_rfl) (by kernel_rfl) (fun _ _ _ h => h) (Or.inr ⟨by rfl, rfl⟩) hS ?_
            change wpAnyH _ _ _ _ _ _ _ (Act.put _ (some 55) _) _
            simp only [Act.put, List.setIfInBounds_toArray, List.set_cons_zero, List.set_cons_succ]
            refine wpAnyH_take (i := 12) (v := undef) rfl (by kernel_rfl) (by kernel_rfl) (by kernel_rfl) (fun _ _ _ h => h) (Or.inr ⟨by rfl, rfl⟩) hS ?_
            change wpAnyH _ _ _ _ _ _ _ (Act.put _ (some 56) _) _
            simp only [Act.put, List.setIfInBounds_toArray, List.set_cons_zero, List.set_cons_succ]
            refine wpAnyH_take (i := 13) (v := undef) rfl (by kernel_rfl) (by kernel_rfl) (by kernel_rfl) (fun _ _ _ h => h) (Or.inr ⟨by rfl, rfl⟩) hS ?_
            change wpAnyH _ _ _ _ _ _ _ (Act.put _ (some 57) _) _
            simp only [Act.put, List.setIfInBounds_toArray, List.set_cons_zero, List.set_cons_succ]
            refine wpAnyH_take (i := 14) (v := .bool true) rfl (by kernel_rfl) (by kernel_rfl) (by kernel_rfl) (fun _ _ _ h => h) (Or.inl ⟨by rfl, fun w' _ => by go_simp⟩) hS ?_
            change wpAnyH _ _ _ _ _ _ _ (Act.put _ (some 58) _) _
            simp only [Act.put, List.setIfInBounds_toArray, List.set_cons_zero, List.set_cons_succ]
            refine wpAnyH_done (by kernel_rfl) ?_ _
            have HZ := hide (show W1.heap[w.heap.size]? = some (.cells (da fun _ => 0) 53 (0, 0)) from Z4)
            go_wp2_with (first | (with_reducible refine wpList_build0 rfl rfl ?_) | (with_reducible refine wpList_store_row rfl 53 (.tmp 6) (.tmp 59) rfl w.heap.size (da fun _ => 0) rfl rfl 53 _ HZ.out (by rw [da_size]; exact info53) (by simp only [da_size]) (da_one _) ?_))
            exact bodyPost_ret (v := .tuple #[.agg (da fun _ => 0), .int .i64 i]) (results_dr Tryz.results20 _ _ w.heap.size 53 _ _ (by simp) (by simp) (setRow_heap _ _ _ _ _ _ HZ.out)) rfl ⟨by rw [HR.out.1, HR.out.2], below_setRow bW (Nat.le_refl _)⟩
          · have hyes : (xa, xl, xo, xt) ∈ chS S hl a q := by rw [← HCH.out]; exact of_decide_eq_true HOB.out.symm
            have KP := l07Put_any b (w.heap.size + 1) S A c hl d a q xa xl xo xt wr.drew (FP.of hF bW) (hA.below bW) G4 hS0 hn HG.out ha hq hdw hyes
            have e0 := (bW.cell (p := ⟨bc, _, none⟩) hbc').trans e0'
            have e1 := (bW.cell (p := ⟨bc, _, none⟩) hbc').trans e1'
            have e2 := (bW.cell (p := ⟨bc, _, none⟩) hbc').trans e2'
            have e3 := (bW.cell (p := ⟨bc, _, none⟩) hbc').trans e3'
            have c1 := (bW.cell (p := ⟨bt, _, none⟩) hbt').trans c1'
            have c2 := (bW.cell (p := ⟨bt, _, none⟩) hbt').trans c2'
            obtain ⟨pb, hpb⟩ : ∃ pb, pb = plO S hl d a (xa, xl, xo, xt) := ⟨_, rfl⟩
            obtain ⟨pp, hpp⟩ : ∃ pp, pp = plP S hl d a (xa, xl, xo, xt) := ⟨_, rfl⟩
            rw [← hpb, ← hpp] at KP
            have HPB := hide hpb
            have HPP := hide hpp
            have HYS := hide hyes
            clear hpb hpp hyes
            go_upto_region 11 with fail
            refine wp_region_held_drew (S := fun Y => Y.cell? ⟨bt, ot + i * 2, none⟩ = some (.int .i16 a) ∧ Y.cell? ⟨bt, ot + i * 2 + 1, none⟩ = some (.int .i8 q) ∧ Y.cell? ⟨bc, oc + i * 4, none⟩ = some (.bool xa) ∧ Y.cell? ⟨bc, oc + i * 4 + 1, none⟩ = some (.int .i8 xl) ∧ Y.cell? ⟨bc, oc + i * 4 + 2, none⟩ = some (.int .i8 xo) ∧ Y.cell? ⟨bc, oc + i * 4 + 3, none⟩ = some (.int .i8 xt)) (by kernel_rfl) ⟨c1, c2, e0, e1, e2, e3⟩ fun hS => ?_
            clear hWd c1 c2 e0 e1 e2 e3
            generalize wr.drew = W1 at *
            refine wpAnyH_take (i := 0) (v := .bool true) rfl (by kernel_rfl) (by kernel_rfl) (by kernel_rfl) (fun _ _ _ h => h) (Or.inl ⟨by rfl, fun w' _ => by go_simp⟩) hS ?_
            change wpAnyH _ _ _ _ _ _ _ (Act.put _ (some 44) _) _
            simp only [Act.put, List.setIfInBounds_toArray, List.set_cons_zero, List.set_cons_succ]
            refine wpAnyH_take (i := 1) (v := .bool false) rfl (by kernel_rfl) (by kernel_rfl) (by kernel_rfl) (fun _ _ _ h => h) (Or.inl ⟨by rfl, fun w' _ => by go_simp⟩) hS ?_
            change wpAnyH _ _ _ _ _ _ _ (Act.put _ (some 45) _) _
            simp only [Act.put, List.setIfInBounds_toArray, List.set_cons_zero, List.set_cons_succ]
            refine wpAnyH_take (i := 2) (v := .bool false) rfl (by kernel_rfl) (by kernel_rfl) (by kernel_rfl) (fun _ _ _ h => h) (Or.inl ⟨by rfl, fun w' _ => by go_simp⟩) hS ?_
            change wpAnyH _ _ _ _ _ _ _ (Act.put _ (some 46) _) _
            simp only [Act.put, List.setIfInBounds_toArray, List.set_cons_zero, List.set_cons_succ]
            refine wpAnyH_take (i := 3) (v := .pointer (some ⟨b, 0, none⟩)) rfl (by kernel_rfl) (by kernel_rfl) (by kernel_rfl) (fun _ _ _ h => h) (Or.inl ⟨by rfl, fun w' _ => by go_simp⟩) hS ?_
            change wpAnyH _ _ _ _ _ _ _ (Act.put _ (some 47) _) _
            simp only [Act.put, List.setIfInBounds_toArray, List.set_cons_zero, List.set_cons_succ]
            refine wpAnyH_take (i := 4) (v := .slice (some ⟨bt, ot, none⟩) t.length ct) rfl (by kernel_rfl) (by kernel_rfl) (by kernel_rfl) (fun _ _ _ h => h) (Or.inl ⟨by rfl, fun w' _ => by go_simp⟩) hS ?_
            change wpAnyH _ _ _ _ _ _ _ (Act.put _ (some 48) _) _
            simp only [Act.put, List.setIfInBounds_toArray, List.set_cons_zero, List.set_cons_succ]
            refine wpAnyH_take (i := 5) (v := .int .i64 i) rfl (by kernel_rfl) (by kernel_rfl) (by kernel_rfl) (fun _ _ _ h => h) (Or.inl ⟨by rfl, fun w' _ => by go_simp⟩) hS ?_
            change wpAnyH _ _ _ _ _ _ _ (Act.put _ (some 49) _) _
            simp only [Act.put, List.setIfInBounds_toArray, List.set_cons_zero, List.set_cons_succ]
            refine wpAnyH_take (i := 6) (v := .pointer (some ⟨bt, ot + i * 2, none⟩)) rfl (by kernel_rfl) (by kernel_rfl) (by kernel_rfl) (fun _ _ _ h => h) (Or.inl ⟨by rfl, fun w' _ => by go_simp⟩) hS ?_
            change wpAnyH _ _ _ _ _ _ _ (Act.put _ (some 50) _) _
            simp only [Act.put, List.setIfInBounds_toArray, List.set_cons_zero, List.set_cons_succ]
            refine wpAnyH_take (i := 7) (v := .agg #[.int .i16 a, .int .i8 q]) rfl (by kernel_rfl) (by kernel_rfl) (by kernel_rfl) (fun _ _ _ h => h) (Or.inl ⟨by rfl, fun w' h => ?_⟩) hS ?_
            · have c0 := h.1
              have c1 := h.2.1
              have c2 := h.2.2.1
              have c3 := h.2.2.2.1
              have c4 := h.2.2.2.2.1
              have c5 := h.2.2.2.2.2
              clear h
              go_simp
            change wpAnyH _ _ _ _ _ _ _ (Act.put _ (some 51) _) _
            simp only [Act.put, List.setIfInBounds_toArray, List.set_cons_zero, List.set_cons_succ]
            refine wpAnyH_take (i := 8) (v := .slice (some ⟨bc, oc, none⟩) L.length cl) rfl (by kernel_rfl) (by kernel_rfl) (by kernel_rfl) (fun _ _ _ h => h) (Or.inl ⟨by rfl, fun w' _ => by go_simp⟩) hS ?_
            change wpAnyH _ _ _ _ _ _ _ (Act.put _ (some 52) _) _
            simp only [Act.put, List.setIfInBounds_toArray, List.set_cons_zero, List.set_cons_succ]
            refine wpAnyH_take (i := 9) (v := .int .i64 i) rfl (by kernel_rfl) (by kernel_rfl) (by kernel_rfl) (fun _ _ _ h => h) (Or.inl ⟨by rfl, fun w' _ => by go_simp⟩) hS ?_
            change wpAnyH _ _ _ _ _ _ _ (Act.put _ (some 53) _) _
            simp only [Act.put, List.setIfInBounds_toArray, List.set_cons_zero, List.set_cons_succ]
            refine wpAnyH_take (i := 10) (v := .pointer (some ⟨bc, oc + i * 4, none⟩)) rfl (by kernel_rfl) (by kernel_rfl) (by kernel_rfl) (fun _ _ _ h => h) (Or.inl ⟨by rfl, fun w' _ => by go_simp⟩) hS ?_
            change wpAnyH _ _ _ _ _ _ _ (Act.put _ (some 54) _) _
            simp only [Act.put, List.setIfInBounds_toArray, List.set_cons_zero, List.set_cons_succ]
            refine wpAnyH_take (i := 11) (v := .agg #[.bool xa, .int .i8 xl, .int .i8 xo, .int .i8 xt]) rfl (by kernel_rfl) (by kernel_rfl) (by kernel_rfl) (fun _ _ _ h => h) (Or.inl ⟨by rfl, fun w' h => ?_⟩) hS ?_
            · have c0 := h.1
              have c1 := h.2.1
              have c2 := h.2.2.1
              have c3 := h.2.2.2.1
              have c4 := h.2.2.2.2.1
              have c5 := h.2.2.2.2.2
              clear h
              go_simp
            change wpAnyH _ _ _ _ _ _ _ (Act.put _ (some 55) _) _
            simp only [Act.put, List.setIfInBounds_toArray, List.set_cons_zero, List.set_cons_succ]
            refine wpAnyH_ready (rs := [12]) (by kernel_rfl) (by simp) (AllReadyH.cons rfl ?_ AllReadyH.nil)
            intro K hK
            rw [if_pos (by rfl)]
            go_simp
            refine KP.mono ?_
            rintro e W2 ⟨rfl, D9, hgr⟩
            refine hK.out _ _ ⟨(hgr.cell hS.1 (fun e => by have e2 := Option.some.inj e; simp only [] at e2; omega)), (hgr.cell hS.2.1 (fun e => by have e2 := Option.some.inj e; simp only [] at e2; omega)), (hgr.cell hS.2.2.1 (fun e => by have e2 := Option.some.inj e; simp only [] at e2; omega)), (hgr.cell hS.2.2.2.1 (fun e => by have e2 := Option.some.inj e; simp only [] at e2; omega)), (hgr.cell hS.2.2.2.2.1 (fun e => by have e2 := Option.some.inj e; simp only [] at e2; omega)), (hgr.cell hS.2.2.2.2.2 (fun e => by have e2 := Option.some.inj e; simp only [] at e2; omega))⟩ (fun hS1 => ?_)
            clear hK K
            try (change wpAnyH _ _ _ _ _ _ _ (Act.put _ (some 56) _) _)
            try simp only [Act.put, List.setIfInBounds_toArray, List.set_cons_zero, List.set_cons_succ]
            refine wpAnyH_take (i := 13) (v := .bool (!pb)) rfl (by kernel_rfl) (by kernel_rfl) (by kernel_rfl) (fun _ _ _ h => h) (Or.inl ⟨by rfl, fun w' _ => by go_simp⟩) hS1 ?_
            change wpAnyH _ _ _ _ _ _ _ (Act.put _ (some 57) _) _
            simp only [Act.put, List.setIfInBounds_toArray, List.set_cons_zero, List.set_cons_succ]
            refine wpAnyH_take (i := 14) (v := .bool (!pb)) rfl (by kernel_rfl) (by kernel_rfl) (by kernel_rfl) (fun _ _ _ h => h) (Or.inl ⟨by rfl, fun w' _ => by go_simp⟩) hS1 ?_
            change wpAnyH _ _ _ _ _ _ _ (Act.put _ (some 58) _) _
            simp only [Act.put, List.setIfInBounds_toArray, List.set_cons_zero, List.set_cons_succ]
            refine wpAnyH_done (by kernel_rfl) ?_ _
            have b9 : Below w.heap.size w W2 := bW.grown hgr bW.size (fun k e => by have e2 := Option.some.inj e; omega)
            have Z9 : Dr W2 w.heap.size 53 (fun _ => 0) := (hgr.block _ Z4.lt (fun e => by have e2 := Option.some.inj e; omega)).trans Z4
            clear hS1 hS KP
            cases pb
            · have hr := fi_some (HFs.out (HNo.out fun h => by rw [← HPB.out] at h; exact absurd h.2 (by decide)))
              rw [← HRD.out, ← HRI.out] at hr
              have HR := hide hr
              clear hr
              have HZ := hide (show W2.heap[w.heap.size]? = some (.cells (da fun _ => 0) 53 (0, 0)) from Z9)
              go_wp2_with (first | (with_reducible refine wpList_build0 rfl rfl ?_) | (with_reducible refine wpList_store_row rfl 53 (.tmp 6) (.tmp 59) rfl w.heap.size (da fun _ => 0) rfl rfl 53 _ HZ.out (by rw [da_size]; exact info53) (by simp only [da_size]) (da_one _) ?_))
              exact bodyPost_ret (v := .tuple #[.agg (da fun _ => 0), .int .i64 i]) (results_dr Tryz.results20 _ _ w.heap.size 53 _ _ (by simp) (by simp) (setRow_heap _ _ _ _ _ _ HZ.out)) rfl ⟨by rw [HR.out.1, HR.out.2], below_setRow b9 (Nat.le_refl _)⟩
            · have HDN := hide (show dfS S hl t L (i + 1) = some pp by rw [HYes.out HYS.out HPB.out.symm, HPP.out, plP, if_pos HPB.out.symm])
              go_wp2_with fail
              go_roundw
              case rel => exact ⟨i + 1, pp, hlt, by go_num, HDN.out, D9, Z9, b9⟩
              case measure => simp [intOf]; omega
    · obtain rfl : i = t.length := by omega
      have hr := fi_none (by rw [HLEN.out]; exact hdk)
      rw [← HRD.out, ← HRI.out] at hr
      have HR := hide hr
      have HZ := hide (show wr.heap[w.heap.size]? = some (.cells (da fun _ => 0) 53 (0, 0)) from Z1)
      have HG1 := hide G1.range
      clear hr
      go_wp2_with (first | (with_reducible refine wpList_load_da rfl 53 (.tmp 8) rfl (w.heap.size + 1) 0 rfl d _ HG1.out Tryz.underlying53 rfl (dInfo d) ?_) | (with_reducible refine wpList_store_row rfl 53 (.tmp 6) (.tmp 61) rfl w.heap.size (da d) rfl rfl 53 _ HZ.out (by rw [da_size]; exact info53) (by simp only [da_size]) (da_one _) ?_))
      exact bodyPost_ret (v := .tuple #[.agg (da d), .int .i64 (-1)]) (results_dr Tryz.results20 _ _ w.heap.size 53 _ _ (by simp) (by simp) (setRow_heap _ _ _ _ _ _ HZ.out)) rfl ⟨by rw [HR.out.1, HR.out.2], below_setRow bw (Nat.le_refl _)⟩
end Go.Proofs.YtcepjiglhlmgdaaGreatDoor
