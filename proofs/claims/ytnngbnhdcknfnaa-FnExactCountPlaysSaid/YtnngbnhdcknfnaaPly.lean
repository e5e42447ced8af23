import Derived.Test.YtnngbnhdcknfnaaSto
import Derived.Deep.RegionHeld3
namespace Go.Proofs.Ytnngbnhdcknfnaa
open Go.RowKit

theorem yieldsIf_load_pl {ops : Array Oper} {S : World → Prop} {op : Oper} {a : Act} (hw : Region.wanted op (yielded ops a.tmps) = true) (x : Operand) (ho : op.op = .load 84 x)
    (b p : Nat) (hx : a.eval x = .pointer (some ⟨b, p, none⟩)) (s : Int) (A : Option Addr) (n c : Nat) (B : Option Addr) (m d : Nat) (o : Nat → Int) (hS : ∀ w, S w → w.rangeAt b p (plL s A n c B m d o)) : YieldsIf Try.prog ops S op (.agg (plA s A n c B m d o)) a :=
  yieldsIf_load_mid hw 84 x ho b p hx (plL s A n c B m d o) _ hS Try.underlying84 rfl (by rw [plInfo (s := s) (A := A) (n := n) (c := c) (B := B) (m := m) (d := d) (o := o), plA_size, plL_length])
theorem Bk.set1 {w : World} {g : Nat} {t : TypeId} {x : Value} (h : Bk w g t #[x]) (v : Value) : Bk (w.setCell ⟨g, 0, none⟩ v) g t #[v] := heap_setCell_same w g 0 _ _ v h
/-- what a player leaves -/
def Played (base bt ba bp : Nat) (plan : Array Value) (T a : Int) (w : World) (e : Ending) (w' : World) : Prop :=
  e = .returned (.int .i64 T) ∧ Bk w' bt 2 #[.int .i64 T] ∧ Bk w' ba 2 #[.int .i64 a] ∧ Bk w' bp 84 plan ∧ Below base w w' ∧ w.heap.size ≤ w'.heap.size
set_option maxRecDepth 20000 in
set_option maxHeartbeats 4000000 in
theorem player1_any (base bt ba bp : Nat) (s : Int) (A : Option Addr) (n c : Nat) (B : Option Addr) (m d : Nat) (o : Nat → Int) (T a F S : Int) (w : World)
    (ht : Bk w bt 2 #[.int .i64 T]) (ha : Bk w ba 2 #[.int .i64 a]) (hp : Bk w bp 84 (plA s A n c B m d o)) (h1 : bt ≠ ba) (h2 : bt ≠ bp) (h3 : ba ≠ bp) (hbt : base ≤ bt) (hba : base ≤ ba) (hbase : base ≤ w.heap.size)
    (hs : 2 ≤ s ∧ s ≤ 96) (hF : 0 ≤ F ∧ F ≤ 32767) (hS : 0 ≤ S ∧ S ≤ 32767) (haa : 0 ≤ a ∧ a < s) (hT : 0 ≤ T ∧ T ≤ 100000000) :
    Calls Try.prog 91 #[.agg #[.int .i16 F, .int .i16 S], .pointer (some ⟨bt, 0, none⟩), .pointer (some ⟨bp, 0, none⟩), .pointer (some ⟨ba, 0, none⟩)] w
      (Played base bt ba bp (plA s A n c B m d o) (T + (arI s (F - a) + S)) (arI s (F + S)) w) := by
  obtain ⟨X, hX⟩ : ∃ X, X = w.alloc (.cells #[.int .i16 F, .int .i16 S] 90) := ⟨_, rfl⟩
  have hal : Below w.heap.size w X := by rw [hX]; exact (Below.refl _ _).alloc (Nat.le_refl _) _
  have S0 : Bk X w.heap.size 90 #[.int .i16 F, .int .i16 S] := by rw [hX]; exact Bk.new _ _ _ rfl
  have b0 : Below base w X := hal.mono hbase
  have t0 := ht.keep hal
  have a0 := ha.keep hal
  have p0 := hp.keep hal
  have hwb : bt ≠ w.heap.size ∧ ba ≠ w.heap.size ∧ bp ≠ w.heap.size := ⟨Nat.ne_of_lt ht.lt, Nat.ne_of_lt ha.lt, Nat.ne_of_lt hp.lt⟩
  have hXs := hal.size
  have hin := arI_in (s := s) (x := F - a) hs.1
  have hin2 := arI_in (s := s) (x := F + S) hs.1
  obtain ⟨G, hG⟩ : ∃ G, G = arI s (F - a) := ⟨_, rfl⟩
  obtain ⟨H, hH⟩ : ∃ H, H = arI s (F + S) := ⟨_, rfl⟩
  rw [← hG] at hin ⊢
  rw [← hH] at hin2 ⊢
  have KS : ∀ W, Calls Try.prog 72 #[.agg (plA s A n c B m d o), .int .i64 a, .agg #[.int .i16 F, .int .i16 S]] W (SaysI' G W) := fun W => by rw [hG]; exact stepsTo_any s A n c B m d o F S a W hs ⟨by omega, hF.2⟩ ⟨haa.1, by omega⟩ (by omega)
  have KE : ∀ W, Calls Try.prog 75 #[.agg #[.int .i16 F, .int .i16 S]] W (SaysI' (F + S) W) := fun W => secEnd_any F S ⟨by omega, hF.2⟩ ⟨by omega, hS.2⟩ W
  have KA : ∀ W, Calls Try.prog 89 #[.agg #[.int .i64 s, .slice A n c], .int .i64 (F + S)] W (SaysI' H W) := fun W => by rw [hH]; exact aroundP_any s (F + S) A n c W hs ⟨by omega, by omega⟩
  clear hG hH
  go_enter Try.func91, Try.ntmps91
  go_upto_region 1 with fail
  rw [← hX]
  clear hX
  have hwS : IntKind.i64.wrap S = S := IntWalk.i64_in _ (by omega)
  have hw1 : IntKind.i64.wrap (G + S) = G + S := IntWalk.i64_in _ (by omega)
  have hw2 : IntKind.i64.wrap (T + (G + S)) = T + (G + S) := IntWalk.i64_in _ (by omega)
  obtain ⟨hF1, hF2⟩ := hF
  obtain ⟨hS1, hS2⟩ := hS
  have hdr : Below X.heap.size X X.drew := (Below.refl _ _).drew
  have t1 := t0.keep hdr
  have a1 := a0.keep hdr
  have p1 := p0.keep hdr
  have S1 := S0.keep hdr
  have b1 : Below base w X.drew := b0.trans (hdr.mono (Nat.le_trans hbase hXs))
  have c1 := t1.cell (i := 0) rfl
  have f1 := t1.frozen 0
  refine wp_region_held_drew (S := fun w' => w'.rangeAt bp 0 (plL s A n c B m d o) ∧ w'.cell? ⟨ba, 0, none⟩ = some (.int .i64 a) ∧ w'.cell? ⟨w.heap.size, 0, none⟩ = some (.int .i16 F) ∧ w'.cell? ⟨w.heap.size, 1, none⟩ = some (.int .i16 S)) (by kernel_rfl) ⟨p1.plRange, a1.cell rfl, S1.cell rfl, S1.cell rfl⟩ fun hS => ?_
  refine wpAnyH_take (i := 1) rfl (by kernel_rfl) (by kernel_rfl) (by kernel_rfl) (fun _ _ _ h => h) (yieldsIf_load_pl (by rfl) _ rfl bp 0 rfl s A n c B m d o (fun _ h => h.1)) hS ?_
  simp only [Act.put, List.setIfInBounds_toArray, List.set_cons_zero, List.set_cons_succ]
  refine wpAnyH_take (i := 2) (v := .int .i64 a) rfl (by kernel_rfl) (by kernel_rfl) (by kernel_rfl) (fun _ _ _ h => h) (Or.inl ⟨by rfl, fun w' h => ?_⟩) hS ?_
  · have c0 := h.2.1
    clear h
    go_simp
  simp only [Act.put, List.setIfInBounds_toArray, List.set_cons_zero, List.set_cons_succ]
  refine wpAnyH_take (i := 5) (v := .pointer (some ⟨w.heap.size, 1, none⟩)) rfl (by kernel_rfl) (by kernel_rfl) (by kernel_rfl) (fun _ _ _ h => h) (Or.inl ⟨by rfl, fun w' _ => by go_simp⟩) hS ?_
  change wpAnyH _ _ _ _ _ _ _ (Act.put _ (some 11) _) _
  simp only [Act.put, List.setIfInBounds_toArray, List.set_cons_zero, List.set_cons_succ]
  refine wpAnyH_take (i := 3) (v := .agg #[.int .i16 F, .int .i16 S]) rfl (by kernel_rfl) (by kernel_rfl) (by kernel_rfl) (fun _ _ _ h => h) (Or.inl ⟨by rfl, fun w' h => ?_⟩) hS ?_
  · have c0 := h.2.2.1
    have c1 := h.2.2.2
    clear h
    go_simp
  simp only [Act.put, List.setIfInBounds_toArray, List.set_cons_zero, List.set_cons_succ]
  refine wpAnyH_take (i := 6) (v := .int .i16 S) rfl (by kernel_rfl) (by kernel_rfl) (by kernel_rfl) (fun _ _ _ h => h) (Or.inl ⟨by rfl, fun w' h => ?_⟩) hS ?_
  · have c1 := h.2.2.2
    clear h
    go_simp
  simp only [Act.put, List.setIfInBounds_toArray, List.set_cons_zero, List.set_cons_succ]
  refine wpAnyH_take (i := 7) (v := .int .i64 S) rfl (by kernel_rfl) (by kernel_rfl) (by kernel_rfl) (fun _ _ _ h => h) (Or.inl ⟨by rfl, fun w' _ => by go_simp⟩) hS ?_
  change wpAnyH _ _ _ _ _ _ _ (Act.put _ (some 13) _) _
  simp only [Act.put, List.setIfInBounds_toArray, List.set_cons_zero, List.set_cons_succ]
  have hbX : base ≤ X.heap.size := Nat.le_trans hbase hXs
  refine wpAnyH_ready (rs := [0, 4]) (by kernel_rfl) (by simp) (AllReadyH.cons rfl ?_ (AllReadyH.cons rfl ?_ AllReadyH.nil))
  · intro K hK
    rw [if_pos (by rfl)]
    go_simp
    refine hK.out _ _ ⟨p1.plRange, a1.cell rfl, S1.cell rfl, S1.cell rfl⟩ (fun hS1 => ?_)
    clear hK K
    refine wpAnyH_ready (rs := [4]) (by kernel_rfl) (by simp) (AllReadyH.cons rfl ?_ AllReadyH.nil)
    intro K hK
    rw [if_pos (by rfl)]
    go_simp
    refine (KS _).mono ?_
    rintro e w2 ⟨rfl, hb2⟩
    have t2 := t1.keep hb2
    have a2 := a1.keep hb2
    have p2 := p1.keep hb2
    have S2 := S1.keep hb2
    have b2 := b1.trans (hb2.mono (Nat.le_trans hbX (Nat.le_refl _)))
    have hz2 : X.heap.size ≤ w2.heap.size := hb2.size
    refine hK.out _ _ ⟨p2.plRange, a2.cell rfl, S2.cell rfl, S2.cell rfl⟩ (fun hS2 => ?_)
    clear hK K
    refine wpAnyH_take (i := 8) (v := .int .i64 (G + S)) rfl (by kernel_rfl) (by kernel_rfl) (by kernel_rfl) (fun _ _ _ h => h) (Or.inl ⟨by rfl, fun w' _ => by go_simp⟩) hS2 ?_
    change wpAnyH _ _ _ _ _ _ _ (Act.put _ (some 14) _) _
    simp only [Act.put, List.setIfInBounds_toArray, List.set_cons_zero, List.set_cons_succ]
    refine wpAnyH_take (i := 9) (v := .int .i64 (T + (G + S))) rfl (by kernel_rfl) (by kernel_rfl) (by kernel_rfl) (fun _ _ _ h => h) (Or.inl ⟨by rfl, fun w' _ => by go_simp⟩) hS2 ?_
    change wpAnyH _ _ _ _ _ _ _ (Act.put _ (some 15) _) _
    simp only [Act.put, List.setIfInBounds_toArray, List.set_cons_zero, List.set_cons_succ]
    have c3 := t2.cell (i := 0) rfl
    have f3 := t2.frozen 0
    have t4 := t2.set1 (.int .i64 (T + (G + S)))
    have a4 := a2.other (Ne.symm h1) (k := 0) (.int .i64 (T + (G + S)))
    have p4 := p2.other (Ne.symm h2) (k := 0) (.int .i64 (T + (G + S)))
    have S4 := S2.other (Ne.symm hwb.1) (k := 0) (.int .i64 (T + (G + S)))
    have b4 := b2.setCell (p := ⟨bt, 0, none⟩) hbt (.int .i64 (T + (G + S)))
    have hz4 : X.heap.size ≤ (w2.setCell ⟨bt, 0, none⟩ (.int .i64 (T + (G + S)))).heap.size := by simpa using hz2
    refine wpAnyH_ready (rs := [10]) (by kernel_rfl) (by simp) (AllReadyH.cons rfl ?_ AllReadyH.nil)
    intro K hK
    rw [if_pos (by rfl)]
    go_simp
    refine hK.out _ _ ⟨p4.plRange, a4.cell rfl, S4.cell rfl, S4.cell rfl⟩ (fun hS4 => ?_)
    clear hK K
    refine wpAnyH_done (by kernel_rfl) ?_ _
    clear c3 f3
    obtain ⟨W, hW⟩ : ∃ W, W = w2.setCell ⟨bt, 0, none⟩ (.int .i64 (T + (G + S))) := ⟨_, rfl⟩
    rw [← hW] at t4 a4 p4 S4 b4 hz4
    go_upto_region 2 with fail
    rw [← hW]
    clear hW hS4
    have hdr2 : Below W.heap.size W W.drew := (Below.refl _ _).drew
    have t5 := t4.keep hdr2
    have a5 := a4.keep hdr2
    have p5 := p4.keep hdr2
    have S5 := S4.keep hdr2
    have b5 := b4.trans (hdr2.mono (Nat.le_trans hbX hz4))
    have hz5 : X.heap.size ≤ W.drew.heap.size := hz4
    refine wp_region_held_drew (S := fun w' => w'.cell? ⟨bp, 0, none⟩ = some (.int .i64 s) ∧ w'.cell? ⟨bp, 1, none⟩ = some (.slice A n c) ∧ w'.cell? ⟨w.heap.size, 0, none⟩ = some (.int .i16 F) ∧ w'.cell? ⟨w.heap.size, 1, none⟩ = some (.int .i16 S)) (by kernel_rfl) ⟨p5.plSteps, p5.plHams, S5.cell rfl, S5.cell rfl⟩ fun hS5 => ?_
    refine wpAnyH_take (i := 0) (v := .pointer (some ⟨bp, 0, none⟩)) rfl (by kernel_rfl) (by kernel_rfl) (by kernel_rfl) (fun _ _ _ h => h) (Or.inl ⟨by rfl, fun w' _ => by go_simp⟩) hS5 ?_
    change wpAnyH _ _ _ _ _ _ _ (Act.put _ (some 16) _) _
    simp only [Act.put, List.setIfInBounds_toArray, List.set_cons_zero, List.set_cons_succ]
    refine wpAnyH_take (i := 1) (v := .agg #[.int .i64 s, .slice A n c]) rfl (by kernel_rfl) (by kernel_rfl) (by kernel_rfl) (fun _ _ _ h => h) (Or.inl ⟨by rfl, fun w' h => ?_⟩) hS5 ?_
    · have c0 := h.1
      have c1 := h.2.1
      clear h
      go_simp
    simp only [Act.put, List.setIfInBounds_toArray, List.set_cons_zero, List.set_cons_succ]
    refine wpAnyH_take (i := 2) (v := .agg #[.int .i16 F, .int .i16 S]) rfl (by kernel_rfl) (by kernel_rfl) (by kernel_rfl) (fun _ _ _ h => h) (Or.inl ⟨by rfl, fun w' h => ?_⟩) hS5 ?_
    · have c0 := h.2.2.1
      have c1 := h.2.2.2
      clear h
      go_simp
    simp only [Act.put, List.setIfInBounds_toArray, List.set_cons_zero, List.set_cons_succ]
    refine wpAnyH_ready (rs := [3]) (by kernel_rfl) (by simp) (AllReadyH.cons rfl ?_ AllReadyH.nil)
    intro K hK
    rw [if_pos (by rfl)]
    go_simp
    refine (KE _).mono ?_
    rintro e w6 ⟨rfl, hb6⟩
    have t6 := t5.keep hb6
    have a6 := a5.keep hb6
    have p6 := p5.keep hb6
    have S6 := S5.keep hb6
    have b6 := b5.trans (hb6.mono (Nat.le_trans hbX hz5))
    have hz6 : X.heap.size ≤ w6.heap.size := Nat.le_trans hz5 hb6.size
    refine hK.out _ _ ⟨p6.plSteps, p6.plHams, S6.cell rfl, S6.cell rfl⟩ (fun hS6 => ?_)
    clear hK K
    refine wpAnyH_ready (rs := [4]) (by kernel_rfl) (by simp) (AllReadyH.cons rfl ?_ AllReadyH.nil)
    intro K hK
    rw [if_pos (by rfl)]
    go_simp
    refine (KA _).mono ?_
    rintro e w7 ⟨rfl, hb7⟩
    have t7 := t6.keep hb7
    have a7 := a6.keep hb7
    have p7 := p6.keep hb7
    have S7 := S6.keep hb7
    have b7 := b6.trans (hb7.mono (Nat.le_trans hbX hz6))
    have hz7 : X.heap.size ≤ w7.heap.size := Nat.le_trans hz6 hb7.size
    refine hK.out _ _ ⟨p7.plSteps, p7.plHams, S7.cell rfl, S7.cell rfl⟩ (fun hS7 => ?_)
    clear hK K
    have c7 := a7.cell (i := 0) rfl
    have f7 := a7.frozen 0
    have a8 := a7.set1 (.int .i64 H)
    have t8 := t7.other h1 (k := 0) (.int .i64 H)
    have p8 := p7.other (Ne.symm h3) (k := 0) (.int .i64 H)
    have S8 := S7.other (Ne.symm hwb.2.1) (k := 0) (.int .i64 H)
    have b8 := b7.setCell (p := ⟨ba, 0, none⟩) hba (.int .i64 H)
    refine wpAnyH_ready (rs := [5]) (by kernel_rfl) (by simp) (AllReadyH.cons rfl ?_ AllReadyH.nil)
    intro K hK
    rw [if_pos (by rfl)]
    go_simp
    refine hK.out _ _ ⟨p8.plSteps, p8.plHams, S8.cell rfl, S8.cell rfl⟩ (fun hS8 => ?_)
    clear hK K
    refine wpAnyH_done (by kernel_rfl) ?_ _
    have c8 := t8.cell (i := 0) rfl
    go_wp2
    go_ret
    exact ⟨rfl, t8, a8, p8, b8, by have := hz7; simp; omega⟩
  · intro K hK
    rw [if_pos (by rfl)]
    go_simp
    refine (KS _).mono ?_
    rintro e w2 ⟨rfl, hb2⟩
    have t2 := t1.keep hb2
    have a2 := a1.keep hb2
    have p2 := p1.keep hb2
    have S2 := S1.keep hb2
    have b2 := b1.trans (hb2.mono (Nat.le_trans hbX (Nat.le_refl _)))
    have hz2 : X.heap.size ≤ w2.heap.size := hb2.size
    refine hK.out _ _ ⟨p2.plRange, a2.cell rfl, S2.cell rfl, S2.cell rfl⟩ (fun hS2 => ?_)
    clear hK K
    refine wpAnyH_take (i := 8) (v := .int .i64 (G + S)) rfl (by kernel_rfl) (by kernel_rfl) (by kernel_rfl) (fun _ _ _ h => h) (Or.inl ⟨by rfl, fun w' _ => by go_simp⟩) hS2 ?_
    change wpAnyH _ _ _ _ _ _ _ (Act.put _ (some 14) _) _
    simp only [Act.put, List.setIfInBounds_toArray, List.set_cons_zero, List.set_cons_succ]
    have cc2 := t2.cell (i := 0) rfl
    refine wpAnyH_ready (rs := [0]) (by kernel_rfl) (by simp) (AllReadyH.cons rfl ?_ AllReadyH.nil)
    intro K hK
    rw [if_pos (by rfl)]
    go_simp
    refine hK.out _ _ ⟨p2.plRange, a2.cell rfl, S2.cell rfl, S2.cell rfl⟩ (fun hS2b => ?_)
    clear hK K cc2
    refine wpAnyH_take (i := 9) (v := .int .i64 (T + (G + S))) rfl (by kernel_rfl) (by kernel_rfl) (by kernel_rfl) (fun _ _ _ h => h) (Or.inl ⟨by rfl, fun w' _ => by go_simp⟩) hS2b ?_
    change wpAnyH _ _ _ _ _ _ _ (Act.put _ (some 15) _) _
    simp only [Act.put, List.setIfInBounds_toArray, List.set_cons_zero, List.set_cons_succ]
    have c3 := t2.cell (i := 0) rfl
    have f3 := t2.frozen 0
    have t4 := t2.set1 (.int .i64 (T + (G + S)))
    have a4 := a2.other (Ne.symm h1) (k := 0) (.int .i64 (T + (G + S)))
    have p4 := p2.other (Ne.symm h2) (k := 0) (.int .i64 (T + (G + S)))
    have S4 := S2.other (Ne.symm hwb.1) (k := 0) (.int .i64 (T + (G + S)))
    have b4 := b2.setCell (p := ⟨bt, 0, none⟩) hbt (.int .i64 (T + (G + S)))
    have hz4 : X.heap.size ≤ (w2.setCell ⟨bt, 0, none⟩ (.int .i64 (T + (G + S)))).heap.size := by simpa using hz2
    refine wpAnyH_ready (rs := [10]) (by kernel_rfl) (by simp) (AllReadyH.cons rfl ?_ AllReadyH.nil)
    intro K hK
    rw [if_pos (by rfl)]
    go_simp
    refine hK.out _ _ ⟨p4.plRange, a4.cell rfl, S4.cell rfl, S4.cell rfl⟩ (fun hS4 => ?_)
    clear hK K
    refine wpAnyH_done (by kernel_rfl) ?_ _
    clear c3 f3
    obtain ⟨W, hW⟩ : ∃ W, W = w2.setCell ⟨bt, 0, none⟩ (.int .i64 (T + (G + S))) := ⟨_, rfl⟩
    rw [← hW] at t4 a4 p4 S4 b4 hz4
    go_upto_region 2 with fail
    rw [← hW]
    clear hW hS4
    have hdr2 : Below W.heap.size W W.drew := (Below.refl _ _).drew
    have t5 := t4.keep hdr2
    have a5 := a4.keep hdr2
    have p5 := p4.keep hdr2
    have S5 := S4.keep hdr2
    have b5 := b4.trans (hdr2.mono (Nat.le_trans hbX hz4))
    have hz5 : X.heap.size ≤ W.drew.heap.size := hz4
    refine wp_region_held_drew (S := fun w' => w'.cell? ⟨bp, 0, none⟩ = some (.int .i64 s) ∧ w'.cell? ⟨bp, 1, none⟩ = some (.slice A n c) ∧ w'.cell? ⟨w.heap.size, 0, none⟩ = some (.int .i16 F) ∧ w'.cell? ⟨w.heap.size, 1, none⟩ = some (.int .i16 S)) (by kernel_rfl) ⟨p5.plSteps, p5.plHams, S5.cell rfl, S5.cell rfl⟩ fun hS5 => ?_
    refine wpAnyH_take (i := 0) (v := .pointer (some ⟨bp, 0, none⟩)) rfl (by kernel_rfl) (by kernel_rfl) (by kernel_rfl) (fun _ _ _ h => h) (Or.inl ⟨by rfl, fun w' _ => by go_simp⟩) hS5 ?_
    change wpAnyH _ _ _ _ _ _ _ (Act.put _ (some 16) _) _
    simp only [Act.put, List.setIfInBounds_toArray, List.set_cons_zero, List.set_cons_succ]
    refine wpAnyH_take (i := 1) (v := .agg #[.int .i64 s, .slice A n c]) rfl (by kernel_rfl) (by kernel_rfl) (by kernel_rfl) (fun _ _ _ h => h) (Or.inl ⟨by rfl, fun w' h => ?_⟩) hS5 ?_
    · have c0 := h.1
      have c1 := h.2.1
      clear h
      go_simp
    simp only [Act.put, List.setIfInBounds_toArray, List.set_cons_zero, List.set_cons_succ]
    refine wpAnyH_take (i := 2) (v := .agg #[.int .i16 F, .int .i16 S]) rfl (by kernel_rfl) (by kernel_rfl) (by kernel_rfl) (fun _ _ _ h => h) (Or.inl ⟨by rfl, fun w' h => ?_⟩) hS5 ?_
    · have c0 := h.2.2.1
      have c1 := h.2.2.2
      clear h
      go_simp
    simp only [Act.put, List.setIfInBounds_toArray, List.set_cons_zero, List.set_cons_succ]
    refine wpAnyH_ready (rs := [3]) (by kernel_rfl) (by simp) (AllReadyH.cons rfl ?_ AllReadyH.nil)
    intro K hK
    rw [if_pos (by rfl)]
    go_simp
    refine (KE _).mono ?_
    rintro e w6 ⟨rfl, hb6⟩
    have t6 := t5.keep hb6
    have a6 := a5.keep hb6
    have p6 := p5.keep hb6
    have S6 := S5.keep hb6
    have b6 := b5.trans (hb6.mono (Nat.le_trans hbX hz5))
    have hz6 : X.heap.size ≤ w6.heap.size := Nat.le_trans hz5 hb6.size
    refine hK.out _ _ ⟨p6.plSteps, p6.plHams, S6.cell rfl, S6.cell rfl⟩ (fun hS6 => ?_)
    clear hK K
    refine wpAnyH_ready (rs := [4]) (by kernel_rfl) (by simp) (AllReadyH.cons rfl ?_ AllReadyH.nil)
    intro K hK
    rw [if_pos (by rfl)]
    go_simp
    refine (KA _).mono ?_
    rintro e w7 ⟨rfl, hb7⟩
    have t7 := t6.keep hb7
    have a7 := a6.keep hb7
    have p7 := p6.keep hb7
    have S7 := S6.keep hb7
    have b7 := b6.trans (hb7.mono (Nat.le_trans hbX hz6))
    have hz7 : X.heap.size ≤ w7.heap.size := Nat.le_trans hz6 hb7.size
    refine hK.out _ _ ⟨p7.plSteps, p7.plHams, S7.cell rfl, S7.cell rfl⟩ (fun hS7 => ?_)
    clear hK K
    have c7 := a7.cell (i := 0) rfl
    have f7 := a7.frozen 0
    have a8 := a7.set1 (.int .i64 H)
    have t8 := t7.other h1 (k := 0) (.int .i64 H)
    have p8 := p7.other (Ne.symm h3) (k := 0) (.int .i64 H)
    have S8 := S7.other (Ne.symm hwb.2.1) (k := 0) (.int .i64 H)
    have b8 := b7.setCell (p := ⟨ba, 0, none⟩) hba (.int .i64 H)
    refine wpAnyH_ready (rs := [5]) (by kernel_rfl) (by simp) (AllReadyH.cons rfl ?_ AllReadyH.nil)
    intro K hK
    rw [if_pos (by rfl)]
    go_simp
    refine hK.out _ _ ⟨p8.plSteps, p8.plHams, S8.cell rfl, S8.cell rfl⟩ (fun hS8 => ?_)
    clear hK K
    refine wpAnyH_done (by kernel_rfl) ?_ _
    have c8 := t8.cell (i := 0) rfl
    go_wp2
    go_ret
    exact ⟨rfl, t8, a8, p8, b8, by have := hz7; simp; omega⟩
end Go.Proofs.Ytnngbnhdcknfnaa
