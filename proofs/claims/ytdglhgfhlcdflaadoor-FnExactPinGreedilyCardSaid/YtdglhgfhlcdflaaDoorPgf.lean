import Derived.Test.YtdglhgfhlcdflaaDoorGar
import Derived.Test.YtdglhgfhlcdflaaDoorGau
import Derived.Test.YtdglhgfhlcdflaaDoorGam
import Derived.StillTail
import Derived.StillTailTactics
import Derived.Deep.CutRange
namespace Go.Proofs.YtdglhgfhlcdflaaDoor
open Go.RowKit
theorem results_pg {fn : Func} {p q : Tmp} (h : fn.results = #[.cell p 74, .tmp q]) (tmps : Array Value) (w : World) (g : Nat) (t : TypeId) (cs : Array Value) (hcs : cs.size = 71) (c : Value)
    (hp : tmps.getD p undef = .pointer (some ⟨g, 0, none⟩)) (hq : tmps.getD q undef = c) (hg : w.heap[g]? = some (.cells cs t (0, 0))) :
    (results fn tmps).run Tryd.prog w = .ok (.tuple #[.agg cs, c]) w := by
  have hp' : tmps[p]?.getD undef = .pointer (some ⟨g, 0, none⟩) := by simpa using hp
  have hq' : tmps[q]?.getD undef = c := by simpa using hq
  simp [results, h, hp', hq', asAddr, run_loadVar_row w g t 74 cs (0, 0) _ hg Tryd.underlying74 rfl (by rw [hcs]; exact info74)]
theorem setRow_allocP (w : World) (old cs : Array Value) (t : TypeId) : (w.alloc (.cells old t)).setRow w.heap.size cs = w.alloc (.cells cs t) := by
  have h : ((w.alloc (.cells old t)).setRow w.heap.size cs).heap = (w.alloc (.cells cs t)).heap := by
    apply Array.ext_getElem?
    intro i
    by_cases e : i = w.heap.size
    · subst e
      rw [setRow_heap _ _ _ _ _ _ (heap_alloc_new w (.cells old t)), heap_alloc_new]
    · rw [setRow_other _ _ _ _ e]
      rcases Nat.lt_or_ge i w.heap.size with h | h
      · rw [heap_alloc_old w _ h, heap_alloc_old w _ h]
      · rw [Array.getElem?_eq_none (by simp; omega), Array.getElem?_eq_none (by simp; omega)]
  have e : ∀ a b : World, a.heap = b.heap → a.tape = b.tape → a.drawn = b.drawn → a.os = b.os → a.output = b.output → a = b := fun a b h1 h2 h3 h4 h5 => by cases a; cases b; simp_all
  exact e _ _ h rfl rfl rfl rfl
theorem wpList_store_newP {P : Program} {ops : Array Oper} {rest : List Oper} {o : Oper} {a : Act} {w : World} {Q : Exit → Act → World → Prop} (hgd : o.guard = none) (ty : TypeId) (x y : Operand) (ho : o.op = .store ty x y)
    (cs : Array Value) (hx : a.eval x = .pointer (some ⟨w.heap.size, 0, none⟩)) (hy : a.eval y = .agg cs)
    (t : TypeId) (old : Array Value) (hi : (P.info? ty).map (·.size) = some cs.size) (hold : old.size = cs.size) (h1 : cs.all (·.oneCell') = true)
    (h : wpList P ops Q rest (a.put o.dst undef) (w.alloc (.cells cs t))) : wpList P ops Q (o :: rest) a (w.alloc (.cells old t)) := by
  refine wpList_store_row hgd ty x y ho w.heap.size cs hx hy t old (heap_new' _ _ _ rfl) hi hold h1 ?_
  rw [setRow_allocP]
  exact h
/-- how it stands with a frame, drums and a tune -/
def pgK (s : Int) (l : List (Int × Int)) (fb : Bool) (L : List (Int × Int)) : Int := if frB s l && fb && okB L then (if lenI L ≤ s then 0 else 2) else 1
def PgR (p : Nat → Addr) (k : Int) (cs : Array Value) (w : World) (e : Ending) (w' : World) : Prop := e = .returned (.tuple #[.agg (if k = 0 then cs else zpg), erX p k]) ∧ Below w.heap.size w w'
set_option maxRecDepth 20000 in
set_option maxHeartbeats 4000000 in
theorem pinningFor_any (p : Nat → Addr) (s : Int) (A : Option Addr) (c : Nat) (l : List (Int × Int)) (C : Option Addr) (ct : Nat) (L : List (Int × Int)) (G : Option Addr) (nd cd : Nat) (fb : Bool) (w : World) (hA : HA w A l) (hn : l.length ≤ 1048576) (hwf : HWF l) (hs : -32768 ≤ s ∧ s ≤ 32767)
    (hC : NA w C L) (hL : L.length ≤ 1048576) (hLw : WF L) (hE : ErrP p w)
    (hfits : frB s l = true → ∀ W, Below w.heap.size w W → Calls Tryd.prog 72 #[.agg #[.int .i64 s, .slice A l.length c], .slice G nd cd] W (Says fb W)) :
    Calls Tryd.prog 33 #[.agg #[.int .i16 s, .slice A l.length c], .slice C L.length ct, .slice G nd cd] w (PgR p (pgK s l fb L) (pgA s A l.length c C L.length ct (pgU l l.length) (pgV l l.length)) w) := by
  obtain ⟨RA, hRA⟩ : ∃ RA, RA = (if pgK s l fb L = 0 then (pgA s A l.length c C L.length ct (pgU l l.length) (pgV l l.length)) else zpg) := ⟨_, rfl⟩
  obtain ⟨RE, hRE⟩ : ∃ RE, RE = erX p (pgK s l fb L) := ⟨_, rfl⟩
  unfold PgR
  rw [← hRA, ← hRE]
  have HRA := hide hRA
  have HRE := hide hRE
  clear hRA hRE
  have hz := zeroPg
  have hE0 := hide hE
  have hzz : zpg.size = 71 := by rw [zpg_eq, pgA_size]
  have hzo : zpg.all (·.oneCell') = true := by rw [zpg_eq]; exact pgA_one
  have HI := hide (show (Tryd.prog.info? 74).map (·.size) = some zpg.size by rw [hzz]; exact info74)
  have HZO := hide (And.intro hzz hzo)
  clear hzz hzo
  obtain ⟨X, hX⟩ : ∃ X, X = (w.alloc (.cells #[.int .i16 s, .slice A l.length c] 33)).alloc (.cells zpg 74) := ⟨_, rfl⟩
  have b0 : Below w.heap.size w X := by rw [hX]; exact ((Below.refl _ _).alloc (Nat.le_refl _) _).alloc (by simp) _
  have B0 : Bk X w.heap.size 33 #[.int .i16 s, .slice A l.length c] := by rw [hX]; exact (Bk.new _ _ _ rfl).old _
  have Z0 : Bk X (w.heap.size + 1) 74 zpg := by rw [hX]; exact Bk.new _ _ _ (by simp)
  have f0 := B0.cell (i := 0) rfl
  have f1 := B0.cell (i := 1) rfl
  go_enter Tryd.func33, Tryd.ntmps33
  go_upto_region 1 with fail
  rw [← hX]
  clear hX hz hE
  go_wp2_with fail
  refine (machineFor_any s A c l (.slice G nd cd) fb X (hA.below b0) hn hwf hs (fun hf W hW => hfits hf W (step_below hW b0))).mono ?_
  rintro e w2 ⟨rfl, hb2⟩
  have b2 := step_below hb2 b0
  have Z2 := Z0.keep hb2
  obtain ⟨Y, hY⟩ : ∃ Y, Y = w2.alloc (.cells #[.int .i64 s, .slice A l.length c] 70) := ⟨_, rfl⟩
  have hbY : Below w2.heap.size w2 Y := by rw [hY]; exact (Below.refl _ _).alloc (Nat.le_refl _) _
  have M0 : Bk Y w2.heap.size 70 #[.int .i64 s, .slice A l.length c] := by rw [hY]; exact Bk.new _ _ _ rfl
  have bY := step_below hbY b2
  have ZY := Z2.keep hbY
  clear f0 f1 B0 Z0 Z2 hb2
  go_upto_region 2 with fail
  rw [← hY]
  clear hY
  cases hok : frB s l && fb
  · have hk : pgK s l fb L = 1 := by simp only [pgK, hok]; rfl
    have HX1 := hide (show RA = zpg by rw [HRA.out, hk]; rfl)
    have HX2 := hide (show RE = erV (p 0) by rw [HRE.out, hk]; rfl)
    clear hk
    go_wp2_with fail
    have tb : Below Y.heap.size Y Y.drew := (Below.refl _ _).drew
    have b3 := step_below tb bY
    have ZT := ZY.keep tb
    have eT := (hE0.out.keep b3).1 0 (by omega)
    refine wp_region_held_drew (S := fun w' => Bk w' (w.heap.size + 1) 74 zpg ∧ w'.cell? ⟨gE 0, 0, none⟩ = some (erV (p 0)) ∧ Below w.heap.size w w') (by kernel_rfl) ⟨ZT, eT, b3⟩ fun hS1 => ?_
    clear ZT eT b3
    generalize Y.drew = WT at *
    refine wpAnyH_take (i := 0) rfl (by kernel_rfl) (by kernel_rfl) (by kernel_rfl) (fun _ _ _ h => h) (yieldsIf_buildPg0 (by rfl) rfl) hS1 ?_
    simp only [Act.put, List.setIfInBounds_toArray, List.set_cons_zero, List.set_cons_succ]
    refine wpAnyH_take (i := 1) (v := erV (p 0)) rfl (by kernel_rfl) (by kernel_rfl) (by kernel_rfl) (fun _ _ _ h => h) (Or.inl ⟨by rfl, fun w' h => ?_⟩) hS1 ?_
    · have c0 : w'.cell? ⟨1, 0, none⟩ = some (erV (p 0)) := h.2.1
      clear h
      go_simp
    change wpAnyH _ _ _ _ _ _ _ (Act.put _ (some 28) _) _
    simp only [Act.put, List.setIfInBounds_toArray, List.set_cons_zero, List.set_cons_succ]
    refine wpAnyH_ready (rs := [2]) (by kernel_rfl) (by simp) (AllReadyH.cons rfl ?_ AllReadyH.nil)
    intro K hK
    rw [if_pos (by rfl)]
    refine wp_store_row 74 (.tmp 6) (.tmp 27) rfl (w.heap.size + 1) zpg rfl rfl 74 zpg hS1.1 HI.out rfl HZO.out.2 ?_
    have ZS := hS1.1.setRow zpg
    have bS := below_setRow' hS1.2.2 (show w.heap.size ≤ w.heap.size + 1 by omega) (cs := zpg)
    have eS : (WT.setRow (w.heap.size + 1) zpg).cell? ⟨gE 0, 0, none⟩ = some (erV (p 0)) := (bS.cell (p := ⟨gE 0, 0, none⟩) (World.block_lt_of_cell? w _ (hE0.out.1 0 (by omega)))).trans (hE0.out.1 0 (by omega))
    refine hK.out _ _ ⟨ZS, eS, bS⟩ (fun hS2 => ?_)
    clear hK K
    simp only [Act.put]
    refine wpAnyH_take (i := 3) (v := erV (p 0)) rfl (by kernel_rfl) (by kernel_rfl) (by kernel_rfl) (fun _ _ _ h => h) (Or.inl ⟨by rfl, fun w' _ => by go_simp⟩) hS2 ?_
    change wpAnyH _ _ _ _ _ _ _ (Act.put _ (some 7) _) _
    simp only [Act.put, List.setIfInBounds_toArray, List.set_cons_zero, List.set_cons_succ]
    refine wpAnyH_done (by kernel_rfl) ?_ _
    have HZT := hide hS2.1
    have bZ := hS2.2.2
    clear hS1 hS2
    go_wp2_with fail
    exact bodyPost_ret (v := .tuple #[.agg zpg, erV (p 0)]) (results_pg Tryd.results33 _ _ (w.heap.size + 1) 74 zpg HZO.out.1 _ (by simp [Act.put]) (by simp [Act.put]) HZT.out) rfl ⟨by rw [HX1.out, HX2.out], bZ⟩
  have KV := implValid_any C ct L Y (hC.below bY) hL hLw
  cases hL2 : okB L
  · rw [hL2] at KV
    have hk : pgK s l fb L = 1 := by simp only [pgK, hok, hL2]; rfl
    have HX1 := hide (show RA = zpg by rw [HRA.out, hk]; rfl)
    have HX2 := hide (show RE = erV (p 0) by rw [HRE.out, hk]; rfl)
    clear hk
    go_wp2_with fail
    refine KV.mono ?_
    rintro e V ⟨rfl, hbV⟩
    have bV := step_below hbV bY
    have ZV := ZY.keep hbV
    go_wp2_with fail
    have tb : Below V.heap.size V V.drew := (Below.refl _ _).drew
    have b3 := step_below tb bV
    have ZT := ZV.keep tb
    have eT := (hE0.out.keep b3).1 0 (by omega)
    refine wp_region_held_drew (S := fun w' => Bk w' (w.heap.size + 1) 74 zpg ∧ w'.cell? ⟨gE 0, 0, none⟩ = some (erV (p 0)) ∧ Below w.heap.size w w') (by kernel_rfl) ⟨ZT, eT, b3⟩ fun hS1 => ?_
    clear ZT eT b3
    generalize V.drew = WT at *
    refine wpAnyH_take (i := 0) rfl (by kernel_rfl) (by kernel_rfl) (by kernel_rfl) (fun _ _ _ h => h) (yieldsIf_buildPg0 (by rfl) rfl) hS1 ?_
    simp only [Act.put, List.setIfInBounds_toArray, List.set_cons_zero, List.set_cons_succ]
    refine wpAnyH_take (i := 1) (v := erV (p 0)) rfl (by kernel_rfl) (by kernel_rfl) (by kernel_rfl) (fun _ _ _ h => h) (Or.inl ⟨by rfl, fun w' h => ?_⟩) hS1 ?_
    · have c0 : w'.cell? ⟨1, 0, none⟩ = some (erV (p 0)) := h.2.1
      clear h
      go_simp
    change wpAnyH _ _ _ _ _ _ _ (Act.put _ (some 28) _) _
    simp only [Act.put, List.setIfInBounds_toArray, List.set_cons_zero, List.set_cons_succ]
    refine wpAnyH_ready (rs := [2]) (by kernel_rfl) (by simp) (AllReadyH.cons rfl ?_ AllReadyH.nil)
    intro K hK
    rw [if_pos (by rfl)]
    refine wp_store_row 74 (.tmp 6) (.tmp 27) rfl (w.heap.size + 1) zpg rfl rfl 74 zpg hS1.1 HI.out rfl HZO.out.2 ?_
    have ZS := hS1.1.setRow zpg
    have bS := below_setRow' hS1.2.2 (show w.heap.size ≤ w.heap.size + 1 by omega) (cs := zpg)
    have eS : (WT.setRow (w.heap.size + 1) zpg).cell? ⟨gE 0, 0, none⟩ = some (erV (p 0)) := (bS.cell (p := ⟨gE 0, 0, none⟩) (World.block_lt_of_cell? w _ (hE0.out.1 0 (by omega)))).trans (hE0.out.1 0 (by omega))
    refine hK.out _ _ ⟨ZS, eS, bS⟩ (fun hS2 => ?_)
    clear hK K
    simp only [Act.put]
    refine wpAnyH_take (i := 3) (v := erV (p 0)) rfl (by kernel_rfl) (by kernel_rfl) (by kernel_rfl) (fun _ _ _ h => h) (Or.inl ⟨by rfl, fun w' _ => by go_simp⟩) hS2 ?_
    change wpAnyH _ _ _ _ _ _ _ (Act.put _ (some 7) _) _
    simp only [Act.put, List.setIfInBounds_toArray, List.set_cons_zero, List.set_cons_succ]
    refine wpAnyH_done (by kernel_rfl) ?_ _
    have HZT := hide hS2.1
    have bZ := hS2.2.2
    clear hS1 hS2
    go_wp2_with fail
    exact bodyPost_ret (v := .tuple #[.agg zpg, erV (p 0)]) (results_pg Tryd.results33 _ _ (w.heap.size + 1) 74 zpg HZO.out.1 _ (by simp [Act.put]) (by simp [Act.put]) HZT.out) rfl ⟨by rw [HX1.out, HX2.out], bZ⟩
  rw [hL2] at KV
  have hfa := frB_all (show frB s l = true by rw [Bool.and_eq_true] at hok; exact hok.1)
  have hkk : pgK s l fb L = if lenI L ≤ s then 0 else 2 := by simp only [pgK, hok, hL2, Bool.and_self, if_true]
  have HKK := hide hkk
  clear hkk
  go_wp2_with fail
  refine KV.mono ?_
  rintro e V ⟨rfl, hbV⟩
  have bV := step_below hbV bY
  have ZV := ZY.keep hbV
  have MV := M0.keep hbV
  have tb : Below V.heap.size V V.drew := (Below.refl _ _).drew
  have bT := step_below tb bV
  have ZT := ZV.keep tb
  have MT := MV.keep tb
  go_upto_region 4 with fail
  refine wp_region_held_drew (S := fun w' => w'.cell? ⟨w2.heap.size, 0, none⟩ = some (.int .i64 s)) (by kernel_rfl) (MT.cell (i := 0) rfl) fun hS1 => ?_
  clear ZV MV tb bV hbV KV ZY M0 bY
  generalize V.drew = W1 at *
  refine wpAnyH_take (i := 0) (v := .slice C L.length ct) rfl (by kernel_rfl) (by kernel_rfl) (by kernel_rfl) (fun _ _ _ h => h) (Or.inl ⟨by rfl, fun w' _ => by go_simp⟩) hS1 ?_
  change wpAnyH _ _ _ _ _ _ _ (Act.put _ (some 29) _) _
  simp only [Act.put, List.setIfInBounds_toArray, List.set_cons_zero, List.set_cons_succ]
  refine wpAnyH_take (i := 2) (v := .pointer (some ⟨w2.heap.size, 0, none⟩)) rfl (by kernel_rfl) (by kernel_rfl) (by kernel_rfl) (fun _ _ _ h => h) (Or.inl ⟨by rfl, fun w' _ => by go_simp⟩) hS1 ?_
  change wpAnyH _ _ _ _ _ _ _ (Act.put _ (some 31) _) _
  simp only [Act.put, List.setIfInBounds_toArray, List.set_cons_zero, List.set_cons_succ]
  refine wpAnyH_take (i := 3) (v := .int .i64 s) rfl (by kernel_rfl) (by kernel_rfl) (by kernel_rfl) (fun _ _ _ h => h) (Or.inl ⟨by rfl, fun w' h => ?_⟩) hS1 ?_
  · have c0 := h
    clear h
    go_simp
  change wpAnyH _ _ _ _ _ _ _ (Act.put _ (some 32) _) _
  simp only [Act.put, List.setIfInBounds_toArray, List.set_cons_zero, List.set_cons_succ]
  obtain ⟨le, hle⟩ : ∃ le, le = lenI L := ⟨_, rfl⟩
  have KLE : Calls Tryd.prog 52 #[.slice C L.length ct] W1 fun e w' => e = .returned (.int .i64 le) ∧ W1 = w' := by rw [hle]; exact implLength_any C ct L W1 (hC.below bT) hL hLw
  have HLE := hide hle
  clear hle
  refine wpAnyH_ready (rs := [1]) (by kernel_rfl) (by simp) (AllReadyH.cons rfl ?_ AllReadyH.nil)
  intro K hK
  rw [if_pos (by rfl)]
  go_simp
  refine (KLE).mono ?_
  rintro e w6 ⟨rfl, rfl⟩
  refine hK.out _ _ hS1 (fun hS2 => ?_)
  clear hK K
  try (change wpAnyH _ _ _ _ _ _ _ (Act.put _ (some 30) _) _)
  try simp only [Act.put, List.setIfInBounds_toArray, List.set_cons_zero, List.set_cons_succ]
  obtain ⟨bg, hbg⟩ : ∃ bg, decide (s < le) = bg := ⟨_, rfl⟩
  refine wpAnyH_take (i := 4) (v := .bool bg) rfl (by kernel_rfl) (by kernel_rfl) (by kernel_rfl) (fun _ _ _ h => h) (Or.inl ⟨by rfl, fun w' _ => by go_simp⟩) hS2 ?_
  change wpAnyH _ _ _ _ _ _ _ (Act.put _ (some 33) _) _
  simp only [Act.put, List.setIfInBounds_toArray, List.set_cons_zero, List.set_cons_succ]
  refine wpAnyH_done (by kernel_rfl) ?_ _
  clear hS1 hS2
  have bV := bT
  have ZV := ZT
  cases bg
  case true =>
    have hlt : ¬ lenI L ≤ s := by rw [← HLE.out]; have := of_decide_eq_true hbg; omega
    have hk : pgK s l fb L = 2 := by rw [HKK.out, if_neg hlt]
    have HX1 := hide (show RA = zpg by rw [HRA.out, hk]; rfl)
    have HX2 := hide (show RE = erV (p 1) by rw [HRE.out, hk]; rfl)
    clear hk hlt hbg
    go_wp2_with fail
    have tb : Below W1.heap.size W1 W1.drew := (Below.refl _ _).drew
    have b3 := step_below tb bV
    have ZT := ZV.keep tb
    have eT := (hE0.out.keep b3).1 1 (by omega)
    refine wp_region_held_drew (S := fun w' => Bk w' (w.heap.size + 1) 74 zpg ∧ w'.cell? ⟨gE 1, 0, none⟩ = some (erV (p 1)) ∧ Below w.heap.size w w') (by kernel_rfl) ⟨ZT, eT, b3⟩ fun hS1 => ?_
    clear ZT eT b3
    generalize W1.drew = WT at *
    refine wpAnyH_take (i := 0) rfl (by kernel_rfl) (by kernel_rfl) (by kernel_rfl) (fun _ _ _ h => h) (yieldsIf_buildPg0 (by rfl) rfl) hS1 ?_
    simp only [Act.put, List.setIfInBounds_toArray, List.set_cons_zero, List.set_cons_succ]
    refine wpAnyH_take (i := 1) (v := erV (p 1)) rfl (by kernel_rfl) (by kernel_rfl) (by kernel_rfl) (fun _ _ _ h => h) (Or.inl ⟨by rfl, fun w' h => ?_⟩) hS1 ?_
    · have c0 : w'.cell? ⟨2, 0, none⟩ = some (erV (p 1)) := h.2.1
      clear h
      go_simp
    change wpAnyH _ _ _ _ _ _ _ (Act.put _ (some 35) _) _
    simp only [Act.put, List.setIfInBounds_toArray, List.set_cons_zero, List.set_cons_succ]
    refine wpAnyH_ready (rs := [2]) (by kernel_rfl) (by simp) (AllReadyH.cons rfl ?_ AllReadyH.nil)
    intro K hK
    rw [if_pos (by rfl)]
    refine wp_store_row 74 (.tmp 6) (.tmp 34) rfl (w.heap.size + 1) zpg rfl rfl 74 zpg hS1.1 HI.out rfl HZO.out.2 ?_
    have ZS := hS1.1.setRow zpg
    have bS := below_setRow' hS1.2.2 (show w.heap.size ≤ w.heap.size + 1 by omega) (cs := zpg)
    have eS : (WT.setRow (w.heap.size + 1) zpg).cell? ⟨gE 1, 0, none⟩ = some (erV (p 1)) := (bS.cell (p := ⟨gE 1, 0, none⟩) (World.block_lt_of_cell? w _ (hE0.out.1 1 (by omega)))).trans (hE0.out.1 1 (by omega))
    refine hK.out _ _ ⟨ZS, eS, bS⟩ (fun hS2 => ?_)
    clear hK K
    simp only [Act.put]
    refine wpAnyH_take (i := 3) (v := erV (p 1)) rfl (by kernel_rfl) (by kernel_rfl) (by kernel_rfl) (fun _ _ _ h => h) (Or.inl ⟨by rfl, fun w' _ => by go_simp⟩) hS2 ?_
    change wpAnyH _ _ _ _ _ _ _ (Act.put _ (some 7) _) _
    simp only [Act.put, List.setIfInBounds_toArray, List.set_cons_zero, List.set_cons_succ]
    refine wpAnyH_done (by kernel_rfl) ?_ _
    have HZT := hide hS2.1
    have bZ := hS2.2.2
    clear hS1 hS2
    go_wp2_with fail
    exact bodyPost_ret (v := .tuple #[.agg zpg, erV (p 1)]) (results_pg Tryd.results33 _ _ (w.heap.size + 1) 74 zpg HZO.out.1 _ (by simp [Act.put]) (by simp [Act.put]) HZT.out) rfl ⟨by rw [HX1.out, HX2.out], bZ⟩
  have hlt : lenI L ≤ s := by rw [← HLE.out]; have := of_decide_eq_false hbg; omega
  have hk : pgK s l fb L = 0 := by rw [HKK.out, if_pos hlt]
  have HX1 := hide (show RA = pgA s A l.length c C L.length ct (pgU l l.length) (pgV l l.length) by rw [HRA.out, hk, if_pos rfl])
  have HX2 := hide (show RE = .nilIface by rw [HRE.out, hk]; rfl)
  clear hk hlt hbg
  have m0 := MT.cell (i := 0) rfl
  have m1 := MT.cell (i := 1) rfl
  obtain ⟨P0, hP0⟩ : ∃ P0, P0 = W1.alloc (.cells (pgA s A l.length c C L.length ct (fun _ => 0) (fun _ => 0)) 74) := ⟨_, rfl⟩
  have hbP : Below W1.heap.size W1 P0 := by rw [hP0]; exact (Below.refl _ _).alloc (Nat.le_refl _) _
  have PP : Bk P0 W1.heap.size 74 (pgA s A l.length c C L.length ct (fun _ => 0) (fun _ => 0)) := by rw [hP0]; exact Bk.new _ _ _ rfl
  have bP := step_below hbP bT
  have ZP := ZT.keep hbP
  have hne1 := ZT.lt
  have MP := MT.keep hbP
  have hz := zeroPg
  go_upto_region 7 with (first | (with_reducible refine wpList_buildPg rfl (.tmp 36) (.tmp 37) rfl s A l.length c C L.length ct rfl rfl ?_) | (with_reducible refine wpList_store_newP rfl 74 (.tmp 10) (.tmp 38) rfl (pgA s A l.length c C L.length ct (fun _ => 0) (fun _ => 0)) rfl rfl 74 _ pgInfo (HZO.out.1.trans pgA_size.symm) pgA_one ?_))
  rw [← hP0]
  have hne3 := bT.size
  clear hP0 hz m0 m1 bT ZT MT bV ZV
  have m1 := MP.cell (i := 1) rfl
  have hne2 := hbP.size
  have hl24 := hfa.2.1.2
  have hGG := hide hfa.2.2
  go_upto_region 8 with fail
  clear m1
  go_loopw [11, 42] (fun _ i wr => ∃ k : Nat, k ≤ l.length ∧ i = .int .i64 k ∧ Bk wr W1.heap.size 74 (pgA s A l.length c C L.length ct (pgU l k) (pgV l k)) ∧ Bk wr (w.heap.size + 1) 74 zpg ∧ Below w.heap.size w wr)
    (fun _ i _ => l.length - (intOf i).toNat)
  case atStart => exact ⟨0, Nat.zero_le _, rfl, PP, ZP, bP⟩
  case round =>
    clear PP ZP bP MP hbP
    obtain ⟨k, hk, rfl, PR, ZR, bR⟩ := hrel
    by_cases hlt : k < l.length
    · have hki : (k : Int) < (l.length : Int) := by omega
      obtain ⟨b', o', rfl, hbb, c1, c2⟩ := (hA.below bR) k hlt
      have hh := hGG.out.at hlt
      obtain ⟨P, hP⟩ : ∃ P : Nat, hPi l k = (P : Int) := ⟨(hPi l k).toNat, by omega⟩
      obtain ⟨R, hR⟩ : ∃ R : Nat, hRe l k = (R : Int) := ⟨(hRe l k).toNat, by omega⟩
      rw [hP] at c1
      rw [hR] at c2
      have hP48 : P < 48 := by omega
      have hR20 : R ≤ 20 := by omega
      have hk24 : k < 24 := by omega
      have HP := hide hP
      have HR := hide hR
      clear hP hR hh
      have hWr := PR.lt
      obtain ⟨V0, hV0⟩ : ∃ V, V = wr.alloc (.cells #[.int .i8 P, .int .i8 R] 99) := ⟨_, rfl⟩
      have hbV0 : Below wr.heap.size wr V0 := by rw [hV0]; exact (Below.refl _ _).alloc (Nat.le_refl _) _
      have H0 : Bk V0 wr.heap.size 99 #[.int .i8 P, .int .i8 R] := by rw [hV0]; exact Bk.new _ _ _ rfl
      have P0' := PR.keep hbV0
      have Z0' := ZR.keep hbV0
      have bV0 := step_below hbV0 bR
      go_upto_region 10 with fail
      rw [← hV0]
      clear hV0 c1 c2 hbb
      have dr : Below V0.heap.size V0 V0.drew := (Below.refl _ _).drew
      have H1 := H0.keep dr
      have P1 := P0'.keep dr
      have Z1 := Z0'.keep dr
      have b1 := step_below dr bV0
      refine wp_region_still_tail 10 (by kernel_rfl) (by kernel_rfl) ?_
      change wpStill _ _ V0.drew (fun a' => wpList _ _ _ _ a' V0.drew) _ _
      simp only [List.take_succ_cons, List.take_zero, List.drop_succ_cons, List.drop_zero]
      clear H0 P0' Z0' bV0 hbV0 dr PR ZR bR
      generalize V0.drew = wd at *
      have e0 := H1.cell (i := 0) rfl
      have e1 := P1.pgU P hP48
      have f1 := P1.frozen (3 + P)
      have hPi48 : (P : Int) < 48 := by omega
      repeat still_step
      refine wpStill_nil ?_
      obtain ⟨V2, hV2⟩ : ∃ V2, V2 = wd.setCell ⟨W1.heap.size, 3 + P, none⟩ (.int .u32 (bits .or .u32 (pgU l k P) (2 ^ k % 4294967296))) := ⟨_, rfl⟩
      have P2 : Bk V2 W1.heap.size 74 (pgA s (some ⟨b', o', none⟩) l.length c C L.length ct (pgU l (k + 1)) (pgV l k)) := by
        rw [hV2]
        refine (P1.pgSetU P hP48 _).pgCongr (fun i hi => ?_) (fun i hi => rfl)
        by_cases e : i = P
        · subst e
          rw [if_pos rfl]
          exact trkM_yes (by omega) (by simp [HP.out])
        · rw [if_neg e]
          unfold pgU
          rw [trkM_no (by simp [HP.out]; omega)]
      have H2 : Bk V2 wr.heap.size 99 #[.int .i8 P, .int .i8 R] := by rw [hV2]; exact H1.other (by omega) _
      have Z2 : Bk V2 (w.heap.size + 1) 74 zpg := by rw [hV2]; exact Z1.other (by omega) _
      have b2 : Below w.heap.size w V2 := by rw [hV2]; exact b1.setCell (p := ⟨_, _, none⟩) (by dsimp only; omega) _
      have g1 := H2.cell (i := 1) rfl
      go_upto_region 11 with fail
      rw [← hV2]
      clear hV2 P1 H1 Z1 b1 e0 e1 f1
      go_wp2_with fail
      clear H2 g1
      go_loopw [13, 59] (fun _ i wq => ∃ j : Nat, j ≤ R ∧ i = .int .i8 j ∧ Bk wq W1.heap.size 74 (pgA s (some ⟨b', o', none⟩) l.length c C L.length ct (pgU l (k + 1)) (fun i => if i < j then pgV l (k + 1) i else pgV l k i)) ∧ Bk wq (w.heap.size + 1) 74 zpg ∧ Below w.heap.size w wq)
        (fun _ i _ => R - (intOf i).toNat)
      case atStart => exact ⟨0, Nat.zero_le _, rfl, P2, Z2, b2⟩
      case round =>
        clear P2 Z2 b2
        obtain ⟨j, hj, rfl, P3, Z3, b3⟩ := hrel
        by_cases hjl : j < R
        · have hji : (j : Int) < (R : Int) := by omega
          have hj20 : (j : Int) < 20 := by omega
          have hjw : IntKind.i8.wrap ((j : Int) + 1) = (j : Int) + 1 := IntWalk.i8_in _ (by omega)
          have dr : Below wr.heap.size wr wr.drew := (Below.refl _ _).drew
          have P4 := P3.keep dr
          have Z4 := Z3.keep dr
          have b4 := step_below dr b3
          go_upto_region 14 with fail
          refine wp_region_still_tail 9 (by kernel_rfl) (by kernel_rfl) ?_
          change wpStill _ _ wr.drew (fun a' => wpList _ _ _ _ a' wr.drew) _ _
          simp only [List.take_succ_cons, List.take_zero, List.drop_succ_cons, List.drop_zero]
          clear P3 Z3 b3 dr
          generalize wr.drew = we at *
          have e1 := P4.pgV j (by omega)
          rw [if_neg (Nat.lt_irrefl j)] at e1
          have f1 := P4.frozen (51 + j)
          repeat still_step
          refine wpStill_nil ?_
          have P5 := (P4.pgSetV j (by omega) (bits .or .u32 (pgV l k j) (2 ^ k % 4294967296))).pgCongr (u' := pgU l (k + 1)) (v' := fun i => if i < j + 1 then pgV l (k + 1) i else pgV l k i) (fun i hi => rfl) (fun i hi => by
            by_cases e : i = j
            · subst e
              rw [if_pos rfl, if_pos (by omega)]
              exact trkM_yes (by omega) (by simp [HR.out]; omega)
            · rw [if_neg e]
              by_cases h2 : i < j
              · rw [if_pos h2, if_pos (by omega)]
              · rw [if_neg h2, if_neg (by omega)])
          have Z5 := Z4.other (b := W1.heap.size) (k := 51 + j) (by omega) (.int .u32 (bits .or .u32 (pgV l k j) (2 ^ k % 4294967296)))
          have b5 := b4.setCell (p := ⟨W1.heap.size, 51 + j, none⟩) (by dsimp only; omega) (.int .u32 (bits .or .u32 (pgV l k j) (2 ^ k % 4294967296)))
          go_wp2
          go_roundw
          case rel => exact ⟨j + 1, hjl, by go_num, P5, Z5, b5⟩
          case measure => simp [intOf]; omega
        · have hji : ¬ (j : Int) < (R : Int) := by omega
          have P4 := P3.pgCongr (u' := pgU l (k + 1)) (v' := pgV l (k + 1)) (fun i hi => rfl) (fun i hi => by
            by_cases h2 : i < j
            · rw [if_pos h2]
            · rw [if_neg h2]
              unfold pgV
              rw [trkM_no (by simp [HR.out]; omega)])
          clear P3
          go_wp2
          go_roundw
          case rel => exact ⟨k + 1, hlt, by go_num, P4, Z3, b3⟩
          case measure => simp [intOf]; omega
    · obtain rfl : k = l.length := by omega
      have HPR := hide PR.pgRange
      have HZR := hide (show wr.heap[w.heap.size + 1]? = some (.cells zpg 74 (0, 0)) from ZR)
      go_wp2_with (first | (with_reducible refine wpList_load_pg rfl (.tmp 10) rfl W1.heap.size 0 rfl s A l.length c C L.length ct (pgU l l.length) (pgV l l.length) HPR.out ?_) | (with_reducible refine wpList_store_row rfl 74 (.tmp 6) (.tmp 73) rfl (w.heap.size + 1) (pgA s A l.length c C L.length ct (pgU l l.length) (pgV l l.length)) rfl rfl 74 zpg HZR.out pgInfo (HZO.out.1.trans pgA_size.symm) pgA_one ?_))
      exact bodyPost_ret (v := .tuple #[.agg (pgA s A l.length c C L.length ct (pgU l l.length) (pgV l l.length)), .nilIface]) (results_pg Tryd.results33 _ _ (w.heap.size + 1) 74 _ pgA_size _ (by simp [Act.put]) (by simp [Act.put]) (setRow_heap _ _ _ _ _ _ HZR.out)) rfl ⟨by rw [HX1.out, HX2.out], below_setRow' bR (show w.heap.size ≤ w.heap.size + 1 by omega)⟩
end Go.Proofs.YtdglhgfhlcdflaaDoor
