import Derived.Test.YtcepjiglhlmgdaaGreatDoorGal
namespace Go.Proofs.YtcepjiglhlmgdaaGreatDoor
open Go.RowKit Go.Maps

/-- block g holds drums, one behind the other -/
def LD (w : World) (g : Nat) (ds : List (Nat → Int)) : Prop := g < w.heap.size ∧ ∀ j, j < ds.length → w.rangeAt g (j * 96) (dv (ds.getD j (fun _ => 0)))
theorem LD.lt {w : World} {g : Nat} {ds : List (Nat → Int)} (h : LD w g ds) : g < w.heap.size := h.1
theorem LD.range {w : World} {g : Nat} {ds : List (Nat → Int)} (h : LD w g ds) {j : Nat} (hj : j < ds.length) : w.rangeAt g (j * 96) (dv (ds.getD j (fun _ => 0))) := h.2 j hj
theorem rangeAt_keep {w w' : World} {g o : Nat} {cs : List Value} (h : w.rangeAt g o cs) (hg : g < w.heap.size) (hb : Below w.heap.size w w') : w'.rangeAt g o cs := fun i v hv => (hb.cell (p := ⟨g, o + i, none⟩) hg).trans (h i v hv)
theorem LD.keep {w w' : World} {g : Nat} {ds : List (Nat → Int)} (h : LD w g ds) (hb : Below w.heap.size w w') : LD w' g ds := ⟨Nat.lt_of_lt_of_le h.1 hb.size, fun j hj => rangeAt_keep (h.2 j hj) h.1 hb⟩
theorem LD.of_cells {w : World} {g : Nat} {ds : List (Nat → Int)} (h : ∃ cs t, w.heap[g]? = some (.cells cs t (0, 0)) ∧ ∀ j, j < ds.length → ∀ i, i < 96 → cs[j * 96 + i]? = some (.int .u32 (ds.getD j (fun _ => 0) i))) : LD w g ds := by
  obtain ⟨cs, t, h1, h2⟩ := h
  refine ⟨(Array.getElem?_eq_some_iff.1 h1).1, fun j hj i v hv => ?_⟩
  have hi : i < 96 := by
    rcases Nat.lt_or_ge i 96 with h | h
    · exact h
    · rw [List.getElem?_eq_none (by rw [dv_length]; exact h)] at hv; cases hv
  rw [dv_get _ i hi] at hv
  rw [cell_of_row w g _ _ _ _ h1, h2 j hj i hi]
  exact hv
theorem Dr.range {w : World} {g : Nat} {t : TypeId} {d : Nat → Int} (h : Dr w g t d) : w.rangeAt g 0 (dv d) := by
  intro i v hv
  have hi : i < 96 := by
    rcases Nat.lt_or_ge i 96 with h | h
    · exact h
    · rw [List.getElem?_eq_none (by rw [dv_length]; exact h)] at hv; cases hv
  rw [dv_get _ i hi] at hv
  rw [Nat.zero_add, h.cell hi]
  exact hv
theorem dInfo (d : Nat → Int) : (Tryz.prog.info? 53).map (·.size) = some (dv d).length := by rw [dv_length]; exact info53
theorem Dr.loads {w : World} {g : Nat} {t : TypeId} {d : Nat → Int} (h : Dr w g t d) : (Instr.loadAt 53 (.pointer (some ⟨g, 0, none⟩))).run Tryz.prog w = .ok (.agg (da d)) w :=
  run_loadAt_mid w g 0 _ (dv d) _ h.range Tryz.underlying53 rfl (dInfo d)
theorem Dr.later {w : World} {g : Nat} {t : TypeId} {d : Nat → Int} (h : Dr w g t d) (p : Later w) : (Instr.loadAt 53 (.pointer (some ⟨g, 0, none⟩))).run Tryz.prog p.w = .ok (.agg (da d)) p.w := (h.keep p.h).loads

theorem setRow_alloc (w : World) (old cs : Array Value) (t : TypeId) : (w.alloc (.cells old t)).setRow w.heap.size cs = w.alloc (.cells cs t) := by
  have h : ((w.alloc (.cells old t)).setRow w.heap.size cs).heap = (w.alloc (.cells cs t)).heap := by
    apply Array.ext_getElem?
    intro i
    by_cases e : i = w.heap.size
    · subst e
      rw [setRow_heap _ _ _ _ _ _ (heap_alloc_new w (.cells old t)), heap_alloc_new]
    · rw [setRow_other _ _ _ _ e]
      rcases Nat.lt_or_ge i w.heap.size with h | h
      · first | rw [heap_alloc_old w _ h, heap_alloc_old w _ h] | rw [heap_alloc_old w _ _ h, heap_alloc_old w _ _ h]
      · rw [Array.getElem?_eq_none (by simp; omega), Array.getElem?_eq_none (by simp; omega)]
  have e : ∀ a b : World, a.heap = b.heap → a.tape = b.tape → a.drawn = b.drawn → a.os = b.os → a.output = b.output → a = b := fun a b h1 h2 h3 h4 h5 => by cases a; cases b; simp_all
  exact e _ _ h rfl rfl rfl rfl
section
variable {P : Program}
theorem wpList_load_da {ops : Array Oper} {rest : List Oper} {op : Oper} {a : Act} {w : World} {Q : Exit → Act → World → Prop} (hgd : op.guard = none) (ty : TypeId) (x : Operand) (ho : op.op = .load ty x)
    (b o : Nat) (hx : a.eval x = .pointer (some ⟨b, o, none⟩)) (q : Nat → Int) (d : TypeDesc) (hc : w.rangeAt b o (dv q))
    (hu : P.underlying ty = some d) (hd : d.isRow = true) (hi : (P.info? ty).map (·.size) = some (dv q).length)
    (h : wpList P ops Q rest (a.put op.dst (.agg (da q))) w) : wpList P ops Q (op :: rest) a w :=
  wpList_load_mid hgd ty x ho b o hx (dv q) d hc hu hd hi h
theorem quiet_load_da {o : Oper} {a : Act} {C : World → Prop} {K : Act → Prop} (ty : TypeId) (x : Operand) (ho : o.op = .load ty x) (p : Value) (hx : a.eval x = p) (v : Value)
    (hl : ∀ w, C w → (Instr.loadAt ty p).run P w = .ok v w) (h : K (a.put o.dst v)) : o.quiet P a C K :=
  ⟨v, fun w hw => by
    unfold Oper.quietAt execOp
    simp only [ho, hx, Sem.run_bind, hl w hw, Result.andThen_ok, Sem.run_pure]
    exact ⟨rfl, rfl⟩, h⟩
/-- a drum is laid into a new block -/
theorem wpList_store_new {ops : Array Oper} {rest : List Oper} {o : Oper} {a : Act} {w : World} {Q : Exit → Act → World → Prop} (hgd : o.guard = none) (ty : TypeId) (x y : Operand) (ho : o.op = .store ty x y)
    (q : Nat → Int) (hx : a.eval x = .pointer (some ⟨w.heap.size, 0, none⟩)) (hy : a.eval y = .agg (da q))
    (t : TypeId) (old : Array Value) (hi : (P.info? ty).map (·.size) = some (dv q).length) (hold : old.size = (da q).size)
    (h : wpList P ops Q rest (a.put o.dst undef) (w.alloc (.cells (da q) t))) : wpList P ops Q (o :: rest) a (w.alloc (.cells old t)) := by
  refine wpList_store_row hgd ty x y ho w.heap.size (da q) hx hy t old (heap_alloc_new w _) (by rw [hi, da_size, dv_length]) hold (da_one q) ?_
  rw [setRow_alloc]
  exact h
end

theorem map_keep {w w' : World} {P : Program} {k : TypeId} {R : Value → Option (DataW Unit × List MemPlace)} {b n : Nat} {D : DataW Unit} (h : w.ownsMap P k R b n D) (hb : Below w.heap.size w w') : w'.ownsMap P k R b n D := by
  have hl := h.lt
  obtain ⟨es, clock, h1, h2⟩ := h
  exact ⟨es, clock, (hb.block _ hl).trans h1, h2⟩

theorem cell_block {w w' : World} {b o : Nat} (h : w'.heap[b]? = w.heap[b]?) : w'.cell? ⟨b, o, none⟩ = w.cell? ⟨b, o, none⟩ := by simp [World.cell?, h]

/-- what the map holds: drums that are valid -/
def InV (D : DataW Unit) (s : Int) (n : Nat) : Prop :=
  ∀ q kl, DWF q → keyOf Tryz.prog 53 (.agg (da q)) = some kl → ∃ b : Bool, D.atKey kl (.lit (.bool false)) = .lit (.bool b) ∧ (b = true → drB s n q = true)
theorem inV_start (s : Int) (n : Nat) : InV (.map []) s n := fun _ _ _ _ => ⟨false, rfl, fun h => by cases h⟩
theorem drB_congr {s : Int} {n : Nat} {p q : Nat → Int} (h : da p = da q) : drB s n p = drB s n q := by
  unfold drB
  rw [Bool.eq_iff_iff]
  simp only [List.all_eq_true, List.mem_range]
  refine forall_congr' fun i => forall_congr' fun hi => ?_
  unfold stepB
  rw [da_inj h i hi]
theorem inV_step {D : DataW Unit} {s : Int} {n : Nat} {d : Nat → Int} {k0 : Lit} (hD : Maps.IsMap D) (h : InV D s n)
    (hk : keyOf Tryz.prog 53 (.agg (da d)) = some k0) (hd : drB s n d = true) : InV (D.put k0 (.lit (.bool true))) s n := by
  intro q kl hq hkl
  by_cases e : kl = k0
  · subst e
    have e1 := lawD.inj hk hkl
    simp only [Value.agg.injEq] at e1
    exact ⟨true, by rw [Maps.atKey_put_same hD (lawD.key hkl)], fun _ => by rw [← drB_congr e1]; exact hd⟩
  · rw [Maps.atKey_put_other e]
    exact h q kl hq hkl
theorem zeroB (w : World) : (zeroValue 4).run Tryz.prog w = .ok (.bool false) w := by kernel_rfl
/-- all the drums are valid -/
def drsB (s : Int) (n : Nat) (ds : List (Nat → Int)) : Bool := ds.all (drB s n)
def VG (s : Int) (n : Nat) (ds : List (Nat → Int)) (k : Nat) : Prop := ∀ j, j < k → drB s n (ds.getD j (fun _ => 0)) = true
theorem VG_succ {s : Int} {n : Nat} {ds : List (Nat → Int)} {k : Nat} (h : VG s n ds k) (h' : drB s n (ds.getD k (fun _ => 0)) = true) : VG s n ds (k + 1) := fun j hj => by
  rcases Nat.lt_or_ge j k with h1 | h1
  · exact h j h1
  · rw [show j = k by omega]; exact h'
theorem drsB_yes {s : Int} {n : Nat} {ds : List (Nat → Int)} (h : VG s n ds ds.length) : drsB s n ds = true := by
  rw [drsB, List.all_eq_true]
  intro q hq
  obtain ⟨j, hj, rfl⟩ := List.getElem_of_mem hq
  have := h j hj
  simpa [List.getD, hj] using this
theorem drsB_no {s : Int} {n : Nat} {ds : List (Nat → Int)} {k : Nat} (hk : k < ds.length) (h : drB s n (ds.getD k (fun _ => 0)) = false) : drsB s n ds = false := by
  rw [drsB, List.all_eq_false]
  exact ⟨ds[k], List.getElem_mem hk, by simpa [List.getD, hk] using h⟩

set_option maxRecDepth 100000 in
set_option maxHeartbeats 4000000 in
theorem fits_any (s : Int) (A : Option Addr) (n c g e : Nat) (ds : List (Nat → Int)) (w : World) (hL : LD w g ds) (hn : n ≤ 24) (hs : 2 ≤ s ∧ s ≤ 96) (hd : ∀ j, j < ds.length → DWF (ds.getD j (fun _ => 0))) (hds : ds.length ≤ 1048576) :
    Calls Tryz.prog 57 #[.agg #[.int .i64 s, .slice A n c], .slice (some ⟨g, 0, none⟩) ds.length e] w (Says (drsB s n ds) w) := by
  have hz := zeroDrum
  have hmm := @run_makeMap Tryz.prog
  have hb0 : Below w.heap.size w ((w.alloc (.cells #[.int .i64 s, .slice A n c] 93)).alloc (.map #[] 0)) := ((Below.refl _ _).alloc (Nat.le_refl _) _).alloc (by simp) _
  go_enter Tryz.func57, Tryz.ntmps57
  go_wp2_with fail
  clear hmm
  go_loopw [7, 11] (fun _ i wr => ∃ (k : Nat) (D : DataW Unit) (N : Nat), k ≤ ds.length ∧ i = .int .i64 k ∧ VG s n ds k ∧ InV D s n ∧ N ≤ k ∧ wr.cell? ⟨w.heap.size, 0, none⟩ = some (.int .i64 s) ∧ wr.cell? ⟨w.heap.size, 1, none⟩ = some (.slice A n c) ∧ wr.ownsMap Tryz.prog 53 (plainElem Tryz.prog 4) (w.heap.size + 1) N D ∧ Below w.heap.size w wr)
    (fun _ i _ => ds.length - (intOf i).toNat)
  case atStart => exact ⟨0, .map [], 0, Nat.zero_le _, rfl, fun j hj => absurd hj (Nat.not_lt_zero _), inV_start s n, Nat.le_refl _, by simp [go_sem], by simp [go_sem], by simpa using World.ownsMap_made (P := Tryz.prog) (k := 53) (R := plainElem Tryz.prog 4) (w.alloc (.cells #[.int .i64 s, .slice A n c] 93)), hb0⟩
  case round =>
    obtain ⟨k, D, N, hk, rfl, hG, hIn, hNk, m0, m1, hown, hb⟩ := hrel
    have HGG := hide hG
    have HIN := hide hIn
    clear hG hIn
    by_cases hlt : k < ds.length
    · have hR := hide ((hL.keep hb).range hlt)
      have hdk := hd k hlt
      obtain ⟨q, hqq⟩ : ∃ q, ds.getD k (fun _ => 0) = q := ⟨_, rfl⟩
      rw [hqq] at hR hdk
      obtain ⟨key, hkey⟩ := key_drum q hdk
      have HKEY := hide hkey
      have hkk := HKEY.out
      clear hkey
      have hza : za.size = (da q).size := by rw [da_size]; rfl
      have hbx := hb.alloc hb.size (.cells (da q) 53)
      have own4 := hown.alloc (.cells (da q) 53)
      have n0 : (wr.alloc (.cells (da q) 53)).cell? ⟨w.heap.size, 0, none⟩ = some (.int .i64 s) := (((Below.refl _ _).alloc (Nat.le_refl _) _ : Below wr.heap.size wr _).cell (p := ⟨w.heap.size, 0, none⟩) (World.block_lt_of_cell? wr _ m0)).trans m0
      have n1 : (wr.alloc (.cells (da q) 53)).cell? ⟨w.heap.size, 1, none⟩ = some (.slice A n c) := (((Below.refl _ _).alloc (Nat.le_refl _) _ : Below wr.heap.size wr _).cell (p := ⟨w.heap.size, 1, none⟩) (World.block_lt_of_cell? wr _ m1)).trans m1
      have D4 : Dr (wr.alloc (.cells (da q) 53)) wr.heap.size 53 q := heap_alloc_new _ _
      have HR4 := hide D4.range
      have HL4 := hide D4.later
      obtain ⟨v, ps, hlook, hv⟩ := own4.lookup lawD Tryz.underlying152 (zeroB _) (plainElem_bool (H := Unit) Tryz.underlying4 false) hkk
      obtain ⟨bb, hb1, hb2⟩ := HIN.out q _ hdk hkk
      rw [hb1] at hv
      obtain ⟨x0, rfl, hx0⟩ := bool_inv hv
      obtain ⟨h1, _⟩ : bb = x0 ∧ ps = [] := by simpa using hx0
      subst h1
      clear hv hx0 hb1 m0 m1 hkk
      cases bb
      · clear hb2
        go_wp2_with (first | (with_reducible refine wpList_load_da rfl 53 (.tmp 13) rfl g (k * 96) rfl q _ hR.out Tryz.underlying53 rfl (dInfo q) ?_) | (with_reducible refine wpList_store_new rfl 53 (.tmp 7) (.tmp 14) rfl q rfl rfl 53 _ (dInfo q) hza ?_) | (with_reducible refine wpList_load_da rfl 53 (.tmp 7) rfl wr.heap.size 0 rfl q _ HR4.out Tryz.underlying53 rfl (dInfo q) ?_))
        have q0 := Later.cell n0
        have q1 := Later.cell n1
        have hgd : Tryz.prog.eqGuardType Tryz.prog.depth 53 = false := by kernel_rfl
        have hEQ := fun W => eqDr q (keptD s n q) hdk (kept_wf s n hn q hdk) W
        rw [kept_drB s n hn q hdk] at hEQ
        cases hB : drB s n q
        · rw [hB] at hEQ
          have HB := hide hB
          clear hB
          refine wp_region_later (by kernel_rfl) (by kernel_rfl) ?_
          repeat (first | (go_big_quiet_want; with_reducible refine quiet_load_da 53 (.tmp 7) rfl (.pointer (some ⟨wr.heap.size, 0, none⟩)) rfl (.agg (da q)) (by rintro _ ⟨p, rfl⟩; exact HL4.out p) ?_; go_simp; go_big_quiet_on) | go_big_quiet_step ((go_at_call 73; with_reducible exact Later.call (cut_any s A n c q _ hn hs hdk))))
          refine wpQuiet_nil ?_
          rintro _ ⟨⟨wq, hq⟩, rfl⟩
          go_wp2
          go_ret
          exact ⟨ret_bool (drsB_no hlt (by rw [hqq]; exact HB.out)).symm, hbx.trans (hq.mono hbx.size)⟩
        · rw [hB] at hEQ
          have HB := hide hB
          clear hB
          refine wp_region_later (by kernel_rfl) (by kernel_rfl) ?_
          repeat (first | (go_big_quiet_want; with_reducible refine quiet_load_da 53 (.tmp 7) rfl (.pointer (some ⟨wr.heap.size, 0, none⟩)) rfl (.agg (da q)) (by rintro _ ⟨p, rfl⟩; exact HL4.out p) ?_; go_simp; go_big_quiet_on) | go_big_quiet_step ((go_at_call 73; with_reducible exact Later.call (cut_any s A n c q _ hn hs hdk))))
          refine wpQuiet_nil ?_
          rintro _ ⟨⟨wq, hq⟩, rfl⟩
          have own5 := map_keep own4 hq
          have HR5 := hide (D4.keep hq).range
          have hb5 := hbx.trans (hq.mono hbx.size)
          have n0' := (hq.cell (p := ⟨w.heap.size, 0, none⟩) (World.block_lt_of_cell? _ _ n0)).trans n0
          have n1' := (hq.cell (p := ⟨w.heap.size, 1, none⟩) (World.block_lt_of_cell? _ _ n1)).trans n1
          have hkk := HKEY.out
          have hval := plainElem_bool (H := Unit) Tryz.underlying4 true
          go_wp2_with (first | (with_reducible refine wpList_load_da rfl 53 (.tmp 7) rfl wr.heap.size 0 rfl q _ HR5.out Tryz.underlying53 rfl (dInfo q) ?_) | (at_mapUpdate; refine wpList_mapUpdate_own _ rfl _ _ _ 152 rfl 53 4 lawD Tryz.underlying152 _ (w.heap.size + 1) N D rfl own5 (by unfold maxLen; omega) _ _ _ rfl rfl hkk _ [] hval ?_; intro w6 hown6 hgrow6))
          go_roundw
          case rel =>
            have hlt0 := World.block_lt_of_cell? _ _ n0'
            have hbk := hgrow6.block w.heap.size hlt0 (by simp)
            exact ⟨k + 1, _, N + 1, hlt, by go_num, VG_succ HGG.out (by rw [hqq]; exact HB.out), inV_step own5.isMap HIN.out HKEY.out HB.out, by omega, (cell_block hbk).trans n0', (cell_block hbk).trans n1', hown6, hb5.grown hgrow6 hb5.size (fun j hj => by cases hj; omega)⟩
          case measure => simp [intOf]; omega
      · have hB := hb2 rfl
        have HB := hide hB
        clear hB hb2
        go_wp2_with (first | (with_reducible refine wpList_load_da rfl 53 (.tmp 13) rfl g (k * 96) rfl q _ hR.out Tryz.underlying53 rfl (dInfo q) ?_) | (with_reducible refine wpList_store_new rfl 53 (.tmp 7) (.tmp 14) rfl q rfl rfl 53 _ (dInfo q) hza ?_) | (with_reducible refine wpList_load_da rfl 53 (.tmp 7) rfl wr.heap.size 0 rfl q _ HR4.out Tryz.underlying53 rfl (dInfo q) ?_))
        go_roundw
        case rel => exact ⟨k + 1, D, N, hlt, by go_num, VG_succ HGG.out (by rw [hqq]; exact HB.out), HIN.out, by omega, n0, n1, own4, hbx⟩
        case measure => simp [intOf]; omega
    · obtain rfl : k = ds.length := by omega
      go_wp2
      go_ret
      exact ⟨ret_bool (drsB_yes HGG.out).symm, hb⟩
end Go.Proofs.YtcepjiglhlmgdaaGreatDoor
