import Derived.Test.YtcocfnjbgceidaaGreatGap
import Derived.Test.YtcocfnjbgceidaaGreatGag
import Derived.Deep.CutRange
namespace Go.Proofs.YtcocfnjbgceidaaGreat
open Go.RowKit Go.Maps
theorem results_w {fn : Func} {p r : Tmp} (h : fn.results = #[.cell p 106, .tmp r]) (tmps : Array Value) (w : World) (g : Nat) (t : TypeId) (cs : Array Value) (c : Value) (hi : cs.size = 4)
    (hp : tmps.getD p undef = .pointer (some ⟨g, 0, none⟩)) (hr : tmps.getD r undef = c) (hg : w.heap[g]? = some (.cells cs t (0, 0))) :
    (results fn tmps).run Tryz.prog w = .ok (.tuple #[.agg cs, c]) w := by
  have hp' : tmps[p]?.getD undef = .pointer (some ⟨g, 0, none⟩) := by simpa using hp
  have hr' : tmps[r]?.getD undef = c := by simpa using hr
  have hinf : (Tryz.prog.info? 106).map (·.size) = some 4 := by kernel_rfl
  simp [results, h, hp', hr', asAddr, run_loadVar_row w g t 106 cs (0, 0) _ hg Tryz.underlying106 rfl (by rw [hi]; exact hinf)]
theorem infoW4 (a b c d : Value) : (Tryz.prog.info? 106).map (·.size) = some (#[a, b, c, d] : Array Value).size := by kernel_rfl
theorem szW4 (a b c d a' b' c' d' : Value) : (#[a, b, c, d] : Array Value).size = (#[a', b', c', d'] : Array Value).size := rfl
theorem oneW4 (s : Int) (C : Option Addr) (n q : Nat) (M : Option Nat) (D : Option Addr) (m r : Nat) : (#[.int .i64 s, .slice C n q, .map M, .slice D m r] : Array Value).all (·.oneCell') = true := by simp [Value.oneCell']
/-- what wearingFor leaves: no wear, or one whose map and strokes are the call's own -/
def WfR (ok : Bool) (s : Int) (A : Option Addr) (n c : Nat) (l : List (Int × Int × Int)) (z : List Int) (w : World) (e : Ending) (w' : World) : Prop :=
  (ok = false ∧ e = .returned (.tuple #[.agg #[.int .i64 0, .slice none 0 0, .map none, .slice none 0 0], .bool false]) ∨ ok = true ∧ ∃ (M : Nat) (C : Option Addr) (q : Nat), e = .returned (.tuple #[.agg #[.int .i64 s, .slice A n c, .map (some M), .slice C z.length q], .bool true]) ∧ w.heap.size ≤ M ∧
    w'.ownsMap Tryz.prog 138 (plainElem Tryz.prog 2) M l.length (mapW l l.length) ∧ w'.ownsRow w.heap.size 2 1 (.slice C z.length q) z.length (icells z)) ∧ Below w.heap.size w w'
theorem own_keepM {w w' : World} {base n q M : Nat} {e : TypeId} {size : Nat} {C : Option Addr} {xs : List Value} (h : w.ownsRow base e size (.slice C n q) n xs) (hC : C.isNone ∨ ∃ gz, C = some ⟨gz, 0, none⟩ ∧ M < gz) (hg : w.grownBy w' (some M)) : w'.ownsRow base e size (.slice C n q) n xs := by
  rcases hC with hc | ⟨gz, rfl, hgz⟩
  · cases C with
    | none => exact h.kept hg (Or.inl rfl)
    | some a => cases hc
  · exact h.kept hg (Or.inr (fun e => by have e' : gz = M := by simpa [Value.ownBlock] using e
                                         omega))
theorem own_keepM' {w : World} {base n g : Nat} {e : TypeId} {size : Nat} {v : Value} {xs : List Value} (h : w.ownsRow base e size v n xs) (hb : g < base ∨ True) (cs : Array Value) (hne : v.ownBlock ≠ some g) : (w.setRow g cs).ownsRow base e size v n xs :=
  h.kept (row := some g) ⟨rfl, rfl, rfl, by simp, fun k _ hk => setRow_other _ _ _ _ (fun e => hk (by rw [e]))⟩ (Or.inr hne)
theorem map_keepR {w : World} {M g n : Nat} {D : DataW Unit} {k : TypeId} {R : Value → Option (DataW Unit × List MemPlace)} (h : w.ownsMap Tryz.prog k R M n D) (hne : g ≠ M) (cs : Array Value) : (w.setRow g cs).ownsMap Tryz.prog k R M n D := by
  obtain ⟨es, clock, h1, h2⟩ := h
  exact ⟨es, clock, (setRow_other _ _ _ _ (fun e => hne e.symm)).trans h1, h2⟩
set_option maxRecDepth 20000 in
set_option maxHeartbeats 8000000 in
theorem wearingFor_any (s : Int) (A : Option Addr) (c : Nat) (h : List (Int × Int)) (P : Option Addr) (d : Nat) (l : List (Int × Int × Int)) (U : Option Addr) (v : Nat) (z : List Int) (Lv : Value) (lb : Bool) (w : World) (hA : HA w A h) (hn : h.length ≤ 1048576) (hwf : HWF h) (hs : -32768 ≤ s ∧ s ≤ 32767)
    (hL : WnA w P l) (hU : SZ w U z) (hl : l.length ≤ 1048576) (hz : z.length ≤ 1048576) (hlw : WnWF l) (hzw : ZWF z) (hlv : ∀ W, Below w.heap.size w W → Calls Tryz.prog 84 #[Lv] W (Says lb W)) :
    Calls Tryz.prog 62 #[.agg #[.int .i16 s, .slice A h.length c], .agg #[.slice P l.length d, .slice U z.length v], Lv] w (WfR (weB s h l z && lb) s A h.length c l z w) := by
  obtain ⟨X, hX⟩ : ∃ X, X = ((w.alloc (.cells #[.int .i16 s, .slice A h.length c] 39)).alloc (.cells #[.slice P l.length d, .slice U z.length v] 34)).alloc (.cells #[.int .i64 0, .slice none 0 0, .map none, .slice none 0 0] 106) := ⟨_, rfl⟩
  have hb0 : Below w.heap.size w X := by rw [hX]; exact (((Below.refl _ _).alloc (Nat.le_refl _) _).alloc (by simp) _).alloc (by simp; omega) _
  have P0 : Bk X w.heap.size 39 #[.int .i16 s, .slice A h.length c] := by rw [hX]; exact (Bk.new _ _ _ rfl).old _ |>.old _
  have P1 : Bk X (w.heap.size + 1) 34 #[.slice P l.length d, .slice U z.length v] := by rw [hX]; exact (Bk.new _ _ _ (by simp)).old _
  have P2 : Bk X (w.heap.size + 1 + 1) 106 #[.int .i64 0, .slice none 0 0, .map none, .slice none 0 0] := by rw [hX]; exact Bk.new _ _ _ (by simp)
  have hX3 : X.heap.size = w.heap.size + 1 + 1 + 1 := by rw [hX]; simp
  go_enter Tryz.func62, Tryz.ntmps62
  go_upto_region 1 with fail
  rw [← hX]
  clear hX
  have c0 := P0.cell (i := 0) rfl
  have c1 := P0.cell (i := 1) rfl
  go_wp2_with fail
  refine (machineFor_any s A c h (.slice none 0 0) true _ (hA.below hb0) hn hwf hs (fun _ W _ => fits_nil _ s A h.length c rfl W)).mono ?_
  rintro e w2 ⟨rfl, hb2⟩
  rw [Bool.and_true]
  have b2 := step_below hb2 hb0
  have hs2 := hb2.size
  clear c0 c1
  obtain ⟨Y, hY⟩ : ∃ Y, Y = w2.alloc (.cells #[.int .i64 s, .slice A h.length c] 101) := ⟨_, rfl⟩
  have hbY : Below w2.heap.size w2 Y := by rw [hY]; exact (Below.refl _ _).alloc (Nat.le_refl _) _
  have M0 : Bk Y w2.heap.size 101 #[.int .i64 s, .slice A h.length c] := by rw [hY]; exact Bk.new _ _ _ rfl
  have Q1 := (P1.keep hb2).keep hbY
  have Q2 := (P2.keep hb2).keep hbY
  have bY := step_below hbY b2
  have hsY := hbY.size
  go_upto_region 2 with fail
  rw [← hY]
  clear hY
  cases hf : frB s h
  · have HX := hide (show (weB s h l z && lb) = false by simp [weB, hf])
    have HB := hide (show Y.heap[w.heap.size + 1 + 1]? = some (.cells #[.int .i64 0, .slice none 0 0, .map none, .slice none 0 0] 106 (0, 0)) from Q2)
    clear hf
    go_wp2_with (first | (with_reducible refine wpList_store_row rfl 106 (.tmp 6) (.tmp 31) rfl (w.heap.size + 1 + 1) #[.int .i64 0, .slice none 0 0, .map none, .slice none 0 0] rfl rfl 106 #[.int .i64 0, .slice none 0 0, .map none, .slice none 0 0] HB.out (infoW4 _ _ _ _) (szW4 _ _ _ _ _ _ _ _) (oneW4 _ _ _ _ _ _ _ _) ?_))
    exact bodyPost_ret (v := .tuple #[.agg #[.int .i64 0, .slice none 0 0, .map none, .slice none 0 0], .bool false]) (results_w Tryz.results62 _ _ (w.heap.size + 1 + 1) _ #[.int .i64 0, .slice none 0 0, .map none, .slice none 0 0] _ rfl (by simp [Act.put]) (by simp [Act.put]) (setRow_heap _ _ _ _ _ _ HB.out)) rfl ⟨Or.inl ⟨HX.out, rfl⟩, below_setRow' bY (by omega)⟩
  have hYlt := M0.lt
  have M0c0 := M0.cell (i := 0) rfl
  have M0c1 := M0.cell (i := 1) rfl
  have Q1c0 := Q1.cell (i := 0) rfl
  have Q1c1 := Q1.cell (i := 1) rfl
  have KC := canWear_any s A h.length c P d l U v z Y (hL.below bY) (hU.below bY) hl hz hn hs hlw
  cases hc : canB s h.length l z
  · have HX := hide (show (weB s h l z && lb) = false by simp [weB_can, hc])
    rw [hc] at KC
    clear hf hc
    go_wp2_with fail
    refine KC.mono ?_
    rintro e w4 ⟨rfl, hb4⟩
    have b4 := step_below hb4 bY
    have HB := hide (show w4.heap[w.heap.size + 1 + 1]? = some (.cells #[.int .i64 0, .slice none 0 0, .map none, .slice none 0 0] 106 (0, 0)) from Q2.keep hb4)
    clear M0c0 M0c1 Q1c0 Q1c1
    go_wp2_with (first | (with_reducible refine wpList_store_row rfl 106 (.tmp 6) (.tmp 31) rfl (w.heap.size + 1 + 1) #[.int .i64 0, .slice none 0 0, .map none, .slice none 0 0] rfl rfl 106 #[.int .i64 0, .slice none 0 0, .map none, .slice none 0 0] HB.out (infoW4 _ _ _ _) (szW4 _ _ _ _ _ _ _ _) (oneW4 _ _ _ _ _ _ _ _) ?_))
    exact bodyPost_ret (v := .tuple #[.agg #[.int .i64 0, .slice none 0 0, .map none, .slice none 0 0], .bool false]) (results_w Tryz.results62 _ _ (w.heap.size + 1 + 1) _ #[.int .i64 0, .slice none 0 0, .map none, .slice none 0 0] _ rfl (by simp [Act.put]) (by simp [Act.put]) (setRow_heap _ _ _ _ _ _ HB.out)) rfl ⟨Or.inl ⟨HX.out, rfl⟩, below_setRow' b4 (by omega)⟩
  rw [hc] at KC
  have HW := hide (show (weB s h l z && lb) = lb by simp [weB_can, hf, hc])
  clear hf hc
  go_wp2_with fail
  refine KC.mono ?_
  rintro e w4 ⟨rfl, hb4⟩
  have b4 := step_below hb4 bY
  have R0 := M0.keep hb4
  have R1 := Q1.keep hb4
  have R2 := Q2.keep hb4
  clear M0c0 M0c1 Q1c0 Q1c1 M0 Q1 Q2
  have KL := hlv _ b4
  have hs4 := hb4.size
  go_wp2_with fail
  refine KL.mono ?_
  rintro e w5 ⟨rfl, hb5⟩
  have b5 := step_below hb5 b4
  have S0 := R0.keep hb5
  have S1 := R1.keep hb5
  have S2 := R2.keep hb5
  have hs5 := hb5.size
  clear KC KL hlv R0 R1 R2
  cases lb
  · have HX := HW
    have HB := hide (show w5.heap[w.heap.size + 1 + 1]? = some (.cells #[.int .i64 0, .slice none 0 0, .map none, .slice none 0 0] 106 (0, 0)) from S2)
    go_wp2_with (first | (with_reducible refine wpList_store_row rfl 106 (.tmp 6) (.tmp 31) rfl (w.heap.size + 1 + 1) #[.int .i64 0, .slice none 0 0, .map none, .slice none 0 0] rfl rfl 106 #[.int .i64 0, .slice none 0 0, .map none, .slice none 0 0] HB.out (infoW4 _ _ _ _) (szW4 _ _ _ _ _ _ _ _) (oneW4 _ _ _ _ _ _ _ _) ?_))
    exact bodyPost_ret (v := .tuple #[.agg #[.int .i64 0, .slice none 0 0, .map none, .slice none 0 0], .bool false]) (results_w Tryz.results62 _ _ (w.heap.size + 1 + 1) _ #[.int .i64 0, .slice none 0 0, .map none, .slice none 0 0] _ rfl (by simp [Act.put]) (by simp [Act.put]) (setRow_heap _ _ _ _ _ _ HB.out)) rfl ⟨Or.inl ⟨HX.out, rfl⟩, below_setRow' b5 (by omega)⟩
  have hmm := @run_makeMap Tryz.prog
  obtain ⟨W5, hW5⟩ : ∃ W5, W5 = w5.alloc (.map #[] 0) := ⟨_, rfl⟩
  have hbm : Below w5.heap.size w5 W5 := by rw [hW5]; exact (Below.refl _ _).alloc (Nat.le_refl _) _
  have own5 : W5.ownsMap Tryz.prog 138 (plainElem (H := Unit) Tryz.prog 2) w5.heap.size 0 (.map []) := by rw [hW5]; exact World.ownsMap_made _ _ _ _
  have bm := step_below hbm b5
  have U0 := S0.keep hbm
  have U1 := S1.keep hbm
  have U2 := S2.keep hbm
  have hsm := hbm.size
  have hsM : w5.heap.size < W5.heap.size := by rw [hW5]; simp
  have S1c : (w5.alloc (.map #[] 0)).cell? ⟨w.heap.size + 1, 1, none⟩ = some (.slice U z.length v) := by rw [← hW5]; exact U1.cell (i := 1) rfl
  clear S0 S1 S2
  go_wp2_with fail
  rw [← hW5]
  clear hmm hW5 S1c
  refine (cloneZ_any U v z _ (hU.below bm) hz).mono ?_
  rintro e w6 ⟨C, q, rfl, ownz, hb6⟩
  have b6 := step_below hb6 bm
  have own6 := map_keep own5 hb6
  have V0 := U0.keep hb6
  have V1 := U1.keep hb6
  have V2 := U2.keep hb6
  have hs6 := hb6.size
  clear U0 U1 U2 own5
  obtain ⟨W7, hW7⟩ : ∃ W7, W7 = w6.alloc (.cells #[.map (some w5.heap.size), .slice C z.length q] 104) := ⟨_, rfl⟩
  have hb7 : Below w6.heap.size w6 W7 := by rw [hW7]; exact (Below.refl _ _).alloc (Nat.le_refl _) _
  have K0 : Bk W7 w6.heap.size 104 #[.map (some w5.heap.size), .slice C z.length q] := by rw [hW7]; exact Bk.new _ _ _ rfl
  have b7 := step_below hb7 b6
  have own7 := map_keep own6 hb7
  have ownz7 := own_keep ownz hb7
  have G0 := V0.keep hb7
  have G1 := V1.keep hb7
  have G2 := V2.keep hb7
  have hs7 := hb7.size
  clear V0 V1 V2 own6 ownz
  go_upto_region 5 with fail
  rw [← hW7]
  clear hW7
  have G1c := G1.cell (i := 0) rfl
  go_wp2_with fail
  clear G1c
  obtain ⟨M, hM⟩ : ∃ M, M = w5.heap.size := ⟨_, rfl⟩
  obtain ⟨T0, hT0⟩ : ∃ T0, T0 = w6.heap.size := ⟨_, rfl⟩
  have hMw : w.heap.size + 1 + 1 < M := by rw [hM]; omega
  have hMg : w2.heap.size < M := by rw [hM]; omega
  have hMT : M < T0 := by rw [hM, hT0]; omega
  have hMW : M < W5.heap.size := by rw [hM]; exact hsM
  rw [← hM] at own7 K0 ⊢
  rw [← hT0] at K0 ⊢
  clear hsM
  obtain ⟨gm, hgm⟩ : ∃ gm, gm = w2.heap.size := ⟨_, rfl⟩
  rw [← hgm] at G0 hMg ⊢
  have ownz8 := own_low ownz7 bm.size
  have hWs := b7.size
  have hg2 : w.heap.size + 1 + 1 < gm := by rw [hgm]; omega
  clear G1 hM hT0 hgm P0 P1 P2 hb0 hb2 hbY hb4 hb5 hbm hb6 hb7 b2 bY b4 b5 bm b6 hA hU
  go_loopw [40] (fun i wr => ∃ k : Nat, k ≤ l.length ∧ i = .int .i64 k ∧ wr.ownsMap Tryz.prog 138 (plainElem (H := Unit) Tryz.prog 2) M k (mapW l k) ∧ wr.ownsRow w.heap.size 2 1 (.slice C z.length q) z.length (icells z) ∧ (C.isNone ∨ ∃ gz, C = some ⟨gz, 0, none⟩ ∧ M < gz) ∧ Bk wr gm 101 #[.int .i64 s, .slice A h.length c] ∧ Bk wr T0 104 #[.map (some M), .slice C z.length q] ∧ Bk wr (w.heap.size + 1 + 1) 106 #[.int .i64 0, .slice none 0 0, .map none, .slice none 0 0] ∧ Below w.heap.size w wr)
    (fun i _ => l.length - (intOf i).toNat)
  case atStart =>
    refine ⟨0, Nat.zero_le _, rfl, own7, ownz8, ?_, G0, K0, G2, b7⟩
    rcases ownz7.2 with ⟨e1, _⟩ | ⟨g', cap, cur, e1, hbz, _⟩
    · simp at e1; exact Or.inl (by rw [e1.1]; rfl)
    · simp at e1; exact Or.inr ⟨g', e1.1, Nat.lt_of_lt_of_le hMW hbz⟩
  case round =>
    obtain ⟨k, hk, rfl, own, ownz, hCz, m0, k0, z2, hb⟩ := hrel
    have HC := hide hCz
    clear hCz own7 ownz7 ownz8 G0 K0 G2
    have hsr := hb.size
    by_cases hlt : k < l.length
    · obtain ⟨pb, o, rfl, hbb, c1, c2, c3⟩ := hL k hlt
      have d1 := (hb.cell (p := ⟨pb, o + k * 3, none⟩) hbb).trans c1
      have d2 := (hb.cell (p := ⟨pb, o + k * 3 + 1, none⟩) hbb).trans c2
      have d3 := (hb.cell (p := ⟨pb, o + k * 3 + 2, none⟩) hbb).trans c3
      obtain ⟨m12, m34, m56⟩ := hlw k hlt
      have hMl := own.lt
      have hTl := k0.lt
      obtain ⟨Yk, hYk⟩ : ∃ Yk, Yk = wr.alloc (.cells #[.int .i8 (wnS l k), .int .i8 (wnT l k), .int .i64 (wnP l k)] 97) := ⟨_, rfl⟩
      have hyd : Below wr.heap.size wr Yk.drew := by rw [hYk]; exact ((Below.refl _ _).alloc (Nat.le_refl _) _).drew
      have B0 : Bk Yk.drew wr.heap.size 97 #[.int .i8 (wnS l k), .int .i8 (wnT l k), .int .i64 (wnP l k)] := by rw [hYk]; exact (Bk.new _ _ _ rfl).keep (Below.refl _ _).drew
      have ownD := map_keep own hyd
      have t0_ : Yk.drew.cell? ⟨T0, 0, none⟩ = some (.map (some M)) := (k0.keep hyd).cell (i := 0) rfl
      have t1_ : Yk.drew.cell? ⟨wr.heap.size, 0, none⟩ = some (.int .i8 (wnS l k)) := B0.cell (i := 0) rfl
      have t2_ : Yk.drew.cell? ⟨wr.heap.size, 1, none⟩ = some (.int .i8 (wnT l k)) := B0.cell (i := 1) rfl
      have t3_ : Yk.drew.cell? ⟨wr.heap.size, 2, none⟩ = some (.int .i64 (wnP l k)) := B0.cell (i := 2) rfl
      clear c1 c2 c3 hL
      go_wp2_with fail
      rw [← hYk]
      clear hYk
      refine wp_region_held_drew (S := fun w' => w'.cell? ⟨T0, 0, none⟩ = some (.map (some M)) ∧ w'.cell? ⟨wr.heap.size, 0, none⟩ = some (.int .i8 (wnS l k)) ∧ w'.cell? ⟨wr.heap.size, 1, none⟩ = some (.int .i8 (wnT l k)) ∧ w'.cell? ⟨wr.heap.size, 2, none⟩ = some (.int .i64 (wnP l k))) (by kernel_rfl) ⟨t0_, t1_, t2_, t3_⟩ fun hS1 => ?_
      refine wpAnyH_take (i := 0) (v := .pointer (some ⟨T0, 0, none⟩)) rfl (by kernel_rfl) (by kernel_rfl) (by kernel_rfl) (fun _ _ _ h => h) (Or.inl ⟨by rfl, fun w' _ => by go_simp⟩) hS1 ?_
      change wpAnyH _ _ _ _ _ _ _ (Act.put _ (some 44) _) _
      simp only [Act.put, List.setIfInBounds_toArray, List.set_cons_zero, List.set_cons_succ]
      refine wpAnyH_take (i := 1) (v := .map (some M)) rfl (by kernel_rfl) (by kernel_rfl) (by kernel_rfl) (fun _ _ _ h => h) (Or.inl ⟨by rfl, fun w' h => ?_⟩) hS1 ?_
      · have c0 := h.1
        clear h
        go_simp
      change wpAnyH _ _ _ _ _ _ _ (Act.put _ (some 45) _) _
      simp only [Act.put, List.setIfInBounds_toArray, List.set_cons_zero, List.set_cons_succ]
      refine wpAnyH_take (i := 2) (v := .agg #[.int .i8 (wnS l k), .int .i8 (wnT l k), .int .i64 (wnP l k)]) rfl (by kernel_rfl) (by kernel_rfl) (by kernel_rfl) (fun _ _ _ h => h) (Or.inl ⟨by rfl, fun w' h => ?_⟩) hS1 ?_
      · have c0 := h.2.1
        have c1 := h.2.2.1
        have c2 := h.2.2.2
        clear h
        go_simp
      change wpAnyH _ _ _ _ _ _ _ (Act.put _ (some 46) _) _
      simp only [Act.put, List.setIfInBounds_toArray, List.set_cons_zero, List.set_cons_succ]
      refine wpAnyH_take (i := 4) (v := .pointer (some ⟨wr.heap.size, 2, none⟩)) rfl (by kernel_rfl) (by kernel_rfl) (by kernel_rfl) (fun _ _ _ h => h) (Or.inl ⟨by rfl, fun w' _ => by go_simp⟩) hS1 ?_
      change wpAnyH _ _ _ _ _ _ _ (Act.put _ (some 48) _) _
      simp only [Act.put, List.setIfInBounds_toArray, List.set_cons_zero, List.set_cons_succ]
      refine wpAnyH_take (i := 5) (v := .int .i64 (wnP l k)) rfl (by kernel_rfl) (by kernel_rfl) (by kernel_rfl) (fun _ _ _ h => h) (Or.inl ⟨by rfl, fun w' h => ?_⟩) hS1 ?_
      · have c0 := h.2.2.2
        clear h
        go_simp
      change wpAnyH _ _ _ _ _ _ _ (Act.put _ (some 49) _) _
      simp only [Act.put, List.setIfInBounds_toArray, List.set_cons_zero, List.set_cons_succ]
      refine wpAnyH_ready (rs := [3]) (by kernel_rfl) (by simp) (AllReadyH.cons rfl ?_ AllReadyH.nil)
      intro K hK
      rw [if_pos (by rfl)]
      go_simp
      refine (wornAt_any _ _ _ _ m12 m34).mono ?_
      rintro e w8 ⟨rfl, hb8⟩
      have own8 := map_keep ownD hb8
      have u0_ := (hb8.cell (p := ⟨T0, 0, none⟩) (World.block_lt_of_cell? _ _ t0_)).trans t0_
      have u1_ := (hb8.cell (p := ⟨wr.heap.size, 0, none⟩) (World.block_lt_of_cell? _ _ t1_)).trans t1_
      have u2_ := (hb8.cell (p := ⟨wr.heap.size, 1, none⟩) (World.block_lt_of_cell? _ _ t2_)).trans t2_
      have u3_ := (hb8.cell (p := ⟨wr.heap.size, 2, none⟩) (World.block_lt_of_cell? _ _ t3_)).trans t3_
      refine hK.out _ _ ⟨u0_, u1_, u2_, u3_⟩ (fun hS2 => ?_)
      clear hK K hS1
      refine wpAnyH_ready (rs := [6]) (by kernel_rfl) (by simp) (AllReadyH.cons rfl ?_ AllReadyH.nil)
      intro K hK
      rw [if_pos (by rfl)]
      refine wp_mapUpdate_own (.tmp 45) (.tmp 47) (.tmp 49) 102 rfl 138 2 lawP Tryz.underlying102 _ M k (mapW l k) rfl own8 (by unfold maxLen; omega) _ _ _ rfl rfl (key_place _ _ (i64_of8 m12) (i64_of8 m34)) _ [] (plainElem_int Tryz.underlying2 (wf64 m56)) ?_
      intro w9 own9 hg9
      refine hK.out _ _ ⟨hg9.cell u0_ (fun e => by have e' : T0 = M := Option.some.inj e; omega), hg9.cell u1_ (fun e => by have e' : wr.heap.size = M := Option.some.inj e; omega), hg9.cell u2_ (fun e => by have e' : wr.heap.size = M := Option.some.inj e; omega), hg9.cell u3_ (fun e => by have e' : wr.heap.size = M := Option.some.inj e; omega)⟩ (fun hS3 => ?_)
      clear hK K hS2
      refine wpAnyH_done (by kernel_rfl) ?_ _
      have hy8 := hyd.trans (hb8.mono hyd.size)
      have hb8' := hb.trans (hy8.mono hsr)
      go_wp2_with fail
      go_roundw
      case rel => exact ⟨k + 1, hlt, by go_num, own9, own_keepM (own_keep ownz hy8) HC.out hg9, HC.out, (m0.keep hy8).grown hg9 (fun e => by have e' : M = gm := Option.some.inj e; omega), (k0.keep hy8).grown hg9 (fun e => by have e' : M = T0 := Option.some.inj e; omega), (z2.keep hy8).grown hg9 (fun e => by have e' : M = w.heap.size + 1 + 1 := Option.some.inj e; omega), hb8'.grown hg9 hb8'.size (fun j hj => by cases hj; omega)⟩
      case measure => simp [intOf]; omega
    · obtain rfl : k = l.length := by omega
      have HB := hide (show wr.heap[w.heap.size + 1 + 1]? = some (.cells #[.int .i64 0, .slice none 0 0, .map none, .slice none 0 0] 106 (0, 0)) from z2)
      have e0 := m0.cell (i := 0) rfl
      have e1 := m0.cell (i := 1) rfl
      have e2 := k0.cell (i := 0) rfl
      have e3 := k0.cell (i := 1) rfl
      have HNE := hide (show (Value.slice C z.length q).ownBlock ≠ some (w.heap.size + 1 + 1) by
        rcases HC.out with hc | ⟨gz, rfl, hgz⟩
        · cases C with
          | none => exact fun e => by cases e
          | some a => cases hc
        · intro e
          have e' : gz = w.heap.size + 1 + 1 := by simpa [Value.ownBlock] using e
          omega)
      go_wp2_with (first | (with_reducible refine wpList_store_row rfl 106 (.tmp 6) (.tmp 53) rfl (w.heap.size + 1 + 1) #[.int .i64 s, .slice A h.length c, .map (some M), .slice C z.length q] rfl rfl 106 #[.int .i64 0, .slice none 0 0, .map none, .slice none 0 0] HB.out (infoW4 _ _ _ _) (szW4 _ _ _ _ _ _ _ _) (oneW4 _ _ _ _ _ _ _ _) ?_))
      exact bodyPost_ret (v := .tuple #[.agg #[.int .i64 s, .slice A h.length c, .map (some M), .slice C z.length q], .bool true]) (results_w Tryz.results62 _ _ (w.heap.size + 1 + 1) _ #[.int .i64 s, .slice A h.length c, .map (some M), .slice C z.length q] _ rfl (by simp [Act.put]) (by simp [Act.put]) (setRow_heap _ _ _ _ _ _ HB.out)) rfl ⟨Or.inr ⟨HW.out, M, C, q, rfl, by omega, map_keepR own (by omega) _, own_keepM' ownz (Or.inr trivial) _ HNE.out⟩, below_setRow' hb (by omega)⟩
end Go.Proofs.YtcocfnjbgceidaaGreat
