import Derived.Test.YtcocfnjbgceidaaGreatGaj
import Derived.Test.YtcocfnjbgceidaaGreatGbl
import Derived.Test.YtcocfnjbgceidaaGreatEac
import Derived.Test.YtcocfnjbgceidaaGreatGas
namespace Go.Proofs.YtcocfnjbgceidaaGreat
open Go.RowKit Go.Maps
/-- the pieces of pins, the first k of them -/
def pinL (T : List Wp) (a : Int) (k : Nat) : List (Int × Int × Int × Int × Int) := (T.take k).map fun x => (x.1, x.2.1, x.2.2, 1, a)
/-- the pieces of hammers, the first n of them, with what the first k pins make -/
def hamL (T : List Wp) (z : List Int) (b : Int) (k n : Nat) : List (Int × Int × Int × Int × Int) := (List.range n).map fun (j : Nat) => (-1, (j : Int), zAt z j, ((cntP (T.take k) (j : Int) : Nat) : Int), b)
theorem hamL_len (T : List Wp) (z : List Int) (b : Int) (k n : Nat) : (hamL T z b k n).length = n := by simp [hamL]
theorem pinL_len (T : List Wp) (a : Int) (k : Nat) (hk : k ≤ T.length) : (pinL T a k).length = k := by simp [pinL]; omega
theorem pinL_succ (T : List Wp) (a : Int) (k : Nat) (hk : k < T.length) : pinL T a (k + 1) = pinL T a k ++ [(wnS T k, wnT T k, wnP T k, 1, a)] := by
  unfold pinL
  rw [List.take_succ_eq_append_getElem hk, List.map_append, wn_get T k hk]
  rfl
theorem hamL_succ (T : List Wp) (z : List Int) (b : Int) (j : Nat) : hamL T z b 0 (j + 1) = hamL T z b 0 j ++ [(-1, (j : Int), zAt z j, 0, b)] := by
  unfold hamL
  rw [List.range_succ, List.map_append]
  simp [cntP]
theorem hamL_get (T : List Wp) (z : List Int) (b : Int) (k n t : Nat) (ht : t < n) : (hamL T z b k n).getD t (0, 0, 0, 0, 0) = (-1, (t : Int), zAt z t, ((cntP (T.take k) (t : Int) : Nat) : Int), b) := by simp [hamL, List.getD, ht]
theorem pcC_setM (l : List (Int × Int × Int × Int × Int)) : ∀ (t : Nat) (v : Int), t < l.length → pcC (l.set t (pcA l t, pcB l t, pcU l t, v, pcL l t)) = (pcC l).set (t * 5 + 3) (.int .i64 v) := by
  induction l with
  | nil => intro t v h; simp at h
  | cons n l ih =>
    intro t v h
    cases t with
    | zero => simp [pcC_cons, pcA, pcB, pcU, pcL]
    | succ t =>
      have h' : t < l.length := by simpa using h
      have e := ih t v h'
      rw [show (t + 1) * 5 + 3 = (t * 5 + 3) + 1 + 1 + 1 + 1 + 1 by omega]
      simp only [List.set_cons_succ, pcC_cons]
      have e2 : (pcA (n :: l) (t + 1), pcB (n :: l) (t + 1), pcU (n :: l) (t + 1), v, pcL (n :: l) (t + 1)) = (pcA l t, pcB l t, pcU l t, v, pcL l t) := by simp [pcA, pcB, pcU, pcL]
      rw [e2, e]
theorem hamL_step (T : List Wp) (z : List Int) (b : Int) (n k : Nat) (hk : k < T.length) (t : Nat) (ht : t < n) (he : wnT T k = (t : Int)) : pcC (hamL T z b (k + 1) n) = (pcC (hamL T z b k n)).set (t * 5 + 3) (.int .i64 (pcM (hamL T z b k n) t + 1)) := by
  have hg := hamL_get T z b k n t ht
  rw [← pcC_setM _ t _ (by rw [hamL_len]; exact ht)]
  congr 1
  unfold pcA pcB pcU pcL pcM
  rw [hg]
  apply List.ext_getElem
  · simp [hamL]
  · intro j h1 h2
    have hj : j < n := by simpa [hamL] using h1
    have hT : ((T)[k]).2.1 = (t : Int) := by rw [← he]; simp [wnT, List.getD, hk]
    have e2 : cntP (T.take (k + 1)) (j : Int) = cntP (T.take k) (j : Int) + if t = j then 1 else 0 := by
      unfold cntP
      rw [List.take_succ_eq_append_getElem hk, List.countP_append, List.countP_singleton]
      congr 1
      by_cases hj2 : t = j
      · subst hj2
        simp [hT]
      · rw [if_neg hj2]
        simp [hT]
        omega
    have e : ∀ m, (hamL T z b m n)[j]'(by rw [hamL_len]; exact hj) = (-1, (j : Int), zAt z j, ((cntP (T.take m) (j : Int) : Nat) : Int), b) := fun m => by simp [hamL]
    rw [List.getElem_set, e, e, e2]
    by_cases htj : t = j
    · subst htj
      rw [if_pos rfl, if_pos rfl]
      simp
    · rw [if_neg htj, if_neg htj]
      simp
theorem cell_new_list (w : World) (xs : List Value) (t : TypeId) : ∀ j y, xs[j]? = some y → (w.alloc (.cells xs.toArray t)).cell? ((⟨w.heap.size, 0, none⟩ : Addr).add j) = some y := by
  intro j y hy
  have h := (Bk.new w t xs.toArray rfl).cell (i := j) (v := y) (by simpa using hy)
  rw [Addr.add_lit, Nat.zero_add]
  exact h
theorem infoPcs (a b : Value) : (Tryz.prog.info? 152).map (·.size) = some (#[a, b] : Array Value).size := by kernel_rfl
theorem infoPcs2 : (Tryz.prog.info? 152).map (·.size) = some 2 := by kernel_rfl
/-- all pieces, of the call's own -/
def PiR (T : List Wp) (z : List Int) (a b : Int) (w : World) (e : Ending) (w' : World) : Prop := ∃ (P1 : Option Addr) (q1 : Nat) (P2 : Option Addr) (q2 : Nat), e = .returned (.agg #[.slice P1 T.length q1, .slice P2 z.length q2]) ∧ w'.ownsRow w.heap.size 156 5 (.slice P1 T.length q1) T.length (pcC (pinL T a T.length)) ∧ w'.ownsRow w.heap.size 156 5 (.slice P2 z.length q2) z.length (pcC (hamL T z b T.length z.length)) ∧ Below w.heap.size w w'
theorem results_pcs {fn : Func} {p : Tmp} (h : fn.results = #[.cell p 152]) (tmps : Array Value) (w : World) (g : Nat) (t : TypeId) (cs : Array Value) (hi : cs.size = 2)
    (hp : tmps.getD p undef = .pointer (some ⟨g, 0, none⟩)) (hg : w.heap[g]? = some (.cells cs t (0, 0))) :
    (results fn tmps).run Tryz.prog w = .ok (.agg cs) w := by
  have hp' : tmps[p]?.getD undef = .pointer (some ⟨g, 0, none⟩) := by simpa using hp
  simp [results, h, hp', asAddr, run_loadVar_row w g t 152 cs (0, 0) _ hg Tryz.underlying152 rfl (by rw [hi]; exact infoPcs2)]
theorem own_setRowW {w : World} {base g n : Nat} {e : TypeId} {size : Nat} {v : Value} {xs : List Value} (h : w.ownsRow base e size v n xs) (hne : v.ownBlock ≠ some g) (cs : Array Value) : (w.setRow g cs).ownsRow base e size v n xs :=
  h.kept (row := some g) ⟨rfl, rfl, rfl, by simp, fun k _ hk => setRow_other _ _ _ _ (fun e => hk (by rw [e]))⟩ (Or.inr hne)
set_option maxRecDepth 20000 in
set_option maxHeartbeats 8000000 in
theorem pieces_any (s : Int) (A : Option Addr) (n c M N q : Nat) (C : Option Addr) (D : DataW Unit) (T : List Wp) (z : List Int) (a b : Int) (w : World) (hown : w.ownsMap Tryz.prog 138 (plainElem Tryz.prog 2) M N D) (hD : ReadsW D T) (hsz : Maps.size D ≤ 1048576) (hT : AscL T) (h8 : In8 T) (hZ : SZ w C z) (hz : z.length ≤ 1048576) (hl : T.length ≤ 1048576) (htr : ∀ k, k < T.length → 0 ≤ wnT T k ∧ wnT T k < z.length) (hlw : WnWF T) :
    Calls Tryz.prog 94 #[.agg #[.int .i64 s, .slice A n c, .map (some M), .slice C z.length q], .agg #[.int .i64 a, .int .i64 b]] w (PiR T z a b w) := by
  obtain ⟨i0, hi, hz0, hz1, hz2⟩ := info_parts info156
  obtain ⟨X, hX⟩ : ∃ X, X = (((w.alloc (.cells #[.int .i64 s, .slice A n c, .map (some M), .slice C z.length q] 106)).alloc (.cells #[.int .i64 a, .int .i64 b] 63)).alloc (.cells #[.slice none 0 0, .slice none 0 0] 152)).alloc (.cells #[.slice none 0 0, .slice none 0 0] 152) := ⟨_, rfl⟩
  have hb0 : Below w.heap.size w X := by rw [hX]; exact ((((Below.refl _ _).alloc (Nat.le_refl _) _).alloc (by simp) _).alloc (by simp; omega) _).alloc (by simp; omega) _
  have RW : Bk X w.heap.size 106 #[.int .i64 s, .slice A n c, .map (some M), .slice C z.length q] := by rw [hX]; exact (((Bk.new _ _ _ rfl).old _).old _).old _
  have RL : Bk X (w.heap.size + 1) 63 #[.int .i64 a, .int .i64 b] := by rw [hX]; exact ((Bk.new _ _ _ (by simp)).old _).old _
  have RR : Bk X (w.heap.size + 1 + 1) 152 #[.slice none 0 0, .slice none 0 0] := by rw [hX]; exact (Bk.new _ _ _ (by simp)).old _
  have RP : Bk X (w.heap.size + 1 + 1 + 1) 152 #[.slice none 0 0, .slice none 0 0] := by rw [hX]; exact Bk.new _ _ _ (by simp)
  have hMl := hown.lt
  go_enter Tryz.func94, Tryz.ntmps94
  go_upto_region 2 with fail
  rw [← hX]
  clear hX
  have c3 := RW.cell (i := 3) rfl
  have ownX := map_keep hown hb0
  go_wp2_with fail
  clear c3
  go_loopw [6, 7, 14] (fun _ _ i wr => ∃ (k : Nat) (A2 : Option Addr) (q2 : Nat), k ≤ z.length ∧ i = .int .i64 k ∧ wr.ownsRow w.heap.size 156 5 (.slice A2 k q2) k (pcC (hamL T z b 0 k)) ∧ Bk wr w.heap.size 106 #[.int .i64 s, .slice A n c, .map (some M), .slice C z.length q] ∧ Bk wr (w.heap.size + 1) 63 #[.int .i64 a, .int .i64 b] ∧ Bk wr (w.heap.size + 1 + 1) 152 #[.slice none 0 0, .slice none 0 0] ∧ Bk wr (w.heap.size + 1 + 1 + 1) 152 #[.slice none 0 0, .slice A2 k q2] ∧ Below w.heap.size w wr)
    (fun _ _ i _ => z.length - (intOf i).toNat)
  case atStart => exact ⟨0, none, 0, Nat.zero_le _, rfl, World.ownsRow_nil _ _ _ _, RW, RL, RR, RP, hb0⟩
  case round =>
    obtain ⟨k, A2, q2, hk, rfl, own, QW, QL, QR, QP, hb⟩ := hrel
    have hbs := hb.size
    by_cases hlt : k < z.length
    · obtain ⟨bb, o, rfl, hbb, c1⟩ := (hZ.below hb) k hlt
      have l1 := QL.cell (i := 1) rfl
      have p1 := QP.cell (i := 1) rfl
      have hki : (k : Int) < (z.length : Int) := by omega
      have HT := hide (hamL_succ T z b k)
      have own5 := own.alloc (.cells #[.int .i64 (-1), .int .i64 (k : Int), .int .i64 (zAt z k), .int .i64 0, .int .i64 b] 156)
      have PW := QW.old (.cells #[.int .i64 (-1), .int .i64 (k : Int), .int .i64 (zAt z k), .int .i64 0, .int .i64 b] 156)
      have PL := QL.old (.cells #[.int .i64 (-1), .int .i64 (k : Int), .int .i64 (zAt z k), .int .i64 0, .int .i64 b] 156)
      have PR := QR.old (.cells #[.int .i64 (-1), .int .i64 (k : Int), .int .i64 (zAt z k), .int .i64 0, .int .i64 b] 156)
      have PP := QP.old (.cells #[.int .i64 (-1), .int .i64 (k : Int), .int .i64 (zAt z k), .int .i64 0, .int .i64 b] 156)
      have hbA := hb.alloc hbs (.cells #[.int .i64 (-1), .int .i64 (k : Int), .int .i64 (zAt z k), .int .i64 0, .int .i64 b] 156)
      have hnew : ∀ j y, ([.int .i64 (-1), .int .i64 (k : Int), .int .i64 (zAt z k), .int .i64 0, .int .i64 b] : List Value)[j]? = some y → (wr.alloc (.cells #[.int .i64 (-1), .int .i64 (k : Int), .int .i64 (zAt z k), .int .i64 0, .int .i64 b] 156)).cell? ((⟨wr.heap.size, 0, none⟩ : Addr).add j) = some y := cell_new_list wr [.int .i64 (-1), .int .i64 (k : Int), .int .i64 (zAt z k), .int .i64 0, .int .i64 b] 156
      have nW := own_neW own5 PW (by decide)
      have nL := own_neW own5 PL (by decide)
      have nR := own_neW own5 PR (by decide)
      have nP := own_neW own5 PP (by decide)
      have hol := fun j hj => (own.lt j hj).1
      clear hZ hown hD hsz hT h8 ownX own RW RL RR RP QW QL QR QP
      go_wp2_with (at_builtin; refine wpList_append_own _ rfl _ _ 150 rfl w.heap.size 156 i0 (.agg #[.int .i64 0, .int .i64 0, .int .i64 0, .int .i64 0, .int .i64 0]) 5 40 Tryz.underlying150 hi hz0 hz1 hz2 rfl (by decide) _ _ _ rfl own5 ⟨wr.heap.size, 0, none⟩ 1 1 [.int .i64 (-1), .int .i64 (k : Int), .int .i64 (zAt z k), .int .i64 0, .int .i64 b] rfl rfl hnew (fun x hx => by simp at hx; rcases hx with rfl | rfl | rfl | rfl | rfl <;> rfl) (by unfold maxLen; omega) (by omega) (by simp; omega) ?_; intro v6 w6 hown6 hgr6 hnil6; obtain ⟨A6, c6, rfl⟩ := own_shapeZ hown6; have GW := PW.grown hgr6 nW; have GL := PL.grown hgr6 nL; have GR := PR.grown hgr6 nR; have GP := PP.grown hgr6 nP; have k6 : w6.cell? ⟨w.heap.size + 1 + 1 + 1, 1, none⟩ = some (.slice A2 k q2) := GP.cell (i := 1) rfl; have f6 := GP.frozen 1; have hb6 := hbA.grown hgr6 hbA.size hol; clear hgr6 hnil6 PW PL PR PP)
      have hne6 := own_neW hown6 GP (by decide)
      have ow6 := own_setW (o := 1) hown6 hne6 (.slice A6 (k + 1) c6)
      go_roundw
      case rel => exact ⟨k + 1, A6, c6, hlt, by go_num, by rw [HT.out, pcC_append]; exact ow6, GW.other (by omega) _, GL.other (by omega) _, GR.other (by omega) _, heap_setCell_same w6 _ 1 _ _ _ GP, hb6.setCell (p := ⟨w.heap.size + 1 + 1 + 1, 1, none⟩) (by dsimp only; omega) _⟩
      case measure => simp [intOf]; omega
    · obtain rfl : k = z.length := by omega
      have hni : ¬ (z.length : Int) < (z.length : Int) := by omega
      have hXr : Below w.heap.size w wr := hb
      have ownr := map_keep hown hb
      have KP := pinsW_any M C z.length q N D T wr ownr hD hsz hT h8
      have e2 := QW.cell (i := 2) rfl
      have e3 := QW.cell (i := 3) rfl
      clear hown hD hsz hT ownX ownr RW RL RR RP hZ
      go_wp2_with fail
      refine KP.mono ?_
      rintro e w3 ⟨C3, q3, rfl, own3, hb3⟩
      have row2 := own_keep own hb3
      have QL3 := QL.keep hb3
      have QR3 := QR.keep hb3
      have QP3 := QP.keep hb3
      have hb4 := step_below hb3 hb
      have rowT := own_base own3 hbs
      clear e2 e3 KP QW QL QR QP own own3 hb
      obtain ⟨B2, hB2⟩ : ∃ x, x = w3.heap.size := ⟨_, rfl⟩
      have hw3 : w.heap.size + 1 + 1 + 1 < B2 := by rw [hB2]; exact QP3.lt
      have hA2 : ∀ g, (Value.slice A2 z.length q2).ownBlock = some g → g < B2 := fun g hg => by rw [hB2]; exact (row2.lt g hg).2
      have hB2s : B2 ≤ w3.heap.size := by omega
      clear hB2
      go_wp2_with fail
      go_loopw [9, 35] (fun _ i wr => ∃ (k : Nat) (A1 : Option Addr) (q1 : Nat), k ≤ T.length ∧ i = .int .i64 k ∧ wr.ownsRow B2 156 5 (.slice A1 k q1) k (pcC (pinL T a k)) ∧ wr.ownsRow w.heap.size 156 5 (.slice A2 z.length q2) z.length (pcC (hamL T z b k z.length)) ∧ wr.ownsRow w.heap.size 97 3 (.slice C3 T.length q3) T.length (wnC T) ∧ Bk wr (w.heap.size + 1) 63 #[.int .i64 a, .int .i64 b] ∧ Bk wr (w.heap.size + 1 + 1) 152 #[.slice none 0 0, .slice none 0 0] ∧ Bk wr (w.heap.size + 1 + 1 + 1) 152 #[.slice A1 k q1, .slice A2 z.length q2] ∧ B2 ≤ wr.heap.size ∧ Below w.heap.size w wr)
        (fun _ i _ => T.length - (intOf i).toNat)
      case atStart => exact ⟨0, none, 0, Nat.zero_le _, rfl, World.ownsRow_nil _ _ _ _, row2, rowT, QL3, QR3, QP3, hB2s, hb4⟩
      case round =>
        clear row2 rowT QL3 QR3 QP3 hb4 hb3 hXr hB2s
        obtain ⟨k, A1, q1, hk, rfl, r1, r2, rT, RL, RR, RP, hBs, hb⟩ := hrel
        have hbs := hb.size
        by_cases hlt : k < T.length
        · obtain ⟨bb, o, rfl, hbb, c1, c2, c3⟩ := (WnA.of_own rT) k hlt
          have hki : (k : Int) < (T.length : Int) := by omega
          obtain ⟨m1, m2, m3⟩ := hlw k hlt
          obtain ⟨t1, t2⟩ := htr k hlt
          have HTR := hide htr
          have HLW := hide hlw
          have HA2 := hide hA2
          have hAt := fun W => wornAt_any (wnS T k) (wnT T k) (wnP T k) W m1 m2
          obtain ⟨Y, hY⟩ : ∃ Y, Y = wr.alloc (.cells #[.int .i8 (wnS T k), .int .i8 (wnT T k), .int .i64 (wnP T k)] 97) := ⟨_, rfl⟩
          have bY : Below wr.heap.size wr Y := by rw [hY]; exact (Below.refl _ _).alloc (Nat.le_refl _) _
          have B0 : Bk Y wr.heap.size 97 #[.int .i8 (wnS T k), .int .i8 (wnT T k), .int .i64 (wnP T k)] := by rw [hY]; exact Bk.new _ _ _ rfl
          have hYs := bY.size
          clear htr hlw hA2
          go_upto_region 10 with fail
          rw [← hY]
          clear hY c1 c2 c3
          have bD : Below Y.heap.size Y Y.drew := (Below.refl _ _).drew
          have bWD := bY.trans (bD.mono hYs)
          obtain ⟨V, hV⟩ : ∃ V, V = Y.drew := ⟨_, rfl⟩
          have B1 := B0.keep bD
          have r1V := own_keep r1 bWD
          have r2V := own_keep r2 bWD
          have rTV := own_keep rT bWD
          have RLV := RL.keep bWD
          have RRV := RR.keep bWD
          have RPV := RP.keep bWD
          have hbV := hb.trans (bWD.mono hbs)
          rw [← hV] at B1 r1V r2V rTV RLV RRV RPV hbV bWD
          obtain ⟨GY, hGY⟩ : ∃ g, g = wr.heap.size := ⟨_, rfl⟩
          have hVs := bWD.size
          have hap12 : (Value.slice A2 z.length q2).ownBlock = none ∨ (Value.slice A2 z.length q2).ownBlock ≠ (Value.slice A1 k q1).ownBlock := by
            cases hv : (Value.slice A2 z.length q2).ownBlock with
            | none => exact Or.inl rfl
            | some g => exact Or.inr (fun e => by
                have h1 := (r1.lt g e.symm).1
                have h2 := HA2.out g hv
                omega)
          have hGB : B2 ≤ GY := by omega
          rw [← hGY] at B1 ⊢
          clear hGY r1 r2 rT RL RR RP B0 hb bY bD
          refine wp_region_held_drew (S := fun w' => w'.cell? ⟨GY, 0, none⟩ = some (.int .i8 (wnS T k)) ∧ w'.cell? ⟨GY, 1, none⟩ = some (.int .i8 (wnT T k)) ∧ w'.cell? ⟨GY, 2, none⟩ = some (.int .i64 (wnP T k)) ∧ w'.cell? ⟨w.heap.size + 1, 0, none⟩ = some (.int .i64 a)) (by kernel_rfl) (by rw [← hV]; exact ⟨B1.cell (i := 0) rfl, B1.cell (i := 1) rfl, B1.cell (i := 2) rfl, RLV.cell (i := 0) rfl⟩) fun hS1 => ?_
          rw [← hV] at hS1 ⊢
          clear hV
          refine wpAnyH_take (i := 0) (v := .pointer (some ⟨w.heap.size + 1 + 1 + 1, 0, none⟩)) rfl (by kernel_rfl) (by kernel_rfl) (by kernel_rfl) (fun _ _ _ h => h) (Or.inl ⟨by rfl, fun w' _ => by go_simp⟩) hS1 ?_
          change wpAnyH _ _ _ _ _ _ _ (Act.put _ (some 39) _) _
          simp only [Act.put, List.setIfInBounds_toArray, List.set_cons_zero, List.set_cons_succ]
          refine wpAnyH_take (i := 2) (v := .agg #[.int .i8 (wnS T k), .int .i8 (wnT T k), .int .i64 (wnP T k)]) rfl (by kernel_rfl) (by kernel_rfl) (by kernel_rfl) (fun _ _ _ h => h) (Or.inl ⟨by rfl, fun w' h => ?_⟩) hS1 ?_
          · have c0 := h.1
            have c1 := h.2.1
            have c2 := h.2.2.1
            clear h
            go_simp
          change wpAnyH _ _ _ _ _ _ _ (Act.put _ (some 41) _) _
          simp only [Act.put, List.setIfInBounds_toArray, List.set_cons_zero, List.set_cons_succ]
          refine wpAnyH_take (i := 4) (v := .pointer (some ⟨GY, 2, none⟩)) rfl (by kernel_rfl) (by kernel_rfl) (by kernel_rfl) (fun _ _ _ h => h) (Or.inl ⟨by rfl, fun w' _ => by go_simp⟩) hS1 ?_
          change wpAnyH _ _ _ _ _ _ _ (Act.put _ (some 43) _) _
          simp only [Act.put, List.setIfInBounds_toArray, List.set_cons_zero, List.set_cons_succ]
          refine wpAnyH_take (i := 5) (v := .int .i64 (wnP T k)) rfl (by kernel_rfl) (by kernel_rfl) (by kernel_rfl) (fun _ _ _ h => h) (Or.inl ⟨by rfl, fun w' h => ?_⟩) hS1 ?_
          · have c0 := h.2.2.1
            clear h
            go_simp
          change wpAnyH _ _ _ _ _ _ _ (Act.put _ (some 44) _) _
          simp only [Act.put, List.setIfInBounds_toArray, List.set_cons_zero, List.set_cons_succ]
          refine wpAnyH_take (i := 6) (v := .pointer (some ⟨w.heap.size + 1, 0, none⟩)) rfl (by kernel_rfl) (by kernel_rfl) (by kernel_rfl) (fun _ _ _ h => h) (Or.inl ⟨by rfl, fun w' _ => by go_simp⟩) hS1 ?_
          change wpAnyH _ _ _ _ _ _ _ (Act.put _ (some 45) _) _
          simp only [Act.put, List.setIfInBounds_toArray, List.set_cons_zero, List.set_cons_succ]
          refine wpAnyH_take (i := 7) (v := .int .i64 a) rfl (by kernel_rfl) (by kernel_rfl) (by kernel_rfl) (fun _ _ _ h => h) (Or.inl ⟨by rfl, fun w' h => ?_⟩) hS1 ?_
          · have c0 := h.2.2.2
            clear h
            go_simp
          change wpAnyH _ _ _ _ _ _ _ (Act.put _ (some 46) _) _
          simp only [Act.put, List.setIfInBounds_toArray, List.set_cons_zero, List.set_cons_succ]
          refine wpAnyH_ready (rs := [1, 3]) (by kernel_rfl) (by simp) (AllReadyH.cons rfl ?_ (AllReadyH.cons rfl ?_ AllReadyH.nil))
          · intro K hK
            rw [if_pos (by rfl)]
            have pc0 := RPV.cell (i := 0) rfl
            go_simp
            refine hK.out _ _ ⟨B1.cell (i := 0) rfl, B1.cell (i := 1) rfl, B1.cell (i := 2) rfl, RLV.cell (i := 0) rfl⟩ (fun hS2 => ?_)
            clear hK K pc0
            try (change wpAnyH _ _ _ _ _ _ _ (Act.put _ (some 40) _) _)
            try simp only [Act.put, List.setIfInBounds_toArray, List.set_cons_zero, List.set_cons_succ]
            refine wpAnyH_ready (rs := [3]) (by kernel_rfl) (by simp) (AllReadyH.cons rfl ?_ AllReadyH.nil)
            intro K hK
            rw [if_pos (by rfl)]
            go_simp
            refine (hAt _).mono ?_
            rintro e w5 ⟨rfl, hb5⟩
            have B2_ := B1.keep hb5
            have r15 := own_keep r1V hb5
            have r25 := own_keep r2V hb5
            have rT5 := own_keep rTV hb5
            have RL5 := RLV.keep hb5
            have RR5 := RRV.keep hb5
            have RP5 := RPV.keep hb5
            have hb6_ := hbV.trans (hb5.mono (by omega))
            have hs5 := hb5.size
            refine hK.out _ _ ⟨B2_.cell (i := 0) rfl, B2_.cell (i := 1) rfl, B2_.cell (i := 2) rfl, RL5.cell (i := 0) rfl⟩ (fun hS3 => ?_)
            clear hK K hb5 B1 r1V r2V rTV RLV RRV RPV hbV
            try (change wpAnyH _ _ _ _ _ _ _ (Act.put _ (some 42) _) _)
            try simp only [Act.put, List.setIfInBounds_toArray, List.set_cons_zero, List.set_cons_succ]
            refine wpAnyH_take (i := 8) (v := .agg #[.int .i64 (wnS T k), .int .i64 (wnT T k), .int .i64 (wnP T k), .int .i64 1, .int .i64 a]) rfl (by kernel_rfl) (by kernel_rfl) (by kernel_rfl) (fun _ _ _ h => h) (Or.inl ⟨by rfl, fun w' _ => by go_simp⟩) hS3 ?_
            change wpAnyH _ _ _ _ _ _ _ (Act.put _ (some 47) _) _
            simp only [Act.put, List.setIfInBounds_toArray, List.set_cons_zero, List.set_cons_succ]
            refine wpAnyH_ready (rs := [9]) (by kernel_rfl) (by simp) (AllReadyH.cons rfl ?_ AllReadyH.nil)
            obtain ⟨w7, hw7⟩ : ∃ X, X = w5.alloc (.cells #[.int .i64 (wnS T k), .int .i64 (wnT T k), .int .i64 (wnP T k), .int .i64 1, .int .i64 a] 156) := ⟨_, rfl⟩
            have b57 : Below w5.heap.size w5 w7 := by rw [hw7]; exact (Below.refl _ _).alloc (Nat.le_refl _) _
            have hnew : ∀ j y, ([.int .i64 (wnS T k), .int .i64 (wnT T k), .int .i64 (wnP T k), .int .i64 1, .int .i64 a] : List Value)[j]? = some y → w7.cell? ((⟨w5.heap.size, 0, none⟩ : Addr).add j) = some y := by rw [hw7]; exact cell_new_list w5 [.int .i64 (wnS T k), .int .i64 (wnT T k), .int .i64 (wnP T k), .int .i64 1, .int .i64 a] 156
            have B7 := B2_.keep b57
            have r17 := own_keep r15 b57
            have r27 := own_keep r25 b57
            have rT7 := own_keep rT5 b57
            have RL7 := RL5.keep b57
            have RR7 := RR5.keep b57
            have RP7 := RP5.keep b57
            have hb7 := hb6_.trans (b57.mono (by omega))
            have hs7 := b57.size
            intro K hK
            rw [if_pos (by rfl)]
            go_simp
            rw [← hw7]
            clear hw7 b57
            refine hK.out _ _ ⟨B7.cell (i := 0) rfl, B7.cell (i := 1) rfl, B7.cell (i := 2) rfl, RL7.cell (i := 0) rfl⟩ (fun hS4 => ?_)
            clear hK K B2_ r15 r25 rT5 RL5 RR5 RP5 hb6_
            try (change wpAnyH _ _ _ _ _ _ _ (Act.put _ (some 48) _) _)
            try simp only [Act.put, List.setIfInBounds_toArray, List.set_cons_zero, List.set_cons_succ]
            refine wpAnyH_ready (rs := [10]) (by kernel_rfl) (by simp) (AllReadyH.cons rfl ?_ AllReadyH.nil)
            intro K hK
            rw [if_pos (by rfl)]
            refine wp_append_own w7 (.tmp 40) (.tmp 48) 150 rfl B2 156 i0 (.agg #[.int .i64 0, .int .i64 0, .int .i64 0, .int .i64 0, .int .i64 0]) 5 40 Tryz.underlying150 hi hz0 hz1 hz2 rfl (by decide) _ _ _ rfl r17 ⟨w5.heap.size, 0, none⟩ 1 1 [.int .i64 (wnS T k), .int .i64 (wnT T k), .int .i64 (wnP T k), .int .i64 1, .int .i64 a] rfl rfl hnew (fun x hx => by simp at hx; rcases hx with rfl | rfl | rfl | rfl | rfl <;> rfl) (by unfold maxLen; omega) (by omega) (by omega) ?_
            intro v6 w6 hown6 hgr6 hnil6
            obtain ⟨A6, c6, rfl⟩ := own_shapeZ hown6
            have B8 := B7.grown hgr6 (own_neW r17 B7 (by decide))
            have RL8 := RL7.grown hgr6 (own_neW r17 RL7 (by decide))
            have RR8 := RR7.grown hgr6 (own_neW r17 RR7 (by decide))
            have RP8 := RP7.grown hgr6 (own_neW r17 RP7 (by decide))
            have rT8 := rT7.kept hgr6 (own_apart rT7 (own_base r17 (show w.heap.size ≤ B2 by omega)) (by decide))
            have r28 := r27.kept hgr6 hap12
            have hb8 := hb7.grown hgr6 hb7.size (fun j hj => Nat.le_trans (show w.heap.size ≤ B2 by omega) (r17.lt j hj).1)
            have hs8 := hgr6.size
            refine hK.out _ _ ⟨B8.cell (i := 0) rfl, B8.cell (i := 1) rfl, B8.cell (i := 2) rfl, RL8.cell (i := 0) rfl⟩ (fun hS9 => ?_)
            clear hK K r17 r27 rT7 RL7 RR7 RP7 B7 hb7 hgr6 hnil6
            try (change wpAnyH _ _ _ _ _ _ _ (Act.put _ (some 49) _) _)
            try simp only [Act.put, List.setIfInBounds_toArray, List.set_cons_zero, List.set_cons_succ]
            refine wpAnyH_take (i := 11) (v := .pointer (some ⟨w.heap.size + 1 + 1 + 1, 0, none⟩)) rfl (by kernel_rfl) (by kernel_rfl) (by kernel_rfl) (fun _ _ _ h => h) (Or.inl ⟨by rfl, fun w' _ => by go_simp⟩) hS9 ?_
            change wpAnyH _ _ _ _ _ _ _ (Act.put _ (some 50) _) _
            simp only [Act.put, List.setIfInBounds_toArray, List.set_cons_zero, List.set_cons_succ]
            refine wpAnyH_ready (rs := [12]) (by kernel_rfl) (by simp) (AllReadyH.cons rfl ?_ AllReadyH.nil)
            have pc0 := RP8.cell (i := 0) rfl
            have pf0 := RP8.frozen 0
            intro K hK
            rw [if_pos (by rfl)]
            go_simp
            have B9 := B8.other (k := 0) (show GY ≠ w.heap.size + 1 + 1 + 1 by omega) (.slice A6 (k + 1) c6)
            have RL9 := RL8.other (k := 0) (show w.heap.size + 1 ≠ w.heap.size + 1 + 1 + 1 by omega) (.slice A6 (k + 1) c6)
            have RR9 := RR8.other (k := 0) (show w.heap.size + 1 + 1 ≠ w.heap.size + 1 + 1 + 1 by omega) (.slice A6 (k + 1) c6)
            have RP9 : Bk (w6.setCell ⟨w.heap.size + 1 + 1 + 1, 0, none⟩ (.slice A6 (k + 1) c6)) (w.heap.size + 1 + 1 + 1) 152 #[.slice A6 (k + 1) c6, .slice A2 z.length q2] := heap_setCell_same w6 _ 0 _ _ _ RP8
            have r19 := own_setW (o := 0) hown6 (own_neW hown6 RP8 (by decide)) (.slice A6 (k + 1) c6)
            have r29 := own_setW (o := 0) r28 (own_neW r28 RP8 (by decide)) (.slice A6 (k + 1) c6)
            have rT9 := own_setW (o := 0) rT8 (own_neW rT8 RP8 (by decide)) (.slice A6 (k + 1) c6)
            have hb9 := hb8.setCell (p := ⟨w.heap.size + 1 + 1 + 1, 0, none⟩) (by dsimp only; omega) (.slice A6 (k + 1) c6)
            have hwz : B2 ≤ (w6.setCell ⟨w.heap.size + 1 + 1 + 1, 0, none⟩ (.slice A6 (k + 1) c6)).heap.size := by rw [show (w6.setCell ⟨w.heap.size + 1 + 1 + 1, 0, none⟩ (.slice A6 (k + 1) c6)).heap.size = w6.heap.size by simp]; omega
            refine hK.out _ _ ⟨B9.cell (i := 0) rfl, B9.cell (i := 1) rfl, B9.cell (i := 2) rfl, RL9.cell (i := 0) rfl⟩ (fun hS10 => ?_)
            clear hK K pc0 pf0 r28 rT8 RL8 RR8 RP8 B8 hb8
            refine wpAnyH_done (by kernel_rfl) ?_ _
            generalize w6.setCell ⟨w.heap.size + 1 + 1 + 1, 0, none⟩ (.slice A6 (k + 1) c6) = w9 at *
            obtain ⟨t, ht⟩ : ∃ t : Nat, wnT T k = (t : Int) := ⟨(wnT T k).toNat, by omega⟩
            have htz : t < z.length := by omega
            have HS := hide (hamL_step T z b z.length k hlt t htz ht)
            have HP := hide (pinL_succ T a k hlt)
            obtain ⟨gs, rfl⟩ : ∃ gs, A2 = some ⟨gs, 0, none⟩ := by
              rcases r29.2 with ⟨h', h0⟩ | ⟨g', cap, cur, h', hgb, _⟩
              · omega
              · simp at h'
                exact ⟨g', h'.1⟩
            have hgs := r29.lt gs rfl
            have hle := hamL_len T z b k z.length
            have hg := hamL_get T z b k z.length t htz
            have hcb := cntP_le (T.take k) (t : Int)
            rw [List.length_take] at hcb
            obtain ⟨x0, x1, x2, x3, x4⟩ := pcC_at (hamL T z b k z.length) t (by omega)
            have ck := (r29.cellAt (t * 5 + 3) (by omega)).trans x3
            have fk := r29.frozenAt (t * 5 + 3)
            obtain ⟨u, hu⟩ : ∃ u, u = pcM (hamL T z b k z.length) t := ⟨_, rfl⟩
            rw [← hu] at ck HS
            have hcv : u = ((cntP (T.take k) (t : Int) : Nat) : Int) := by rw [hu]; unfold pcM; rw [hg]
            have hub : 0 ≤ u ∧ u ≤ 1048576 := by omega
            have hwu : IntKind.i64.wrap (u + 1) = u + 1 := IntWalk.i64_in _ (by omega)
            have row2 := (r29.stored (t * 5 + 3) (.int .i64 (u + 1))).1
            rw [← HS.out] at row2
            have HR := hide row2
            have hne1 : (Value.slice A6 (k + 1) c6).ownBlock ≠ some gs := fun e => by
              have h1 := (r19.lt gs e).1
              have h2 := HA2.out gs rfl
              omega
            have q1 := own_setW (o := t * 5 + 3) r19 hne1 (.int .i64 (u + 1))
            have qT := own_setW (o := t * 5 + 3) rT9 (Or.elim (own_apart rT9 r29 (by decide)) (fun h e => by rw [h] at e; cases e) (fun h e => h e)) (.int .i64 (u + 1))
            have qL := RL9.other (k := t * 5 + 3) (show w.heap.size + 1 ≠ gs from fun e => own_neW r29 RL9 (by decide) (by rw [e]; rfl)) (.int .i64 (u + 1))
            have qR := RR9.other (k := t * 5 + 3) (show w.heap.size + 1 + 1 ≠ gs from fun e => own_neW r29 RR9 (by decide) (by rw [e]; rfl)) (.int .i64 (u + 1))
            have qP := RP9.other (k := t * 5 + 3) (show w.heap.size + 1 + 1 + 1 ≠ gs from fun e => own_neW r29 RP9 (by decide) (by rw [e]; rfl)) (.int .i64 (u + 1))
            have qb := hb9.setCell (p := ⟨gs, t * 5 + 3, none⟩) hgs.1 (.int .i64 (u + 1))
            have hs9 := hb9.size
            have p1 := RP9.cell (i := 1) rfl
            have y1 := B9.cell (i := 1) rfl
            rw [ht] at y1
            have hti : (t : Int) < (z.length : Int) := by omega
            clear hcv hcb hu row2 hg x0 x1 x2 x3 x4 hle
            go_wp2
            go_roundw
            case rel => exact ⟨k + 1, A6, c6, hlt, by go_num, by rw [HP.out, pcC_append]; exact q1, HR.out, qT, qL, qR, qP, by simpa using hwz, qb⟩
            case measure => simp [intOf]; omega
          · intro K hK
            rw [if_pos (by rfl)]
            go_simp
            refine (hAt _).mono ?_
            rintro e w5 ⟨rfl, hb5⟩
            have B2_ := B1.keep hb5
            have r15 := own_keep r1V hb5
            have r25 := own_keep r2V hb5
            have rT5 := own_keep rTV hb5
            have RL5 := RLV.keep hb5
            have RR5 := RRV.keep hb5
            have RP5 := RPV.keep hb5
            have hb6_ := hbV.trans (hb5.mono (by omega))
            have hs5 := hb5.size
            refine hK.out _ _ ⟨B2_.cell (i := 0) rfl, B2_.cell (i := 1) rfl, B2_.cell (i := 2) rfl, RL5.cell (i := 0) rfl⟩ (fun hS2 => ?_)
            clear hK K hb5 B1 r1V r2V rTV RLV RRV RPV hbV
            try (change wpAnyH _ _ _ _ _ _ _ (Act.put _ (some 42) _) _)
            try simp only [Act.put, List.setIfInBounds_toArray, List.set_cons_zero, List.set_cons_succ]
            refine wpAnyH_take (i := 8) (v := .agg #[.int .i64 (wnS T k), .int .i64 (wnT T k), .int .i64 (wnP T k), .int .i64 1, .int .i64 a]) rfl (by kernel_rfl) (by kernel_rfl) (by kernel_rfl) (fun _ _ _ h => h) (Or.inl ⟨by rfl, fun w' _ => by go_simp⟩) hS2 ?_
            change wpAnyH _ _ _ _ _ _ _ (Act.put _ (some 47) _) _
            simp only [Act.put, List.setIfInBounds_toArray, List.set_cons_zero, List.set_cons_succ]
            refine wpAnyH_ready (rs := [1, 9]) (by kernel_rfl) (by simp) (AllReadyH.cons rfl ?_ (AllReadyH.cons rfl ?_ AllReadyH.nil))
            · intro K hK
              rw [if_pos (by rfl)]
              have pc0 := RP5.cell (i := 0) rfl
              go_simp
              refine hK.out _ _ ⟨B2_.cell (i := 0) rfl, B2_.cell (i := 1) rfl, B2_.cell (i := 2) rfl, RL5.cell (i := 0) rfl⟩ (fun hS3 => ?_)
              clear hK K pc0
              try (change wpAnyH _ _ _ _ _ _ _ (Act.put _ (some 40) _) _)
              try simp only [Act.put, List.setIfInBounds_toArray, List.set_cons_zero, List.set_cons_succ]
              refine wpAnyH_ready (rs := [9]) (by kernel_rfl) (by simp) (AllReadyH.cons rfl ?_ AllReadyH.nil)
              obtain ⟨w7, hw7⟩ : ∃ X, X = w5.alloc (.cells #[.int .i64 (wnS T k), .int .i64 (wnT T k), .int .i64 (wnP T k), .int .i64 1, .int .i64 a] 156) := ⟨_, rfl⟩
              have b57 : Below w5.heap.size w5 w7 := by rw [hw7]; exact (Below.refl _ _).alloc (Nat.le_refl _) _
              have hnew : ∀ j y, ([.int .i64 (wnS T k), .int .i64 (wnT T k), .int .i64 (wnP T k), .int .i64 1, .int .i64 a] : List Value)[j]? = some y → w7.cell? ((⟨w5.heap.size, 0, none⟩ : Addr).add j) = some y := by rw [hw7]; exact cell_new_list w5 [.int .i64 (wnS T k), .int .i64 (wnT T k), .int .i64 (wnP T k), .int .i64 1, .int .i64 a] 156
              have B7 := B2_.keep b57
              have r17 := own_keep r15 b57
              have r27 := own_keep r25 b57
              have rT7 := own_keep rT5 b57
              have RL7 := RL5.keep b57
              have RR7 := RR5.keep b57
              have RP7 := RP5.keep b57
              have hb7 := hb6_.trans (b57.mono (by omega))
              have hs7 := b57.size
              intro K hK
              rw [if_pos (by rfl)]
              go_simp
              rw [← hw7]
              clear hw7 b57
              refine hK.out _ _ ⟨B7.cell (i := 0) rfl, B7.cell (i := 1) rfl, B7.cell (i := 2) rfl, RL7.cell (i := 0) rfl⟩ (fun hS4 => ?_)
              clear hK K B2_ r15 r25 rT5 RL5 RR5 RP5 hb6_
              try (change wpAnyH _ _ _ _ _ _ _ (Act.put _ (some 48) _) _)
              try simp only [Act.put, List.setIfInBounds_toArray, List.set_cons_zero, List.set_cons_succ]
              refine wpAnyH_ready (rs := [10]) (by kernel_rfl) (by simp) (AllReadyH.cons rfl ?_ AllReadyH.nil)
              intro K hK
              rw [if_pos (by rfl)]
              refine wp_append_own w7 (.tmp 40) (.tmp 48) 150 rfl B2 156 i0 (.agg #[.int .i64 0, .int .i64 0, .int .i64 0, .int .i64 0, .int .i64 0]) 5 40 Tryz.underlying150 hi hz0 hz1 hz2 rfl (by decide) _ _ _ rfl r17 ⟨w5.heap.size, 0, none⟩ 1 1 [.int .i64 (wnS T k), .int .i64 (wnT T k), .int .i64 (wnP T k), .int .i64 1, .int .i64 a] rfl rfl hnew (fun x hx => by simp at hx; rcases hx with rfl | rfl | rfl | rfl | rfl <;> rfl) (by unfold maxLen; omega) (by omega) (by omega) ?_
              intro v6 w6 hown6 hgr6 hnil6
              obtain ⟨A6, c6, rfl⟩ := own_shapeZ hown6
              have B8 := B7.grown hgr6 (own_neW r17 B7 (by decide))
              have RL8 := RL7.grown hgr6 (own_neW r17 RL7 (by decide))
              have RR8 := RR7.grown hgr6 (own_neW r17 RR7 (by decide))
              have RP8 := RP7.grown hgr6 (own_neW r17 RP7 (by decide))
              have rT8 := rT7.kept hgr6 (own_apart rT7 (own_base r17 (show w.heap.size ≤ B2 by omega)) (by decide))
              have r28 := r27.kept hgr6 hap12
              have hb8 := hb7.grown hgr6 hb7.size (fun j hj => Nat.le_trans (show w.heap.size ≤ B2 by omega) (r17.lt j hj).1)
              have hs8 := hgr6.size
              refine hK.out _ _ ⟨B8.cell (i := 0) rfl, B8.cell (i := 1) rfl, B8.cell (i := 2) rfl, RL8.cell (i := 0) rfl⟩ (fun hS9 => ?_)
              clear hK K r17 r27 rT7 RL7 RR7 RP7 B7 hb7 hgr6 hnil6
              try (change wpAnyH _ _ _ _ _ _ _ (Act.put _ (some 49) _) _)
              try simp only [Act.put, List.setIfInBounds_toArray, List.set_cons_zero, List.set_cons_succ]
              refine wpAnyH_take (i := 11) (v := .pointer (some ⟨w.heap.size + 1 + 1 + 1, 0, none⟩)) rfl (by kernel_rfl) (by kernel_rfl) (by kernel_rfl) (fun _ _ _ h => h) (Or.inl ⟨by rfl, fun w' _ => by go_simp⟩) hS9 ?_
              change wpAnyH _ _ _ _ _ _ _ (Act.put _ (some 50) _) _
              simp only [Act.put, List.setIfInBounds_toArray, List.set_cons_zero, List.set_cons_succ]
              refine wpAnyH_ready (rs := [12]) (by kernel_rfl) (by simp) (AllReadyH.cons rfl ?_ AllReadyH.nil)
              have pc0 := RP8.cell (i := 0) rfl
              have pf0 := RP8.frozen 0
              intro K hK
              rw [if_pos (by rfl)]
              go_simp
              have B9 := B8.other (k := 0) (show GY ≠ w.heap.size + 1 + 1 + 1 by omega) (.slice A6 (k + 1) c6)
              have RL9 := RL8.other (k := 0) (show w.heap.size + 1 ≠ w.heap.size + 1 + 1 + 1 by omega) (.slice A6 (k + 1) c6)
              have RR9 := RR8.other (k := 0) (show w.heap.size + 1 + 1 ≠ w.heap.size + 1 + 1 + 1 by omega) (.slice A6 (k + 1) c6)
              have RP9 : Bk (w6.setCell ⟨w.heap.size + 1 + 1 + 1, 0, none⟩ (.slice A6 (k + 1) c6)) (w.heap.size + 1 + 1 + 1) 152 #[.slice A6 (k + 1) c6, .slice A2 z.length q2] := heap_setCell_same w6 _ 0 _ _ _ RP8
              have r19 := own_setW (o := 0) hown6 (own_neW hown6 RP8 (by decide)) (.slice A6 (k + 1) c6)
              have r29 := own_setW (o := 0) r28 (own_neW r28 RP8 (by decide)) (.slice A6 (k + 1) c6)
              have rT9 := own_setW (o := 0) rT8 (own_neW rT8 RP8 (by decide)) (.slice A6 (k + 1) c6)
              have hb9 := hb8.setCell (p := ⟨w.heap.size + 1 + 1 + 1, 0, none⟩) (by dsimp only; omega) (.slice A6 (k + 1) c6)
              have hwz : B2 ≤ (w6.setCell ⟨w.heap.size + 1 + 1 + 1, 0, none⟩ (.slice A6 (k + 1) c6)).heap.size := by rw [show (w6.setCell ⟨w.heap.size + 1 + 1 + 1, 0, none⟩ (.slice A6 (k + 1) c6)).heap.size = w6.heap.size by simp]; omega
              refine hK.out _ _ ⟨B9.cell (i := 0) rfl, B9.cell (i := 1) rfl, B9.cell (i := 2) rfl, RL9.cell (i := 0) rfl⟩ (fun hS10 => ?_)
              clear hK K pc0 pf0 r28 rT8 RL8 RR8 RP8 B8 hb8
              refine wpAnyH_done (by kernel_rfl) ?_ _
              generalize w6.setCell ⟨w.heap.size + 1 + 1 + 1, 0, none⟩ (.slice A6 (k + 1) c6) = w9 at *
              obtain ⟨t, ht⟩ : ∃ t : Nat, wnT T k = (t : Int) := ⟨(wnT T k).toNat, by omega⟩
              have htz : t < z.length := by omega
              have HS := hide (hamL_step T z b z.length k hlt t htz ht)
              have HP := hide (pinL_succ T a k hlt)
              obtain ⟨gs, rfl⟩ : ∃ gs, A2 = some ⟨gs, 0, none⟩ := by
                rcases r29.2 with ⟨h', h0⟩ | ⟨g', cap, cur, h', hgb, _⟩
                · omega
                · simp at h'
                  exact ⟨g', h'.1⟩
              have hgs := r29.lt gs rfl
              have hle := hamL_len T z b k z.length
              have hg := hamL_get T z b k z.length t htz
              have hcb := cntP_le (T.take k) (t : Int)
              rw [List.length_take] at hcb
              obtain ⟨x0, x1, x2, x3, x4⟩ := pcC_at (hamL T z b k z.length) t (by omega)
              have ck := (r29.cellAt (t * 5 + 3) (by omega)).trans x3
              have fk := r29.frozenAt (t * 5 + 3)
              obtain ⟨u, hu⟩ : ∃ u, u = pcM (hamL T z b k z.length) t := ⟨_, rfl⟩
              rw [← hu] at ck HS
              have hcv : u = ((cntP (T.take k) (t : Int) : Nat) : Int) := by rw [hu]; unfold pcM; rw [hg]
              have hub : 0 ≤ u ∧ u ≤ 1048576 := by omega
              have hwu : IntKind.i64.wrap (u + 1) = u + 1 := IntWalk.i64_in _ (by omega)
              have row2 := (r29.stored (t * 5 + 3) (.int .i64 (u + 1))).1
              rw [← HS.out] at row2
              have HR := hide row2
              have hne1 : (Value.slice A6 (k + 1) c6).ownBlock ≠ some gs := fun e => by
                have h1 := (r19.lt gs e).1
                have h2 := HA2.out gs rfl
                omega
              have q1 := own_setW (o := t * 5 + 3) r19 hne1 (.int .i64 (u + 1))
              have qT := own_setW (o := t * 5 + 3) rT9 (Or.elim (own_apart rT9 r29 (by decide)) (fun h e => by rw [h] at e; cases e) (fun h e => h e)) (.int .i64 (u + 1))
              have qL := RL9.other (k := t * 5 + 3) (show w.heap.size + 1 ≠ gs from fun e => own_neW r29 RL9 (by decide) (by rw [e]; rfl)) (.int .i64 (u + 1))
              have qR := RR9.other (k := t * 5 + 3) (show w.heap.size + 1 + 1 ≠ gs from fun e => own_neW r29 RR9 (by decide) (by rw [e]; rfl)) (.int .i64 (u + 1))
              have qP := RP9.other (k := t * 5 + 3) (show w.heap.size + 1 + 1 + 1 ≠ gs from fun e => own_neW r29 RP9 (by decide) (by rw [e]; rfl)) (.int .i64 (u + 1))
              have qb := hb9.setCell (p := ⟨gs, t * 5 + 3, none⟩) hgs.1 (.int .i64 (u + 1))
              have hs9 := hb9.size
              have p1 := RP9.cell (i := 1) rfl
              have y1 := B9.cell (i := 1) rfl
              rw [ht] at y1
              have hti : (t : Int) < (z.length : Int) := by omega
              clear hcv hcb hu row2 hg x0 x1 x2 x3 x4 hle
              go_wp2
              go_roundw
              case rel => exact ⟨k + 1, A6, c6, hlt, by go_num, by rw [HP.out, pcC_append]; exact q1, HR.out, qT, qL, qR, qP, by simpa using hwz, qb⟩
              case measure => simp [intOf]; omega
            · obtain ⟨w7, hw7⟩ : ∃ X, X = w5.alloc (.cells #[.int .i64 (wnS T k), .int .i64 (wnT T k), .int .i64 (wnP T k), .int .i64 1, .int .i64 a] 156) := ⟨_, rfl⟩
              have b57 : Below w5.heap.size w5 w7 := by rw [hw7]; exact (Below.refl _ _).alloc (Nat.le_refl _) _
              have hnew : ∀ j y, ([.int .i64 (wnS T k), .int .i64 (wnT T k), .int .i64 (wnP T k), .int .i64 1, .int .i64 a] : List Value)[j]? = some y → w7.cell? ((⟨w5.heap.size, 0, none⟩ : Addr).add j) = some y := by rw [hw7]; exact cell_new_list w5 [.int .i64 (wnS T k), .int .i64 (wnT T k), .int .i64 (wnP T k), .int .i64 1, .int .i64 a] 156
              have B7 := B2_.keep b57
              have r17 := own_keep r15 b57
              have r27 := own_keep r25 b57
              have rT7 := own_keep rT5 b57
              have RL7 := RL5.keep b57
              have RR7 := RR5.keep b57
              have RP7 := RP5.keep b57
              have hb7 := hb6_.trans (b57.mono (by omega))
              have hs7 := b57.size
              intro K hK
              rw [if_pos (by rfl)]
              go_simp
              rw [← hw7]
              clear hw7 b57
              refine hK.out _ _ ⟨B7.cell (i := 0) rfl, B7.cell (i := 1) rfl, B7.cell (i := 2) rfl, RL7.cell (i := 0) rfl⟩ (fun hS3 => ?_)
              clear hK K B2_ r15 r25 rT5 RL5 RR5 RP5 hb6_
              try (change wpAnyH _ _ _ _ _ _ _ (Act.put _ (some 48) _) _)
              try simp only [Act.put, List.setIfInBounds_toArray, List.set_cons_zero, List.set_cons_succ]
              refine wpAnyH_ready (rs := [1]) (by kernel_rfl) (by simp) (AllReadyH.cons rfl ?_ AllReadyH.nil)
              intro K hK
              rw [if_pos (by rfl)]
              have pc0 := RP7.cell (i := 0) rfl
              go_simp
              refine hK.out _ _ ⟨B7.cell (i := 0) rfl, B7.cell (i := 1) rfl, B7.cell (i := 2) rfl, RL7.cell (i := 0) rfl⟩ (fun hS4 => ?_)
              clear hK K pc0
              try (change wpAnyH _ _ _ _ _ _ _ (Act.put _ (some 40) _) _)
              try simp only [Act.put, List.setIfInBounds_toArray, List.set_cons_zero, List.set_cons_succ]
              refine wpAnyH_ready (rs := [10]) (by kernel_rfl) (by simp) (AllReadyH.cons rfl ?_ AllReadyH.nil)
              intro K hK
              rw [if_pos (by rfl)]
              refine wp_append_own w7 (.tmp 40) (.tmp 48) 150 rfl B2 156 i0 (.agg #[.int .i64 0, .int .i64 0, .int .i64 0, .int .i64 0, .int .i64 0]) 5 40 Tryz.underlying150 hi hz0 hz1 hz2 rfl (by decide) _ _ _ rfl r17 ⟨w5.heap.size, 0, none⟩ 1 1 [.int .i64 (wnS T k), .int .i64 (wnT T k), .int .i64 (wnP T k), .int .i64 1, .int .i64 a] rfl rfl hnew (fun x hx => by simp at hx; rcases hx with rfl | rfl | rfl | rfl | rfl <;> rfl) (by unfold maxLen; omega) (by omega) (by omega) ?_
              intro v6 w6 hown6 hgr6 hnil6
              obtain ⟨A6, c6, rfl⟩ := own_shapeZ hown6
              have B8 := B7.grown hgr6 (own_neW r17 B7 (by decide))
              have RL8 := RL7.grown hgr6 (own_neW r17 RL7 (by decide))
              have RR8 := RR7.grown hgr6 (own_neW r17 RR7 (by decide))
              have RP8 := RP7.grown hgr6 (own_neW r17 RP7 (by decide))
              have rT8 := rT7.kept hgr6 (own_apart rT7 (own_base r17 (show w.heap.size ≤ B2 by omega)) (by decide))
              have r28 := r27.kept hgr6 hap12
              have hb8 := hb7.grown hgr6 hb7.size (fun j hj => Nat.le_trans (show w.heap.size ≤ B2 by omega) (r17.lt j hj).1)
              have hs8 := hgr6.size
              refine hK.out _ _ ⟨B8.cell (i := 0) rfl, B8.cell (i := 1) rfl, B8.cell (i := 2) rfl, RL8.cell (i := 0) rfl⟩ (fun hS9 => ?_)
              clear hK K r17 r27 rT7 RL7 RR7 RP7 B7 hb7 hgr6 hnil6
              try (change wpAnyH _ _ _ _ _ _ _ (Act.put _ (some 49) _) _)
              try simp only [Act.put, List.setIfInBounds_toArray, List.set_cons_zero, List.set_cons_succ]
              refine wpAnyH_take (i := 11) (v := .pointer (some ⟨w.heap.size + 1 + 1 + 1, 0, none⟩)) rfl (by kernel_rfl) (by kernel_rfl) (by kernel_rfl) (fun _ _ _ h => h) (Or.inl ⟨by rfl, fun w' _ => by go_simp⟩) hS9 ?_
              change wpAnyH _ _ _ _ _ _ _ (Act.put _ (some 50) _) _
              simp only [Act.put, List.setIfInBounds_toArray, List.set_cons_zero, List.set_cons_succ]
              refine wpAnyH_ready (rs := [12]) (by kernel_rfl) (by simp) (AllReadyH.cons rfl ?_ AllReadyH.nil)
              have pc0 := RP8.cell (i := 0) rfl
              have pf0 := RP8.frozen 0
              intro K hK
              rw [if_pos (by rfl)]
              go_simp
              have B9 := B8.other (k := 0) (show GY ≠ w.heap.size + 1 + 1 + 1 by omega) (.slice A6 (k + 1) c6)
              have RL9 := RL8.other (k := 0) (show w.heap.size + 1 ≠ w.heap.size + 1 + 1 + 1 by omega) (.slice A6 (k + 1) c6)
              have RR9 := RR8.other (k := 0) (show w.heap.size + 1 + 1 ≠ w.heap.size + 1 + 1 + 1 by omega) (.slice A6 (k + 1) c6)
              have RP9 : Bk (w6.setCell ⟨w.heap.size + 1 + 1 + 1, 0, none⟩ (.slice A6 (k + 1) c6)) (w.heap.size + 1 + 1 + 1) 152 #[.slice A6 (k + 1) c6, .slice A2 z.length q2] := heap_setCell_same w6 _ 0 _ _ _ RP8
              have r19 := own_setW (o := 0) hown6 (own_neW hown6 RP8 (by decide)) (.slice A6 (k + 1) c6)
              have r29 := own_setW (o := 0) r28 (own_neW r28 RP8 (by decide)) (.slice A6 (k + 1) c6)
              have rT9 := own_setW (o := 0) rT8 (own_neW rT8 RP8 (by decide)) (.slice A6 (k + 1) c6)
              have hb9 := hb8.setCell (p := ⟨w.heap.size + 1 + 1 + 1, 0, none⟩) (by dsimp only; omega) (.slice A6 (k + 1) c6)
              have hwz : B2 ≤ (w6.setCell ⟨w.heap.size + 1 + 1 + 1, 0, none⟩ (.slice A6 (k + 1) c6)).heap.size := by rw [show (w6.setCell ⟨w.heap.size + 1 + 1 + 1, 0, none⟩ (.slice A6 (k + 1) c6)).heap.size = w6.heap.size by simp]; omega
              refine hK.out _ _ ⟨B9.cell (i := 0) rfl, B9.cell (i := 1) rfl, B9.cell (i := 2) rfl, RL9.cell (i := 0) rfl⟩ (fun hS10 => ?_)
              clear hK K pc0 pf0 r28 rT8 RL8 RR8 RP8 B8 hb8
              refine wpAnyH_done (by kernel_rfl) ?_ _
              generalize w6.setCell ⟨w.heap.size + 1 + 1 + 1, 0, none⟩ (.slice A6 (k + 1) c6) = w9 at *
              obtain ⟨t, ht⟩ : ∃ t : Nat, wnT T k = (t : Int) := ⟨(wnT T k).toNat, by omega⟩
              have htz : t < z.length := by omega
              have HS := hide (hamL_step T z b z.length k hlt t htz ht)
              have HP := hide (pinL_succ T a k hlt)
              obtain ⟨gs, rfl⟩ : ∃ gs, A2 = some ⟨gs, 0, none⟩ := by
                rcases r29.2 with ⟨h', h0⟩ | ⟨g', cap, cur, h', hgb, _⟩
                · omega
                · simp at h'
                  exact ⟨g', h'.1⟩
              have hgs := r29.lt gs rfl
              have hle := hamL_len T z b k z.length
              have hg := hamL_get T z b k z.length t htz
              have hcb := cntP_le (T.take k) (t : Int)
              rw [List.length_take] at hcb
              obtain ⟨x0, x1, x2, x3, x4⟩ := pcC_at (hamL T z b k z.length) t (by omega)
              have ck := (r29.cellAt (t * 5 + 3) (by omega)).trans x3
              have fk := r29.frozenAt (t * 5 + 3)
              obtain ⟨u, hu⟩ : ∃ u, u = pcM (hamL T z b k z.length) t := ⟨_, rfl⟩
              rw [← hu] at ck HS
              have hcv : u = ((cntP (T.take k) (t : Int) : Nat) : Int) := by rw [hu]; unfold pcM; rw [hg]
              have hub : 0 ≤ u ∧ u ≤ 1048576 := by omega
              have hwu : IntKind.i64.wrap (u + 1) = u + 1 := IntWalk.i64_in _ (by omega)
              have row2 := (r29.stored (t * 5 + 3) (.int .i64 (u + 1))).1
              rw [← HS.out] at row2
              have HR := hide row2
              have hne1 : (Value.slice A6 (k + 1) c6).ownBlock ≠ some gs := fun e => by
                have h1 := (r19.lt gs e).1
                have h2 := HA2.out gs rfl
                omega
              have q1 := own_setW (o := t * 5 + 3) r19 hne1 (.int .i64 (u + 1))
              have qT := own_setW (o := t * 5 + 3) rT9 (Or.elim (own_apart rT9 r29 (by decide)) (fun h e => by rw [h] at e; cases e) (fun h e => h e)) (.int .i64 (u + 1))
              have qL := RL9.other (k := t * 5 + 3) (show w.heap.size + 1 ≠ gs from fun e => own_neW r29 RL9 (by decide) (by rw [e]; rfl)) (.int .i64 (u + 1))
              have qR := RR9.other (k := t * 5 + 3) (show w.heap.size + 1 + 1 ≠ gs from fun e => own_neW r29 RR9 (by decide) (by rw [e]; rfl)) (.int .i64 (u + 1))
              have qP := RP9.other (k := t * 5 + 3) (show w.heap.size + 1 + 1 + 1 ≠ gs from fun e => own_neW r29 RP9 (by decide) (by rw [e]; rfl)) (.int .i64 (u + 1))
              have qb := hb9.setCell (p := ⟨gs, t * 5 + 3, none⟩) hgs.1 (.int .i64 (u + 1))
              have hs9 := hb9.size
              have p1 := RP9.cell (i := 1) rfl
              have y1 := B9.cell (i := 1) rfl
              rw [ht] at y1
              have hti : (t : Int) < (z.length : Int) := by omega
              clear hcv hcb hu row2 hg x0 x1 x2 x3 x4 hle
              go_wp2
              go_roundw
              case rel => exact ⟨k + 1, A6, c6, hlt, by go_num, by rw [HP.out, pcC_append]; exact q1, HR.out, qT, qL, qR, qP, by simpa using hwz, qb⟩
              case measure => simp [intOf]; omega
        · obtain rfl : k = T.length := by omega
          have hni : ¬ (T.length : Int) < (T.length : Int) := by omega
          have p0 := RP.cell (i := 0) rfl
          have p1 := RP.cell (i := 1) rfl
          have HZ := hide (show wr.heap[w.heap.size + 1 + 1]? = some (.cells #[.slice none 0 0, .slice none 0 0] 152 (0, 0)) from RR)
          have o1 := own_setRowW (own_base r1 (show w.heap.size ≤ B2 by omega)) (own_neW r1 RR (by decide)) #[.slice A1 T.length q1, .slice A2 z.length q2]
          have o2 := own_setRowW r2 (own_neW r2 RR (by decide)) #[.slice A1 T.length q1, .slice A2 z.length q2]
          clear RR hlw htr
          go_wp2_with (with_reducible refine wpList_store_row rfl 152 (.tmp 4) (.tmp 62) rfl (w.heap.size + 1 + 1) #[.slice A1 T.length q1, .slice A2 z.length q2] rfl rfl 152 _ HZ.out (infoPcs _ _) (szWear _ _ _ _) (oneWear _ _ _ _ _ _) ?_)
          exact bodyPost_ret (v := .agg #[.slice A1 T.length q1, .slice A2 z.length q2]) (results_pcs Tryz.results94 _ _ (w.heap.size + 1 + 1) 152 #[.slice A1 T.length q1, .slice A2 z.length q2] rfl (by simp [Act.put]) (setRow_heap _ _ _ _ _ _ HZ.out)) rfl ⟨A1, q1, A2, q2, rfl, o1, o2, below_setRow hb (by omega)⟩
end Go.Proofs.YtcocfnjbgceidaaGreat
