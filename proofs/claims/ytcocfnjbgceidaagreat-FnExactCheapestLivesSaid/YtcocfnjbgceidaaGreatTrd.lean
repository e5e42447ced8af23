import Derived.Test.YtcocfnjbgceidaaGreatEac
import Derived.Test.YtcocfnjbgceidaaGreatWok
namespace Go.Proofs.YtcocfnjbgceidaaGreat
open Go.RowKit Go.Maps
def tuU (T : List Wp) (t : Int) (k : Nat) : List Wp := (turT T t).take k ++ T.drop k
def tuV (T : List Wp) (z : List Int) (t : Int) (k : Nat) : List Int := (turZ T z t).take k ++ z.drop k
def okP (T : List Wp) (t : Int) (k : Nat) : Bool := (List.range k).all fun j => decide (wnP T j + t ≤ 1000000)
def okZ (T : List Wp) (z : List Int) (t : Int) (k : Nat) : Bool := (List.range k).all fun j => decide (zAt z j + t * (cntP T (j : Int) : Int) ≤ 1000000)
theorem turT_len (T : List Wp) (t : Int) : (turT T t).length = T.length := by simp [turT]
theorem tuU_len (T : List Wp) (t : Int) (k : Nat) (h : k ≤ T.length) : (tuU T t k).length = T.length := by simp [tuU, turT]; omega
theorem tuV_len (T : List Wp) (z : List Int) (t : Int) (k : Nat) (h : k ≤ z.length) : (tuV T z t k).length = z.length := by simp [tuV, turZ]; omega
theorem tuU_zero (T : List Wp) (t : Int) : tuU T t 0 = T := by simp [tuU]
theorem tuV_zero (T : List Wp) (z : List Int) (t : Int) : tuV T z t 0 = z := by simp [tuV]
theorem tuU_all (T : List Wp) (t : Int) : tuU T t T.length = turT T t := by
  have : (turT T t).take T.length = turT T t := List.take_of_length_le (by rw [turT_len]; exact Nat.le_refl _)
  simp [tuU, this]
theorem tuV_all (T : List Wp) (z : List Int) (t : Int) : tuV T z t z.length = turZ T z t := by
  have : (turZ T z t).take z.length = turZ T z t := List.take_of_length_le (by rw [turZ_len]; exact Nat.le_refl _)
  simp [tuV, this]
theorem tuU_set (T : List Wp) (t : Int) (k : Nat) (h : k < T.length) : (tuU T t k).set k (wnS T k, wnT T k, wnP T k + t) = tuU T t (k + 1) := by
  have hk : k < (turT T t).length := by rw [turT_len]; exact h
  have e1 : (turT T t)[k] = (wnS T k, wnT T k, wnP T k + t) := by simp [turT, wnS, wnT, wnP, List.getD, h]
  unfold tuU
  rw [List.take_succ_eq_append_getElem hk, e1, List.set_append_right _ _ (by simp; omega), List.length_take, Nat.min_eq_left (by omega), Nat.sub_self, List.drop_eq_getElem_cons h, List.set_cons_zero]
  simp
theorem tuV_set (T : List Wp) (z : List Int) (t : Int) (k : Nat) (h : k < z.length) : (tuV T z t k).set k (zAt z k + t * (cntP T (k : Int) : Int)) = tuV T z t (k + 1) := by
  have hk : k < (turZ T z t).length := by rw [turZ_len]; exact h
  have e1 : (turZ T z t)[k] = zAt z k + t * (cntP T (k : Int) : Int) := by simp [turZ]
  unfold tuV
  rw [List.take_succ_eq_append_getElem hk, e1, List.set_append_right _ _ (by simp; omega), List.length_take, Nat.min_eq_left (by omega), Nat.sub_self, List.drop_eq_getElem_cons h, List.set_cons_zero]
  simp
theorem tuU_at (T : List Wp) (t : Int) (k : Nat) (h : k < T.length) : wnS (tuU T t k) k = wnS T k ∧ wnT (tuU T t k) k = wnT T k ∧ wnP (tuU T t k) k = wnP T k := by
  have e : (tuU T t k)[k]? = (T)[k]? := by
    unfold tuU
    rw [List.getElem?_append_right (by simp [turT]; omega)]
    simp [turT, Nat.min_eq_left (Nat.le_of_lt h)]
  simp [wnS, wnT, wnP, List.getD, e]
theorem tuV_at (T : List Wp) (z : List Int) (t : Int) (k : Nat) (h : k < z.length) : zAt (tuV T z t k) k = zAt z k := by
  have e : (tuV T z t k)[k]? = z[k]? := by
    unfold tuV
    rw [List.getElem?_append_right (by rw [List.length_take, turZ_len]; omega)]
    simp [turZ_len, Nat.min_eq_left (Nat.le_of_lt h)]
  simp [zAt, List.getD, e]
theorem tuU_next (T : List Wp) (t : Int) (k : Nat) (h : k < T.length) : wnP (tuU T t (k + 1)) k = wnP T k + t := by
  rw [← tuU_set T t k h]
  simp [wnP, List.getD, tuU_len T t k (Nat.le_of_lt h), h]
theorem okP_succ (T : List Wp) (t : Int) (k : Nat) : okP T t (k + 1) = (okP T t k && decide (wnP T k + t ≤ 1000000)) := by simp [okP, List.range_succ]
theorem okZ_succ (T : List Wp) (z : List Int) (t : Int) (k : Nat) : okZ T z t (k + 1) = (okZ T z t k && decide (zAt z k + t * (cntP T (k : Int) : Int) ≤ 1000000)) := by simp [okZ, List.range_succ]
theorem ok_whole (T : List Wp) (z : List Int) (t : Int) : (okP T t T.length && okZ T z t z.length) = wholeB (turT T t) (turZ T z t) 1000000 1000000 := by
  have h1 : okP T t T.length = (turT T t).all (fun x => decide (x.2.2 ≤ 1000000)) := by
    rw [Bool.eq_iff_iff]
    simp only [okP, List.all_eq_true, List.mem_range, decide_eq_true_eq]
    constructor
    · intro h x hx
      obtain ⟨x0, hx0, rfl⟩ := List.mem_map.1 hx
      obtain ⟨k, hk, rfl⟩ := List.mem_iff_getElem.1 hx0
      have := h k hk
      simpa [wnP, List.getD, hk] using this
    · intro h k hk
      have := h ((T)[k].1, (T)[k].2.1, (T)[k].2.2 + t) (List.mem_map.2 ⟨(T)[k], List.getElem_mem hk, rfl⟩)
      simpa [wnP, List.getD, hk] using this
  have h2 : okZ T z t z.length = (turZ T z t).all (fun y => decide (y ≤ 1000000)) := by
    rw [Bool.eq_iff_iff]
    simp only [okZ, List.all_eq_true, List.mem_range, decide_eq_true_eq]
    constructor
    · intro h y hy
      obtain ⟨k, hk, rfl⟩ := List.mem_map.1 hy
      exact h k (List.mem_range.1 hk)
    · intro h k hk
      exact h _ (List.mem_map.2 ⟨k, List.mem_range.2 hk, rfl⟩)
  rw [wholeB, h1, h2]
theorem own_apartB {w : World} {base base2 n m : Nat} {e f : TypeId} {size size' : Nat} {v u : Value} {xs ys : List Value} (h : w.ownsRow base e size v n xs) (h' : w.ownsRow base2 f size' u m ys) (hne : e ≠ f) : v.ownBlock = none ∨ v.ownBlock ≠ u.ownBlock := by
  rcases h.2 with ⟨rfl, _⟩ | ⟨g, cap, cur, rfl, _, hg, _⟩
  · exact Or.inl rfl
  · right
    rcases h'.2 with ⟨rfl, _⟩ | ⟨g', cap', cur', rfl, _, hg', _⟩
    · simp [Value.ownBlock]
    · intro e1
      have e2 : g = g' := by simpa [Value.ownBlock] using e1
      subst e2
      rw [hg] at hg'
      simp at hg'
      exact hne hg'.2
theorem own_rowW {w : World} {base g n : Nat} {e t : TypeId} {size : Nat} {v : Value} {xs : List Value} {cs : Array Value} (h : w.ownsRow base e size v n xs) (z : Bk w g t cs) (ht : t ≠ e) (cs' : Array Value) : (w.setRow g cs').ownsRow base e size v n xs :=
  h.kept (row := some g) ⟨rfl, rfl, rfl, by simp, fun k _ hk => setRow_other _ _ _ _ (fun e => hk (by rw [e]))⟩ (Or.inr (own_neW h z ht))
theorem set_selfT {α : Type} {l : List α} {k : Nat} {v : α} (h : l[k]? = some v) : l.set k v = l := by
  obtain ⟨hk, rfl⟩ := List.getElem?_eq_some_iff.1 h
  exact List.set_getElem_self hk
theorem results_wb {fn : Func} {p r : Tmp} (h : fn.results = #[.cell p 34, .tmp r]) (tmps : Array Value) (w : World) (g : Nat) (t : TypeId) (cs : Array Value) (c : Value) (hi : cs.size = 2)
    (hp : tmps.getD p undef = .pointer (some ⟨g, 0, none⟩)) (hr : tmps.getD r undef = c) (hg : w.heap[g]? = some (.cells cs t (0, 0))) : (results fn tmps).run Tryz.prog w = .ok (.tuple #[.agg cs, c]) w := results_we h tmps w g t cs c hi hp hr hg
set_option maxRecDepth 20000 in
set_option maxHeartbeats 8000000 in
theorem l06Turned_any (g : Nat) (P : Option Addr) (d : Nat) (T : List Wp) (U : Option Addr) (v : Nat) (z : List Int) (t : Int) (w : World) (h1 : w.cell? ⟨g, 0, none⟩ = some (.slice P T.length d)) (h2 : w.cell? ⟨g, 1, none⟩ = some (.slice U z.length v)) (hL : WnA w P T) (hU : SZ w U z) (hl : T.length ≤ 2304) (hz : z.length ≤ 24) (hT : ∀ k, k < T.length → (0 ≤ wnT T k ∧ wnT T k < z.length) ∧ 0 ≤ wnP T k ∧ wnP T k ≤ 1000000) (hZ : ∀ k, k < z.length → 0 ≤ zAt z k ∧ zAt z k ≤ 1000000) (hlw : WnWF T) (ht0 : 0 ≤ t) (ht1 : t ≤ 1000000) :
    Calls Tryz.prog 70 #[.pointer (some ⟨g, 0, none⟩), .int .i64 t] w fun e w' => ∃ (P1 : Option Addr) (q1 : Nat) (P2 : Option Addr) (q2 : Nat), e = .returned (.tuple #[.agg #[.slice P1 T.length q1, .slice P2 z.length q2], .bool (wholeB (turT T t) (turZ T z t) 1000000 1000000)]) ∧ w'.ownsRow w.heap.size 97 3 (.slice P1 T.length q1) T.length (wnC (turT T t)) ∧ w'.ownsRow w.heap.size 2 1 (.slice P2 z.length q2) z.length (icells (turZ T z t)) ∧ Below w.heap.size w w' := by
  have hgw : g < w.heap.size := World.block_lt_of_cell? w _ h1
  obtain ⟨X, hX⟩ : ∃ X, X = w.alloc (.cells #[.slice none 0 0, .slice none 0 0] 34) := ⟨_, rfl⟩
  have b0 : Below w.heap.size w X := by rw [hX]; exact (Below.refl _ _).alloc (Nat.le_refl _) _
  have R0 : Bk X w.heap.size 34 #[.slice none 0 0, .slice none 0 0] := by rw [hX]; exact Bk.new _ _ _ rfl
  have hX1 := R0.lt
  have g1 := (b0.cell (p := ⟨g, 0, none⟩) hgw).trans h1
  have g2 := (b0.cell (p := ⟨g, 1, none⟩) hgw).trans h2
  have KC := l06Copy_any g P d T U v z X g1 g2 (hL.below b0) (hU.below b0) (by omega) (by omega)
  go_enter Tryz.func70, Tryz.ntmps70
  go_upto_region 1 with fail
  rw [← hX]
  clear hX
  go_wp2_with fail
  refine KC.mono ?_
  rintro e w2 ⟨P1, q1, P2, q2, rfl, own1, own2, hb2⟩
  have b2 := step_below hb2 b0
  have R2 := R0.keep hb2
  clear KC
  obtain ⟨Y, hY⟩ : ∃ Y, Y = w2.alloc (.cells #[.slice P1 T.length q1, .slice P2 z.length q2] 34) := ⟨_, rfl⟩
  have hbY : Below w2.heap.size w2 Y := by rw [hY]; exact (Below.refl _ _).alloc (Nat.le_refl _) _
  have bY := step_below hbY b2
  have RY := R2.keep hbY
  have o1 := own_base (own_keep own1 hbY) (Nat.le_of_lt hX1)
  have o2 := own_base (own_keep own2 hbY) (Nat.le_of_lt hX1)
  have o2lt := own2.lt
  have NY : Bk Y w2.heap.size 34 #[.slice P1 T.length q1, .slice P2 z.length q2] := by rw [hY]; exact Bk.new _ _ _ rfl
  have hYG := NY.lt
  have hX2 := hb2.size
  obtain ⟨G, hG⟩ : ∃ G, G = w2.heap.size := ⟨_, rfl⟩
  rw [← hG] at NY hYG o2lt
  have hGX : X.heap.size ≤ G := by omega
  have gY1 := (bY.cell (p := ⟨g, 0, none⟩) hgw).trans h1
  have gY2 := (bY.cell (p := ⟨g, 1, none⟩) hgw).trans h2
  have KE := l06Each_any g P d T U v z Y gY1 gY2 (hL.below bY) (by omega) (by omega) (fun k hk => (hT k hk).1) hlw
  go_upto_region 2 with (first | (with_reducible refine wpList_store_newA rfl 34 (.tmp 6) (.tmp 12) rfl #[.slice P1 T.length q1, .slice P2 z.length q2] rfl rfl 34 _ (infoWear _ _) (szWear _ _ _ _) (oneWear _ _ _ _ _ _) ?_))
  rw [← hY]
  rw [← hG]
  clear hY hG
  go_wp2_with fail
  refine KE.mono ?_
  rintro e w3 ⟨PE, qE, rfl, ownE, hb3⟩
  rw [eachL_len] at ownE ⊢
  have b3 := step_below hb3 bY
  have R3 := RY.keep hb3
  have N3 := NY.keep hb3
  have o13 := own_keep o1 hb3
  have o23 := own_keep o2 hb3
  clear KE R0 R2 RY NY own1 own2 o1 o2 g1 g2 gY1 gY2
  go_wp2_with fail
  go_loopw [8, 9] (fun c i wr => ∃ k : Nat, k ≤ T.length ∧ i = .int .i64 k ∧ c = .bool (okP T t k) ∧ wr.ownsRow w.heap.size 97 3 (.slice P1 T.length q1) T.length (wnC (tuU T t k)) ∧ wr.ownsRow w.heap.size 2 1 (.slice P2 z.length q2) z.length (icells z) ∧ wr.ownsRow Y.heap.size 2 1 (.slice PE z.length qE) z.length (icells (eachL T z.length T.length)) ∧ Bk wr G 34 #[.slice P1 T.length q1, .slice P2 z.length q2] ∧ Bk wr w.heap.size 34 #[.slice none 0 0, .slice none 0 0] ∧ Below w.heap.size w wr)
    (fun _ i _ => T.length - (intOf i).toNat)
  case atStart => exact ⟨0, Nat.zero_le _, rfl, rfl, by rw [tuU_zero]; exact o13, o23, ownE, N3, R3, b3⟩
  case round =>
    obtain ⟨k, hk, rfl, rfl, r1, r2, rE, N, R, hb⟩ := hrel
    have n0 := N.cell (i := 0) rfl
    by_cases hlt : k < T.length
    · obtain ⟨gp, rfl⟩ : ∃ gp, P1 = some ⟨gp, 0, none⟩ := by
        rcases r1.2 with ⟨h', h0⟩ | ⟨g', cap, cur, h', hgb, _⟩
        · omega
        · simp at h'
          exact ⟨g', h'.1⟩
      have hgp := r1.lt gp rfl
      obtain ⟨a1, a2, a3⟩ := tuU_at T t k hlt
      obtain ⟨e1, e2, e3⟩ := wnC_at (tuU T t k) k (by rw [tuU_len T t k hk]; exact hlt)
      rw [a1] at e1
      rw [a2] at e2
      rw [a3] at e3
      have ck := (r1.cellAt (k * 3 + 2) (by omega)).trans e3
      have fk := r1.frozenAt (k * 3 + 2)
      obtain ⟨_, p0, p1⟩ := hT k hlt
      have hwp : IntKind.i64.wrap (wnP T k + t) = wnP T k + t := IntWalk.i64_in _ (by omega)
      have hki : (k : Int) < (T.length : Int) := by omega
      have hne1 : G ≠ gp := fun e => own_neW r1 N (by decide) (by rw [e]; rfl)
      have hneR : w.heap.size ≠ gp := fun e => own_neW r1 R (by decide) (by rw [e]; rfl)
      have hneo : ∀ {b' : Nat} {A' : Option Addr} {m c : Nat} {xs : List Value}, wr.ownsRow b' 2 1 (.slice A' m c) m xs → (Value.slice A' m c).ownBlock ≠ some gp := fun h => by
        rcases own_apartB h r1 (by decide) with hh | hh
        · rw [hh]; simp
        · exact hh
      have s1 := (r1.stored (k * 3 + 2) (.int .i64 (wnP T k + t))).1
      have hset : (wnC (tuU T t k)).set (k * 3 + 2) (.int .i64 (wnP T k + t)) = wnC (tuU T t (k + 1)) := by
        rw [← tuU_set T t k hlt, wnC_set]
        congr 1
        rw [set_selfT e1, set_selfT e2]
      rw [hset] at s1
      have s2 := own_setW (o := k * 3 + 2) r2 (hneo r2) (.int .i64 (wnP T k + t))
      have sE := own_setW (o := k * 3 + 2) rE (hneo rE) (.int .i64 (wnP T k + t))
      have sN := N.other (k := k * 3 + 2) hne1 (.int .i64 (wnP T k + t))
      have sR := R.other (k := k * 3 + 2) hneR (.int .i64 (wnP T k + t))
      have sb := hb.setCell (p := ⟨gp, k * 3 + 2, none⟩) hgp.1 (.int .i64 (wnP T k + t))
      obtain ⟨V, hV⟩ : ∃ V, V = wr.setCell ⟨gp, k * 3 + 2, none⟩ (.int .i64 (wnP T k + t)) := ⟨_, rfl⟩
      go_upto_region 8 with fail
      rw [← hV] at s1 s2 sE sN sR sb ⊢
      clear hV ck fk n0 e1 e2 e3 a1 a2 a3 r1 r2 rE N R hb hset
      have n0 := sN.cell (i := 0) rfl
      obtain ⟨e1, e2, e3⟩ := wnC_at (tuU T t (k + 1)) k (by rw [tuU_len T t (k + 1) hlt]; exact hlt)
      rw [tuU_next T t k hlt] at e3
      have ck := (s1.cellAt (k * 3 + 2) (by omega)).trans e3
      have KT := fun W => l06Turns_any (wnP T k + t) W
      have hib : inB (wnP T k + t) 0 1000000 = decide (wnP T k + t ≤ 1000000) := by simp [inB]; omega
      rw [hib] at KT
      have HO := hide (okP_succ T t k)
      generalize wnP T k + t = y at *
      clear e1 e2 e3 hib hT hZ
      cases hok : okP T t k
      · rw [hok] at HO
        go_wp2
        go_roundw
        case rel => exact ⟨k + 1, hlt, by go_num, by rw [HO.out]; rfl, s1, s2, sE, sN, sR, sb⟩
        case measure => simp [intOf]; omega
      · rw [hok, Bool.true_and] at HO
        generalize decide (y ≤ 1000000) = r at *
        go_wp2_with (go_at_call 69; with_reducible refine (KT _).mono ?_; rintro e w' ⟨rfl, rfl⟩)
        go_roundw
        case rel => exact ⟨k + 1, hlt, by go_num, by rw [HO.out], s1, s2, sE, sN, sR, sb⟩
        case measure => simp [intOf]; omega
    · obtain rfl : k = T.length := by omega
      rw [tuU_all] at r1
      have HW := hide (ok_whole T z t)
      clear hk o13 o23 ownE N3 R3 b3
      obtain ⟨ok1, hok1⟩ : ∃ b, b = okP T t T.length := ⟨_, rfl⟩
      rw [← hok1] at HW ⊢
      clear hok1
      go_wp2_with fail
      go_loopw [8, 10] (fun c i wr => ∃ k : Nat, k ≤ z.length ∧ i = .int .i64 k ∧ c = .bool (ok1 && okZ T z t k) ∧ wr.ownsRow w.heap.size 97 3 (.slice P1 T.length q1) T.length (wnC (turT T t)) ∧ wr.ownsRow w.heap.size 2 1 (.slice P2 z.length q2) z.length (icells (tuV T z t k)) ∧ wr.ownsRow Y.heap.size 2 1 (.slice PE z.length qE) z.length (icells (eachL T z.length T.length)) ∧ Bk wr G 34 #[.slice P1 T.length q1, .slice P2 z.length q2] ∧ Bk wr w.heap.size 34 #[.slice none 0 0, .slice none 0 0] ∧ Below w.heap.size w wr)
        (fun _ i _ => z.length - (intOf i).toNat)
      case atStart => exact ⟨0, Nat.zero_le _, rfl, by simp [okZ], r1, by rw [tuV_zero]; exact r2, rE, N, R, hb⟩
      case round =>
        obtain ⟨k, hk, rfl, rfl, r1, r2, rE, N, R, hb⟩ := hrel
        by_cases hlt : k < z.length
        · obtain ⟨gz, rfl⟩ : ∃ gz, P2 = some ⟨gz, 0, none⟩ := by
            rcases r2.2 with ⟨h', h0⟩ | ⟨g', cap, cur, h', hgb, _⟩
            · omega
            · simp at h'
              exact ⟨g', h'.1⟩
          obtain ⟨ge, rfl⟩ : ∃ ge, PE = some ⟨ge, 0, none⟩ := by
            rcases rE.2 with ⟨h', h0⟩ | ⟨g', cap, cur, h', hgb, _⟩
            · omega
            · simp at h'
              exact ⟨g', h'.1⟩
          have hgz := r2.lt gz rfl
          have hge := rE.lt ge rfl
          have hgzG := (o2lt gz rfl).2
          have hzk := hZ k hlt
          have hcb := cntP_le T (k : Int)
          have hev := eachL_at T z.length T.length k hlt
          rw [List.take_length] at hev
          obtain ⟨m, hm⟩ : ∃ m : Int, m = (cntP T (k : Int) : Int) := ⟨_, rfl⟩
          have hm0 : 0 ≤ m ∧ m ≤ 2304 := by omega
          have hp0 : 0 ≤ t * m := Int.mul_nonneg ht0 hm0.1
          have hp1 : t * m ≤ 1000000 * 2304 := Int.mul_le_mul ht1 hm0.2 hm0.1 (by omega)
          have hwm : IntKind.i64.wrap (t * m) = t * m := IntWalk.i64_in _ (by omega)
          have hwa : IntKind.i64.wrap (zAt z k + t * m) = zAt z k + t * m := IntWalk.i64_in _ (by omega)
          have hvs := tuV_set T z t k hlt
          have hoz := okZ_succ T z t k
          rw [← hm] at hev hvs hoz
          have hva := tuV_at T z t k hlt
          have hvl := tuV_len T z t k hk
          have cz := (r2.cellAt k (by omega)).trans (icells_get (tuV T z t k) k (by omega))
          rw [hva] at cz
          have ce := (rE.cellAt k (by omega)).trans (icells_get (eachL T z.length T.length) k (by rw [eachL_len]; exact hlt))
          rw [hev] at ce
          have fz := r2.frozenAt k
          have hki : (k : Int) < (z.length : Int) := by omega
          have hneN : G ≠ gz := by omega
          have hneR : w.heap.size ≠ gz := fun e => own_neW r2 R (by decide) (by rw [e]; rfl)
          have hneE : (Value.slice (some ⟨ge, 0, none⟩) z.length qE).ownBlock ≠ some gz := by
            simp [Value.ownBlock]
            omega
          have hne1 : (Value.slice P1 T.length q1).ownBlock ≠ some gz := by
            rcases own_apartB r1 r2 (by decide) with hh | hh
            · rw [hh]; simp
            · exact hh
          have hd : Below wr.heap.size wr wr.drew := (Below.refl _ _).drew
          have n1 := (N.keep hd).cell (i := 1) rfl
          have czd := (hd.cell (p := ⟨gz, k, none⟩) hgz.2).trans cz
          have ced := (hd.cell (p := ⟨ge, k, none⟩) hge.2).trans ce
          have fzd := (own_keep r2 hd).frozenAt k
          generalize zAt z k = y at *
          have s2 := ((own_keep r2 hd).stored k (.int .i64 (y + t * m))).1
          rw [icells_set, hvs] at s2
          have s1 := own_setW (o := k) (own_keep r1 hd) hne1 (.int .i64 (y + t * m))
          have sE := own_setW (o := k) (own_keep rE hd) hneE (.int .i64 (y + t * m))
          have sN := (N.keep hd).other (k := k) hneN (.int .i64 (y + t * m))
          have sR := (R.keep hd).other (k := k) hneR (.int .i64 (y + t * m))
          have sb := (step_below hd hb).setCell (p := ⟨gz, k, none⟩) hgz.1 (.int .i64 (y + t * m))
          have hvn : zAt (tuV T z t (k + 1)) k = y + t * m := by
            rw [← hvs]
            simp [zAt, List.getD, hvl, hlt]
          obtain ⟨V, hV⟩ : ∃ V, V = wr.drew.setCell ⟨gz, k, none⟩ (.int .i64 (y + t * m)) := ⟨_, rfl⟩
          rw [← hV] at s1 s2 sE sN sR sb
          have HS1 := hide s1
          have HS2 := hide s2
          have HSE := hide sE
          have HSN := hide sN
          have HSR := hide sR
          have HSB := hide sb
          have HVV := hide hV
          clear r1 r2 rE N R hb cz ce fz hva hev hvs hm s1 s2 sE sN sR sb hcb hV
          go_upto_region 12 with fail
          refine wp_region_still_tail 13 (by kernel_rfl) (by kernel_rfl) ?_
          change wpStill _ _ wr.drew (fun a' => wpList _ _ _ _ a' wr.drew) _ _
          simp only [List.take_succ_cons, List.take_zero, List.drop_succ_cons, List.drop_zero]
          repeat still_step
          refine wpStill_nil ?_
          have hV := HVV.out
          clear HVV hd
          go_upto_region 13 with fail
          rw [show (wr.setCell ⟨gz, k, none⟩ (.int .i64 (y + t * m))).drew = V from hV.symm]
          clear hV czd ced fzd n1
          have n1 := HSN.out.cell (i := 1) rfl
          have hvl1 := tuV_len T z t (k + 1) hlt
          have cz := (HS2.out.cellAt k (by omega)).trans (icells_get (tuV T z t (k + 1)) k (by omega))
          rw [hvn] at cz
          have KT := fun W => l06Turns_any (y + t * m) W
          have hib : inB (y + t * m) 0 1000000 = decide (y + t * m ≤ 1000000) := by simp [inB]; omega
          rw [hib] at KT
          have HO := hide hoz
          generalize y + t * m = x at *
          clear hib hvn hoz
          cases hok : (ok1 && okZ T z t k)
          · have HO2 := hide (show (ok1 && okZ T z t (k + 1)) = false by rw [HO.out, ← Bool.and_assoc, hok]; rfl)
            clear HO hok
            go_wp2
            go_roundw
            case rel => exact ⟨k + 1, hlt, by go_num, by rw [HO2.out], HS1.out, HS2.out, HSE.out, HSN.out, HSR.out, HSB.out⟩
            case measure => simp [intOf]; omega
          · have HO2 := hide (show (ok1 && okZ T z t (k + 1)) = decide (x ≤ 1000000) by rw [HO.out, ← Bool.and_assoc, hok]; rfl)
            clear HO hok
            generalize decide (x ≤ 1000000) = r at *
            go_wp2_with (go_at_call 69; with_reducible refine (KT _).mono ?_; rintro e w' ⟨rfl, rfl⟩)
            go_roundw
            case rel => exact ⟨k + 1, hlt, by go_num, by rw [HO2.out], HS1.out, HS2.out, HSE.out, HSN.out, HSR.out, HSB.out⟩
            case measure => simp [intOf]; omega
        · obtain rfl : k = z.length := by omega
          rw [tuV_all] at r2
          have n0 := N.cell (i := 0) rfl
          have n1 := N.cell (i := 1) rfl
          have HZ := hide (show wr.heap[w.heap.size]? = some (.cells #[.slice none 0 0, .slice none 0 0] 34 (0, 0)) from R)
          have f1 := own_rowW r1 R (by decide) #[.slice P1 T.length q1, .slice P2 z.length q2]
          have f2 := own_rowW r2 R (by decide) #[.slice P1 T.length q1, .slice P2 z.length q2]
          obtain ⟨rb, hrb⟩ : ∃ b, b = wholeB (turT T t) (turZ T z t) 1000000 1000000 := ⟨_, rfl⟩
          rw [HW.out, ← hrb]
          have HRB := hide hrb
          clear r1 r2 rE N R hrb
          go_wp2_with (with_reducible refine wpList_store_row rfl 34 (.tmp 4) (.tmp 70) rfl w.heap.size #[.slice P1 T.length q1, .slice P2 z.length q2] rfl rfl 34 _ HZ.out (infoWear _ _) (szWear _ _ _ _) (oneWear _ _ _ _ _ _) ?_)
          exact bodyPost_ret (v := .tuple #[.agg #[.slice P1 T.length q1, .slice P2 z.length q2], .bool rb]) (results_wb Tryz.results70 _ _ w.heap.size 34 #[.slice P1 T.length q1, .slice P2 z.length q2] _ rfl (by simp [Act.put]) (by simp [Act.put]) (setRow_heap _ _ _ _ _ _ HZ.out)) rfl ⟨P1, q1, P2, q2, by rw [← HRB.out], f1, f2, below_setRow hb (Nat.le_refl _)⟩
end Go.Proofs.YtcocfnjbgceidaaGreat
