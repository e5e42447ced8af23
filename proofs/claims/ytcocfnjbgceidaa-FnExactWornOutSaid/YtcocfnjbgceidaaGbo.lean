import Derived.Test.YtcocfnjbgceidaaWow
import Derived.Test.YtcocfnjbgceidaaExc
import Derived.Lib.SliceRun
import Derived.Lib.SlBuf
import Derived.Laws.IdiomCopy
namespace Go.Proofs.Ytcocfnjbgceidaa
open Go.RowKit Go.Maps
set_option maxRecDepth 20000 in
set_option maxHeartbeats 1000000 in
/-- the first worn pin for which a closure says yes -/
theorem indexWn_gen (g : Nat) (cb : Array Value) (A : Option Addr) (c : Nat) (T : List Wp) (p : Int → Int → Int → Bool) (w : World) (hA : WnA w A T) (hn : T.length ≤ 1048576) (eg : ∀ args w, (callFunc g args).run Try.prog w = .ok (.enter g args) w)
    (hf : ∀ W, Below w.heap.size w W → ∀ i, i < T.length → Calls Try.prog g (#[.agg #[.int .i8 (wnS T i), .int .i8 (wnT T i), .int .i64 (wnP T i)]] ++ cb) W fun e w' => e = .returned (.bool (p (wnS T i) (wnT T i) (wnP T i))) ∧ Below W.heap.size W w') :
    Calls Try.prog 110 #[.slice A T.length c, .func (.func g) #[] cb] w fun e w' => ((e = .returned (.int .i64 (-1)) ∧ ∀ j, j < T.length → p (wnS T j) (wnT T j) (wnP T j) = false) ∨ ∃ k : Nat, k < T.length ∧ e = .returned (.int .i64 k) ∧ (∀ j, j < k → p (wnS T j) (wnT T j) (wnP T j) = false) ∧ p (wnS T k) (wnT T k) (wnP T k) = true) ∧ Below w.heap.size w w' := by
  have HF := hide hf
  clear hf
  go_enter Try.func110, Try.ntmps110
  go_wp2_with fail
  go_loopw [8] (fun i wr => ∃ k : Nat, k ≤ T.length ∧ i = .int .i64 k ∧ (∀ j, j < k → p (wnS T j) (wnT T j) (wnP T j) = false) ∧ Below w.heap.size w wr)
    (fun i _ => T.length - (intOf i).toNat)
  case atStart => exact ⟨0, Nat.zero_le _, rfl, fun j hj => absurd hj (Nat.not_lt_zero _), Below.refl _ _⟩
  case round =>
    obtain ⟨k, hk, rfl, hG, hb⟩ := hrel
    have HG := hide hG
    clear hG
    by_cases hlt : k < T.length
    · obtain ⟨bb, o, rfl, hbb, c1, c2, c3⟩ := hA k hlt
      have d1 := (hb.cell (p := ⟨bb, o + k * 3, none⟩) hbb).trans c1
      have d2 := (hb.cell (p := ⟨bb, o + k * 3 + 1, none⟩) hbb).trans c2
      have d3 := (hb.cell (p := ⟨bb, o + k * 3 + 2, none⟩) hbb).trans c3
      have KF := HF.out wr hb k hlt
      cases hi : p (wnS T k) (wnT T k) (wnP T k)
      · rw [hi] at KF
        have HI := hide hi
        clear hi hA c1 c2 c3
        go_wp2_with fail
        refine KF.mono ?_
        rintro e w1 ⟨rfl, hb1⟩
        have b1 := step_below hb1 hb
        go_wp2_with fail
        go_roundw
        case rel => exact ⟨k + 1, hlt, by go_num, fun j hj => by
          rcases Nat.lt_or_ge j k with h | h
          · exact HG.out j h
          · obtain rfl : j = k := by omega
            exact HI.out, b1⟩
        case measure => simp [intOf]; omega
      · rw [hi] at KF
        have HI := hide hi
        clear hi hA c1 c2 c3
        go_wp2_with fail
        refine KF.mono ?_
        rintro e w1 ⟨rfl, hb1⟩
        have b1 := step_below hb1 hb
        go_wp2
        go_ret
        exact ⟨Or.inr ⟨k, hlt, rfl, HG.out, HI.out⟩, b1⟩
    · obtain rfl : k = T.length := by omega
      go_wp2
      go_ret
      exact ⟨Or.inl ⟨rfl, HG.out⟩, hb⟩
/-- the closure of WornOut -/
theorem wornOut1_any (g : Nat) (x y p a : Int) (w : World) (h1 : w.cell? ⟨g, 0, none⟩ = some (.int .i64 a)) :
    Calls Try.prog 79 #[.agg #[.int .i8 x, .int .i8 y, .int .i64 p], .pointer (some ⟨g, 0, none⟩)] w fun e w' => e = .returned (.bool (decide (p ≤ a))) ∧ Below w.heap.size w w' := by
  obtain ⟨X, hX⟩ : ∃ X, X = w.alloc (.cells #[.int .i8 x, .int .i8 y, .int .i64 p] 136) := ⟨_, rfl⟩
  have hb0 : Below w.heap.size w X := by rw [hX]; exact (Below.refl _ _).alloc (Nat.le_refl _) _
  have P0 : Bk X w.heap.size 136 #[.int .i8 x, .int .i8 y, .int .i64 p] := by rw [hX]; exact Bk.new _ _ _ rfl
  have h2 := (hb0.cell (p := ⟨g, 0, none⟩) (World.block_lt_of_cell? _ _ h1)).trans h1
  go_enter Try.func79, Try.ntmps79
  go_upto_region 1 with fail
  rw [← hX]
  clear hX h1
  have c2 := P0.cell (i := 2) rfl
  go_wp2
  go_ret
  exact ⟨rfl, hb0⟩
/-- a row cut short -/
theorem own_short {w : World} {base g n c k : Nat} {e : TypeId} {size : Nat} {xs : List Value} (h : w.ownsRow base e size (.slice (some ⟨g, 0, none⟩) n c) n xs) (hk : k ≤ n) : w.ownsRow base e size (.slice (some ⟨g, 0, none⟩) k c) k (xs.take (k * size)) := by
  obtain ⟨hl, h⟩ := h
  rcases h with ⟨h', _⟩ | ⟨g', cap, cur, h', hb, hg, hc, hm, hcs, hx⟩
  · cases h'
  · simp only [Value.slice.injEq, Option.some.injEq, Addr.mk.injEq, true_and, and_true] at h'
    obtain ⟨rfl, rfl⟩ := h'
    have hks : k * size ≤ n * size := Nat.mul_le_mul_right _ hk
    refine ⟨by rw [List.length_take, hl]; omega, Or.inr ⟨g, c, cur, rfl, hb, hg, by omega, hm, hcs, ?_⟩⟩
    rw [← hx, List.take_take, Nat.min_eq_left hks]
/-- cells behind a row are set -/
theorem own_behind {base g n c : Nat} {e : TypeId} {size : Nat} {xs : List Value} : ∀ (vs : List Value) (o : Nat) (w : World), n * size ≤ o → w.ownsRow base e size (.slice (some ⟨g, 0, none⟩) n c) n xs → (w.setCells g o vs).ownsRow base e size (.slice (some ⟨g, 0, none⟩) n c) n xs
  | [], _, _, _, h => h
  | v :: vs, o, w, ho, h => by
    rw [World.setCells]
    refine own_behind vs (o + 1) _ (by omega) ?_
    obtain ⟨hl, h⟩ := h
    rcases h with ⟨h', _⟩ | ⟨g', cap, cur, h', hb, hg, hc, hm, hcs, hx⟩
    · cases h'
    · simp only [Value.slice.injEq, Option.some.injEq, Addr.mk.injEq, true_and, and_true] at h'
      obtain ⟨rfl, rfl⟩ := h'
      have hg2 : (w.setCell ⟨g, o, none⟩ v).heap[g]? = some (.cells (cur.setIfInBounds o v) e (0, 0)) := heap_setCell_same w g o cur e v hg
      refine ⟨hl, Or.inr ⟨g, c, _, rfl, hb, hg2, hc, hm, by rw [Array.size_setIfInBounds]; exact hcs, ?_⟩⟩
      rw [Array.toList_setIfInBounds, ← hx]
      exact List.take_set_of_le ho
theorem wnC_take : ∀ (l : List Wp) (i : Nat), (wnC l).take (i * 3) = wnC (l.take i)
  | [], i => by simp [wnC]
  | x :: l, 0 => by simp [wnC]
  | x :: l, i + 1 => by
    rw [wnC_cons, show (i + 1) * 3 = i * 3 + 1 + 1 + 1 by omega, List.take_succ_cons, List.take_succ_cons, List.take_succ_cons, wnC_take l i, List.take_succ_cons, wnC_cons]
set_option maxRecDepth 20000 in
/-- the cells of worn pins cleared -/
theorem clearWn (w : World) (ty : TypeId) (b o n c : Nat) (hn : 0 < n) (hc : ∀ j, j < n * 3 → (w.cell? ⟨b, o + j, none⟩).isSome = true) (hf : ∀ j, j < n * 3 → w.frozen? ⟨b, o + j, none⟩ = false) :
    (Builtin.clear_ #[62] ty #[.slice (some ⟨b, o, none⟩) n c]).run Try.prog w = .ok (.tuple #[]) (w.setCells b o (wnC (List.replicate n (0, 0, 0)))) := by
  have hzc : (Builtin.zeroCells #[.int .i8 0, .int .i8 0, .int .i64 0] n).toList = wnC (List.replicate n (0, 0, 0)) := by
    rw [wnC_replicate]
    rfl
  have hst := run_storeCells_cells (P := Try.prog) b o (wnC (List.replicate n (0, 0, 0))) 0 w (by intro j hj; rw [wnC_length] at hj; simpa using hc j (by simpa using hj)) (by intro j hj; rw [wnC_length] at hj; simpa using hf j (by simpa using hj)) (wnC_one _)
  simp only [Nat.add_zero] at hst
  obtain ⟨m, rfl⟩ : ∃ m, n = m + 1 := ⟨n - 1, by omega⟩
  have hv : ∀ w, (zeroValue 136).run Try.prog w = .ok (.agg #[.int .i8 0, .int .i8 0, .int .i64 0]) w := Try.zeroValue136
  simp [Builtin.clear_, run_underlying Try.underlying62, hv, Value.cells, hzc, hst]
end Go.Proofs.Ytcocfnjbgceidaa
namespace Go.Proofs.Ytcocfnjbgceidaa
open Go.RowKit Go.Maps
/-- the list behind the first places of a deletion -/
def DlI (T dk : List Wp) (a : Int) (i j : Nat) : Prop := dk.length = T.length ∧ i < j ∧ j ≤ T.length ∧ dk.take i = woT (T.take j) a ∧ ∀ t, j ≤ t → t < T.length → dk.getD t (0, 0, 0) = T.getD t (0, 0, 0)
theorem woT_all {T : List Wp} {a : Int} {k : Nat} (h : ∀ j, j < k → a < wnP T j) (hk : k ≤ T.length) : woT (T.take k) a = T.take k := by
  unfold woT
  rw [List.filter_eq_self]
  intro x hx
  obtain ⟨j, hj, rfl⟩ := List.mem_iff_getElem.1 hx
  rw [List.length_take] at hj
  have := h j (by omega)
  rw [wnP, List.getD, List.getElem?_eq_getElem (by omega), Option.getD_some] at this
  simpa using this
theorem DlI.start {T : List Wp} {a : Int} {k : Nat} (hk : k < T.length) (h : ∀ j, j < k → a < wnP T j) (h0 : ¬ a < wnP T k) : DlI T T a k (k + 1) :=
  ⟨rfl, by omega, by omega, by rw [woT_no hk h0, woT_all h (by omega)], fun _ _ _ => rfl⟩
theorem DlI.skip {T dk : List Wp} {a : Int} {i j : Nat} (h : DlI T dk a i j) (hj : j < T.length) (h0 : ¬ a < wnP T j) : DlI T dk a i (j + 1) :=
  ⟨h.1, by have := h.2.1; omega, by omega, by rw [woT_no hj h0]; exact h.2.2.2.1, fun t h1 h2 => h.2.2.2.2 t (by omega) h2⟩
theorem DlI.keep {T dk : List Wp} {a : Int} {i j : Nat} (h : DlI T dk a i j) (hj : j < T.length) (h0 : a < wnP T j) : DlI T (dk.set i (wnS T j, wnT T j, wnP T j)) a (i + 1) (j + 1) := by
  obtain ⟨h1, h2, h3, h4, h5⟩ := h
  refine ⟨by rw [List.length_set, h1], by omega, by omega, ?_, fun t ht ht2 => ?_⟩
  · rw [woT_yes hj h0, List.take_add_one, List.getElem?_set_self (by omega), Option.toList_some, List.take_set_of_le (Nat.le_refl _), h4]
  · rw [List.getD, List.getElem?_set_ne (by omega)]
    exact h5 t (by omega) ht2
theorem wn_eq {T dk : List Wp} {j : Nat} (h : dk.getD j (0, 0, 0) = T.getD j (0, 0, 0)) : wnS dk j = wnS T j ∧ wnT dk j = wnT T j ∧ wnP dk j = wnP T j := by
  unfold wnS wnT wnP
  rw [h]
  exact ⟨rfl, rfl, rfl⟩
set_option maxRecDepth 20000 in
set_option maxHeartbeats 4000000 in
theorem deleteWorn_any (g0 : Nat) (C : Option Addr) (q : Nat) (T : List Wp) (a : Int) (base : Nat) (w : World) (h : w.ownsRow base 136 3 (.slice C T.length q) T.length (wnC T)) (hn : T.length ≤ 1048576) (hbase : base ≤ w.heap.size) (hg0 : g0 < base) (hg : w.cell? ⟨g0, 0, none⟩ = some (.int .i64 a)) :
    Calls Try.prog 77 #[.slice C T.length q, .func (.func 79) #[] #[.pointer (some ⟨g0, 0, none⟩)]] w fun e w' => ∃ (C' : Option Addr) (q' : Nat), e = .returned (.slice C' (woT T a).length q') ∧ w'.ownsRow base 136 3 (.slice C' (woT T a).length q') (woT T a).length (wnC (woT T a)) ∧ Below base w w' := by
  have KI := indexWn_gen 79 #[.pointer (some ⟨g0, 0, none⟩)] C q T (fun _ _ p => decide (p ≤ a)) w (WnA.of_own h) hn (fun args w => by rfl) (fun W hW i _ => wornOut1_any g0 _ _ _ a W ((hW.cell (p := ⟨g0, 0, none⟩) (by dsimp only; omega)).trans hg))
  have HG := hide hg
  clear hg
  go_enter Try.func77, Try.ntmps77
  go_wp2_with fail
  refine KI.mono ?_
  rintro e w1 ⟨he, hb1⟩
  have own1 := own_keep h hb1
  have b1 := hb1.mono hbase
  have hs1 := hb1.size
  clear KI h
  rcases he with ⟨rfl, hall⟩ | ⟨k0, hk0, rfl, hbef, hat⟩
  · have e1 : woT T a = T := by
      have := woT_all (T := T) (a := a) (k := T.length) (fun j hj => by have := hall j hj; simpa using this) (Nat.le_refl _)
      rwa [List.take_length] at this
    have HE := hide e1
    clear hall e1
    go_wp2
    go_ret
    rw [HE.out]
    exact ⟨C, q, rfl, own1, b1⟩
  · have HD := hide (DlI.start (T := T) (a := a) hk0 (fun j hj => by have := hbef j hj; simpa using this) (by have := hat; simp at this; omega))
    have hne : ((k0 : Int) == -1) = false := beq_eq_false_iff_ne.2 (by omega)
    clear hbef hat
    obtain ⟨G, rfl⟩ : ∃ G, C = some ⟨G, 0, none⟩ := by
      rcases own1.2 with ⟨h', h0⟩ | ⟨g', cap, cur, h', _⟩
      · omega
      · cases h'; exact ⟨_, rfl⟩
    have hGb : base ≤ G := (own1.lt G rfl).1
    obtain ⟨hTq, hqm⟩ : T.length ≤ q ∧ q ≤ maxLen := by
      rcases own1.2 with ⟨h', h0⟩ | ⟨g', cap, cur, h', hb, hg, hc, hm, _⟩
      · cases h'
      · cases h'; exact ⟨hc, hm⟩
    unfold maxLen at hqm
    go_wp2_with fail
    go_loopw [5, 6, 7] (fun s5 s6 _ wr => ∃ (i j : Nat) (dk : List Wp), s5 = .int .i64 i ∧ s6 = .int .i64 j ∧ DlI T dk a i j ∧ wr.ownsRow base 136 3 (.slice (some ⟨G, 0, none⟩) T.length q) T.length (wnC dk) ∧ Below base w wr)
      (fun _ s6 _ _ => T.length - (intOf s6).toNat)
    case atStart => exact ⟨k0, k0 + 1, T, rfl, by go_num, HD.out, own1, b1⟩
    case round =>
      obtain ⟨i, j, dk, rfl, rfl, hI, own, hb⟩ := hrel
      have HI := hide hI
      obtain ⟨hdl, hij, hjT, -, hhi⟩ := hI
      have hbs := hb.size
      by_cases hlt : j < T.length
      · have hji : (j : Int) < (T.length : Int) := by omega
        have hiT : (i : Int) < (T.length : Int) := by omega
        obtain ⟨ex, ey, ep⟩ := wn_eq (hhi j (Nat.le_refl _) hlt)
        obtain ⟨c1, c2, c3⟩ := wnC_at dk j (by omega)
        rw [ex] at c1
        rw [ey] at c2
        rw [ep] at c3
        have d1 := (own.cellAt (j * 3) (by omega)).trans c1
        have d2 := (own.cellAt (j * 3 + 1) (by omega)).trans c2
        have d3 := (own.cellAt (j * 3 + 2) (by omega)).trans c3
        obtain ⟨Y, hY⟩ : ∃ Y, Y = wr.alloc (.cells #[.int .i8 (wnS T j), .int .i8 (wnT T j), .int .i64 (wnP T j)] 136) := ⟨_, rfl⟩
        have bY : Below wr.heap.size wr Y := by rw [hY]; exact (Below.refl _ _).alloc (Nat.le_refl _) _
        have B0 : Bk Y wr.heap.size 136 #[.int .i8 (wnS T j), .int .i8 (wnT T j), .int .i64 (wnP T j)] := by rw [hY]; exact Bk.new _ _ _ rfl
        have ownY := own_keep own bY
        have hbY := hb.trans (bY.mono (Nat.le_trans hbase hbs))
        have gY := (hbY.cell (p := ⟨g0, 0, none⟩) hg0).trans HG.out
        have KF := wornOut1_any g0 (wnS T j) (wnT T j) (wnP T j) a Y gY
        have hYs := bY.size
        clear hhi hdl c1 c2 c3 ex ey ep own
        go_upto_region 8 with fail
        rw [← hY]
        clear hY d1 d2 d3 gY
        have e0 := B0.cell (i := 0) rfl
        have e1 := B0.cell (i := 1) rfl
        have e2 := B0.cell (i := 2) rfl
        by_cases hk : a < wnP T j
        · have hdec : decide (wnP T j ≤ a) = false := by simpa using hk
          rw [hdec] at KF
          have HK := hide (HI.out.keep hlt hk)
          clear hdec hk
          go_wp2_with fail
          refine KF.mono ?_
          rintro e w2 ⟨rfl, hb2⟩
          have own2 := own_keep ownY hb2
          have B2 := B0.keep hb2
          have hb3 := hbY.trans (hb2.mono (by omega))
          clear e0 e1 e2 KF
          have e0 := B2.cell (i := 0) rfl
          have e1 := B2.cell (i := 1) rfl
          have e2 := B2.cell (i := 2) rfl
          have hdl := HI.out.1
          obtain ⟨c1, c2, c3⟩ := wnC_at dk i (by omega)
          have f1 := (own2.cellAt (i * 3) (by omega)).trans c1
          have f2 := (own2.cellAt (i * 3 + 1) (by omega)).trans c2
          have f3 := (own2.cellAt (i * 3 + 2) (by omega)).trans c3
          have f4 := own2.frozenAt (i * 3)
          have f5 := own2.frozenAt (i * 3 + 1)
          have f6 := own2.frozenAt (i * 3 + 2)
          have HW := hide (wnown_set3 own2 i (wnS T j) (wnT T j) (wnP T j))
          have HB := hide (((hb3.setCell (p := ⟨G, i * 3, none⟩) hGb (.int .i8 (wnS T j))).setCell (p := ⟨G, i * 3 + 1, none⟩) hGb (.int .i8 (wnT T j))).setCell (p := ⟨G, i * 3 + 2, none⟩) hGb (.int .i64 (wnP T j)))
          clear c1 c2 c3 own2 hb3 hdl ownY hbY
          go_wp2
          go_roundw
          case rel => exact ⟨i + 1, j + 1, _, by go_num, by go_num, HK.out, HW.out, HB.out⟩
          case measure => simp [intOf]; omega
        · have hdec : decide (wnP T j ≤ a) = true := by simpa using hk
          rw [hdec] at KF
          have HK := hide (HI.out.skip hlt hk)
          clear hdec hk
          go_wp2_with fail
          refine KF.mono ?_
          rintro e w2 ⟨rfl, hb2⟩
          have own2 := own_keep ownY hb2
          have hb3 := hbY.trans (hb2.mono (by omega))
          clear e0 e1 e2 KF
          go_wp2
          go_roundw
          case rel => exact ⟨i, j + 1, dk, rfl, by go_num, HK.out, own2, hb3⟩
          case measure => simp [intOf]; omega
      · have hjn : j = T.length := by omega
        subst hjn
        have hni : ¬ (T.length : Int) < (T.length : Int) := by omega
        have hcl : ∀ ty, (Builtin.clear_ #[62] ty #[.slice (some ⟨G, i * 3, none⟩) (T.length - i) (q - i)]).run Try.prog wr = .ok (.tuple #[]) (wr.setCells G (i * 3) (wnC (List.replicate (T.length - i) (0, 0, 0)))) := fun ty => clearWn wr ty G (i * 3) (T.length - i) (q - i) (by omega) (fun j hj => by
          rw [own.cellAt (i * 3 + j) (by omega), List.getElem?_eq_getElem (by rw [wnC_length]; omega)]; rfl) (fun j hj => own.frozenAt (i * 3 + j))
        have hown := own_behind (wnC (List.replicate (T.length - i) (0, 0, 0))) (i * 3) wr (Nat.le_refl _) (own_short own (k := i) (by omega))
        have hlen : (woT T a).length = i := by
          have e := HI.out.2.2.2.1
          rw [List.take_length] at e
          rw [← e, List.length_take, hdl]
          omega
        have e4 : (wnC dk).take (i * 3) = wnC (woT T a) := by
          have e := HI.out.2.2.2.1
          rw [List.take_length] at e
          rw [← e]
          exact wnC_take dk i
        have HO := hide hown
        have HL := hide hlen
        have HE := hide e4
        have HB := hide (Lib.below_setCells (B := base) G hGb (wnC (List.replicate (T.length - i) (0, 0, 0))) (i * 3) hb)
        have hiT : (i : Int) ≤ (T.length : Int) := by omega
        have hiq : (i : Int) ≤ (q : Int) := by omega
        clear hown hlen e4 own hb hhi hdl
        go_wp2
        go_ret
        rw [HL.out]
        refine ⟨some ⟨G, 0, none⟩, q, rfl, ?_, HB.out⟩
        rw [← HE.out]
        exact HO.out
end Go.Proofs.Ytcocfnjbgceidaa
