import Derived.Test.YtcocfnjbgceidaaGreatGbk
import Derived.Test.YtcocfnjbgceidaaGreatCpw
namespace Go.Proofs.YtcocfnjbgceidaaGreat
open Go.RowKit Go.Maps
/-- the pins that are worn out, and the tracks whose hammers are -/
def woT (T : List Wp) (a : Int) : List Wp := T.filter fun x => decide (a < x.2.2)
def woK (z : List Int) (b : Int) (k : Nat) : List Int := ((List.range k).filter fun j => decide (b < zAt z j)).map (fun j : Nat => (j : Int))
theorem woT_yes {T : List Wp} {a : Int} {k : Nat} (hk : k < T.length) (h : a < wnP T k) : woT (T.take (k + 1)) a = woT (T.take k) a ++ [(wnS T k, wnT T k, wnP T k)] := by
  unfold woT
  rw [List.take_add_one, List.getElem?_eq_getElem hk, Option.toList_some, List.filter_append, wn_get T k hk]
  simp [h]
theorem woT_no {T : List Wp} {a : Int} {k : Nat} (hk : k < T.length) (h : ¬ a < wnP T k) : woT (T.take (k + 1)) a = woT (T.take k) a := by
  unfold woT
  rw [List.take_add_one, List.getElem?_eq_getElem hk, Option.toList_some, List.filter_append, wn_get T k hk]
  simp only [List.filter_cons, List.filter_nil, decide_eq_true_eq]
  rw [if_neg h]
  simp
theorem woK_yes {z : List Int} {b : Int} {k : Nat} (h : b < zAt z k) : woK z b (k + 1) = woK z b k ++ [(k : Int)] := by
  unfold woK
  rw [List.range_succ, List.filter_append, List.map_append]
  simp [h]
theorem woK_no {z : List Int} {b : Int} {k : Nat} (h : ¬ b < zAt z k) : woK z b (k + 1) = woK z b k := by
  unfold woK
  rw [List.range_succ, List.filter_append, List.map_append]
  simp [h]
theorem woT_len (T : List Wp) (a : Int) (k : Nat) : (woT (T.take k) a).length ≤ T.length := by
  unfold woT
  refine Nat.le_trans (List.length_filter_le _ _) ?_
  rw [List.length_take]
  omega
theorem woK_len (z : List Int) (b : Int) (k : Nat) : (woK z b k).length ≤ k := by
  unfold woK
  rw [List.length_map]
  exact Nat.le_trans (List.length_filter_le _ _) (by simp)
set_option maxRecDepth 20000 in
set_option maxHeartbeats 8000000 in
theorem l06Worn_any (g : Nat) (P : Option Addr) (d : Nat) (T : List Wp) (U : Option Addr) (v : Nat) (z : List Int) (a b : Int) (w : World) (h1 : w.cell? ⟨g, 0, none⟩ = some (.slice P T.length d)) (h2 : w.cell? ⟨g, 1, none⟩ = some (.slice U z.length v)) (hL : WnA w P T) (hU : SZ w U z) (hl : T.length ≤ 1048576) (hz : z.length ≤ 1048576) :
    Calls Tryz.prog 111 #[.pointer (some ⟨g, 0, none⟩), .agg #[.int .i64 a, .int .i64 b]] w fun e w' => ∃ (P1 : Option Addr) (q1 : Nat) (P2 : Option Addr) (q2 : Nat), e = .returned (.tuple #[.slice P1 (woT T a).length q1, .slice P2 (woK z b z.length).length q2]) ∧ w'.ownsRow w.heap.size 97 3 (.slice P1 (woT T a).length q1) (woT T a).length (wnC (woT T a)) ∧ w'.ownsRow w.heap.size 2 1 (.slice P2 (woK z b z.length).length q2) (woK z b z.length).length (icells (woK z b z.length)) ∧ Below w.heap.size w w' := by
  obtain ⟨i0, hi, hz0, hz1, hz2⟩ := info_parts info97
  obtain ⟨j0, hj, hj0, hj1, hj2⟩ := info_parts info2
  have hgw : g < w.heap.size := World.block_lt_of_cell? w _ h1
  obtain ⟨X, hX⟩ : ∃ X, X = ((w.alloc (.cells #[.int .i64 a, .int .i64 b] 63)).alloc (.cells #[] 97)).alloc (.cells #[] 2) := ⟨_, rfl⟩
  have b0 : Below w.heap.size w X := by rw [hX]; exact (((Below.refl _ _).alloc (Nat.le_refl _) _).alloc (by simp) _).alloc (by simp; omega) _
  have P0 : Bk X w.heap.size 63 #[.int .i64 a, .int .i64 b] := by rw [hX]; exact ((Bk.new _ _ _ rfl).old _).old _
  have o1 : X.ownsRow w.heap.size 97 3 (.slice (some ⟨w.heap.size + 1, 0, none⟩) 0 0) 0 [] := by
    rw [hX]
    have := (own_emptyI (w := w.alloc (.cells #[.int .i64 a, .int .i64 b] 63)) (base := w.heap.size) 97 3 (by simp)).alloc (.cells #[] 2)
    simpa using this
  have o2 : X.ownsRow w.heap.size 2 1 (.slice (some ⟨w.heap.size + 1 + 1, 0, none⟩) 0 0) 0 [] := by
    rw [hX]
    have := own_emptyI (w := (w.alloc (.cells #[.int .i64 a, .int .i64 b] 63)).alloc (.cells #[] 97)) (base := w.heap.size) 2 1 (by simp; omega)
    simpa using this
  go_enter Tryz.func111, Tryz.ntmps111
  go_upto_region 3 with fail
  rw [← hX]
  clear hX
  go_wp2_with fail
  go_loopw [6, 8] (fun u i wr => ∃ (k : Nat) (A : Option Addr) (q : Nat), k ≤ T.length ∧ i = .int .i64 k ∧ u = .slice A (woT (T.take k) a).length q ∧ wr.ownsRow w.heap.size 97 3 (.slice A (woT (T.take k) a).length q) (woT (T.take k) a).length (wnC (woT (T.take k) a)) ∧ wr.ownsRow w.heap.size 2 1 (.slice (some ⟨w.heap.size + 1 + 1, 0, none⟩) 0 0) 0 [] ∧ Bk wr w.heap.size 63 #[.int .i64 a, .int .i64 b] ∧ Below w.heap.size w wr)
    (fun _ i _ => T.length - (intOf i).toNat)
  case atStart => exact ⟨0, _, _, Nat.zero_le _, rfl, rfl, o1, o2, P0, b0⟩
  case round =>
    obtain ⟨k, A, q, hk, rfl, rfl, r1, r2, B, hb⟩ := hrel
    have q1 := (hb.cell (p := ⟨g, 0, none⟩) hgw).trans h1
    have hbs := hb.size
    by_cases hlt : k < T.length
    · obtain ⟨bb, o, rfl, hbb, c1, c2, c3⟩ := hL k hlt
      have d1 := (hb.cell (p := ⟨bb, o + k * 3, none⟩) hbb).trans c1
      have d2 := (hb.cell (p := ⟨bb, o + k * 3 + 1, none⟩) hbb).trans c2
      have d3 := (hb.cell (p := ⟨bb, o + k * 3 + 2, none⟩) hbb).trans c3
      have e0 := B.cell (i := 0) rfl
      have hki : (k : Int) < (T.length : Int) := by omega
      have hlw := woT_len T a k
      have hd : Below wr.heap.size wr wr.drew := (Below.refl _ _).drew
      by_cases hgt : a < wnP T k
      · have HT := hide (woT_yes hlt hgt)
        have hdec : decide (a < wnP T k) = true := by simpa using hgt
        clear c1 c2 c3 hL o1 o2
        go_wp2_with fail
        go_region
        obtain ⟨Z, hZ⟩ : ∃ Z, Z = wr.drew := ⟨_, rfl⟩
        rw [← hZ] at hd ⊢
        clear hZ
        have hbZ := step_below hd hb
        have s1 := own_keep r1 hd
        have s2 := own_keep r2 hd
        have sB := B.keep hd
        have f1 := (hd.cell (p := ⟨bb, o + k * 3, none⟩) (World.block_lt_of_cell? _ _ d1)).trans d1
        have f2 := (hd.cell (p := ⟨bb, o + k * 3 + 1, none⟩) (World.block_lt_of_cell? _ _ d2)).trans d2
        have f3 := (hd.cell (p := ⟨bb, o + k * 3 + 2, none⟩) (World.block_lt_of_cell? _ _ d3)).trans d3
        have g1 := (hd.cell (p := ⟨g, 0, none⟩) (World.block_lt_of_cell? _ _ q1)).trans q1
        have hbz := hbZ.size
        clear d1 d2 d3 q1 e0 r1 r2 B hgt hdec hd
        have own3 := s1.alloc (.cells #[.int .i8 (wnS T k), .int .i8 (wnT T k), .int .i64 (wnP T k)] 97)
        have own4 := s2.alloc (.cells #[.int .i8 (wnS T k), .int .i8 (wnT T k), .int .i64 (wnP T k)] 97)
        have sB3 := sB.old (.cells #[.int .i8 (wnS T k), .int .i8 (wnT T k), .int .i64 (wnP T k)] 97)
        have hnew := cell_threeW Z (.int .i8 (wnS T k)) (.int .i8 (wnT T k)) (.int .i64 (wnP T k)) 97
        have hap := own_apart own4 own3 (by decide)
        have hneB := own_neW own3 sB3 (by decide)
        go_wp2_with (at_builtin; refine wpList_append_own _ rfl _ _ 32 rfl w.heap.size 97 i0 (.agg #[.int .i8 0, .int .i8 0, .int .i64 0]) 3 16 Tryz.underlying32 hi hz0 hz1 hz2 rfl (by decide) _ _ _ rfl own3 ⟨Z.heap.size, 0, none⟩ 1 1 [.int .i8 (wnS T k), .int .i8 (wnT T k), .int .i64 (wnP T k)] rfl rfl hnew (fun x hx => by simp at hx; rcases hx with rfl | rfl | rfl <;> rfl) (by unfold maxLen; omega) (by omega) (by simp; omega) ?_; intro v6 w6 hown6 hgr6 hnil6)
        obtain ⟨A6, c6, rfl⟩ := own_shapeZ hown6
        have t2 := own4.kept hgr6 hap
        have tB := sB3.grown hgr6 hneB
        have hb6 := (hbZ.alloc hbz (.cells #[.int .i8 (wnS T k), .int .i8 (wnT T k), .int .i64 (wnP T k)] 97)).grown hgr6 (by simp; omega) (fun j hj => (s1.lt j hj).1)
        go_roundw
        case rel => exact ⟨k + 1, A6, c6, hlt, by go_num, by rw [HT.out, List.length_append]; rfl, by rw [HT.out, List.length_append, wnC_append]; exact hown6, t2, tB, hb6⟩
        case measure => simp [intOf]; omega
      · have HT := hide (woT_no hlt hgt)
        have hdec : decide (a < wnP T k) = false := by simpa using hgt
        clear c1 c2 c3 hL o1 o2
        go_wp2_with fail
        go_region
        obtain ⟨Z, hZ⟩ : ∃ Z, Z = wr.drew := ⟨_, rfl⟩
        rw [← hZ] at hd ⊢
        clear hZ
        have hbZ := step_below hd hb
        have s1 := own_keep r1 hd
        have s2 := own_keep r2 hd
        have sB := B.keep hd
        clear d1 d2 d3 q1 e0 r1 r2 B hd
        go_wp2
        go_roundw
        case rel => exact ⟨k + 1, A, q, hlt, by go_num, by rw [HT.out], by rw [HT.out]; exact s1, s2, sB, hbZ⟩
        case measure => simp [intOf]; omega
    · have HK := hide (show k = T.length by omega)
      have hni : ¬ (k : Int) < (T.length : Int) := by omega
      have HR := hide (show ∃ (A : Option Addr) (q : Nat), Value.slice A (woT (T.take k) a).length q = Value.slice A (woT (T.take k) a).length q from ⟨A, q, rfl⟩)
      generalize hm : woT (T.take k) a = m at *
      have HM := hide hm
      clear hm hk hlt o1 o2 HR
      go_wp2_with fail
      go_loopw [7, 9] (fun u i wr => ∃ (k : Nat) (A2 : Option Addr) (q2 : Nat), k ≤ z.length ∧ i = .int .i64 k ∧ u = .slice A2 (woK z b k).length q2 ∧ wr.ownsRow w.heap.size 2 1 (.slice A2 (woK z b k).length q2) (woK z b k).length (icells (woK z b k)) ∧ wr.ownsRow w.heap.size 97 3 (.slice A m.length q) m.length (wnC m) ∧ Bk wr w.heap.size 63 #[.int .i64 a, .int .i64 b] ∧ Below w.heap.size w wr)
        (fun _ i _ => z.length - (intOf i).toNat)
      case atStart => exact ⟨0, _, _, Nat.zero_le _, rfl, rfl, r2, r1, B, hb⟩
      case round =>
        obtain ⟨k2, A2, q2, hk2, rfl, rfl, r2, r1, B, hb⟩ := hrel
        have q1 := (hb.cell (p := ⟨g, 1, none⟩) hgw).trans h2
        have hbs := hb.size
        by_cases hlt : k2 < z.length
        · obtain ⟨bb, o, rfl, hbb, c1⟩ := hU k2 hlt
          have d1 := (hb.cell (p := ⟨bb, o + k2, none⟩) hbb).trans c1
          have e1 := B.cell (i := 1) rfl
          have hki : (k2 : Int) < (z.length : Int) := by omega
          have hlw := woK_len z b k2
          have hd : Below wr.heap.size wr wr.drew := (Below.refl _ _).drew
          by_cases hgt : b < zAt z k2
          · have HT := hide (woK_yes hgt)
            have hdec : decide (b < zAt z k2) = true := by simpa using hgt
            clear c1 hU
            go_wp2_with fail
            go_region
            obtain ⟨Z, hZ⟩ : ∃ Z, Z = wr.drew := ⟨_, rfl⟩
            rw [← hZ] at hd ⊢
            clear hZ
            have hbZ := step_below hd hb
            have s1 := own_keep r1 hd
            have s2 := own_keep r2 hd
            have sB := B.keep hd
            have hbz := hbZ.size
            clear d1 q1 e1 r1 r2 B hgt hdec hd
            have own3 := s2.alloc (.cells #[.int .i64 (k2 : Int)] 2)
            have own4 := s1.alloc (.cells #[.int .i64 (k2 : Int)] 2)
            have sB3 := sB.old (.cells #[.int .i64 (k2 : Int)] 2)
            have hnew : ∀ j u, ([.int .i64 (k2 : Int)] : List Value)[j]? = some u → (Z.alloc (.cells #[.int .i64 (k2 : Int)] 2)).cell? ((⟨Z.heap.size, 0, none⟩ : Addr).add j) = some u := cell_one_new Z (.int .i64 (k2 : Int)) 2
            have hap := own_apart own4 own3 (by decide)
            have hneB := own_neW own3 sB3 (by decide)
            go_wp2_with (at_builtin; refine wpList_append_own _ rfl _ _ 27 rfl w.heap.size 2 j0 (.int .i64 0) 1 8 Tryz.underlying27 hj hj0 hj1 hj2 rfl (by decide) _ _ _ rfl own3 ⟨Z.heap.size, 0, none⟩ 1 1 [.int .i64 (k2 : Int)] rfl rfl hnew (fun x hx => by simp at hx; subst hx; rfl) (by unfold maxLen; omega) (by omega) (by simp; omega) ?_; intro v6 w6 hown6 hgr6 hnil6)
            obtain ⟨A6, c6, rfl⟩ := own_shapeZ hown6
            have t1 := own4.kept hgr6 hap
            have tB := sB3.grown hgr6 hneB
            have hb6 := (hbZ.alloc hbz (.cells #[.int .i64 (k2 : Int)] 2)).grown hgr6 (by simp; omega) (fun j hj => (s2.lt j hj).1)
            go_roundw
            case rel => exact ⟨k2 + 1, A6, c6, hlt, by go_num, by rw [HT.out, List.length_append]; rfl, by rw [HT.out, List.length_append, icells, List.map_append]; exact hown6, t1, tB, hb6⟩
            case measure => simp [intOf]; omega
          · have HT := hide (woK_no hgt)
            have hdec : decide (b < zAt z k2) = false := by simpa using hgt
            clear c1 hU
            go_wp2_with fail
            go_region
            obtain ⟨Z, hZ⟩ : ∃ Z, Z = wr.drew := ⟨_, rfl⟩
            rw [← hZ] at hd ⊢
            clear hZ
            have hbZ := step_below hd hb
            have s1 := own_keep r1 hd
            have s2 := own_keep r2 hd
            have sB := B.keep hd
            clear d1 q1 e1 r1 r2 B hd
            go_wp2
            go_roundw
            case rel => exact ⟨k2 + 1, A2, q2, hlt, by go_num, by rw [HT.out], by rw [HT.out]; exact s2, s1, sB, hbZ⟩
            case measure => simp [intOf]; omega
        · have HK2 := hide (show k2 = z.length by omega)
          have hni2 : ¬ (k2 : Int) < (z.length : Int) := by omega
          clear hk2 hlt
          go_wp2
          go_ret2
          have e1 : m = woT T a := by rw [← HM.out, HK.out, List.take_length]
          have e2 := HK2.out
          subst e1 e2
          exact ⟨_, _, _, _, rfl, r1, r2, hb⟩
end Go.Proofs.YtcocfnjbgceidaaGreat
