import Derived.Test.YtcocfnjbgceidaaGreatCpw
import Derived.Test.YtcocfnjbgceidaaGreatGau
import Derived.Test.YtcocfnjbgceidaaGreatGav
namespace Go.Proofs.YtcocfnjbgceidaaGreat
open Go.RowKit Go.Maps
set_option maxRecDepth 20000 in
set_option maxHeartbeats 8000000 in
theorem specNewHammer_any (s : Int) (A : Option Addr) (c : Nat) (h : List (Int × Int)) (P : Option Addr) (d : Nat) (l : List (Int × Int × Int)) (U : Option Addr) (v : Nat) (z : List Int) (x : Int) (w : World)
    (hA : HA w A h) (hn : h.length ≤ 1048576) (hwf : HWF h) (hs : -32768 ≤ s ∧ s ≤ 32767) (hL : WnA w P l) (hU : SZ w U z) (hl : l.length ≤ 1048576) (hz : z.length ≤ 1048576) (hlw : WnWF l) (hzw : ZWF z) :
    Calls Tryz.prog 12 #[.agg #[.int .i16 s, .slice A h.length c], .agg #[.slice P l.length d, .slice U z.length v], .int .i64 x] w (WeC (nhT s h l z x) (nhZ s h l z x) (nhC s h l z x) w) := by
  obtain ⟨X, hX⟩ : ∃ X, X = ((w.alloc (.cells #[.int .i16 s, .slice A h.length c] 39)).alloc (.cells #[.slice P l.length d, .slice U z.length v] 34)).alloc (.cells #[.slice none 0 0, .slice none 0 0] 34) := ⟨_, rfl⟩
  have hb0 : Below w.heap.size w X := by rw [hX]; exact (((Below.refl _ _).alloc (Nat.le_refl _) _).alloc (by simp) _).alloc (by simp; omega) _
  have P0 : Bk X w.heap.size 39 #[.int .i16 s, .slice A h.length c] := by rw [hX]; exact ((Bk.new _ _ _ rfl).old _).old _
  have P1 : Bk X (w.heap.size + 1) 34 #[.slice P l.length d, .slice U z.length v] := by rw [hX]; exact (Bk.new _ _ _ (by simp)).old _
  have P3 : Bk X (w.heap.size + 1 + 1) 34 #[.slice none 0 0, .slice none 0 0] := by rw [hX]; exact Bk.new _ _ _ (by simp)
  have hX3 := P3.lt
  have KW := l06Ok_any w.heap.size (w.heap.size + 1) s A c h P d l U v z X ⟨P0.cell (i := 0) rfl, P0.cell (i := 1) rfl⟩ (P1.cell (i := 0) rfl) (P1.cell (i := 1) rfl) (hA.below hb0) (hL.below hb0) (hU.below hb0) hn hl hz hwf hs hlw
  go_enter Tryz.func12, Tryz.ntmps12
  go_upto_region 1 with fail
  rw [← hX]
  clear hX
  go_wp2_with fail
  refine KW.mono ?_
  rintro e w2 ⟨rfl, hb2⟩
  have b2 := step_below hb2 hb0
  have Q0 := P0.keep hb2
  have Q1 := P1.keep hb2
  have hs2 := hb2.size
  have KI0 := fun W => l00In_any x 0 ((h.length : Int) - 1) W
  clear KW
  cases hwe : weB s h l z
  · skip
    have KI := KI0
    have HX := hide (show nhC s h l z x = 1 by simp [nhC, hwe])
    have HT := hide (show nhT s h l z x = [] by rw [nhT, if_neg (by rw [HX.out]; decide)])
    have HZZ := hide (show nhZ s h l z x = [] by rw [nhZ, if_neg (by rw [HX.out]; decide)])
    have HZ := hide (show w2.heap[w.heap.size + 1 + 1]? = some (.cells #[.slice none 0 0, .slice none 0 0] 34 (0, 0)) from P3.keep hb2)
    go_wp2_with (first | (go_at_call 46; with_reducible refine (KI _).mono ?_; rintro e w' ⟨rfl, rfl⟩) | (with_reducible refine wpList_build0 rfl rfl ?_) | (with_reducible refine wpList_store_row rfl 34 (.tmp 6) (.tmp 11) rfl (w.heap.size + 1 + 1) #[.slice none 0 0, .slice none 0 0] rfl rfl 34 _ HZ.out (infoWear _ _) (szWear _ _ _ _) (oneWear _ _ _ _ _ _) ?_))
    exact bodyPost_ret (v := .tuple #[.agg #[.slice none 0 0, .slice none 0 0], .int .i64 1]) (results_we Tryz.results12 _ _ (w.heap.size + 1 + 1) 34 #[.slice none 0 0, .slice none 0 0] _ rfl (by simp [Act.put]) (by simp [Act.put]) (setRow_heap _ _ _ _ _ _ HZ.out)) rfl ⟨none, 0, none, 0, by rw [HX.out, HT.out, HZZ.out]; rfl, by rw [HT.out]; exact World.ownsRow_nil _ _ _ _, by rw [HZZ.out]; exact World.ownsRow_nil _ _ _ _, below_setRow b2 (by omega)⟩
  have c1 := Q0.cell (i := 1) rfl
  cases hin : inB x 0 ((h.length : Int) - 1)
  · skip
    have KI : ∀ W, Calls Tryz.prog 46 #[.int .i64 x, .int .i64 0, .int .i64 ((h.length : Int) - 1)] W fun e w' => e = .returned (.bool false) ∧ W = w' := fun W => by rw [← hin]; exact l00In_any _ _ _ W
    clear KI0
    have HX := hide (show nhC s h l z x = 2 by simp [nhC, hwe, rnC, hin])
    have HT := hide (show nhT s h l z x = [] by rw [nhT, if_neg (by rw [HX.out]; decide)])
    have HZZ := hide (show nhZ s h l z x = [] by rw [nhZ, if_neg (by rw [HX.out]; decide)])
    have HZ := hide (show w2.heap[w.heap.size + 1 + 1]? = some (.cells #[.slice none 0 0, .slice none 0 0] 34 (0, 0)) from P3.keep hb2)
    go_wp2_with (first | (go_at_call 46; with_reducible refine (KI _).mono ?_; rintro e w' ⟨rfl, rfl⟩) | (with_reducible refine wpList_build0 rfl rfl ?_) | (with_reducible refine wpList_store_row rfl 34 (.tmp 6) (.tmp 19) rfl (w.heap.size + 1 + 1) #[.slice none 0 0, .slice none 0 0] rfl rfl 34 _ HZ.out (infoWear _ _) (szWear _ _ _ _) (oneWear _ _ _ _ _ _) ?_))
    exact bodyPost_ret (v := .tuple #[.agg #[.slice none 0 0, .slice none 0 0], .int .i64 2]) (results_we Tryz.results12 _ _ (w.heap.size + 1 + 1) 34 #[.slice none 0 0, .slice none 0 0] _ rfl (by simp [Act.put]) (by simp [Act.put]) (setRow_heap _ _ _ _ _ _ HZ.out)) rfl ⟨none, 0, none, 0, by rw [HX.out, HT.out, HZZ.out]; rfl, by rw [HT.out]; exact World.ownsRow_nil _ _ _ _, by rw [HZZ.out]; exact World.ownsRow_nil _ _ _ _, below_setRow b2 (by omega)⟩
  have KI : ∀ W, Calls Tryz.prog 46 #[.int .i64 x, .int .i64 0, .int .i64 ((h.length : Int) - 1)] W fun e w' => e = .returned (.bool true) ∧ W = w' := fun W => by rw [← hin]; exact l00In_any _ _ _ W
  have hzn : z.length = h.length := by
    simp only [weB, Bool.and_eq_true, decide_eq_true_eq] at hwe
    exact hwe.1.1.2
  obtain ⟨k, rfl⟩ : ∃ k : Nat, x = (k : Int) := ⟨x.toNat, by simp [inB] at hin; omega⟩
  have hk : k < z.length := by simp [inB] at hin; omega
  have HX := hide (show nhC s h l z (k : Int) = 0 by simp [nhC, hwe, rnC, hin])
  have HT := hide (show nhT s h l z (k : Int) = l by rw [nhT, if_pos HX.out])
  have HZZ := hide (show nhZ s h l z (k : Int) = z.set k 0 by rw [nhZ, if_pos HX.out, Int.toNat_natCast])
  have KC := l06Copy_any (w.heap.size + 1) P d l U v z w2 (Q1.cell (i := 0) rfl) (Q1.cell (i := 1) rfl) ((hL.below hb0).below hb2) ((hU.below hb0).below hb2) hl hz
  clear KI0 hwe hin hzn
  go_wp2_with (go_at_call 46; with_reducible refine (KI _).mono ?_; rintro e w' ⟨rfl, rfl⟩)
  clear KI c1
  refine KC.mono ?_
  rintro e w3 ⟨P1', q1, P2', q2, rfl, ownP, ownC, hb3⟩
  have b3 := step_below hb3 b2
  have R3 := (P3.keep hb2).keep hb3
  obtain ⟨Y, hY⟩ : ∃ Y, Y = w3.alloc (.cells #[.slice P1' l.length q1, .slice P2' z.length q2] 34) := ⟨_, rfl⟩
  have hbY : Below w3.heap.size w3 Y := by rw [hY]; exact (Below.refl _ _).alloc (Nat.le_refl _) _
  have bY := step_below hbY b3
  have RY := R3.keep hbY
  have oP := own_keep ownP hbY
  have oC := own_keep ownC hbY
  have NY : Bk Y w3.heap.size 34 #[.slice P1' l.length q1, .slice P2' z.length q2] := by rw [hY]; exact Bk.new _ _ _ rfl
  go_upto_region 6 with (first | (with_reducible refine wpList_store_newA rfl 34 (.tmp 8) (.tmp 20) rfl #[.slice P1' l.length q1, .slice P2' z.length q2] rfl rfl 34 _ (infoWear _ _) (szWear _ _ _ _) (oneWear _ _ _ _ _ _) ?_))
  rw [← hY]
  clear hY
  obtain ⟨gz, rfl⟩ : ∃ gz, P2' = some ⟨gz, 0, none⟩ := by
    rcases oC.2 with ⟨h', h0⟩ | ⟨g', cap, cur, h', hgb, _⟩
    · omega
    · simp at h'
      exact ⟨g', h'.1⟩
  have hgz := (oC.lt gz rfl)
  have hgz3 : w2.heap.size ≤ gz := hgz.1
  have hne1 : w3.heap.size ≠ gz := fun e => own_neW oC NY (by decide) (by rw [e]; rfl)
  have hneP : (Value.slice P1' l.length q1).ownBlock ≠ some gz := by
    rcases own_apart oP oC (by decide) with hh | hh
    · rw [hh]; simp
    · exact hh
  have n1 := NY.cell (i := 1) rfl
  have ck := (oC.cellAt k (by omega)).trans (icells_get z k hk)
  have fk := oC.frozenAt k
  have hki : (k : Int) < (z.length : Int) := by omega
  have oC2 := (oC.stored k (.int .i64 0)).1
  rw [icells_set] at oC2
  have oP2 := own_setW (o := k) oP hneP (.int .i64 0)
  have N2 := NY.other (k := k) hne1 (.int .i64 0)
  have R2 := RY.other (k := k) (show w.heap.size + 1 + 1 ≠ gz by omega) (.int .i64 0)
  have bZ := bY.setCell (p := ⟨gz, k, none⟩) (by dsimp only; omega) (.int .i64 0)
  obtain ⟨V, hV⟩ : ∃ V, V = Y.setCell ⟨gz, k, none⟩ (.int .i64 0) := ⟨_, rfl⟩
  have HC := hide oC2
  have HP := hide oP2
  clear oC2 oP2
  go_upto_region 7 with fail
  rw [← hV] at HC HP N2 R2 bZ ⊢
  clear hV
  have m0 := N2.cell (i := 0) rfl
  have m1 := N2.cell (i := 1) rfl
  have HZ := hide (show V.heap[w.heap.size + 1 + 1]? = some (.cells #[.slice none 0 0, .slice none 0 0] 34 (0, 0)) from R2)
  have owP := own_base (own_keepW HP.out (show w.heap.size + 1 + 1 < w2.heap.size by omega) #[.slice P1' l.length q1, .slice (some ⟨gz, 0, none⟩) z.length q2]) (show w.heap.size ≤ w2.heap.size by omega)
  have owC := own_base (own_keepW HC.out (show w.heap.size + 1 + 1 < w2.heap.size by omega) #[.slice P1' l.length q1, .slice (some ⟨gz, 0, none⟩) z.length q2]) (show w.heap.size ≤ w2.heap.size by omega)
  clear n1 ck fk
  go_wp2_with (with_reducible refine wpList_store_row rfl 34 (.tmp 6) (.tmp 25) rfl (w.heap.size + 1 + 1) #[.slice P1' l.length q1, .slice (some ⟨gz, 0, none⟩) z.length q2] rfl rfl 34 _ HZ.out (infoWear _ _) (szWear _ _ _ _) (oneWear _ _ _ _ _ _) ?_)
  exact bodyPost_ret (v := .tuple #[.agg #[.slice P1' l.length q1, .slice (some ⟨gz, 0, none⟩) z.length q2], .int .i64 0]) (results_we Tryz.results12 _ _ (w.heap.size + 1 + 1) 34 #[.slice P1' l.length q1, .slice (some ⟨gz, 0, none⟩) z.length q2] _ rfl (by simp [Act.put]) (by simp [Act.put]) (setRow_heap _ _ _ _ _ _ HZ.out)) rfl ⟨P1', q1, some ⟨gz, 0, none⟩, q2, by rw [HX.out, HT.out, HZZ.out, List.length_set], by rw [HT.out]; exact owP, by rw [HZZ.out, List.length_set]; exact owC, below_setRow bZ (by omega)⟩
end Go.Proofs.YtcocfnjbgceidaaGreat
namespace Go.Proofs.YtcocfnjbgceidaaGreat
open Go.RowKit Go.Maps
/-- a worn pin -/
abbrev Wp := Int × Int × Int
def atP (a b : Int) (x : Wp) : Bool := decide (x.1 = a ∧ x.2.1 = b)
def befP (x y : Wp) : Bool := befW x.1 x.2.1 y.1 y.2.1
theorem atP_iff {a b : Int} {x : Wp} : atP a b x = true ↔ x.1 = a ∧ x.2.1 = b := by simp [atP]
theorem befP_iff {x y : Wp} : befP x y = true ↔ (x.1 < y.1 ∨ x.1 = y.1 ∧ x.2.1 < y.2.1) := by simp [befP, befW]
theorem befP_trans {x y z : Wp} (h1 : befP x y = true) (h2 : befP y z = true) : befP x z = true := befW_trans h1 h2
theorem ascL_iff {T : List Wp} : AscL T ↔ T.Pairwise (fun x y => befP x y = true) := Iff.rfl
/-- a pin in the list set anew -/
def setP (T : List Wp) (a b c : Int) : List Wp := T.map fun x => if atP a b x then (a, b, c) else x
/-- a pin put into the list -/
def insP : List Wp → Wp → List Wp
  | [], x => [x]
  | y :: T, x => if befP y x then y :: insP T x else x :: y :: T
/-- a pin taken out of the list -/
def delP (T : List Wp) (a b : Int) : List Wp := T.filter fun x => !atP a b x
def hasP (T : List Wp) (a b : Int) : Bool := T.any (atP a b)
/-- the turns of the pin at a place -/
def turP (T : List Wp) (a b : Int) : Int := ((T.find? (atP a b)).map (·.2.2)).getD 0

theorem mem_insP {x y : Wp} : ∀ {T : List Wp}, y ∈ insP T x ↔ y = x ∨ y ∈ T
  | [] => by simp [insP]
  | z :: T => by
    unfold insP
    split
    · rw [List.mem_cons, mem_insP, List.mem_cons]
      exact ⟨fun h => by rcases h with h | h | h <;> simp [h], fun h => by rcases h with h | h | h <;> simp [h]⟩
    · simp
theorem insP_asc {x : Wp} : ∀ {T : List Wp}, AscL T → (∀ y ∈ T, ¬ (y.1 = x.1 ∧ y.2.1 = x.2.1)) → AscL (insP T x)
  | [], _, _ => by simp [insP, AscL]
  | y :: T, h, hn => by
    rw [ascL_iff, List.pairwise_cons] at h
    obtain ⟨h1, h2⟩ := h
    unfold insP
    split
    · rename_i hb
      rw [ascL_iff, List.pairwise_cons]
      refine ⟨fun z hz => ?_, insP_asc (ascL_iff.2 h2) fun z hz => hn z (by simp [hz])⟩
      rcases mem_insP.1 hz with rfl | hz
      · exact hb
      · exact h1 z hz
    · rename_i hb
      have hxy : befP x y = true := by
        have h0 := hn y (by simp)
        have hb' : ¬ (y.1 < x.1 ∨ y.1 = x.1 ∧ y.2.1 < x.2.1) := fun e => hb (befP_iff.2 e)
        exact befP_iff.2 (by omega)
      rw [ascL_iff, List.pairwise_cons, List.pairwise_cons]
      refine ⟨fun z hz => ?_, h1, h2⟩
      rcases List.mem_cons.1 hz with rfl | hz
      · exact hxy
      · exact befP_trans hxy (h1 z hz)
theorem setP_asc {T : List Wp} (h : AscL T) (a b c : Int) : AscL (setP T a b c) := by
  rw [ascL_iff] at h ⊢
  unfold setP
  rw [List.pairwise_map]
  refine h.imp fun {x y} hxy => ?_
  have e : ∀ z : Wp, (if atP a b z then (a, b, c) else z).1 = z.1 ∧ (if atP a b z then (a, b, c) else z).2.1 = z.2.1 := fun z => by
    split
    · rename_i h
      have := atP_iff.1 h
      exact ⟨this.1.symm, this.2.symm⟩
    · exact ⟨rfl, rfl⟩
  rw [befP_iff] at hxy ⊢
  rw [(e x).1, (e x).2, (e y).1, (e y).2]
  exact hxy
theorem delP_asc {T : List Wp} (h : AscL T) (a b : Int) : AscL (delP T a b) := List.Pairwise.filter _ h
theorem mem_delP {T : List Wp} {a b : Int} {x : Wp} : x ∈ delP T a b ↔ x ∈ T ∧ ¬ (x.1 = a ∧ x.2.1 = b) := by
  unfold delP
  rw [List.mem_filter]
  refine and_congr_right fun _ => ?_
  rw [← atP_iff]
  cases atP a b x <;> simp
theorem mem_setP {T : List Wp} {a b c : Int} {x : Wp} : x ∈ setP T a b c ↔ (x ∈ T ∧ ¬ (x.1 = a ∧ x.2.1 = b)) ∨ (x = (a, b, c) ∧ hasP T a b = true) := by
  unfold setP hasP
  rw [List.mem_map, List.any_eq_true]
  constructor
  · rintro ⟨y, hy, rfl⟩
    split
    · rename_i h
      exact Or.inr ⟨rfl, y, hy, h⟩
    · rename_i h
      exact Or.inl ⟨hy, fun e => h (atP_iff.2 e)⟩
  · rintro (⟨hx, hn⟩ | ⟨rfl, y, hy, h⟩)
    · exact ⟨x, hx, by rw [if_neg (fun e => hn (atP_iff.1 e))]⟩
    · exact ⟨y, hy, by rw [if_pos h]⟩
theorem hasP_iff {T : List Wp} {a b : Int} : hasP T a b = true ↔ ∃ x ∈ T, x.1 = a ∧ x.2.1 = b := by
  simp [hasP, atP]
theorem hasP_not {T : List Wp} {a b : Int} (h : hasP T a b = false) : ∀ x ∈ T, ¬ (x.1 = a ∧ x.2.1 = b) := fun x hx e => by
  have := hasP_iff.2 ⟨x, hx, e⟩
  rw [h] at this
  cases this
theorem turP_mem {T : List Wp} {a b : Int} (h : hasP T a b = true) : (a, b, turP T a b) ∈ T := by
  obtain ⟨x, hx, h1, h2⟩ := hasP_iff.1 h
  unfold turP
  cases hf : T.find? (atP a b) with
  | none => exact absurd (atP_iff.2 ⟨h1, h2⟩) (List.find?_eq_none.1 hf x hx)
  | some y =>
    obtain ⟨e1, e2⟩ := atP_iff.1 (List.find?_some hf)
    have := List.mem_of_find?_eq_some hf
    rw [Option.map_some, Option.getD_some, ← e1, ← e2]
    exact this
theorem turP_eq {T : List Wp} (hT : AscL T) {x : Wp} (hx : x ∈ T) : turP T x.1 x.2.1 = x.2.2 := by
  have h := turP_mem (hasP_iff.2 ⟨x, hx, rfl, rfl⟩)
  rw [ascL_place hT hx h rfl rfl]
/-- valid pins of a frame's wear -/
def VT (s : Int) (n : Nat) (T : List Wp) : Prop := AscL T ∧ ∀ x ∈ T, plW s n x.1 x.2.1 = true ∧ 0 ≤ x.2.2 ∧ x.2.2 ≤ 1000000
def VZ (z : List Int) : Prop := ∀ y ∈ z, 0 ≤ y ∧ y ≤ 1000000
theorem plW_iff {s : Int} {n : Nat} {a b : Int} : plW s n a b = true ↔ (0 ≤ a ∧ a ≤ s - 1) ∧ 0 ≤ b ∧ b ≤ (n : Int) - 1 := by simp [plW, inB]
theorem VT.in8 {s : Int} {n : Nat} {T : List Wp} (h : VT s n T) (hs : s ≤ 96) (hn : n ≤ 24) : In8 T := fun x hx => by
  have := plW_iff.1 (h.2 x hx).1
  omega
theorem asc_count {s : Int} {n : Nat} (hs : s ≤ 96) (hn : n ≤ 24) : ∀ (T : List Wp) (lo : Int), AscL T → (∀ x ∈ T, plW s n x.1 x.2.1 = true ∧ lo ≤ x.1 * 24 + x.2.1) → (T.length : Int) ≤ max 0 (2304 - lo)
  | [], lo, _, _ => by simp; omega
  | x :: T, lo, h, hv => by
    rw [ascL_iff, List.pairwise_cons] at h
    have h0 := hv x (by simp)
    have h1 := plW_iff.1 h0.1
    have h2 := asc_count hs hn T (x.1 * 24 + x.2.1 + 1) h.2 fun y hy => by
      have hy0 := plW_iff.1 (hv y (by simp [hy])).1
      have := befP_iff.1 (h.1 y hy)
      exact ⟨(hv y (by simp [hy])).1, by omega⟩
    rw [List.length_cons]
    omega
theorem VT.length {s : Int} {n : Nat} {T : List Wp} (h : VT s n T) (hs : s ≤ 96) (hn : n ≤ 24) : T.length ≤ 2304 := by
  have := asc_count hs hn T 0 h.1 fun x hx => ⟨(h.2 x hx).1, by have := plW_iff.1 (h.2 x hx).1; omega⟩
  omega
theorem VT.wf {s : Int} {n : Nat} {T : List Wp} (h : VT s n T) (hs : s ≤ 96) (hn : n ≤ 24) : WnWF T := fun k hk => by
  have hx := List.getElem_mem hk
  have h1 := h.2 _ hx
  have h2 := h.in8 hs hn _ hx
  rw [wn_get T k hk] at h1 h2
  exact ⟨h2.1, h2.2, by simp at h1; omega⟩
theorem VT.ins {s : Int} {n : Nat} {T : List Wp} (h : VT s n T) {a b c : Int} (hp : plW s n a b = true) (hc : 0 ≤ c ∧ c ≤ 1000000) (hn : hasP T a b = false) : VT s n (insP T (a, b, c)) :=
  ⟨insP_asc h.1 (hasP_not hn), fun x hx => by
    rcases mem_insP.1 hx with rfl | hx
    · exact ⟨hp, hc⟩
    · exact h.2 x hx⟩
theorem VT.set {s : Int} {n : Nat} {T : List Wp} (h : VT s n T) {a b c : Int} (hp : plW s n a b = true) (hc : 0 ≤ c ∧ c ≤ 1000000) : VT s n (setP T a b c) :=
  ⟨setP_asc h.1 a b c, fun x hx => by
    rcases mem_setP.1 hx with hx | ⟨rfl, _⟩
    · exact h.2 x hx.1
    · exact ⟨hp, hc⟩⟩
theorem VT.del {s : Int} {n : Nat} {T : List Wp} (h : VT s n T) (a b : Int) : VT s n (delP T a b) :=
  ⟨delP_asc h.1 a b, fun x hx => h.2 x (mem_delP.1 hx).1⟩
/-- what a wear's frame bounds -/
theorem frB_bounds {s : Int} {h : List (Int × Int)} (hf : frB s h = true) : s ≤ 96 ∧ h.length ≤ 24 := by
  simp [frB, inB] at hf
  omega
/-- a valid wear's pins -/
theorem weB_VT {s : Int} {h : List (Int × Int)} {l : List Wp} {z : List Int} (hw : weB s h l z = true) : VT s h.length l ∧ VZ z ∧ z.length = h.length := by
  have h0 := hw
  simp only [weB, Bool.and_eq_true, decide_eq_true_eq] at h0
  obtain ⟨⟨⟨hf, hz⟩, hp⟩, hst⟩ := h0
  have hp' := hp
  rw [pinsB_split, Bool.and_eq_true] at hp'
  refine ⟨⟨ascL_of (ascW_of hp'.1), fun x hx => ?_⟩, fun y hy => ?_, hz⟩
  · obtain ⟨k, hk, rfl⟩ := List.mem_iff_getElem.1 hx
    have := List.all_eq_true.1 hp k (List.mem_range.2 hk)
    simp only [wnOk, Bool.and_eq_true] at this
    rw [wn_get l k hk]
    refine ⟨this.1.1, ?_⟩
    have h2 := this.1.2
    simp [inB] at h2
    exact h2
  · obtain ⟨k, hk, rfl⟩ := List.mem_iff_getElem.1 hy
    have := List.all_eq_true.1 hst k (List.mem_range.2 hk)
    simp [inB, zAt, List.getD, hk] at this
    exact this
/-- the worn state of a wearing -/
def WSt (s : Int) (n base : Nat) (C : Option Addr) (q M N : Nat) (T : List Wp) (z : List Int) (w : World) : Prop :=
  ∃ D : DataW Unit, w.ownsMap Tryz.prog 138 (plainElem (H := Unit) Tryz.prog 2) M N D ∧ ReadsW D T ∧ IsMap D ∧ w.ownsRow base 2 1 (.slice C n q) n (icells z) ∧ z.length = n ∧ VT s n T ∧ VZ z ∧ base ≤ M
theorem WSt.keep {s : Int} {n base : Nat} {C : Option Addr} {q M N : Nat} {T : List Wp} {z : List Int} {w w' : World} (h : WSt s n base C q M N T z w) (hb : Below w.heap.size w w') : WSt s n base C q M N T z w' := by
  obtain ⟨D, h1, h2, h3, h4, h5⟩ := h
  exact ⟨D, map_keep h1 hb, h2, h3, own_keep h4 hb, h5⟩
set_option maxRecDepth 20000 in
theorem readsW_del {D : DataW Unit} {T : List Wp} (hD : ReadsW D T) (hM : IsMap D) (h8 : In8 T) {a b : Int} (ha : -9223372036854775808 ≤ a ∧ a ≤ 9223372036854775807) (hb : -9223372036854775808 ≤ b ∧ b ≤ 9223372036854775807) : ReadsW (D.del (kP a b)) (delP T a b) := by
  have hk := lawP.key (key_place a b ha hb)
  have hne : ∀ x ∈ T, ¬ (x.1 = a ∧ x.2.1 = b) → kP x.1 x.2.1 ≠ kP a b := fun x hx hn e => by
    obtain ⟨x1, x2⟩ := h8 x hx
    exact hn (kP_inj (i64_of8 x1) (i64_of8 x2) ha hb e)
  refine ⟨fun x hx => ?_, fun x hx zd => ?_, fun kl hkl => ?_⟩
  · obtain ⟨h1, h2⟩ := mem_delP.1 hx
    rw [has_del_other (hne x h1 h2)]
    exact hD.1 x h1
  · obtain ⟨h1, h2⟩ := mem_delP.1 hx
    rw [atKey_del_other (hne x h1 h2)]
    exact hD.2.1 x h1 zd
  · by_cases e : kl = kP a b
    · subst e
      rw [has_del_same] at hkl
      cases hkl
    · rw [has_del_other e] at hkl
      obtain ⟨x, hx, rfl⟩ := hD.2.2 kl hkl
      exact ⟨x, mem_delP.2 ⟨hx, fun h => e (by rw [h.1, h.2])⟩, rfl⟩
end Go.Proofs.YtcocfnjbgceidaaGreat
