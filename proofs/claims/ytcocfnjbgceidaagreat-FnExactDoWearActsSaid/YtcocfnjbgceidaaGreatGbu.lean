import Derived.Test.YtcocfnjbgceidaaGreatImd
import Derived.Test.YtcocfnjbgceidaaGreatDon
import Derived.Test.YtcocfnjbgceidaaGreatGbl
import Derived.Test.YtcocfnjbgceidaaGreatAct
import Derived.Test.YtcocfnjbgceidaaGreatGae
import Derived.IntWalk
namespace Go.Proofs.YtcocfnjbgceidaaGreat
open Go.RowKit Go.Maps
theorem stA_len (n : Nat) (T : List Wp) (z : List Int) (m : List (Int × Int × Int × Int × Int)) : ∀ k, (stA n T z m k).1.length ≤ T.length + k ∧ (stA n T z m k).2.length ≤ z.length
  | 0 => ⟨Nat.le_refl _, Nat.le_refl _⟩
  | k + 1 => by
    have h := stA_len n T z m k
    have h1 := acT_len (stA n T z m k).1 (qaK m k) (qaA m k) (qaB m k) (qaE m k) (qaD m k)
    have h2 := acZ_len n (stA n T z m k).1 (stA n T z m k).2 (qaK m k) (qaA m k) (qaB m k) (qaE m k) (qaD m k)
    exact ⟨by rw [stA]; simp only; omega, by rw [stA]; simp only; omega⟩
theorem wd_small {s : Int} {h : List (Int × Int)} {l : List Wp} {z : List Int} {a b : Int} {m : List (Int × Int × Int × Int × Int)} (hc : wdC s h l z a b m = 0) : fbV s h l z a b = true ∧ m.length ≤ 60 ∧ dnW s h.length l z m a b = 0 ∧ l.length ≤ 2304 ∧ z.length ≤ 24 := by
  unfold wdC at hc
  split at hc
  · rename_i hv
    split at hc
    · omega
    · have hw : weB s h l z = true := by rw [fbV, Bool.and_eq_true] at hv; exact hv.1
      obtain ⟨f1, f2⟩ := weB_fr hw
      have := (weB_VT hw).1.length f1 f2
      have := (weB_VT hw).2.2
      exact ⟨hv, by omega, hc, by omega, by omega⟩
  · omega
theorem wdT_len (s : Int) (h : List (Int × Int)) (l : List Wp) (z : List Int) (a b : Int) (m : List (Int × Int × Int × Int × Int)) : (wdT s h l z a b m).length ≤ 1048576 := by
  unfold wdT
  split
  · rename_i hc
    have := wd_small hc
    have := (stA_len h.length l z m m.length).1
    omega
  · simp
theorem wdZ_len (s : Int) (h : List (Int × Int)) (l : List Wp) (z : List Int) (a b : Int) (m : List (Int × Int × Int × Int × Int)) : (wdZ s h l z a b m).length ≤ 1048576 := by
  unfold wdZ
  split
  · rename_i hc
    have := wd_small hc
    have := (stA_len h.length l z m m.length).2
    omega
  · simp
set_option maxRecDepth 20000 in
set_option maxHeartbeats 8000000 in
theorem specDoWearActs_any (s : Int) (A : Option Addr) (c : Nat) (h : List (Int × Int)) (P : Option Addr) (d : Nat) (l : List Wp) (U : Option Addr) (v : Nat) (z : List Int) (a b : Int) (L : Option Addr) (lc : Nat) (m : List (Int × Int × Int × Int × Int)) (w : World)
    (hA : HA w A h) (hn : h.length ≤ 1048576) (hwf : HWF h) (hs : -32768 ≤ s ∧ s ≤ 32767) (hL : WnA w P l) (hU : SZ w U z) (hl : l.length ≤ 1048576) (hz : z.length ≤ 1048576) (hlw : WnWF l) (hzw : ZWF z) (hv : LvWF a b) (hM : AcA w L m) (hm : m.length ≤ 1048576) (hmw : AcWF m) :
    Calls Tryz.prog 29 #[.agg #[.int .i16 s, .slice A h.length c], .agg #[.slice P l.length d, .slice U z.length v], .agg #[.int .i64 a, .int .i64 b], .slice L m.length lc] w (WeC (wdT s h l z a b m) (wdZ s h l z a b m) (wdC s h l z a b m) w) := by
  obtain ⟨X, hX⟩ : ∃ X, X = (((w.alloc (.cells #[.int .i16 s, .slice A h.length c] 39)).alloc (.cells #[.slice P l.length d, .slice U z.length v] 34)).alloc (.cells #[.int .i64 a, .int .i64 b] 63)).alloc (.cells #[.slice none 0 0, .slice none 0 0] 34) := ⟨_, rfl⟩
  have hb0 : Below w.heap.size w X := by rw [hX]; exact ((((Below.refl _ _).alloc (Nat.le_refl _) _).alloc (by simp) _).alloc (by simp; omega) _).alloc (by simp; omega) _
  have P0 : Bk X w.heap.size 39 #[.int .i16 s, .slice A h.length c] := by rw [hX]; exact (((Bk.new _ _ _ rfl).old _).old _).old _
  have P1 : Bk X (w.heap.size + 1) 34 #[.slice P l.length d, .slice U z.length v] := by rw [hX]; exact ((Bk.new _ _ _ (by simp)).old _).old _
  have P2 : Bk X (w.heap.size + 1 + 1) 63 #[.int .i64 a, .int .i64 b] := by rw [hX]; exact (Bk.new _ _ _ (by simp)).old _
  have P3 : Bk X (w.heap.size + 1 + 1 + 1) 34 #[.slice none 0 0, .slice none 0 0] := by rw [hX]; exact Bk.new _ _ _ (by simp)
  have hX3 := P3.lt
  have KA := l06Acts_any w.heap.size (w.heap.size + 1) s A c h P d l U v z a b L m.length lc X ⟨P0.cell (i := 0) rfl, P0.cell (i := 1) rfl⟩ (P1.cell (i := 0) rfl) (P1.cell (i := 1) rfl) (hA.below hb0) (hL.below hb0) (hU.below hb0) hn hl hz hwf hs hlw hm
  go_enter Tryz.func29, Tryz.ntmps29
  go_upto_region 1 with fail
  rw [← hX]
  clear hX
  have c4 := P2.cell (i := 0) rfl
  have c5 := P2.cell (i := 1) rfl
  go_wp2_with fail
  refine KA.mono ?_
  rintro e w2 ⟨rfl, hb2⟩
  have b2 := step_below hb2 hb0
  have Q0 := P0.keep hb2
  have Q1 := P1.keep hb2
  have Q2 := P2.keep hb2
  have Q3 := P3.keep hb2
  have hs2 := hb2.size
  clear KA c4 c5
  by_cases he : acE s h l z a b m.length = 0
  · have hfv : fbV s h l z a b = true ∧ ¬ 60 < m.length := by
      unfold acE at he
      split at he
      · rename_i h1
        split at he
        · omega
        · rename_i h2
          exact ⟨h1, h2⟩
      · omega
    have hwe : weB s h l z = true := by
      have := hfv.1
      rw [fbV, Bool.and_eq_true] at this
      exact this.1
    have HFV := hide hfv
    have HC := hide (show wdC s h l z a b m = dnW s h.length l z m a b by rw [wdC, if_pos hfv.1, if_neg hfv.2])
    have HT := hide (show wdT s h l z a b m = dnT s h.length l z m a b by rw [wdT, dnT, HC.out])
    have HZZ := hide (show wdZ s h l z a b m = dnZ s h.length l z m a b by rw [wdZ, dnZ, HC.out])
    have KD := l06Done_any w.heap.size (w.heap.size + 1) s A c h P d l U v z a b L lc m w2 ⟨Q0.cell (i := 0) rfl, Q0.cell (i := 1) rfl⟩ (Q1.cell (i := 0) rfl) (Q1.cell (i := 1) rfl) (hA.below b2) (hL.below b2) (hU.below b2) hwf hs hwe (hM.below b2) (by omega) hmw
    generalize dnT s h.length l z m a b = dT at *
    generalize dnZ s h.length l z m a b = dZ at *
    generalize dnI (-1) s h.length l z m a b = dI at *
    generalize dnW s h.length l z m a b = dW at *
    rw [he]
    have f0 := Q2.cell (i := 0) rfl
    have f1 := Q2.cell (i := 1) rfl
    clear he hfv hwe
    go_wp2_with fail
    refine KD.mono ?_
    rintro e w5 ⟨P1', q1, P2', q2, rfl, ownP, ownC, hb5⟩
    have b5 := step_below hb5 b2
    have hs5 := hb5.size
    obtain ⟨Y, hY⟩ : ∃ Y, Y = w5.alloc (.cells #[.slice P1' dT.length q1, .slice P2' dZ.length q2] 34) := ⟨_, rfl⟩
    have hbY : Below w5.heap.size w5 Y := by rw [hY]; exact (Below.refl _ _).alloc (Nat.le_refl _) _
    have NY : Bk Y w5.heap.size 34 #[.slice P1' dT.length q1, .slice P2' dZ.length q2] := by rw [hY]; exact Bk.new _ _ _ rfl
    have bY := step_below hbY b5
    have oP := own_keep ownP hbY
    have oC := own_keep ownC hbY
    have RY := (Q3.keep hb5).keep hbY
    clear KD f0 f1
    go_upto_region 5 with (first | (with_reducible refine wpList_store_newA rfl 34 (.tmp 11) (.tmp 25) rfl #[.slice P1' dT.length q1, .slice P2' dZ.length q2] rfl rfl 34 _ (infoWear _ _) (szWear _ _ _ _) (oneWear _ _ _ _ _ _) ?_))
    rw [← hY]
    clear hY
    have m0 := NY.cell (i := 0) rfl
    have m1 := NY.cell (i := 1) rfl
    have HZ := hide (show Y.heap[w.heap.size + 1 + 1 + 1]? = some (.cells #[.slice none 0 0, .slice none 0 0] 34 (0, 0)) from RY)
    have owP := own_base (own_keepW oP (show w.heap.size + 1 + 1 + 1 < w2.heap.size by omega) #[.slice P1' dT.length q1, .slice P2' dZ.length q2]) (show w.heap.size ≤ w2.heap.size by omega)
    have owC := own_base (own_keepW oC (show w.heap.size + 1 + 1 + 1 < w2.heap.size by omega) #[.slice P1' dT.length q1, .slice P2' dZ.length q2]) (show w.heap.size ≤ w2.heap.size by omega)
    clear RY Q3 P3
    go_wp2_with (with_reducible refine wpList_store_row rfl 34 (.tmp 8) (.tmp 28) rfl (w.heap.size + 1 + 1 + 1) #[.slice P1' dT.length q1, .slice P2' dZ.length q2] rfl rfl 34 _ HZ.out (infoWear _ _) (szWear _ _ _ _) (oneWear _ _ _ _ _ _) ?_)
    exact bodyPost_ret (v := .tuple #[.agg #[.slice P1' dT.length q1, .slice P2' dZ.length q2], .int .i64 dW]) (results_we Tryz.results29 _ _ (w.heap.size + 1 + 1 + 1) 34 #[.slice P1' dT.length q1, .slice P2' dZ.length q2] _ rfl (by simp [Act.put]) (by simp [Act.put]) (setRow_heap _ _ _ _ _ _ HZ.out)) rfl ⟨P1', q1, P2', q2, by rw [HC.out, HT.out, HZZ.out], by rw [HT.out]; exact owP, by rw [HZZ.out]; exact owC, below_setRow bY (by omega)⟩
  · have HC := hide (show wdC s h l z a b m = acE s h l z a b m.length by
      unfold wdC
      unfold acE at he ⊢
      split
      · rename_i h1
        rw [if_pos h1] at he
        split
        · rfl
        · rename_i h2
          rw [if_neg h2] at he
          exact absurd rfl he
      · rfl)
    have HT := hide (show wdT s h l z a b m = [] by rw [wdT, if_neg (by rw [HC.out]; exact he)])
    have HZZ := hide (show wdZ s h l z a b m = [] by rw [wdZ, if_neg (by rw [HC.out]; exact he)])
    have hq2 : (acE s h l z a b m.length != 0) = true := by simpa using he
    have HZ := hide (show w2.heap[w.heap.size + 1 + 1 + 1]? = some (.cells #[.slice none 0 0, .slice none 0 0] 34 (0, 0)) from Q3)
    clear he
    obtain ⟨ce, hce⟩ : ∃ x, x = acE s h l z a b m.length := ⟨_, rfl⟩
    rw [← hce] at hq2 ⊢
    have HCE := hide hce
    clear hce Q3 P3
    go_wp2_with (first | (with_reducible refine wpList_build0 rfl rfl ?_) | (with_reducible refine wpList_store_row rfl 34 (.tmp 8) (.tmp 19) rfl (w.heap.size + 1 + 1 + 1) #[.slice none 0 0, .slice none 0 0] rfl rfl 34 _ HZ.out (infoWear _ _) (szWear _ _ _ _) (oneWear _ _ _ _ _ _) ?_))
    exact bodyPost_ret (v := .tuple #[.agg #[.slice none 0 0, .slice none 0 0], .int .i64 ce]) (results_we Tryz.results29 _ _ (w.heap.size + 1 + 1 + 1) 34 #[.slice none 0 0, .slice none 0 0] _ rfl (by simp [Act.put]) (by simp [Act.put]) (setRow_heap _ _ _ _ _ _ HZ.out)) rfl ⟨none, 0, none, 0, by rw [HC.out, HT.out, HZZ.out, ← HCE.out]; rfl, by rw [HT.out]; exact World.ownsRow_nil _ _ _ _, by rw [HZZ.out]; exact World.ownsRow_nil _ _ _ _, below_setRow b2 (by omega)⟩
end Go.Proofs.YtcocfnjbgceidaaGreat
namespace Go.Proofs.YtcocfnjbgceidaaGreat
open Go.RowKit
def mkAc (K : Int) (n : Nat) : List (Int × Int × Int × Int × Int) := (List.range n).map fun (i : Nat) => (IntKind.i8.wrap (K + 5 * (i : Int)), IntKind.i64.wrap (K + 5 * (i : Int) + 1), IntKind.i64.wrap (K + 5 * (i : Int) + 1 + 1), IntKind.i64.wrap (K + 5 * (i : Int) + 1 + 1 + 1), IntKind.i64.wrap (K + 5 * (i : Int) + 1 + 1 + 1 + 1))
def mkAcT (K : Int) (l : List (Int × Int × Int × Int × Int)) (k : Nat) : List (Int × Int × Int × Int × Int) := mkAc K k ++ l.drop k
theorem mkAc_length (K : Int) (n : Nat) : (mkAc K n).length = n := by simp [mkAc]
theorem mkAcT_zero (K : Int) (l : List (Int × Int × Int × Int × Int)) : mkAcT K l 0 = l := by simp [mkAcT, mkAc]
theorem mkAcT_all (K : Int) (l : List (Int × Int × Int × Int × Int)) : mkAcT K l l.length = mkAc K l.length := by simp [mkAcT]
theorem mkAcT_length (K : Int) (l : List (Int × Int × Int × Int × Int)) (k : Nat) (h : k ≤ l.length) : (mkAcT K l k).length = l.length := by
  simp [mkAcT, mkAc_length]; omega
theorem mkAcT_set (K : Int) (l : List (Int × Int × Int × Int × Int)) (k : Nat) (h : k < l.length) : (mkAcT K l k).set k (IntKind.i8.wrap (K + 5 * (k : Int)), IntKind.i64.wrap (K + 5 * (k : Int) + 1), IntKind.i64.wrap (K + 5 * (k : Int) + 1 + 1), IntKind.i64.wrap (K + 5 * (k : Int) + 1 + 1 + 1), IntKind.i64.wrap (K + 5 * (k : Int) + 1 + 1 + 1 + 1)) = mkAcT K l (k + 1) := by
  unfold mkAcT mkAc
  rw [List.set_append_right _ _ (by simp), List.range_succ, List.map_append, List.length_map, List.length_range, Nat.sub_self, List.drop_eq_getElem_cons h, List.set_cons_zero, List.append_assoc]
  rfl
theorem mkAc_of_own {w : World} {base : Nat} {e : TypeId} {A : Option Addr} {c : Nat} {K : Int} {n : Nat} (h : w.ownsRow base e 5 (.slice A n c) n (qaC (mkAc K n))) : AcA w A (mkAc K n) := AcA.of_own (l := mkAc K n) (by rw [mkAc_length]; exact h)
theorem mkAc_at (K : Int) (n k : Nat) (h : k < n) : qaK (mkAc K n) k = IntKind.i8.wrap (K + 5 * (k : Int)) ∧ qaA (mkAc K n) k = IntKind.i64.wrap (K + 5 * (k : Int) + 1) ∧ qaB (mkAc K n) k = IntKind.i64.wrap (K + 5 * (k : Int) + 1 + 1) ∧ qaE (mkAc K n) k = IntKind.i64.wrap (K + 5 * (k : Int) + 1 + 1 + 1) ∧ qaD (mkAc K n) k = IntKind.i64.wrap (K + 5 * (k : Int) + 1 + 1 + 1 + 1) := by simp [qaK, qaA, qaB, qaE, qaD, mkAc, h]
set_option maxHeartbeats 1000000 in
theorem markActS_from (A : Option Addr) (c : Nat) (l : List (Int × Int × Int × Int × Int)) (base : Nat) (K : Int) (w : World) (h : w.ownsRow base 55 5 (.slice A l.length c) l.length (qaC l)) (hn : l.length ≤ 1048576) (hK : 0 ≤ K ∧ K ≤ 1099511627776) :
    Calls Tryz.prog 34 #[.slice A l.length c, .int .i64 K] w fun e w' => e = .returned (.int .i64 (K + 5 * (l.length : Int))) ∧ w'.ownsRow base 55 5 (.slice A l.length c) l.length (qaC (mkAc K l.length)) ∧ w.grownBy w' (Value.slice A l.length c).ownBlock := by
  obtain ⟨hK1, hK2⟩ := hK
  go_enter Tryz.func34, Tryz.ntmps34
  go_wp2_with fail
  go_loopw [1, 5] (fun m i wr => ∃ k : Nat, k ≤ l.length ∧ i = .int .i64 k ∧ m = .int .i64 (K + 5 * (k : Int)) ∧ wr.ownsRow base 55 5 (.slice A l.length c) l.length (qaC (mkAcT K l k)) ∧ w.grownBy wr (Value.slice A l.length c).ownBlock)
    (fun _ i _ => l.length - (intOf i).toNat)
  case atStart => exact ⟨0, Nat.zero_le _, rfl, ret_int' (by omega), by rw [mkAcT_zero]; exact h, grown_refl _ _⟩
  case round =>
    obtain ⟨k, hk, rfl, rfl, hown, hb⟩ := hrel
    by_cases hlt : k < l.length
    · rcases hown.2 with ⟨h', h0⟩ | ⟨g, cap, cur, h', hgb, hg, _⟩
      · omega
      · simp only [Value.slice.injEq, true_and] at h'
        obtain ⟨rfl, rfl⟩ := h'
        have hl' := mkAcT_length K l k hk
        obtain ⟨e1, e2, e3, e4, e5⟩ := qaC_at (mkAcT K l k) k (by omega)
        have f1 := (hown.cellAt (k * 5) (by omega)).trans e1
        have g1 := hown.frozenAt (k * 5)
        have f2 := (hown.cellAt (k * 5 + 1) (by omega)).trans e2
        have g2 := hown.frozenAt (k * 5 + 1)
        have f3 := (hown.cellAt (k * 5 + 2) (by omega)).trans e3
        have g3 := hown.frozenAt (k * 5 + 2)
        have f4 := (hown.cellAt (k * 5 + 3) (by omega)).trans e4
        have g4 := hown.frozenAt (k * 5 + 3)
        have f5 := (hown.cellAt (k * 5 + 4) (by omega)).trans e5
        have g5 := hown.frozenAt (k * 5 + 4)
        have HS := hide (mkAcT_set K l k hlt)
        obtain ⟨Q, hQ⟩ : ∃ Q, Q = K + 5 * (k : Int) := ⟨_, rfl⟩
        have HQ := hide hQ
        have hQ1 : 0 ≤ Q := by omega
        have hQ2 : Q ≤ 1099511627776 + 1048576 * 5 := by omega
        rw [← hQ] at HS ⊢
        have W1 := fun x0 x1 x2 x3 x4 => qaown_set hown k x0 x1 x2 x3 x4
        have HW := hide W1
        have HB := hide hb
        have hw1 : IntKind.i64.wrap (Q + 1) = Q + 1 := IntWalk.i64_in _ (by omega)
        have hw2 : IntKind.i64.wrap (Q + 1 + 1) = Q + 1 + 1 := IntWalk.i64_in _ (by omega)
        have hw3 : IntKind.i64.wrap (Q + 1 + 1 + 1) = Q + 1 + 1 + 1 := IntWalk.i64_in _ (by omega)
        have hw4 : IntKind.i64.wrap (Q + 1 + 1 + 1 + 1) = Q + 1 + 1 + 1 + 1 := IntWalk.i64_in _ (by omega)
        have hw5 : IntKind.i64.wrap (Q + 1 + 1 + 1 + 1 + 1) = Q + 1 + 1 + 1 + 1 + 1 := IntWalk.i64_in _ (by omega)
        clear hg h hQ e1 e2 e3 e4 e5 hown hb W1
        go_wp2
        exact ⟨⟨k + 1, hlt, ret_int' (by omega), ret_int' (by have := HQ.out; omega), by rw [← HS.out, hw1, hw2, hw3, hw4]; exact HW.out _ _ _ _ _, grown_set (grown_set (grown_set (grown_set (grown_set HB.out))))⟩, by simp [intOf]; omega⟩
    · obtain rfl : k = l.length := by omega
      go_wp2
      go_ret
      exact ⟨rfl, by rw [← mkAcT_all]; exact hown, hb⟩
end Go.Proofs.YtcocfnjbgceidaaGreat
