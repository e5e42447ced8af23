import Derived.Test.YtcocfnjbgceidaaGreatGas
import Derived.Test.YtcocfnjbgceidaaGreatWfr
import Derived.Test.YtcocfnjbgceidaaGreatGao
namespace Go.Proofs.YtcocfnjbgceidaaGreat
open Go.RowKit Go.Maps
theorem infoWe2 : (Tryz.prog.info? 34).map (·.size) = some 2 := by kernel_rfl
theorem infoWear (a b : Value) : (Tryz.prog.info? 34).map (·.size) = some (#[a, b] : Array Value).size := by kernel_rfl
theorem szWear (a b c d : Value) : (#[a, b] : Array Value).size = (#[c, d] : Array Value).size := rfl
theorem oneWear (A : Option Addr) (n c : Nat) (B : Option Addr) (m d : Nat) : (#[.slice A n c, .slice B m d] : Array Value).all (·.oneCell') = true := by simp [Value.oneCell']
theorem own_keepW {w : World} {base g n : Nat} {e : TypeId} {size : Nat} {v : Value} {xs : List Value} (h : w.ownsRow base e size v n xs) (hg : g < base) (cs : Array Value) : (w.setRow g cs).ownsRow base e size v n xs :=
  h.kept (row := some g) ⟨rfl, rfl, rfl, by simp, fun k _ hk => setRow_other _ _ _ _ (fun e => hk (by rw [e]))⟩ (by
    cases hv : v.ownBlock with
    | none => exact Or.inl rfl
    | some k => exact Or.inr (fun e => by have h1 := h.lt k hv; cases e; omega))
/-- a wear of the call's own -/
def OwnWear (w : World) (T : List (Int × Int × Int)) (zs : List Int) (e : Ending) (w' : World) : Prop := ∃ (P1 : Option Addr) (q1 : Nat) (P2 : Option Addr) (q2 : Nat), e = .returned (.agg #[.slice P1 T.length q1, .slice P2 zs.length q2]) ∧ w'.ownsRow w.heap.size 97 3 (.slice P1 T.length q1) T.length (wnC T) ∧ w'.ownsRow w.heap.size 2 1 (.slice P2 zs.length q2) zs.length (icells zs) ∧ Below w.heap.size w w'
set_option maxRecDepth 20000 in
set_option maxHeartbeats 4000000 in
theorem madeWear_any (M : Nat) (C : Option Addr) (zs : List Int) (zq n : Nat) (D : DataW Unit) (T : List (Int × Int × Int)) (w : World) (hown : w.ownsMap Tryz.prog 138 (plainElem Tryz.prog 2) M n D) (hD : ReadsW D T) (hsz : Maps.size D ≤ 1048576) (hT : AscL T) (h8 : In8 T) (hZ : SZ w C zs) (hzn : zs.length ≤ 1048576) :
    Calls Tryz.prog 64 #[.agg #[.map (some M), .slice C zs.length zq]] w (OwnWear w T zs) := by
  obtain ⟨X, hX⟩ : ∃ X, X = (w.alloc (.cells #[.map (some M), .slice C zs.length zq] 104)).alloc (.cells #[.slice none 0 0, .slice none 0 0] 34) := ⟨_, rfl⟩
  have bX : Below w.heap.size w X := by rw [hX]; exact ((Below.refl _ _).alloc (Nat.le_refl _) _).alloc (by simp) _
  have RX : Bk X w.heap.size 104 #[.map (some M), .slice C zs.length zq] := by rw [hX]; exact (Bk.new _ _ _ rfl).old _
  have EX : Bk X (w.heap.size + 1) 34 #[.slice none 0 0, .slice none 0 0] := by rw [hX]; exact Bk.new _ _ _ (by simp)
  have KP := fun W (h : Below X.heap.size X W) => pinsW_any M C zs.length zq n D T W (map_keep (map_keep hown bX) h) hD hsz hT h8
  have KC := fun W (h : Below X.heap.size X W) => cloneZ_any C zq zs W ((hZ.below bX).below h) hzn
  go_enter Tryz.func64, Tryz.ntmps64
  go_upto_region 1 with fail
  rw [← hX]
  clear hX hown hD hsz hT h8 hZ hzn
  have tb2 : Below X.heap.size X X.drew := (Below.refl _ _).drew
  have R2 := RX.keep tb2
  refine wp_region_held_drew (S := fun w' => w'.cell? ⟨w.heap.size, 0, none⟩ = some (.map (some M)) ∧ w'.cell? ⟨w.heap.size, 1, none⟩ = some (.slice C zs.length zq)) (by kernel_rfl) ⟨R2.cell (i := 0) rfl, R2.cell (i := 1) rfl⟩ fun hS1 => ?_
  refine wpAnyH_take (i := 0) (v := .agg #[.map (some M), .slice C zs.length zq]) rfl (by kernel_rfl) (by kernel_rfl) (by kernel_rfl) (fun _ _ _ h => h) (Or.inl ⟨by rfl, fun w' h => ?_⟩) hS1 ?_
  · have c0 := h.1
    have c1 := h.2
    clear h
    go_simp
  change wpAnyH _ _ _ _ _ _ _ (Act.put _ (some 3) _) _
  simp only [Act.put, List.setIfInBounds_toArray, List.set_cons_zero, List.set_cons_succ]
  refine wpAnyH_take (i := 2) (v := .pointer (some ⟨w.heap.size, 1, none⟩)) rfl (by kernel_rfl) (by kernel_rfl) (by kernel_rfl) (fun _ _ _ h => h) (Or.inl ⟨by rfl, fun w' _ => by go_simp⟩) hS1 ?_
  change wpAnyH _ _ _ _ _ _ _ (Act.put _ (some 5) _) _
  simp only [Act.put, List.setIfInBounds_toArray, List.set_cons_zero, List.set_cons_succ]
  refine wpAnyH_take (i := 3) (v := .slice C zs.length zq) rfl (by kernel_rfl) (by kernel_rfl) (by kernel_rfl) (fun _ _ _ h => h) (Or.inl ⟨by rfl, fun w' h => ?_⟩) hS1 ?_
  · have c0 := h.2
    clear h
    go_simp
  change wpAnyH _ _ _ _ _ _ _ (Act.put _ (some 6) _) _
  simp only [Act.put, List.setIfInBounds_toArray, List.set_cons_zero, List.set_cons_succ]
  refine wpAnyH_ready (rs := [1]) (by kernel_rfl) (by simp) (AllReadyH.cons rfl ?_ AllReadyH.nil)
  intro K hK
  rw [if_pos (by rfl)]
  go_simp
  refine (KP _ tb2).mono ?_
  rintro e w3 ⟨P1, q1, rfl, ownP3, hb3⟩
  have tb3 := step_below hb3 tb2
  have R3 := RX.keep tb3
  have E3 := EX.keep tb3
  refine hK.out _ _ ⟨R3.cell (i := 0) rfl, R3.cell (i := 1) rfl⟩ (fun hS3 => ?_)
  clear hK K
  refine wpAnyH_ready (rs := [4]) (by kernel_rfl) (by simp) (AllReadyH.cons rfl ?_ AllReadyH.nil)
  intro K hK
  rw [if_pos (by rfl)]
  go_simp
  refine (KC _ tb3).mono ?_
  rintro e w4 ⟨P2, q2, rfl, ownC4, hb4⟩
  have tb4 := step_below hb4 tb3
  have R4 := RX.keep tb4
  have E4 := EX.keep tb4
  refine hK.out _ _ ⟨R4.cell (i := 0) rfl, R4.cell (i := 1) rfl⟩ (fun hS4 => ?_)
  clear hK K
  have ownP4 := own_keep ownP3 hb4
  refine wpAnyH_take (i := 5) (v := .agg #[.slice P1 T.length q1, .slice P2 zs.length q2]) rfl (by kernel_rfl) (by kernel_rfl) (by kernel_rfl) (fun _ _ _ h => h) (Or.inl ⟨by rfl, fun w' _ => by go_simp⟩) hS4 ?_
  change wpAnyH _ _ _ _ _ _ _ (Act.put _ (some 8) _) _
  simp only [Act.put, List.setIfInBounds_toArray, List.set_cons_zero, List.set_cons_succ]
  refine wpAnyH_ready (rs := [6]) (by kernel_rfl) (by simp) (AllReadyH.cons rfl ?_ AllReadyH.nil)
  intro K hK
  rw [if_pos (by rfl)]
  refine wp_store_row 34 (.tmp 2) (.tmp 8) rfl (w.heap.size + 1) #[.slice P1 T.length q1, .slice P2 zs.length q2] rfl rfl 34 _ E4 (infoWear _ _) (szWear _ _ _ _) (oneWear _ _ _ _ _ _) ?_
  have E5 := setRow_heap _ _ _ #[.slice P1 T.length q1, .slice P2 zs.length q2] _ _ E4
  have R5 : Bk (w4.setRow (w.heap.size + 1) #[.slice P1 T.length q1, .slice P2 zs.length q2]) w.heap.size 104 #[.map (some M), .slice C zs.length zq] := (setRow_other _ _ _ _ (by omega)).trans R4
  refine hK.out _ _ ⟨R5.cell (i := 0) rfl, R5.cell (i := 1) rfl⟩ (fun hS5 => ?_)
  clear hK K
  refine wpAnyH_done (by kernel_rfl) ?_ _
  have HE := hide E5
  have hsX : w.heap.size + 1 < X.heap.size := EX.lt
  have hd2s : X.heap.size ≤ X.drew.heap.size := tb2.size
  have h34 := hb3.size
  have bE := below_setRow (cs := #[.slice P1 T.length q1, .slice P2 zs.length q2]) (g := w.heap.size + 1) (step_below tb4 bX) (by omega)
  have owP := own_base (own_keepW ownP4 (show w.heap.size + 1 < X.drew.heap.size by omega) #[.slice P1 T.length q1, .slice P2 zs.length q2]) (show w.heap.size ≤ X.drew.heap.size by omega)
  have owC := own_base (own_keepW ownC4 (show w.heap.size + 1 < w3.heap.size by omega) #[.slice P1 T.length q1, .slice P2 zs.length q2]) (show w.heap.size ≤ w3.heap.size by omega)
  clear E5 R5 R4 E4 R3 E3
  go_wp2
  exact bodyPost_ret (v := .agg #[.slice P1 T.length q1, .slice P2 zs.length q2]) (results_cell_row Tryz.results64 _ _ (w.heap.size + 1) 34 #[.slice P1 T.length q1, .slice P2 zs.length q2] (0, 0) _ (by simp [Act.put]) HE.out Tryz.underlying34 rfl infoWe2) rfl ⟨P1, q1, P2, q2, rfl, owP, owC, bE⟩
end Go.Proofs.YtcocfnjbgceidaaGreat
namespace Go.Proofs.YtcocfnjbgceidaaGreat
open Go.RowKit Go.Maps
theorem befW_trans {a p b q c r : Int} (h1 : befW a p b q = true) (h2 : befW b q c r = true) : befW a p c r = true := by
  simp only [befW, decide_eq_true_eq] at *
  omega
theorem ascW_lt {l : List (Int × Int × Int)} (h : AscW l l.length) (i : Nat) : ∀ m, i + 1 + m < l.length → befW (wnS l i) (wnT l i) (wnS l (i + 1 + m)) (wnT l (i + 1 + m)) = true
  | 0, hm => by have := h (i + 1) hm (by omega); simpa using this
  | m + 1, hm => by
    have h1 := ascW_lt h i m (by omega)
    have h2 := h (i + 1 + (m + 1)) hm (by omega)
    rw [show i + 1 + (m + 1) - 1 = i + 1 + m by omega] at h2
    exact befW_trans h1 h2
theorem wn_get (l : List (Int × Int × Int)) (i : Nat) (h : i < l.length) : l[i] = (wnS l i, wnT l i, wnP l i) := by
  simp [wnS, wnT, wnP, List.getD, h]
theorem ascL_of {l : List (Int × Int × Int)} (h : AscW l l.length) : AscL l := by
  refine List.pairwise_iff_getElem.2 fun i j hi hj hij => ?_
  rw [wn_get l i hi, wn_get l j hj]
  have := ascW_lt h i (j - (i + 1)) (by omega)
  rwa [show i + 1 + (j - (i + 1)) = j by omega] at this
theorem in8_of {l : List (Int × Int × Int)} (hw : WnWF l) : In8 l := fun x hx => by
  obtain ⟨i, hi, rfl⟩ := List.mem_iff_getElem.1 hx
  obtain ⟨h1, h2, _⟩ := hw i hi
  rw [wn_get l i hi]
  exact ⟨h1, h2⟩
set_option maxRecDepth 20000 in
theorem mapW_at {l : List (Int × Int × Int)} (hw : WnWF l) (h : AscW l l.length) : ∀ k, k ≤ l.length → ∀ j, j < k → ∀ zd, (mapW l k).atKey (kP (wnS l j) (wnT l j)) zd = .lit (.int .i64 (wnP l j))
  | 0, _, j, hj, _ => absurd hj (Nat.not_lt_zero j)
  | k + 1, hk, j, hj, zd => by
    obtain ⟨m1, m2, _⟩ := hw k (by omega)
    obtain ⟨n1, n2, _⟩ := hw j (by omega)
    rcases Nat.lt_or_ge j k with h1 | h1
    · have hne : kP (wnS l j) (wnT l j) ≠ kP (wnS l k) (wnT l k) := fun e => by
        obtain ⟨e1, e2⟩ := kP_inj (i64_of8 n1) (i64_of8 n2) (i64_of8 m1) (i64_of8 m2) e
        have hb := ascW_lt h j (k - (j + 1)) (by omega)
        rw [show j + 1 + (k - (j + 1)) = k by omega, e1, e2] at hb
        simp [befW] at hb
      rw [mapW, atKey_put_other hne]
      exact mapW_at hw h k (by omega) j h1 zd
    · obtain rfl : j = k := by omega
      rw [mapW]
      exact atKey_put_same (mapW_isMap l j) (lawP.key (key_place _ _ (i64_of8 m1) (i64_of8 m2))) _ _
theorem readsW_map {l : List (Int × Int × Int)} (hw : WnWF l) (h : AscW l l.length) : ReadsW (mapW l l.length) l := by
  refine ⟨fun x hx => ?_, fun x hx zd => ?_, fun kl hk => ?_⟩
  · obtain ⟨i, hi, rfl⟩ := List.mem_iff_getElem.1 hx
    rw [wn_get l i hi]
    exact mapW_has' hw _ (Nat.le_refl _) i hi
  · obtain ⟨i, hi, rfl⟩ := List.mem_iff_getElem.1 hx
    rw [wn_get l i hi]
    exact mapW_at hw h _ (Nat.le_refl _) i hi zd
  · obtain ⟨j, hj, e⟩ := mapW_has hw _ (Nat.le_refl _) kl hk
    exact ⟨l[j], List.getElem_mem hj, by rw [wn_get l j hj]; exact e⟩
set_option maxRecDepth 20000 in
/-- a map with one key's value set reads as the list with that pin set or put in -/
theorem readsW_put {D : DataW Unit} {T T' : List (Int × Int × Int)} (hD : ReadsW D T) (hM : IsMap D) (h8 : In8 T') {a b c : Int} (hin : (a, b, c) ∈ T')
    (hT : ∀ x ∈ T', x.1 = a ∧ x.2.1 = b → x.2.2 = c) (h1 : ∀ x ∈ T', ¬ (x.1 = a ∧ x.2.1 = b) → x ∈ T) (h2 : ∀ x ∈ T, ¬ (x.1 = a ∧ x.2.1 = b) → x ∈ T') : ReadsW (D.put (kP a b) (.lit (.int .i64 c))) T' := by
  obtain ⟨ha, hb⟩ := h8 _ hin
  have hk := lawP.key (key_place a b (i64_of8 ha) (i64_of8 hb))
  have hne : ∀ x ∈ T', ¬ (x.1 = a ∧ x.2.1 = b) → kP x.1 x.2.1 ≠ kP a b := fun x hx hn e => by
    obtain ⟨x1, x2⟩ := h8 x hx
    exact hn (kP_inj (i64_of8 x1) (i64_of8 x2) (i64_of8 ha) (i64_of8 hb) e)
  refine ⟨fun x hx => ?_, fun x hx zd => ?_, fun kl hkl => ?_⟩
  · by_cases e : x.1 = a ∧ x.2.1 = b
    · rw [e.1, e.2]
      exact has_put_same hM hk _
    · rw [has_put_other (hne x hx e)]
      exact hD.1 x (h1 x hx e)
  · by_cases e : x.1 = a ∧ x.2.1 = b
    · rw [e.1, e.2, hT x hx e]
      exact atKey_put_same hM hk _ _
    · rw [atKey_put_other (hne x hx e)]
      exact hD.2.1 x (h1 x hx e) zd
  · by_cases e : kl = kP a b
    · exact ⟨_, hin, e⟩
    · rw [has_put_other e] at hkl
      obtain ⟨x, hx, ex⟩ := hD.2.2 kl hkl
      exact ⟨x, h2 x hx (fun h => e (by rw [ex, h.1, h.2])), ex⟩
end Go.Proofs.YtcocfnjbgceidaaGreat
namespace Go.Proofs.YtcocfnjbgceidaaGreat
open Go.RowKit Go.Maps
theorem sz_own {w : World} {base q : Nat} {C : Option Addr} {z : List Int} (h : w.ownsRow base 2 1 (.slice C z.length q) z.length (icells z)) : SZ w C z := by
  intro k hk
  rcases h.2 with ⟨h', h0⟩ | ⟨g, cap, cur, h', hgb, hg, _⟩
  · omega
  · simp only [Value.slice.injEq, true_and] at h'
    obtain ⟨rfl, rfl⟩ := h'
    refine ⟨g, 0, rfl, (Array.getElem?_eq_some_iff.1 hg).1, ?_⟩
    rw [Nat.zero_add]
    exact (h.cellAt k (by omega)).trans (icells_get z k hk)
theorem ascW_of {l : List (Int × Int × Int)} (h : ascW l = true) : AscW l l.length := by
  simp only [ascW, wnAsc, List.all_eq_true, List.mem_range] at h
  intro j hj hj0
  have := h j hj
  simpa [Nat.pos_iff_ne_zero.1 hj0, Nat.ne_of_gt hj0] using this
theorem map_ne_own {w : World} {M n m base size : Nat} {D : DataW Unit} {k : TypeId} {R : Value → Option (DataW Unit × List MemPlace)} (h : w.ownsMap Tryz.prog k R M m D) {e : TypeId} {v : Value} {xs : List Value} (ho : w.ownsRow base e size v n xs) : ∀ g, v.ownBlock = some g → g ≠ M := by
  intro g hv e1
  subst e1
  obtain ⟨es, clock, h1, _⟩ := h
  rcases ho.2 with ⟨rfl, _⟩ | ⟨g', cap, cur, rfl, _, hg, _⟩
  · cases hv
  · have e2 : g' = g := by simpa [Value.ownBlock] using hv
    subst e2
    rw [hg] at h1
    cases h1
theorem results_we {fn : Func} {p r : Tmp} (h : fn.results = #[.cell p 34, .tmp r]) (tmps : Array Value) (w : World) (g : Nat) (t : TypeId) (cs : Array Value) (c : Value) (hi : cs.size = 2)
    (hp : tmps.getD p undef = .pointer (some ⟨g, 0, none⟩)) (hr : tmps.getD r undef = c) (hg : w.heap[g]? = some (.cells cs t (0, 0))) :
    (results fn tmps).run Tryz.prog w = .ok (.tuple #[.agg cs, c]) w := by
  have hp' : tmps[p]?.getD undef = .pointer (some ⟨g, 0, none⟩) := by simpa using hp
  have hr' : tmps[r]?.getD undef = c := by simpa using hr
  simp [results, h, hp', hr', asAddr, run_loadVar_row w g t 34 cs (0, 0) _ hg Tryz.underlying34 rfl (by rw [hi]; exact infoWe2)]
/-- a wear of the call's own and a code -/
def WeC (T : List (Int × Int × Int)) (zs : List Int) (k : Int) (w : World) (e : Ending) (w' : World) : Prop := ∃ (P1 : Option Addr) (q1 : Nat) (P2 : Option Addr) (q2 : Nat), e = .returned (.tuple #[.agg #[.slice P1 T.length q1, .slice P2 zs.length q2], .int .i64 k]) ∧ w'.ownsRow w.heap.size 97 3 (.slice P1 T.length q1) T.length (wnC T) ∧ w'.ownsRow w.heap.size 2 1 (.slice P2 zs.length q2) zs.length (icells zs) ∧ Below w.heap.size w w'
end Go.Proofs.YtcocfnjbgceidaaGreat
