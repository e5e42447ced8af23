import Derived.Test.YtcocfnjbgceidaaDoorWpc
import Derived.Test.YtcocfnjbgceidaaDoorGba
namespace Go.Proofs.YtcocfnjbgceidaaDoor
open Go.RowKit Go.Maps
theorem infoWe2 : (Tryd.prog.info? 32).map (·.size) = some 2 := by kernel_rfl
theorem infoWear (a b : Value) : (Tryd.prog.info? 32).map (·.size) = some (#[a, b] : Array Value).size := by kernel_rfl
theorem szWear (a b c d : Value) : (#[a, b] : Array Value).size = (#[c, d] : Array Value).size := rfl
theorem oneWear (A : Option Addr) (n c : Nat) (B : Option Addr) (m d : Nat) : (#[.slice A n c, .slice B m d] : Array Value).all (·.oneCell') = true := by simp [Value.oneCell']
theorem own_keepW {w : World} {base g n : Nat} {e : TypeId} {size : Nat} {v : Value} {xs : List Value} (h : w.ownsRow base e size v n xs) (hg : g < base) (cs : Array Value) : (w.setRow g cs).ownsRow base e size v n xs :=
  h.kept (row := some g) ⟨rfl, rfl, rfl, by simp, fun k _ hk => setRow_other _ _ _ _ (fun e => hk (by rw [e]))⟩ (by
    cases hv : v.ownBlock with
    | none => exact Or.inl rfl
    | some k => exact Or.inr (fun e => by have h1 := h.lt k hv; cases e; omega))
/-- a wear of the call's own -/
def OwnWear (w : World) (T : List (Int × Int × Int)) (zs : List Int) (e : Ending) (w' : World) : Prop := ∃ (P1 : Option Addr) (q1 : Nat) (P2 : Option Addr) (q2 : Nat), e = .returned (.agg #[.slice P1 T.length q1, .slice P2 zs.length q2]) ∧ w'.ownsRow w.heap.size 53 3 (.slice P1 T.length q1) T.length (wnC T) ∧ w'.ownsRow w.heap.size 2 1 (.slice P2 zs.length q2) zs.length (icells zs) ∧ Below w.heap.size w w'
set_option maxRecDepth 20000 in
set_option maxHeartbeats 4000000 in
theorem madeWear_any (M : Nat) (C : Option Addr) (zs : List Int) (zq n : Nat) (D : DataW Unit) (T : List (Int × Int × Int)) (w : World) (hown : w.ownsMap Tryd.prog 68 (plainElem Tryd.prog 2) M n D) (hD : ReadsW D T) (hsz : Maps.size D ≤ 1048576) (hT : AscL T) (h8 : In8 T) (hZ : SZ w C zs) (hzn : zs.length ≤ 1048576) :
    Calls Tryd.prog 21 #[.agg #[.map (some M), .slice C zs.length zq]] w (OwnWear w T zs) := by
  obtain ⟨X, hX⟩ : ∃ X, X = (w.alloc (.cells #[.map (some M), .slice C zs.length zq] 63)).alloc (.cells #[.slice none 0 0, .slice none 0 0] 32) := ⟨_, rfl⟩
  have bX : Below w.heap.size w X := by rw [hX]; exact ((Below.refl _ _).alloc (Nat.le_refl _) _).alloc (by simp) _
  have RX : Bk X w.heap.size 63 #[.map (some M), .slice C zs.length zq] := by rw [hX]; exact (Bk.new _ _ _ rfl).old _
  have EX : Bk X (w.heap.size + 1) 32 #[.slice none 0 0, .slice none 0 0] := by rw [hX]; exact Bk.new _ _ _ (by simp)
  have KP := fun W (h : Below X.heap.size X W) => pinsW_any M C zs.length zq n D T W (map_keep (map_keep hown bX) h) hD hsz hT h8
  have KC := fun W (h : Below X.heap.size X W) => cloneZ_any C zq zs W ((hZ.below bX).below h) hzn
  go_enter Tryd.func21, Tryd.ntmps21
  go_upto_region 1 with fail
  rw [← hX]
  clear hX hown hD hsz hT h8 hZ hzn
  have tb2 : Below X.heap.size X X.drew := (Below.refl _ _).drew
  have R2 := RX.keep tb2
  refine wp_region_held_drew (S := fun w' => w'.cell? ⟨w.heap.size, 0, none⟩ = some (.map (some M)) ∧ w'.cell? ⟨w.heap.size, 1, none⟩ = some (.slice C zs.length zq)) (by kernel_rfl) ⟨R2.cell (i := 0) rfl, R2.cell (i := 1) rfl⟩ fun hS1 => ?_
  refine wpAnyH_take (i := 0) (v := .agg #[.map (some M), .slice C zs.length zq]) rfl (by kernel_rfl) (by kernel_rfl) (by kernel_rfl) (fun _ _ _ h => h) (Or.inl ⟨by rfl, fun w' h => ?_⟩) hS1 ?_
  · have c0 := h.1
    have c1 := h.2
    clear h
    go_simp
  change wpAnyH _ _ _ _ _ _ _ (Act.put _ (some 3) _) _
  simp only [Act.put, List.setIfInBounds_toArray, List.set_cons_zero, List.set_cons_succ]
  refine wpAnyH_take (i := 2) (v := .pointer (some ⟨w.heap.size, 1, none⟩)) rfl (by kernel_rfl) (by kernel_rfl) (by kernel_rfl) (fun _ _ _ h => h) (Or.inl ⟨by rfl, fun w' _ => by go_simp⟩) hS1 ?_
  change wpAnyH _ _ _ _ _ _ _ (Act.put _ (some 5) _) _
  simp only [Act.put, List.setIfInBounds_toArray, List.set_cons_zero, List.set_cons_succ]
  refine wpAnyH_take (i := 3) (v := .slice C zs.length zq) rfl (by kernel_rfl) (by kernel_rfl) (by kernel_rfl) (fun _ _ _ h => h) (Or.inl ⟨by rfl, fun w' h => ?_⟩) hS1 ?_
  · have c0 := h.2
    clear h
    go_simp
  change wpAnyH _ _ _ _ _ _ _ (Act.put _ (some 6) _) _
  simp only [Act.put, List.setIfInBounds_toArray, List.set_cons_zero, List.set_cons_succ]
  refine wpAnyH_ready (rs := [1]) (by kernel_rfl) (by simp) (AllReadyH.cons rfl ?_ AllReadyH.nil)
  intro K hK
  rw [if_pos (by rfl)]
  go_simp
  refine (KP _ tb2).mono ?_
  rintro e w3 ⟨P1, q1, rfl, ownP3, hb3⟩
  have tb3 := step_below hb3 tb2
  have R3 := RX.keep tb3
  have E3 := EX.keep tb3
  refine hK.out _ _ ⟨R3.cell (i := 0) rfl, R3.cell (i := 1) rfl⟩ (fun hS3 => ?_)
  clear hK K
  refine wpAnyH_ready (rs := [4]) (by kernel_rfl) (by simp) (AllReadyH.cons rfl ?_ AllReadyH.nil)
  intro K hK
  rw [if_pos (by rfl)]
  go_simp
  refine (KC _ tb3).mono ?_
  rintro e w4 ⟨P2, q2, rfl, ownC4, hb4⟩
  have tb4 := step_below hb4 tb3
  have R4 := RX.keep tb4
  have E4 := EX.keep tb4
  refine hK.out _ _ ⟨R4.cell (i := 0) rfl, R4.cell (i := 1) rfl⟩ (fun hS4 => ?_)
  clear hK K
  have ownP4 := own_keep ownP3 hb4
  refine wpAnyH_take (i := 5) (v := .agg #[.slice P1 T.length q1, .slice P2 zs.length q2]) rfl (by kernel_rfl) (by kernel_rfl) (by kernel_rfl) (fun _ _ _ h => h) (Or.inl ⟨by rfl, fun w' _ => by go_simp⟩) hS4 ?_
  change wpAnyH _ _ _ _ _ _ _ (Act.put _ (some 8) _) _
  simp only [Act.put, List.setIfInBounds_toArray, List.set_cons_zero, List.set_cons_succ]
  refine wpAnyH_ready (rs := [6]) (by kernel_rfl) (by simp) (AllReadyH.cons rfl ?_ AllReadyH.nil)
  intro K hK
  rw [if_pos (by rfl)]
  refine wp_store_row 32 (.tmp 2) (.tmp 8) rfl (w.heap.size + 1) #[.slice P1 T.length q1, .slice P2 zs.length q2] rfl rfl 32 _ E4 (infoWear _ _) (szWear _ _ _ _) (oneWear _ _ _ _ _ _) ?_
  have E5 := setRow_heap _ _ _ #[.slice P1 T.length q1, .slice P2 zs.length q2] _ _ E4
  have R5 : Bk (w4.setRow (w.heap.size + 1) #[.slice P1 T.length q1, .slice P2 zs.length q2]) w.heap.size 63 #[.map (some M), .slice C zs.length zq] := (setRow_other _ _ _ _ (by omega)).trans R4
  refine hK.out _ _ ⟨R5.cell (i := 0) rfl, R5.cell (i := 1) rfl⟩ (fun hS5 => ?_)
  clear hK K
  refine wpAnyH_done (by kernel_rfl) ?_ _
  have HE := hide E5
  have hsX : w.heap.size + 1 < X.heap.size := EX.lt
  have hd2s : X.heap.size ≤ X.drew.heap.size := tb2.size
  have h34 := hb3.size
  have bE := below_setRow (cs := #[.slice P1 T.length q1, .slice P2 zs.length q2]) (g := w.heap.size + 1) (step_below tb4 bX) (by omega)
  have owP := own_base (own_keepW ownP4 (show w.heap.size + 1 < X.drew.heap.size by omega) #[.slice P1 T.length q1, .slice P2 zs.length q2]) (show w.heap.size ≤ X.drew.heap.size by omega)
  have owC := own_base (own_keepW ownC4 (show w.heap.size + 1 < w3.heap.size by omega) #[.slice P1 T.length q1, .slice P2 zs.length q2]) (show w.heap.size ≤ w3.heap.size by omega)
  clear E5 R5 R4 E4 R3 E3
  go_wp2
  exact bodyPost_ret (v := .agg #[.slice P1 T.length q1, .slice P2 zs.length q2]) (results_cell_row Tryd.results21 _ _ (w.heap.size + 1) 32 #[.slice P1 T.length q1, .slice P2 zs.length q2] (0, 0) _ (by simp [Act.put]) HE.out Tryd.underlying32 rfl infoWe2) rfl ⟨P1, q1, P2, q2, rfl, owP, owC, bE⟩
end Go.Proofs.YtcocfnjbgceidaaDoor
