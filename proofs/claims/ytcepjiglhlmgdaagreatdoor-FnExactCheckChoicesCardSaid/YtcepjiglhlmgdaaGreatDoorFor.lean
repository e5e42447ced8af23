import Derived.Test.YtcepjiglhlmgdaaGreatDoorGbf
namespace Go.Proofs.YtcepjiglhlmgdaaGreatDoor
open Go.RowKit
/-- a row of another type is as it was behind an append -/
theorem own_row8 {w w' : World} {b1 b2 n m : Nat} {e1 e2 : TypeId} {s1 s2 : Nat} {v1 v2 : Value} {xs ys : List Value} (h : w.ownsRow b1 e1 s1 v1 n xs) (h2 : w.ownsRow b2 e2 s2 v2 m ys) (hne : e1 ≠ e2) (hg : w.grownBy w' v2.ownBlock) : w'.ownsRow b1 e1 s1 v1 n xs := by
  refine ⟨h.1, ?_⟩
  rcases h.2 with h3 | ⟨g, cap, cur, hv, hb, hh, r⟩
  · exact Or.inl h3
  · refine Or.inr ⟨g, cap, cur, hv, hb, (hg.block g (Array.getElem?_eq_some_iff.1 hh).1 fun e => ?_).trans hh, r⟩
    rcases h2.2 with ⟨h3, _⟩ | ⟨g2, cap2, cur2, hv2, _, hh2, _⟩
    · rw [h3] at e; simp [Value.ownBlock] at e
    · rw [hv2] at e
      simp only [Value.ownBlock, Option.some.injEq] at e
      rw [e, hh2] at hh
      simp only [Option.some.injEq, Obj.cells.injEq] at hh
      exact hne hh.2.1.symm
theorem row_row8 {w w' : World} {b2 m g : Nat} {e1 e2 : TypeId} {s2 : Nat} {v2 : Value} {ys : List Value} {cs : Array Value} (h : w.heap[g]? = some (.cells cs e1 (0, 0))) (h2 : w.ownsRow b2 e2 s2 v2 m ys) (hne : e1 ≠ e2) (hg : w.grownBy w' v2.ownBlock) : w'.heap[g]? = some (.cells cs e1 (0, 0)) := by
  refine (hg.block g (Array.getElem?_eq_some_iff.1 h).1 fun e => ?_).trans h
  rcases h2.2 with ⟨h3, _⟩ | ⟨g2, cap2, cur2, hv2, _, hh2, _⟩
  · rw [h3] at e; simp [Value.ownBlock] at e
  · rw [hv2] at e
    simp only [Value.ownBlock, Option.some.injEq] at e
    rw [e, hh2] at h
    simp only [Option.some.injEq, Obj.cells.injEq] at h
    exact hne h.2.1.symm
theorem cells_four (w : World) (x y z u : Value) (t : TypeId) : ∀ j v, ([x, y, z, u] : List Value)[j]? = some v → (w.alloc (.cells #[x, y, z, u] t)).cell? ((⟨w.heap.size, 0, none⟩ : Addr).add j) = some v := by
  intro j v hv
  rw [Addr.add_lit]
  match j, hv with
  | 0, hv => simp at hv; subst hv; simp [go_sem]
  | 1, hv => simp at hv; subst hv; simp [go_sem]
  | 2, hv => simp at hv; subst hv; simp [go_sem]
  | 3, hv => simp at hv; subst hv; simp [go_sem]
/-- the choices of a note for one late, one octave, the first tracks -/
def foT (hl : List (Int × Int)) (p la oc : Int) (j : Nat) : List (Bool × Int × Int × Int) := (trk hl (p + 12 * oc) j).map fun t : Nat => (false, la, oc, (t : Int))
def foK (hl : List (Int × Int)) (p la : Int) (k : Nat) : List (Bool × Int × Int × Int) := ((sgL 1).take k).flatMap fun oc => foT hl p la oc hl.length
def foI (s : Int) (hl : List (Int × Int)) (a p : Int) (i : Nat) : List (Bool × Int × Int × Int) := ((sgL 3).take i).flatMap fun la => if inB (a + la) 0 (s - 1) = true then foK hl p la 3 else []
theorem foI_all (s : Int) (hl : List (Int × Int)) (a p : Int) : foI s hl a p 7 = chF s hl a p mvS := by
  have h1 : mvS = (sgL 3).flatMap fun la => (sgL 1).map fun oc => (la, oc) := by decide
  rw [foI, chF, h1, List.flatMap_assoc, show (sgL 3).take 7 = sgL 3 from rfl]
  congr 1
  funext la
  rw [List.flatMap_map]
  unfold chR
  by_cases h : inB (a + la) 0 (s - 1) = true
  · simp only [h, if_true]
    rfl
  · simp [h]
theorem foT_succ_yes {hl : List (Int × Int)} {p la oc : Int} {j : Nat} (h : hPi hl j = p + 12 * oc) : foT hl p la oc (j + 1) = foT hl p la oc j ++ [(false, la, oc, (j : Int))] := by rw [foT, trk_yes h, List.map_append]; rfl
theorem foT_succ_no {hl : List (Int × Int)} {p la oc : Int} {j : Nat} (h : ¬ hPi hl j = p + 12 * oc) : foT hl p la oc (j + 1) = foT hl p la oc j := by rw [foT, trk_no h]; rfl
theorem foK_succ {hl : List (Int × Int)} {p la : Int} {k : Nat} (h : k < 3) : foK hl p la (k + 1) = foK hl p la k ++ foT hl p la ((sgL 1).getD k 0) hl.length := by
  have : k = 0 ∨ k = 1 ∨ k = 2 := by omega
  rcases this with rfl | rfl | rfl <;> simp [foK, sgL, List.range_succ]
theorem foI_succ {s : Int} {hl : List (Int × Int)} {a p : Int} {i : Nat} (h : i < 7) : foI s hl a p (i + 1) = foI s hl a p i ++ if inB (a + (sgL 3).getD i 0) 0 (s - 1) = true then foK hl p ((sgL 3).getD i 0) 3 else [] := by
  have hl7 : (sgL 3).length = 7 := rfl
  rw [foI, List.take_succ_eq_append_getElem (by omega), List.flatMap_append, foI]
  simp [List.getD, List.getElem?_eq_getElem (show i < (sgL 3).length by omega)]
theorem sgL_in {m k : Nat} (h : k < 2 * m + 1) : -(m : Int) ≤ (sgL m).getD k 0 ∧ (sgL m).getD k 0 ≤ m := by
  induction m with
  | zero => have : k = 0 := by omega
            subst this; simp [sgL]
  | succ m ih =>
    rw [sgL_succ, List.getD_eq_getElem?_getD, List.getElem?_append]
    split
    · have := ih (by rw [sgL_len] at *; omega)
      rw [List.getD_eq_getElem?_getD] at this
      omega
    · rename_i hk
      rw [sgL_len] at hk ⊢
      have : k - (2 * m + 1) = 0 ∨ k - (2 * m + 1) = 1 := by omega
      rcases this with h' | h' <;> rw [h'] <;> simp <;> omega
theorem bcells_at {m k : Nat} (h : k < 2 * m + 1) : (bcells (sgL m))[k]? = some (.int .i8 ((sgL m).getD k 0)) := by
  have := sgL_len m
  simp [bcells, List.getD, List.getElem?_eq_getElem (show k < (sgL m).length by omega)]
theorem foT_len (hl : List (Int × Int)) (p la oc : Int) (j : Nat) : (foT hl p la oc j).length ≤ j := by rw [foT, List.length_map]; exact trk_len _ _ _
theorem foK_len (hl : List (Int × Int)) (p la : Int) : ∀ k, k ≤ 3 → (foK hl p la k).length ≤ k * hl.length := by
  intro k
  induction k with
  | zero => intro _; simp [foK]
  | succ k ih =>
    intro hk
    have h1 := ih (by omega)
    have h2 := foT_len hl p la ((sgL 1).getD k 0) hl.length
    rw [foK_succ (by omega), List.length_append, Nat.add_mul]
    omega
theorem foI_len (s : Int) (hl : List (Int × Int)) (a p : Int) : ∀ i, i ≤ 7 → (foI s hl a p i).length ≤ i * (3 * hl.length) := by
  intro i
  induction i with
  | zero => intro _; simp [foI]
  | succ i ih =>
    intro hi
    have h1 := ih (by omega)
    have h2 := foK_len hl p ((sgL 3).getD i 0) 3 (by omega)
    rw [foI_succ (by omega), List.length_append, Nat.add_mul]
    split
    · omega
    · simp; omega
/-- what a walk through the choices keeps -/
def FoW (w wr : World) (B6 B7 g6 c6 g7 c7 gx : Nat) (a p : Int) : Prop := wr.ownsRow B6 57 1 (.slice (some ⟨g6, 0, none⟩) 7 c6) 7 (bcells (sgL 3)) ∧ wr.ownsRow B7 57 1 (.slice (some ⟨g7, 0, none⟩) 3 c7) 3 (bcells (sgL 1)) ∧ wr.heap[gx]? = some (.cells #[.int .i16 a, .int .i8 p] 59 (0, 0)) ∧ Below w.heap.size w wr
theorem FoW.keep {w wr w' : World} {B6 B7 g6 c6 g7 c7 gx : Nat} {a p : Int} (h : FoW w wr B6 B7 g6 c6 g7 c7 gx a p) (hb : Below wr.heap.size wr w') : FoW w w' B6 B7 g6 c6 g7 c7 gx a p :=
  ⟨own_keep h.1 hb, own_keep h.2.1 hb, (hb.block _ (Array.getElem?_eq_some_iff.1 h.2.2.1).1).trans h.2.2.1, h.2.2.2.trans (hb.mono h.2.2.2.size)⟩
theorem FoW.la {w wr : World} {B6 B7 g6 c6 g7 c7 gx : Nat} {a p : Int} (h : FoW w wr B6 B7 g6 c6 g7 c7 gx a p) {i : Nat} (hi : i < 7) : wr.cell? ⟨g6, i, none⟩ = some (.int .i8 ((sgL 3).getD i 0)) := by rw [h.1.cellAt i (by omega)]; exact bcells_at (m := 3) (by omega)
theorem FoW.oc {w wr : World} {B6 B7 g6 c6 g7 c7 gx : Nat} {a p : Int} (h : FoW w wr B6 B7 g6 c6 g7 c7 gx a p) {k : Nat} (hk : k < 3) : wr.cell? ⟨g7, k, none⟩ = some (.int .i8 ((sgL 1).getD k 0)) := by rw [h.2.1.cellAt k (by omega)]; exact bcells_at (m := 1) (by omega)
set_option maxRecDepth 20000 in
set_option maxHeartbeats 4000000 in
theorem l07For_any (b : Nat) (s : Int) (A : Option Addr) (c : Nat) (hl : List (Int × Int)) (a p : Int) (w : World) (hF : FP w b s A hl.length c) (hA : HA w A hl) (ha : 0 ≤ a ∧ a ≤ 199) (hp : 0 ≤ p ∧ p ≤ 47) (hs : 2 ≤ s ∧ s ≤ 96) (hn : hl.length ≤ 24) :
    Calls Tryz.prog 33 #[.pointer (some ⟨b, 0, none⟩), .agg #[.int .i16 a, .int .i8 p]] w fun e w' => ∃ (C : Option Addr) (q : Nat), e = .returned (.slice C (chS s hl a p).length q) ∧ w'.ownsRow w.heap.size 63 4 (.slice C (chS s hl a p).length q) (chS s hl a p).length (chC (chS s hl a p)) ∧ Below w.heap.size w w' := by
  obtain ⟨i0, hi, hz0, hz1, hz2⟩ := info_parts info63
  have hbl := hF.lt
  obtain ⟨q0, q1⟩ := hF
  obtain ⟨X, hX⟩ : ∃ X, X = (w.alloc (.cells #[.int .i16 a, .int .i8 p] 59)).alloc (.cells #[] 63) := ⟨_, rfl⟩
  have b0 : Below w.heap.size w X := by rw [hX]; exact ((Below.refl _ _).alloc (Nat.le_refl _) _).alloc (by simp) _
  have N0 : X.heap[w.heap.size]? = some (.cells #[.int .i16 a, .int .i8 p] 59 (0, 0)) := by rw [hX]; exact heap_old' (heap_new' _ _ _ rfl)
  have O0 : X.ownsRow w.heap.size 63 4 (.slice (some ⟨w.heap.size + 1, 0, none⟩) 0 0) 0 (chC []) := by rw [hX]; have := own_emptyT (w := w.alloc (.cells #[.int .i16 a, .int .i8 p] 59)) (base := w.heap.size) 63 4 (by simp); simpa [chC_nil] using this
  go_enter Tryz.func33, Tryz.ntmps33
  go_upto_region 2 with fail
  rw [← hX]
  clear hX
  have hgx := (Array.getElem?_eq_some_iff.1 N0).1
  go_wp2_with fail
  refine (l07Signed_any 3 (by omega) X).mono ?_
  rintro e w1 ⟨g6, c6, rfl, o6, hb1⟩
  have b1 := step_below hb1 b0
  have N1 := (hb1.block _ hgx).trans N0
  have O1 := own_keep O0 hb1
  have hb1s := hb1.size
  clear N0 O0 b0
  go_wp2_with fail
  refine (l07Signed_any 1 (by omega) w1).mono ?_
  rintro e w2 ⟨g7, c7, rfl, o7, hb2⟩
  have b2 := step_below hb2 b1
  have N2 := (hb2.block _ (by omega)).trans N1
  have O2 := own_keep O1 hb2
  have o6' := own_keep o6 hb2
  have hb2s := hb2.size
  have hX7 : X.heap.size ≤ w2.heap.size := by omega
  clear N1 O1 o6 b1 hb1 hb2
  obtain ⟨gx, hgx'⟩ : ∃ gx, gx = w.heap.size := ⟨_, rfl⟩
  have hbw : b < w.heap.size := hbl
  have HI7 := hide (foI_all s hl a p)
  go_wp2_with fail
  rw [← hgx'] at N2 ⊢
  have F0 : FoW w w2 X.heap.size w1.heap.size g6 c6 g7 c7 gx a p := ⟨o6', o7, N2, b2⟩
  have O2' : w2.ownsRow w.heap.size 63 4 (.slice (some ⟨gx + 1, 0, none⟩) 0 0) 0 (chC []) := by rw [hgx']; exact O2
  clear O2 o6' o7 N2 hgx'
  go_loopw [5, 8, 9, 10] (fun v i _ _ wr => ∃ (i' n : Nat), i' ≤ 7 ∧ i = .int .i64 i' ∧ n = (foI s hl a p i').length ∧ wr.ownsRow w.heap.size 63 4 v n (chC (foI s hl a p i')) ∧ FoW w wr X.heap.size w1.heap.size g6 c6 g7 c7 gx a p)
    (fun _ i _ _ _ => 7 - (intOf i).toNat)
  case atStart => exact ⟨0, 0, Nat.zero_le _, rfl, rfl, O2', F0⟩
  case round =>
    clear O2' F0 b2
    obtain ⟨i, n5, hi0, rfl, hn5, own5, F5⟩ := hrel
    obtain ⟨A5, c5, rfl⟩ := own_shapeG own5
    have hnb := foI_len s hl a p i hi0
    rw [← hn5] at hnb
    have hnb : n5 ≤ 504 := Nat.le_trans hnb (Nat.le_trans (Nat.mul_le_mul hi0 (Nat.mul_le_mul (Nat.le_refl 3) hn)) (by omega))
    by_cases hi7 : i < 7
    · have hii : (i : Int) < 7 := by omega
      have hIS := foI_succ (s := s) (hl := hl) (a := a) (p := p) hi7
      have hlin := sgL_in (m := 3) (k := i) (by omega)
      have l6 := F5.la hi7
      obtain ⟨la, hla⟩ : ∃ la, la = (sgL 3).getD i 0 := ⟨_, rfl⟩
      rw [← hla] at hIS hlin l6
      have wa : IntKind.i64.wrap a = a := IntWalk.i64_in _ (by omega)
      have wl : IntKind.i64.wrap la = la := IntWalk.i64_in _ (by omega)
      have wal : IntKind.i64.wrap (a + la) = a + la := IntWalk.i64_in _ (by omega)
      have ws : IntKind.i64.wrap s = s := IntWalk.i64_in _ (by omega)
      have ws1 : IntKind.i64.wrap (s - 1) = s - 1 := IntWalk.i64_in _ (by omega)
      obtain ⟨ib, hib⟩ : ∃ ib, ib = inB (a + la) 0 (s - 1) := ⟨_, rfl⟩
      have KI : ∀ W, Calls Tryz.prog 47 #[.int .i64 (a + la), .int .i64 0, .int .i64 (s - 1)] W fun e w' => e = .returned (.bool ib) ∧ W = w' := fun W => by rw [hib]; exact l00In_any _ _ _ W
      rw [← hib] at hIS
      have HIS := hide hIS
      have HLA := hide hla
      have HN5 := hide hn5
      have nn := cell_of_row _ _ 0 _ _ _ F5.2.2.1
      simp at nn
      have f0 := (F5.2.2.2.cell (p := ⟨b, 0, none⟩) hbl).trans q0
      clear hIS hib hn5 hla
      go_upto_region 7 with fail
      have hWd : Below wr.heap.size wr wr.drew := (Below.refl _ _).drew
      refine wp_region_held_drew (S := fun Y => Y.cell? ⟨gx, 0, none⟩ = some (.int .i16 a) ∧ Y.cell? ⟨g6, i, none⟩ = some (.int .i8 la) ∧ Y.cell? ⟨b, 0, none⟩ = some (.int .i16 s)) (by kernel_rfl) ⟨nn, l6, f0⟩ fun hS => ?_
      have own5 := own_keep own5 hWd
      have F5 := F5.keep hWd
      clear nn l6 f0 hWd
      generalize wr.drew = W1 at *
      refine wpAnyH_take (i := 0) (v := .pointer (some ⟨gx, 0, none⟩)) rfl (by kernel_rfl) (by kernel_rfl) (by kernel_rfl) (fun _ _ _ h => h) (Or.inl ⟨by rfl, fun w' _ => by go_simp⟩) hS ?_
      change wpAnyH _ _ _ _ _ _ _ (Act.put _ (some 20) _) _
      simp only [Act.put, List.setIfInBounds_toArray, List.set_cons_zero, List.set_cons_succ]
      refine wpAnyH_take (i := 1) (v := .int .i16 a) rfl (by kernel_rfl) (by kernel_rfl) (by kernel_rfl) (fun _ _ _ h => h) (Or.inl ⟨by rfl, fun w' h => ?_⟩) hS ?_
      · have c0 := h.1
        have c1 := h.2.1
        have c2 := h.2.2
        clear h
        go_simp
      change wpAnyH _ _ _ _ _ _ _ (Act.put _ (some 21) _) _
      simp only [Act.put, List.setIfInBounds_toArray, List.set_cons_zero, List.set_cons_succ]
      refine wpAnyH_take (i := 2) (v := .int .i64 a) rfl (by kernel_rfl) (by kernel_rfl) (by kernel_rfl) (fun _ _ _ h => h) (Or.inl ⟨by rfl, fun w' _ => by go_simp⟩) hS ?_
      change wpAnyH _ _ _ _ _ _ _ (Act.put _ (some 22) _) _
      simp only [Act.put, List.setIfInBounds_toArray, List.set_cons_zero, List.set_cons_succ]
      refine wpAnyH_take (i := 3) (v := .slice (some ⟨g6, 0, none⟩) 7 c6) rfl (by kernel_rfl) (by kernel_rfl) (by kernel_rfl) (fun _ _ _ h => h) (Or.inl ⟨by rfl, fun w' _ => by go_simp⟩) hS ?_
      change wpAnyH _ _ _ _ _ _ _ (Act.put _ (some 23) _) _
      simp only [Act.put, List.setIfInBounds_toArray, List.set_cons_zero, List.set_cons_succ]
      refine wpAnyH_take (i := 4) (v := .int .i64 i) rfl (by kernel_rfl) (by kernel_rfl) (by kernel_rfl) (fun _ _ _ h => h) (Or.inl ⟨by rfl, fun w' _ => by go_simp⟩) hS ?_
      change wpAnyH _ _ _ _ _ _ _ (Act.put _ (some 24) _) _
      simp only [Act.put, List.setIfInBounds_toArray, List.set_cons_zero, List.set_cons_succ]
      refine wpAnyH_take (i := 5) (v := .pointer (some ⟨g6, i, none⟩)) rfl (by kernel_rfl) (by kernel_rfl) (by kernel_rfl) (fun _ _ _ h => h) (Or.inl ⟨by rfl, fun w' _ => by go_simp⟩) hS ?_
      change wpAnyH _ _ _ _ _ _ _ (Act.put _ (some 25) _) _
      simp only [Act.put, List.setIfInBounds_toArray, List.set_cons_zero, List.set_cons_succ]
      refine wpAnyH_take (i := 6) (v := .int .i8 la) rfl (by kernel_rfl) (by kernel_rfl) (by kernel_rfl) (fun _ _ _ h => h) (Or.inl ⟨by rfl, fun w' h => ?_⟩) hS ?_
      · have c0 := h.1
        have c1 := h.2.1
        have c2 := h.2.2
        clear h
        go_simp
      change wpAnyH _ _ _ _ _ _ _ (Act.put _ (some 26) _) _
      simp only [Act.put, List.setIfInBounds_toArray, List.set_cons_zero, List.set_cons_succ]
      refine wpAnyH_take (i := 7) (v := .int .i64 la) rfl (by kernel_rfl) (by kernel_rfl) (by kernel_rfl) (fun _ _ _ h => h) (Or.inl ⟨by rfl, fun w' _ => by go_simp⟩) hS ?_
      change wpAnyH _ _ _ _ _ _ _ (Act.put _ (some 27) _) _
      simp only [Act.put, List.setIfInBounds_toArray, List.set_cons_zero, List.set_cons_succ]
      refine wpAnyH_take (i := 8) (v := .int .i64 (a + la)) rfl (by kernel_rfl) (by kernel_rfl) (by kernel_rfl) (fun _ _ _ h => h) (Or.inl ⟨by rfl, fun w' _ => by go_simp⟩) hS ?_
      change wpAnyH _ _ _ _ _ _ _ (Act.put _ (some 28) _) _
      simp only [Act.put, List.setIfInBounds_toArray, List.set_cons_zero, List.set_cons_succ]
      refine wpAnyH_take (i := 9) (v := .pointer (some ⟨b, 0, none⟩)) rfl (by kernel_rfl) (by kernel_rfl) (by kernel_rfl) (fun _ _ _ h => h) (Or.inl ⟨by rfl, fun w' _ => by go_simp⟩) hS ?_
      change wpAnyH _ _ _ _ _ _ _ (Act.put _ (some 29) _) _
      simp only [Act.put, List.setIfInBounds_toArray, List.set_cons_zero, List.set_cons_succ]
      refine wpAnyH_take (i := 10) (v := .pointer (some ⟨b, 0, none⟩)) rfl (by kernel_rfl) (by kernel_rfl) (by kernel_rfl) (fun _ _ _ h => h) (Or.inl ⟨by rfl, fun w' _ => by go_simp⟩) hS ?_
      change wpAnyH _ _ _ _ _ _ _ (Act.put _ (some 30) _) _
      simp only [Act.put, List.setIfInBounds_toArray, List.set_cons_zero, List.set_cons_succ]
      refine wpAnyH_take (i := 11) (v := .pointer (some ⟨b, 0, none⟩)) rfl (by kernel_rfl) (by kernel_rfl) (by kernel_rfl) (fun _ _ _ h => h) (Or.inl ⟨by rfl, fun w' _ => by go_simp⟩) hS ?_
      change wpAnyH _ _ _ _ _ _ _ (Act.put _ (some 31) _) _
      simp only [Act.put, List.setIfInBounds_toArray, List.set_cons_zero, List.set_cons_succ]
      refine wpAnyH_take (i := 12) (v := .int .i16 s) rfl (by kernel_rfl) (by kernel_rfl) (by kernel_rfl) (fun _ _ _ h => h) (Or.inl ⟨by rfl, fun w' h => ?_⟩) hS ?_
      · have c0 := h.1
        have c1 := h.2.1
        have c2 := h.2.2
        clear h
        go_simp
      change wpAnyH _ _ _ _ _ _ _ (Act.put _ (some 32) _) _
      simp only [Act.put, List.setIfInBounds_toArray, List.set_cons_zero, List.set_cons_succ]
      refine wpAnyH_take (i := 13) (v := .int .i64 s) rfl (by kernel_rfl) (by kernel_rfl) (by kernel_rfl) (fun _ _ _ h => h) (Or.inl ⟨by rfl, fun w' _ => by go_simp⟩) hS ?_
      change wpAnyH _ _ _ _ _ _ _ (Act.put _ (some 33) _) _
      simp only [Act.put, List.setIfInBounds_toArray, List.set_cons_zero, List.set_cons_succ]
      refine wpAnyH_take (i := 14) (v := .int .i64 (s - 1)) rfl (by kernel_rfl) (by kernel_rfl) (by kernel_rfl) (fun _ _ _ h => h) (Or.inl ⟨by rfl, fun w' _ => by go_simp⟩) hS ?_
      change wpAnyH _ _ _ _ _ _ _ (Act.put _ (some 34) _) _
      simp only [Act.put, List.setIfInBounds_toArray, List.set_cons_zero, List.set_cons_succ]
      refine wpAnyH_ready (rs := [15]) (by kernel_rfl) (by simp) (AllReadyH.cons rfl ?_ AllReadyH.nil)
      intro K hK
      rw [if_pos (by rfl)]
      go_simp
      refine (KI W1).mono ?_
      rintro e W2 ⟨rfl, rfl⟩
      refine hK.out _ _ hS (fun hS1 => ?_)
      clear hK K
      try (change wpAnyH _ _ _ _ _ _ _ (Act.put _ (some 35) _) _)
      try simp only [Act.put, List.setIfInBounds_toArray, List.set_cons_zero, List.set_cons_succ]
      refine wpAnyH_take (i := 16) (v := .bool (!ib)) rfl (by kernel_rfl) (by kernel_rfl) (by kernel_rfl) (fun _ _ _ h => h) (Or.inl ⟨by rfl, fun w' _ => by go_simp⟩) hS1 ?_
      change wpAnyH _ _ _ _ _ _ _ (Act.put _ (some 36) _) _
      simp only [Act.put, List.setIfInBounds_toArray, List.set_cons_zero, List.set_cons_succ]
      refine wpAnyH_done (by kernel_rfl) ?_ _
      clear hS hS1 KI
      cases ib
      · have HR := hide (show foI s hl a p (i + 1) = foI s hl a p i by rw [HIS.out]; simp)
        go_wp2_with fail
        go_roundw
        case rel => exact ⟨i + 1, n5, hi7, by go_num, by rw [HR.out]; exact HN5.out, by rw [HR.out]; exact own5, F5⟩
        case measure => simp [intOf]; omega
      · have HR := hide (show foI s hl a p (i + 1) = foI s hl a p i ++ foK hl p la 3 by rw [HIS.out]; simp)
        clear HIS
        simp only [Bool.not_true]
        obtain ⟨P0, hP0⟩ : ∃ P0, P0 = foI s hl a p i := ⟨_, rfl⟩
        rw [← hP0] at own5 HN5
        rw [← hP0] at HR
        clear hP0
        go_wp2_with fail
        go_loopw [5, 9, 10] (fun v kk _ wr => ∃ (k n : Nat), k ≤ 3 ∧ kk = .int .i64 k ∧ n = (P0 ++ foK hl p la k).length ∧ wr.ownsRow w.heap.size 63 4 v n (chC (P0 ++ foK hl p la k)) ∧ FoW w wr X.heap.size w1.heap.size g6 c6 g7 c7 gx a p)
          (fun _ kk _ _ => 3 - (intOf kk).toNat)
        case atStart => exact ⟨0, n5, Nat.zero_le _, rfl, by rw [show foK hl p la 0 = [] from rfl, List.append_nil]; exact HN5.out, by rw [show foK hl p la 0 = [] from rfl, List.append_nil]; exact own5, F5⟩
        case round =>
          clear own5 F5
          obtain ⟨k, n6, hk, rfl, hn6, own6, F6⟩ := hrel
          obtain ⟨A6, c6', rfl⟩ := own_shapeG own6
          have hkb := foK_len hl p la k hk
          have hn6b : n6 ≤ 504 + 72 := by
            rw [hn6, List.length_append, ← HN5.out]
            have := Nat.mul_le_mul hk hn
            omega
          by_cases hk3 : k < 3
          · have hkk : (k : Int) < 3 := by omega
            have hKS := foK_succ (hl := hl) (p := p) (la := la) hk3
            have hocin := sgL_in (m := 1) (k := k) (by omega)
            obtain ⟨oc, hoc⟩ : ∃ oc, oc = (sgL 1).getD k 0 := ⟨_, rfl⟩
            rw [← hoc] at hKS hocin
            have HKS := hide hKS
            have HOC := hide hoc
            have HN6 := hide hn6
            clear hKS hn6
            obtain ⟨P1, hP1⟩ : ∃ P1, P1 = P0 ++ foK hl p la k := ⟨_, rfl⟩
            have HP1 := hide hP1
            rw [← hP1] at own6 HN6
            clear hP1 hoc
            obtain ⟨q, hq⟩ : ∃ q, q = p + 12 * oc := ⟨_, rfl⟩
            have wq : IntKind.i8.wrap (12 * oc) = 12 * oc := by simp [IntKind.wrap, IntKind.signed, IntKind.bits]; omega
            have wq2 : IntKind.i8.wrap (p + 12 * oc) = q := by rw [hq]; simp [IntKind.wrap, IntKind.signed, IntKind.bits]; omega
            have HQ := hide hq
            clear hq
            go_wp2_with fail
            go_loopw [5, 10] (fun v jj wr => ∃ (j n : Nat), j ≤ hl.length ∧ jj = .int .i64 j ∧ n = (P1 ++ foT hl p la oc j).length ∧ wr.ownsRow w.heap.size 63 4 v n (chC (P1 ++ foT hl p la oc j)) ∧ FoW w wr X.heap.size w1.heap.size g6 c6 g7 c7 gx a p)
              (fun _ jj _ => hl.length - (intOf jj).toNat)
            case atStart => exact ⟨0, n6, Nat.zero_le _, rfl, by rw [show foT hl p la oc 0 = [] from rfl, List.append_nil]; exact HN6.out, by rw [show foT hl p la oc 0 = [] from rfl, List.append_nil]; exact own6, F6⟩
            case round =>
              clear own6 F6
              obtain ⟨j, n5, hj, rfl, hn5, own5, F5⟩ := hrel
              obtain ⟨A5, c5, rfl⟩ := own_shapeG own5
              have hjb := foT_len hl p la oc j
              have hn5b : n5 ≤ 600 + 24 := by
                rw [hn5, List.length_append, ← HN6.out]
                omega
              have f1 := (F5.2.2.2.cell (p := ⟨b, 1, none⟩) hbl).trans q1
              by_cases hjl : j < hl.length
              · have hjj : (j : Int) < (hl.length : Int) := by omega
                obtain ⟨bh, oh, hAe, hbh, h1, _⟩ := hA j hjl
                subst hAe
                have hh := (F5.2.2.2.cell (p := ⟨bh, _, none⟩) hbh).trans h1
                have hTY := foT_succ_yes (hl := hl) (p := p) (la := la) (oc := oc) (j := j)
                have hTN := foT_succ_no (hl := hl) (p := p) (la := la) (oc := oc) (j := j)
                obtain ⟨hp', hhp⟩ : ∃ hp', hPi hl j = hp' := ⟨_, rfl⟩
                rw [hhp] at hh hTY hTN
                rw [← HQ.out] at hTY hTN
                have HTY := hide hTY
                have HTN := hide hTN
                have HN5' := hide hn5
                have nn := cell_of_row _ _ 1 _ _ _ F5.2.2.1
                simp at nn
                have l7 := HOC.out ▸ F5.oc hk3
                obtain ⟨tb, htb⟩ : ∃ tb, (hp' == q) = tb := ⟨_, rfl⟩
                clear hTY hTN hhp h1 hn5
                go_wp2_with fail
                have hWd : Below wr.heap.size wr wr.drew := (Below.refl _ _).drew
                refine wp_region_held_drew (S := fun Y => Y.cell? ⟨b, 1, none⟩ = some (.slice (some ⟨bh, oh, none⟩) hl.length c) ∧ Y.cell? ⟨bh, oh + j * 2, none⟩ = some (.int .i8 hp') ∧ Y.cell? ⟨gx, 1, none⟩ = some (.int .i8 p) ∧ Y.cell? ⟨g7, k, none⟩ = some (.int .i8 oc)) (by kernel_rfl) ⟨f1, hh, nn, l7⟩ fun hS => ?_
                have own5 := own_keep own5 hWd
                have F5 := F5.keep hWd
                clear f1 hh nn l7 hWd
                generalize wr.drew = W1 at *
                refine wpAnyH_take (i := 0) (v := .pointer (some ⟨b, 0, none⟩)) rfl (by kernel_rfl) (by kernel_rfl) (by kernel_rfl) (fun _ _ _ h => h) (Or.inl ⟨by rfl, fun w' _ => by go_simp⟩) hS ?_
                change wpAnyH _ _ _ _ _ _ _ (Act.put _ (some 52) _) _
                simp only [Act.put, List.setIfInBounds_toArray, List.set_cons_zero, List.set_cons_succ]
                refine wpAnyH_take (i := 1) (v := .pointer (some ⟨b, 0, none⟩)) rfl (by kernel_rfl) (by kernel_rfl) (by kernel_rfl) (fun _ _ _ h => h) (Or.inl ⟨by rfl, fun w' _ => by go_simp⟩) hS ?_
                change wpAnyH _ _ _ _ _ _ _ (Act.put _ (some 53) _) _
                simp only [Act.put, List.setIfInBounds_toArray, List.set_cons_zero, List.set_cons_succ]
                refine wpAnyH_take (i := 2) (v := .pointer (some ⟨b, 1, none⟩)) rfl (by kernel_rfl) (by kernel_rfl) (by kernel_rfl) (fun _ _ _ h => h) (Or.inl ⟨by rfl, fun w' _ => by go_simp⟩) hS ?_
                change wpAnyH _ _ _ _ _ _ _ (Act.put _ (some 54) _) _
                simp only [Act.put, List.setIfInBounds_toArray, List.set_cons_zero, List.set_cons_succ]
                refine wpAnyH_take (i := 3) (v := .slice (some ⟨bh, oh, none⟩) hl.length c) rfl (by kernel_rfl) (by kernel_rfl) (by kernel_rfl) (fun _ _ _ h => h) (Or.inl ⟨by rfl, fun w' h => ?_⟩) hS ?_
                · have c0 := h.1
                  have c1 := h.2.1
                  have c2 := h.2.2.1
                  have c3 := h.2.2.2
                  clear h
                  go_simp
                change wpAnyH _ _ _ _ _ _ _ (Act.put _ (some 55) _) _
                simp only [Act.put, List.setIfInBounds_toArray, List.set_cons_zero, List.set_cons_succ]
                refine wpAnyH_take (i := 4) (v := .int .i64 j) rfl (by kernel_rfl) (by kernel_rfl) (by kernel_rfl) (fun _ _ _ h => h) (Or.inl ⟨by rfl, fun w' _ => by go_simp⟩) hS ?_
                change wpAnyH _ _ _ _ _ _ _ (Act.put _ (some 56) _) _
                simp only [Act.put, List.setIfInBounds_toArray, List.set_cons_zero, List.set_cons_succ]
                refine wpAnyH_take (i := 5) (v := .pointer (some ⟨bh, oh + j * 2, none⟩)) rfl (by kernel_rfl) (by kernel_rfl) (by kernel_rfl) (fun _ _ _ h => h) (Or.inl ⟨by rfl, fun w' _ => by go_simp⟩) hS ?_
                change wpAnyH _ _ _ _ _ _ _ (Act.put _ (some 57) _) _
                simp only [Act.put, List.setIfInBounds_toArray, List.set_cons_zero, List.set_cons_succ]
                refine wpAnyH_take (i := 6) (v := .pointer (some ⟨bh, oh + j * 2, none⟩)) rfl (by kernel_rfl) (by kernel_rfl) (by kernel_rfl) (fun _ _ _ h => h) (Or.inl ⟨by rfl, fun w' _ => by go_simp⟩) hS ?_
                change wpAnyH _ _ _ _ _ _ _ (Act.put _ (some 58) _) _
                simp only [Act.put, List.setIfInBounds_toArray, List.set_cons_zero, List.set_cons_succ]
                refine wpAnyH_take (i := 7) (v := .int .i8 hp') rfl (by kernel_rfl) (by kernel_rfl) (by kernel_rfl) (fun _ _ _ h => h) (Or.inl ⟨by rfl, fun w' h => ?_⟩) hS ?_
                · have c0 := h.1
                  have c1 := h.2.1
                  have c2 := h.2.2.1
                  have c3 := h.2.2.2
                  clear h
                  go_simp
                change wpAnyH _ _ _ _ _ _ _ (Act.put _ (some 59) _) _
                simp only [Act.put, List.setIfInBounds_toArray, List.set_cons_zero, List.set_cons_succ]
                refine wpAnyH_take (i := 8) (v := .pointer (some ⟨gx, 1, none⟩)) rfl (by kernel_rfl) (by kernel_rfl) (by kernel_rfl) (fun _ _ _ h => h) (Or.inl ⟨by rfl, fun w' _ => by go_simp⟩) hS ?_
                change wpAnyH _ _ _ _ _ _ _ (Act.put _ (some 60) _) _
                simp only [Act.put, List.setIfInBounds_toArray, List.set_cons_zero, List.set_cons_succ]
                refine wpAnyH_take (i := 9) (v := .int .i8 p) rfl (by kernel_rfl) (by kernel_rfl) (by kernel_rfl) (fun _ _ _ h => h) (Or.inl ⟨by rfl, fun w' h => ?_⟩) hS ?_
                · have c0 := h.1
                  have c1 := h.2.1
                  have c2 := h.2.2.1
                  have c3 := h.2.2.2
                  clear h
                  go_simp
                change wpAnyH _ _ _ _ _ _ _ (Act.put _ (some 61) _) _
                simp only [Act.put, List.setIfInBounds_toArray, List.set_cons_zero, List.set_cons_succ]
                refine wpAnyH_take (i := 10) (v := .slice (some ⟨g7, 0, none⟩) 3 c7) rfl (by kernel_rfl) (by kernel_rfl) (by kernel_rfl) (fun _ _ _ h => h) (Or.inl ⟨by rfl, fun w' _ => by go_simp⟩) hS ?_
                change wpAnyH _ _ _ _ _ _ _ (Act.put _ (some 62) _) _
                simp only [Act.put, List.setIfInBounds_toArray, List.set_cons_zero, List.set_cons_succ]
                refine wpAnyH_take (i := 11) (v := .int .i64 k) rfl (by kernel_rfl) (by kernel_rfl) (by kernel_rfl) (fun _ _ _ h => h) (Or.inl ⟨by rfl, fun w' _ => by go_simp⟩) hS ?_
                change wpAnyH _ _ _ _ _ _ _ (Act.put _ (some 63) _) _
                simp only [Act.put, List.setIfInBounds_toArray, List.set_cons_zero, List.set_cons_succ]
                refine wpAnyH_take (i := 12) (v := .pointer (some ⟨g7, k, none⟩)) rfl (by kernel_rfl) (by kernel_rfl) (by kernel_rfl) (fun _ _ _ h => h) (Or.inl ⟨by rfl, fun w' _ => by go_simp⟩) hS ?_
                change wpAnyH _ _ _ _ _ _ _ (Act.put _ (some 64) _) _
                simp only [Act.put, List.setIfInBounds_toArray, List.set_cons_zero, List.set_cons_succ]
                refine wpAnyH_take (i := 13) (v := .int .i8 oc) rfl (by kernel_rfl) (by kernel_rfl) (by kernel_rfl) (fun _ _ _ h => h) (Or.inl ⟨by rfl, fun w' h => ?_⟩) hS ?_
                · have c0 := h.1
                  have c1 := h.2.1
                  have c2 := h.2.2.1
                  have c3 := h.2.2.2
                  clear h
                  go_simp
                change wpAnyH _ _ _ _ _ _ _ (Act.put _ (some 65) _) _
                simp only [Act.put, List.setIfInBounds_toArray, List.set_cons_zero, List.set_cons_succ]
                refine wpAnyH_take (i := 14) (v := .int .i8 (12 * oc)) rfl (by kernel_rfl) (by kernel_rfl) (by kernel_rfl) (fun _ _ _ h => h) (Or.inl ⟨by rfl, fun w' _ => by go_simp⟩) hS ?_
                change wpAnyH _ _ _ _ _ _ _ (Act.put _ (some 66) _) _
                simp only [Act.put, List.setIfInBounds_toArray, List.set_cons_zero, List.set_cons_succ]
                refine wpAnyH_take (i := 15) (v := .int .i8 q) rfl (by kernel_rfl) (by kernel_rfl) (by kernel_rfl) (fun _ _ _ h => h) (Or.inl ⟨by rfl, fun w' _ => by go_simp⟩) hS ?_
                change wpAnyH _ _ _ _ _ _ _ (Act.put _ (some 67) _) _
                simp only [Act.put, List.setIfInBounds_toArray, List.set_cons_zero, List.set_cons_succ]
                refine wpAnyH_take (i := 16) (v := .bool tb) rfl (by kernel_rfl) (by kernel_rfl) (by kernel_rfl) (fun _ _ _ h => h) (Or.inl ⟨by rfl, fun w' _ => by go_simp⟩) hS ?_
                change wpAnyH _ _ _ _ _ _ _ (Act.put _ (some 68) _) _
                simp only [Act.put, List.setIfInBounds_toArray, List.set_cons_zero, List.set_cons_succ]
                refine wpAnyH_done (by kernel_rfl) ?_ _
                clear hS
                cases tb
                · have hne : ¬ hp' = q := by simpa using htb
                  have HR2 := hide (HTN.out hne)
                  clear htb hne
                  go_wp2_with fail
                  go_roundw
                  case rel => exact ⟨j + 1, n5, hjl, by go_num, by rw [HR2.out]; exact HN5'.out, by rw [HR2.out]; exact own5, F5⟩
                  case measure => simp [intOf]; omega
                · have heq : hp' = q := by simpa using htb
                  have HR2 := hide (HTY.out heq)
                  clear htb heq
                  go_upto_region 15 with fail
                  have wj : IntKind.i8.wrap (j : Int) = j := by simp [IntKind.wrap, IntKind.signed, IntKind.bits]; omega
                  have hWd : Below W1.heap.size W1 W1.drew := (Below.refl _ _).drew
                  refine wp_region_held_drew (S := fun Y => Y.cell? ⟨g6, i, none⟩ = some (.int .i8 la) ∧ Y.cell? ⟨g7, k, none⟩ = some (.int .i8 oc)) (by kernel_rfl) ⟨HLA.out ▸ (F5.keep hWd).la hi7, HOC.out ▸ (F5.keep hWd).oc hk3⟩ fun hS => ?_
                  have own5 := own_keep own5 hWd
                  have F5 := F5.keep hWd
                  generalize W1.drew = W3 at *
                  obtain ⟨W5, hW5⟩ : ∃ W5, W5 = W3.alloc (.cells #[.bool false, .int .i8 la, .int .i8 oc, .int .i8 j] 63) := ⟨_, rfl⟩
                  have hb5 : Below W3.heap.size W3 W5 := by rw [hW5]; exact (Below.refl _ _).alloc (Nat.le_refl _) _
                  have own8 := own_keep own5 hb5
                  have hnew5 : ∀ j' u, ([.bool false, .int .i8 la, .int .i8 oc, .int .i8 j] : List Value)[j']? = some u → W5.cell? ((⟨W3.heap.size, 0, none⟩ : Addr).add j') = some u := by rw [hW5]; exact cells_four W3 _ _ _ _ _
                  obtain ⟨g5, hg5⟩ : ∃ g5, g5 = W3.heap.size := ⟨_, rfl⟩
                  rw [← hg5] at hnew5
                  have HG5 := hide hg5
                  have F5 := F5.keep hb5
                  have hb8 := F5.2.2.2
                  clear own5 hWd hb5 hg5
                  have HW5 := hide hW5
                  clear hW5
                  refine wpAnyH_take (i := 0) (v := .slice A5 n5 c5) rfl (by kernel_rfl) (by kernel_rfl) (by kernel_rfl) (fun _ _ _ h => h) (Or.inl ⟨by rfl, fun w' _ => by go_simp⟩) hS ?_
                  change wpAnyH _ _ _ _ _ _ _ (Act.put _ (some 69) _) _
                  simp only [Act.put, List.setIfInBounds_toArray, List.set_cons_zero, List.set_cons_succ]
                  refine wpAnyH_take (i := 1) (v := .slice (some ⟨g6, 0, none⟩) 7 c6) rfl (by kernel_rfl) (by kernel_rfl) (by kernel_rfl) (fun _ _ _ h => h) (Or.inl ⟨by rfl, fun w' _ => by go_simp⟩) hS ?_
                  change wpAnyH _ _ _ _ _ _ _ (Act.put _ (some 70) _) _
                  simp only [Act.put, List.setIfInBounds_toArray, List.set_cons_zero, List.set_cons_succ]
                  refine wpAnyH_take (i := 2) (v := .int .i64 i) rfl (by kernel_rfl) (by kernel_rfl) (by kernel_rfl) (fun _ _ _ h => h) (Or.inl ⟨by rfl, fun w' _ => by go_simp⟩) hS ?_
                  change wpAnyH _ _ _ _ _ _ _ (Act.put _ (some 71) _) _
                  simp only [Act.put, List.setIfInBounds_toArray, List.set_cons_zero, List.set_cons_succ]
                  refine wpAnyH_take (i := 3) (v := .pointer (some ⟨g6, i, none⟩)) rfl (by kernel_rfl) (by kernel_rfl) (by kernel_rfl) (fun _ _ _ h => h) (Or.inl ⟨by rfl, fun w' _ => by go_simp⟩) hS ?_
                  change wpAnyH _ _ _ _ _ _ _ (Act.put _ (some 72) _) _
                  simp only [Act.put, List.setIfInBounds_toArray, List.set_cons_zero, List.set_cons_succ]
                  refine wpAnyH_take (i := 4) (v := .int .i8 la) rfl (by kernel_rfl) (by kernel_rfl) (by kernel_rfl) (fun _ _ _ h => h) (Or.inl ⟨by rfl, fun w' h => ?_⟩) hS ?_
                  · have c0 := h.1
                    have c1 := h.2
                    clear h
                    go_simp
                  change wpAnyH _ _ _ _ _ _ _ (Act.put _ (some 73) _) _
                  simp only [Act.put, List.setIfInBounds_toArray, List.set_cons_zero, List.set_cons_succ]
                  refine wpAnyH_take (i := 5) (v := .slice (some ⟨g7, 0, none⟩) 3 c7) rfl (by kernel_rfl) (by kernel_rfl) (by kernel_rfl) (fun _ _ _ h => h) (Or.inl ⟨by rfl, fun w' _ => by go_simp⟩) hS ?_
                  change wpAnyH _ _ _ _ _ _ _ (Act.put _ (some 74) _) _
                  simp only [Act.put, List.setIfInBounds_toArray, List.set_cons_zero, List.set_cons_succ]
                  refine wpAnyH_take (i := 6) (v := .int .i64 k) rfl (by kernel_rfl) (by kernel_rfl) (by kernel_rfl) (fun _ _ _ h => h) (Or.inl ⟨by rfl, fun w' _ => by go_simp⟩) hS ?_
                  change wpAnyH _ _ _ _ _ _ _ (Act.put _ (some 75) _) _
                  simp only [Act.put, List.setIfInBounds_toArray, List.set_cons_zero, List.set_cons_succ]
                  refine wpAnyH_take (i := 7) (v := .pointer (some ⟨g7, k, none⟩)) rfl (by kernel_rfl) (by kernel_rfl) (by kernel_rfl) (fun _ _ _ h => h) (Or.inl ⟨by rfl, fun w' _ => by go_simp⟩) hS ?_
                  change wpAnyH _ _ _ _ _ _ _ (Act.put _ (some 76) _) _
                  simp only [Act.put, List.setIfInBounds_toArray, List.set_cons_zero, List.set_cons_succ]
                  refine wpAnyH_take (i := 8) (v := .int .i8 oc) rfl (by kernel_rfl) (by kernel_rfl) (by kernel_rfl) (fun _ _ _ h => h) (Or.inl ⟨by rfl, fun w' h => ?_⟩) hS ?_
                  · have c0 := h.1
                    have c1 := h.2
                    clear h
                    go_simp
                  change wpAnyH _ _ _ _ _ _ _ (Act.put _ (some 77) _) _
                  simp only [Act.put, List.setIfInBounds_toArray, List.set_cons_zero, List.set_cons_succ]
                  refine wpAnyH_take (i := 9) (v := .int .i64 j) rfl (by kernel_rfl) (by kernel_rfl) (by kernel_rfl) (fun _ _ _ h => h) (Or.inl ⟨by rfl, fun w' _ => by go_simp⟩) hS ?_
                  change wpAnyH _ _ _ _ _ _ _ (Act.put _ (some 78) _) _
                  simp only [Act.put, List.setIfInBounds_toArray, List.set_cons_zero, List.set_cons_succ]
                  refine wpAnyH_take (i := 10) (v := .int .i8 j) rfl (by kernel_rfl) (by kernel_rfl) (by kernel_rfl) (fun _ _ _ h => h) (Or.inl ⟨by rfl, fun w' _ => by go_simp⟩) hS ?_
                  change wpAnyH _ _ _ _ _ _ _ (Act.put _ (some 79) _) _
                  simp only [Act.put, List.setIfInBounds_toArray, List.set_cons_zero, List.set_cons_succ]
                  refine wpAnyH_take (i := 11) (v := .agg #[.bool false, .int .i8 la, .int .i8 oc, .int .i8 j]) rfl (by kernel_rfl) (by kernel_rfl) (by kernel_rfl) (fun _ _ _ h => h) (Or.inl ⟨by rfl, fun w' _ => by go_simp⟩) hS ?_
                  change wpAnyH _ _ _ _ _ _ _ (Act.put _ (some 80) _) _
                  simp only [Act.put, List.setIfInBounds_toArray, List.set_cons_zero, List.set_cons_succ]
                  refine wpAnyH_ready (rs := [12]) (by kernel_rfl) (by simp) (AllReadyH.cons rfl ?_ AllReadyH.nil)
                  intro K hK
                  rw [if_pos (by rfl)]
                  go_simp
                  rw [← HW5.out, ← HG5.out]
                  refine hK.out _ _ ⟨HLA.out ▸ F5.la hi7, HOC.out ▸ F5.oc hk3⟩ (fun hS2 => ?_)
                  clear hK K
                  try (change wpAnyH _ _ _ _ _ _ _ (Act.put _ (some 81) _) _)
                  try simp only [Act.put, List.setIfInBounds_toArray, List.set_cons_zero, List.set_cons_succ]
                  refine wpAnyH_ready (rs := [13]) (by kernel_rfl) (by simp) (AllReadyH.cons rfl ?_ AllReadyH.nil)
                  intro K hK
                  rw [if_pos (by rfl)]
                  refine wp_append_own W5 (.tmp 69) (.tmp 81) 40 rfl w.heap.size 63 i0 (.agg #[.bool false, .int .i8 0, .int .i8 0, .int .i8 0]) 4 4 Tryz.underlying40 hi hz0 hz1 hz2 rfl (by decide) _ _ _ rfl own8 ⟨g5, 0, none⟩ 1 1 [.bool false, .int .i8 la, .int .i8 oc, .int .i8 j] rfl rfl hnew5 (fun x hx => by simp at hx; rcases hx with rfl | rfl | rfl | rfl <;> rfl) (by unfold maxLen; omega) (by omega) hb8.size ?_
                  intro v6 w6 hown6 hgr6 hnil6
                  have hb6 : Below w.heap.size w w6 := hb8.grown hgr6 hb8.size (fun j hj => (own8.lt j hj).1)
                  have F6 : FoW w w6 X.heap.size w1.heap.size g6 c6 g7 c7 gx a p := ⟨own_row8 F5.1 own8 (by decide) hgr6, own_row8 F5.2.1 own8 (by decide) hgr6, row_row8 F5.2.2.1 own8 (by decide) hgr6, hb6⟩
                  refine hK.out _ _ ⟨HLA.out ▸ F6.la hi7, HOC.out ▸ F6.oc hk3⟩ (fun hS3 => ?_)
                  clear hK K hS2
                  obtain ⟨A6, c9, rfl⟩ := own_shapeG hown6
                  try (change wpAnyH _ _ _ _ _ _ _ (Act.put _ (some 82) _) _)
                  try simp only [Act.put, List.setIfInBounds_toArray, List.set_cons_zero, List.set_cons_succ]
                  refine wpAnyH_take (i := 14) (v := .slice A6 (n5 + 1) c9) rfl (by kernel_rfl) (by kernel_rfl) (by kernel_rfl) (fun _ _ _ h => h) (Or.inl ⟨by rfl, fun w' _ => by go_simp⟩) hS3 ?_
                  change wpAnyH _ _ _ _ _ _ _ (Act.put _ (some 5) _) _
                  simp only [Act.put, List.setIfInBounds_toArray, List.set_cons_zero, List.set_cons_succ]
                  refine wpAnyH_done (by kernel_rfl) ?_ _
                  go_wp2_with fail
                  go_roundw
                  case rel => exact ⟨j + 1, n5 + 1, hjl, by go_num, by rw [HR2.out, ← List.append_assoc, List.length_append, ← HN5'.out]; rfl, by rw [HR2.out, ← List.append_assoc, chC_append]; exact hown6, F6⟩
                  case measure => simp [intOf]; omega
              · obtain rfl : j = hl.length := by omega
                have HR2 := hide (show P0 ++ foK hl p la (k + 1) = P1 ++ foT hl p la oc hl.length by rw [HKS.out, HP1.out, List.append_assoc])
                have HN5' := hide hn5
                clear hn5
                go_wp2_with fail
                go_roundw
                case rel => exact ⟨k + 1, n5, hk3, by go_num, by rw [HR2.out]; exact HN5'.out, by rw [HR2.out]; exact own5, F5⟩
                case measure => simp [intOf]; omega
          · obtain rfl : k = 3 := by omega
            have HN6 := hide hn6
            clear hn6
            go_wp2_with fail
            go_roundw
            case rel => exact ⟨i + 1, n6, hi7, by go_num, by rw [HR.out]; exact HN6.out, by rw [HR.out]; exact own6, F6⟩
            case measure => simp [intOf]; omega
    · obtain rfl : i = 7 := by omega
      rw [HI7.out] at hn5 own5
      have HN5 := hide hn5
      have hnew5 := cells_four wr (.bool true) (.int .i8 0) (.int .i8 0) (.int .i8 0) 63
      have own8 := own5.alloc (.cells #[.bool true, .int .i8 0, .int .i8 0, .int .i8 0] 63)
      have hb5 := F5.2.2.2
      clear hn5
      go_wp2_with (at_builtin; refine wpList_append_own _ rfl _ _ 40 rfl w.heap.size 63 i0 (.agg #[.bool false, .int .i8 0, .int .i8 0, .int .i8 0]) 4 4 Tryz.underlying40 hi hz0 hz1 hz2 rfl (by decide) _ _ _ rfl own8 ⟨wr.heap.size, 0, none⟩ 1 1 [.bool true, .int .i8 0, .int .i8 0, .int .i8 0] rfl rfl hnew5 (fun x hx => by simp at hx; rcases hx with rfl | rfl | rfl | rfl <;> rfl) (by unfold maxLen; omega) (by omega) (by simp; have := hb5.size; omega) ?_; intro v6 w6 hown6 hgr6 hnil6)
      have hb6 := (hb5.alloc hb5.size (.cells #[.bool true, .int .i8 0, .int .i8 0, .int .i8 0] 63)).grown hgr6 (by simp; have := hb5.size; omega) (fun j hj => (own5.lt j hj).1)
      obtain ⟨A6, c9, rfl⟩ := own_shapeG hown6
      go_ret
      have hlen : (chS s hl a p).length = n5 + 1 := by rw [chS, List.length_append, ← HN5.out]; rfl
      exact ⟨A6, c9, by rw [hlen]; rfl, by rw [hlen, chS, chC_append]; exact hown6, hb6⟩
end Go.Proofs.YtcepjiglhlmgdaaGreatDoor
