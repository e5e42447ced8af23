import Derived.Test.YtncdgjaadlpncaaDoorIpl
import Derived.Test.YtncdgjaadlpncaaDoorUs
import Derived.Test.YtncdgjaadlpncaaDoorCst
import Derived.Deep.RegionHeld3
namespace Go.Proofs.YtncdgjaadlpncaaDoor
open Go.RowKit

theorem or_in {s : Int} {n : Nat} {p q : Nat → Int} (hp : DWF p) (hq : DWF q) (h1 : drB s n p = true) (h2 : drB s n q = true) : drB s n (orD p q) = true := by
  have a1 := drB_all h1
  have a2 := drB_all h2
  refine drB_yes fun i hi => ?_
  have b1 := a1 i hi
  have b2 := a2 i hi
  have c1 := hp i hi
  have c2 := hq i hi
  obtain ⟨x, hx⟩ : ∃ x : Nat, p i = (x : Int) := ⟨(p i).toNat, by omega⟩
  obtain ⟨y, hy⟩ : ∃ y : Nat, q i = (y : Int) := ⟨(q i).toNat, by omega⟩
  simp only [stepB, Bool.and_eq_true, decide_eq_true_eq, Bool.or_eq_true, hx, hy] at b1 b2
  have hpow : 0 < 2 ^ n := Nat.pow_pos (by omega)
  have lt : ∀ z : Nat, (z : Int) / 2 ^ n = 0 → z < 2 ^ n := by
    intro z hz
    have h3 : ((z / 2 ^ n : Nat) : Int) = 0 := by rw [← hz]; push_cast; rfl
    have h4 : z / 2 ^ n = 0 := by omega
    have h5 := Nat.lt_mul_div_succ z hpow
    rw [h4] at h5
    omega
  have hor := Nat.or_lt_two_pow (lt x b1.1) (lt y b2.1)
  have e : orD p q i = ((x ||| y : Nat) : Int) := by rw [orD, hx, hy, or_nat x y (by omega) (by omega)]
  simp only [stepB, Bool.and_eq_true, decide_eq_true_eq, Bool.or_eq_true, e]
  refine ⟨?_, ?_⟩
  · have h0 : (x ||| y) / 2 ^ n = 0 := Nat.div_eq_of_lt hor
    have : (((x ||| y) / 2 ^ n : Nat) : Int) = 0 := by rw [h0]; rfl
    rw [← this]; push_cast; rfl
  · rcases b1.2 with h | h
    · exact Or.inl h
    · rcases b2.2 with h' | h'
      · exact Or.inl h'
      · right
        have e1 : x = 0 := by omega
        have e2 : y = 0 := by omega
        rw [e1, e2]; rfl
theorem un_two {a b : Nat → Int} (ha : DWF a) (hb : DWF b) (i : Nat) (hi : i < 96) : orD a b i = unT [a, b] 2 i := by
  have c1 := ha i hi
  obtain ⟨x, hx⟩ : ∃ x : Nat, a i = (x : Int) := ⟨(a i).toNat, by omega⟩
  show bits .or .u32 (a i) (b i) = bits .or .u32 (bits .or .u32 0 (a i)) (b i)
  rw [hx, show (0 : Int) = ((0 : Nat) : Int) from rfl, or_nat 0 x (by omega) (by omega), Nat.zero_or]
theorem da_congr {p q : Nat → Int} (h : ∀ i, i < 96 → p i = q i) : da p = da q := by unfold da; rw [dv_congr h]
theorem drB_same {s : Int} {n : Nat} {p q : Nat → Int} (h : ∀ i, i < 96 → p i = q i) (hp : drB s n p = true) : drB s n q = true := by
  have a := drB_all hp
  refine drB_yes fun i hi => ?_
  have := a i hi
  unfold stepB at this ⊢
  rw [← h i hi]
  exact this
/-- the number of clashes of the union is 0 -/
def nclN (S : Nat) (u : Nat → Int) (l : List (Int × Int)) : Nat := (clsF S u l (pinsL u)).length
def csB (s : Int) (l : List (Int × Int)) (a b : Nat → Int) : Bool := ask2B s l a b && decide (nclN s.toNat (unT [a, b] 2) l = 0)
theorem ask2_all {s : Int} {l : List (Int × Int)} {a b : Nat → Int} (h : ask2B s l a b = true) : askB s l a = true ∧ askB s l b = true := by
  simp only [ask2B, askB, Bool.and_eq_true] at h ⊢
  exact ⟨⟨h.1, h.2.1⟩, h.1, h.2.2⟩

set_option maxRecDepth 20000 in
set_option maxHeartbeats 1000000 in
theorem l05Share_any (x g e : Nat) (S : Nat) (A : Option Addr) (c : Nat) (l : List (Int × Int)) (ds : List (Nat → Int)) (w : World) (hF : FP w x S A l.length c) (hA : HA w A l) (hS : 2 ≤ S ∧ S ≤ 96) (hl : l.length ≤ 24) (hg : HG S l l.length)
    (hL : LD w g ds) (hds : ds.length ≤ 1048576) (hdr : drB (S : Int) l.length (unT ds ds.length) = true) :
    Calls Tryd.prog 43 #[.pointer (some ⟨x, 0, none⟩), .slice (some ⟨g, 0, none⟩) ds.length e] w (Says (decide (nclN S (unT ds ds.length) l = 0)) w) := by
  have hz := zeroDrum
  go_enter Tryd.func43, Tryd.ntmps43
  go_wp2_with fail
  refine (l05Union_any g e ds _ hL hds).mono ?_
  rintro e' w1 ⟨rfl, hb1⟩
  obtain ⟨u, hu⟩ : ∃ u, u = unT ds ds.length := ⟨_, rfl⟩
  have huw : DWF u := by rw [hu]; exact unT_wf ds _
  have HU := hide hu
  rw [← hu] at hdr
  rw [← hu]
  clear hu
  have hza : za.size = (da u).size := by rw [da_size]; rfl
  obtain ⟨X2, hX2⟩ : ∃ X, X = w1.alloc (.cells (da u) 31) := ⟨_, rfl⟩
  have hb2 : Below w1.heap.size w1 X2 := by rw [hX2]; exact (Below.refl _ _).alloc (Nat.le_refl _) _
  have b2 := step_below hb2 hb1
  have D2 : Dr X2 w1.heap.size 31 u := by rw [hX2]; exact heap_new' _ _ _ rfl
  go_upto_region 2 with (with_reducible refine wpList_store_new rfl 31 (.tmp 5) (.tmp 7) rfl u rfl rfl 31 _ (dInfo u) hza ?_)
  rw [← hX2]
  clear hX2 hz hza
  go_wp2_with fail
  refine (l02Clashes_any _ _ S A c l u _ (hF.keep b2) D2 (hA.below b2) hS hl hg hdr huw).mono ?_
  rintro e' w3 ⟨A3, c3, rfl, own3, hb3⟩
  have hlen : (clsF S u l (pinsL u)).length ≤ 4000 := by
    have h1 := List.length_filter_le (fun p : Nat × Nat => nextB S u p.1 p.2 (hRe l p.2).toNat) (pinsL u)
    have h2 := pinsT_len u 96
    unfold clsF
    unfold pinsL at h1 ⊢
    omega
  have HN := hide (show nclN S u l = (clsF S u l (pinsL u)).length from rfl)
  obtain ⟨N, hN⟩ : ∃ N, (clsF S u l (pinsL u)).length = N := ⟨_, rfl⟩
  rw [hN] at HN hlen ⊢
  have hdn : ((N : Int) == 0) = decide (N = 0) := by
    by_cases h : N = 0 <;> simp [h]
  go_wp2
  go_ret
  exact ⟨ret_bool (by rw [← HU.out, HN.out]), step_below hb3 b2⟩

set_option maxRecDepth 20000 in
set_option maxHeartbeats 1000000 in
theorem specCanShare_any (s : Int) (A : Option Addr) (c : Nat) (l : List (Int × Int)) (a b : Nat → Int) (w : World) (hA : HA w A l) (hn : l.length ≤ 1048576) (hwf : HWF l) (hs : -32768 ≤ s ∧ s ≤ 32767) (ha : DWF a) (hb : DWF b) :
    Calls Tryd.prog 22 #[.agg #[.int .i16 s, .slice A l.length c], .agg (da a), .agg (da b)] w (Pair (.bool (csB s l a b)) (.int .i64 (codeI (ask2B s l a b))) w) := by
  obtain ⟨X0, hX⟩ : ∃ X, X = ((w.alloc (.cells #[.int .i16 s, .slice A l.length c] 36)).alloc (.cells (da a) 31)).alloc (.cells (da b) 31) := ⟨_, rfl⟩
  have b0 : Below w.heap.size w X0 := by rw [hX]; exact (((Below.refl _ _).alloc (Nat.le_refl _) _).alloc (by simp) _).alloc (by simp; omega) _
  have F0 : FP X0 w.heap.size s A l.length c := by rw [hX]; exact ⟨by simp [go_sem], by simp [go_sem]⟩
  have D0 : Dr X0 (w.heap.size + 1) 31 a := by rw [hX]; exact heap_old' (heap_new' _ _ _ (by simp))
  have E0 : Dr X0 (w.heap.size + 1 + 1) 31 b := by rw [hX]; exact heap_new' _ _ _ (by simp)
  go_enter Tryd.func22, Tryd.ntmps22
  go_upto_region 1 with fail
  rw [← hX]
  clear hX
  go_wp2_with fail
  refine (l05Both_any _ _ _ s A c l a b _ F0 (hA.below b0) hn hwf hs D0 E0 ha hb).mono ?_
  rintro e w1 ⟨rfl, hb1⟩
  have b1 := step_below hb1 b0
  cases hf : ask2B s l a b
  · have HX := hide (show csB s l a b = false by simp [csB, hf])
    have HC := hide hf
    clear hf
    simp only [codeI]
    go_wp2
    go_ret2
    exact ⟨by rw [HX.out, HC.out]; rfl, b1⟩
  obtain ⟨haa, hab⟩ := ask2_all hf
  have hfa := ask_all haa
  have hfb := ask_all hab
  obtain ⟨S, hSs⟩ : ∃ S : Nat, s = (S : Int) := ⟨s.toNat, by omega⟩
  have hS2 : 2 ≤ S ∧ S ≤ 96 := by omega
  have hSn : s.toNat = S := by omega
  have HX := hide (show csB s l a b = decide (nclN S (unT [a, b] 2) l = 0) by simp [csB, hf, hSn])
  have HC := hide hf
  have hdr : drB s l.length (unT [a, b] [a, b].length) = true := drB_same (un_two ha hb) (or_in ha hb hfa.2.2.2 hfb.2.2.2)
  subst hSs
  have hl24 := hfa.2.1.2
  have HG1 := hide hfa.2.2.1
  have HV := hide hdr
  have D1 := hide (D0.keep hb1).range
  have E1 := hide (E0.keep hb1).range
  have hL2 := LD2 w1 a b
  have hal : Below w1.heap.size w1 (w1.alloc (.cells (da a ++ da b) 31)) := (Below.refl _ _).alloc (Nat.le_refl _) _
  have b2 := step_below hal b1
  have F2 := (F0.keep hb1).keep hal
  simp only [codeI]
  clear hf hfa hfb haa hab hdr hSn
  go_wp2_with (first | (with_reducible refine wpList_load_da rfl 31 (.tmp 4) rfl (w.heap.size + 1) 0 rfl a _ D1.out Tryd.underlying31 rfl (dInfo a) ?_) | (with_reducible refine wpList_load_da rfl 31 (.tmp 5) rfl (w.heap.size + 1 + 1) 0 rfl b _ E1.out Tryd.underlying31 rfl (dInfo b) ?_) | (with_reducible refine wpList_build2 rfl (.tmp 13) (.tmp 14) rfl a b rfl rfl ?_))
  refine (l05Share_any _ w1.heap.size 2 S A c l [a, b] _ F2 (hA.below b2) hS2 hl24 HG1.out hL2 (by simp) HV.out).mono ?_
  rintro e w3 ⟨rfl, hb3⟩
  go_wp2
  go_ret2
  exact ⟨by rw [HX.out, HC.out]; rfl, step_below hb3 b2⟩

set_option maxRecDepth 20000 in
set_option maxHeartbeats 1000000 in
theorem shared_any (S : Nat) (A : Option Addr) (c : Nat) (l : List (Int × Int)) (p q u : Nat → Int) (w : World) (hA : HA w A l) (hS : 2 ≤ S ∧ S ≤ 96) (hl : l.length ≤ 24) (hg : HG S l l.length) (hu : da (orD p q) = da u) (huw : DWF u) (hdr : drB (S : Int) l.length u = true) (hT : TabW w) :
    Calls Tryd.prog 44 #[.agg #[.int .i64 S, .slice A l.length c], .agg (da p), .agg (da q)] w fun e w' => e = .returned (.tuple #[.agg (da u), .bool (decide (nclN S u l = 0))]) ∧ Below w.heap.size w w' := by
  have hz := zeroDrum
  obtain ⟨X0, hX⟩ : ∃ X, X = (((w.alloc (.cells #[.int .i64 S, .slice A l.length c] 64)).alloc (.cells (da p) 31)).alloc (.cells (da q) 31)).alloc (.cells za 31) := ⟨_, rfl⟩
  have b0 : Below w.heap.size w X0 := by rw [hX]; exact ((((Below.refl _ _).alloc (Nat.le_refl _) _).alloc (by simp) _).alloc (by simp; omega) _).alloc (by simp; omega) _
  have m0 : X0.cell? ⟨w.heap.size, 0, none⟩ = some (.int .i64 S) := by rw [hX]; simp [go_sem]
  have m1 : X0.cell? ⟨w.heap.size, 1, none⟩ = some (.slice A l.length c) := by rw [hX]; simp [go_sem]
  have P0 : Dr X0 (w.heap.size + 1) 31 p := by rw [hX]; exact heap_old' (heap_old' (heap_new' _ _ _ (by simp)))
  have Q0 : Dr X0 (w.heap.size + 1 + 1) 31 q := by rw [hX]; exact heap_old' (heap_new' _ _ _ (by simp))
  have Z0 : Dr X0 (w.heap.size + 1 + 1 + 1) 31 (fun _ => 0) := by rw [hX, za_eq]; exact heap_new' _ _ _ (by simp)
  have HP := hide P0.range
  have HQ := hide Q0.range
  go_enter Tryd.func44, Tryd.ntmps44
  go_upto_region 1 with fail
  rw [← hX]
  clear hX
  go_wp2_with (first | (with_reducible refine wpList_load_da rfl 31 (.tmp 4) rfl (w.heap.size + 1) 0 rfl p _ HP.out Tryd.underlying31 rfl (dInfo p) ?_) | (with_reducible refine wpList_load_da rfl 31 (.tmp 5) rfl (w.heap.size + 1 + 1) 0 rfl q _ HQ.out Tryd.underlying31 rfl (dInfo q) ?_))
  refine (plus_any p q _).mono ?_
  rintro e w1 ⟨rfl, hb1⟩
  rw [hu]
  have b1 := step_below hb1 b0
  have hza : za.size = (da u).size := by rw [da_size]; rfl
  obtain ⟨X2, hX2⟩ : ∃ X, X = w1.alloc (.cells (da u) 31) := ⟨_, rfl⟩
  have hb2 : Below w1.heap.size w1 X2 := by rw [hX2]; exact (Below.refl _ _).alloc (Nat.le_refl _) _
  have b2 := step_below hb2 b1
  have U2 : Dr X2 w1.heap.size 31 u := by rw [hX2]; exact heap_new' _ _ _ rfl
  have Z2 := (Z0.keep hb1).keep hb2
  have k0 := (hb2.cell (p := ⟨w.heap.size, 0, none⟩) (World.block_lt_of_cell? _ _ ((hb1.cell (p := ⟨w.heap.size, 0, none⟩) (World.block_lt_of_cell? _ _ m0)).trans m0))).trans ((hb1.cell (p := ⟨w.heap.size, 0, none⟩) (World.block_lt_of_cell? _ _ m0)).trans m0)
  have k1 := (hb2.cell (p := ⟨w.heap.size, 1, none⟩) (World.block_lt_of_cell? _ _ ((hb1.cell (p := ⟨w.heap.size, 1, none⟩) (World.block_lt_of_cell? _ _ m1)).trans m1))).trans ((hb1.cell (p := ⟨w.heap.size, 1, none⟩) (World.block_lt_of_cell? _ _ m1)).trans m1)
  go_upto_region 2 with (with_reducible refine wpList_store_new rfl 31 (.tmp 8) (.tmp 11) rfl u rfl rfl 31 _ (dInfo u) hza ?_)
  rw [← hX2]
  clear hX2 hz hza hu
  go_wp2_with fail
  have hd0 : Below X2.heap.size X2 X2.drew := (Below.refl _ _).drew
  have b3 := b2.drew
  have U3 := U2.keep hd0
  have Z3 := Z2.keep hd0
  have n0 := (hd0.cell (p := ⟨w.heap.size, 0, none⟩) (World.block_lt_of_cell? _ _ k0)).trans k0
  have n1 := (hd0.cell (p := ⟨w.heap.size, 1, none⟩) (World.block_lt_of_cell? _ _ k1)).trans k1
  refine wp_region_held_drew (S := fun w' => w'.cell? ⟨w.heap.size, 0, none⟩ = some (.int .i64 S) ∧ w'.cell? ⟨w.heap.size, 1, none⟩ = some (.slice A l.length c) ∧ w'.rangeAt w1.heap.size 0 (dv u)) (by kernel_rfl) ⟨n0, n1, U3.range⟩ fun hSr => ?_
  refine wpAnyH_take (i := 0) rfl (by kernel_rfl) (by kernel_rfl) (by kernel_rfl) (fun _ _ _ h => h) (yieldsIf_load_mid (by rfl) _ _ rfl w1.heap.size 0 rfl (dv u) _ (fun _ h => h.2.2) Tryd.underlying31 rfl (dInfo u)) hSr ?_
  simp only [Act.put, List.setIfInBounds_toArray, List.set_cons_zero, List.set_cons_succ]
  refine wpAnyH_take (i := 1) (v := .agg #[.int .i64 S, .slice A l.length c]) rfl (by kernel_rfl) (by kernel_rfl) (by kernel_rfl) (fun _ _ _ h => h) (Or.inl ⟨by rfl, fun w' h => ?_⟩) hSr ?_
  · have c0 := h.1
    have c1 := h.2.1
    clear h
    go_simp
  change wpAnyH _ _ _ _ _ _ _ (Act.put _ (some 13) _) _
  simp only [Act.put, List.setIfInBounds_toArray, List.set_cons_zero, List.set_cons_succ]
  refine wpAnyH_take (i := 2) rfl (by kernel_rfl) (by kernel_rfl) (by kernel_rfl) (fun _ _ _ h => h) (yieldsIf_load_mid (by rfl) _ _ rfl w1.heap.size 0 rfl (dv u) _ (fun _ h => h.2.2) Tryd.underlying31 rfl (dInfo u)) hSr ?_
  simp only [Act.put, List.setIfInBounds_toArray, List.set_cons_zero, List.set_cons_succ]
  refine wpAnyH_take (i := 4) (v := .agg (da fun _ => 0)) rfl (by kernel_rfl) (by kernel_rfl) (by kernel_rfl) (fun _ _ _ h => h) (Or.inl ⟨by rfl, fun w' h => ?_⟩) hSr ?_
  · clear h
    go_simp
    exact za_eq
  change wpAnyH _ _ _ _ _ _ _ (Act.put _ (some 16) _) _
  simp only [Act.put, List.setIfInBounds_toArray, List.set_cons_zero, List.set_cons_succ]
  refine wpAnyH_ready (rs := [3]) (by kernel_rfl) (by simp) (AllReadyH.cons rfl ?_ AllReadyH.nil)
  intro K hK
  rw [if_pos (by rfl)]
  go_simp
  refine (clashes_any S A c l u _ (hA.below b3) hS hl hg hdr huw (hT.keep b3)).mono ?_
  rintro e w4 ⟨rfl, hb4⟩
  have b4 := step_below hb4 b3
  have U4 := U3.keep hb4
  have Z4 := Z3.keep hb4
  have s0 := (hb4.cell (p := ⟨w.heap.size, 0, none⟩) (World.block_lt_of_cell? _ _ n0)).trans n0
  have s1 := (hb4.cell (p := ⟨w.heap.size, 1, none⟩) (World.block_lt_of_cell? _ _ n1)).trans n1
  refine hK.out _ _ ⟨s0, s1, U4.range⟩ (fun hS4 => ?_)
  clear hK K hSr
  have hEQ := fun W => eqDr (clD S u l) (fun _ => 0) (clD_wf S u l) zero_wf W
  refine wpAnyH_take (i := 5) (v := .bool (sameD (clD S u l) (fun _ => 0))) rfl (by kernel_rfl) (by kernel_rfl) (by kernel_rfl) (fun _ _ _ h => h) (Or.inl ⟨by rfl, fun w' _ => by go_simp⟩) hS4 ?_
  change wpAnyH _ _ _ _ _ _ _ (Act.put _ (some 17) _) _
  simp only [Act.put, List.setIfInBounds_toArray, List.set_cons_zero, List.set_cons_succ]
  have R4 : w4.heap[w.heap.size + 1 + 1 + 1]? = some (.cells (da fun _ => 0) 31 (0, 0)) := Z4
  have hlu : w1.heap.size ≠ w.heap.size + 1 + 1 + 1 := by have := (Z0.keep hb1).lt; omega
  have t2 : (w4.setRow (w.heap.size + 1 + 1 + 1) (da u)).rangeAt w1.heap.size 0 (dv u) := fun i v hv => (cell_block (setRow_other _ _ _ _ hlu)).trans (U4.range i v hv)
  refine wpAnyH_ready (rs := [6]) (by kernel_rfl) (by simp) (AllReadyH.cons rfl ?_ AllReadyH.nil)
  intro K hK
  rw [if_pos (by rfl)]
  refine wp_store_row 31 (.tmp 6) (.tmp 12) rfl (w.heap.size + 1 + 1 + 1) (da u) rfl rfl 31 _ R4 (by rw [da_size]; exact info31) (by simp only [da_size]) (da_one _) ?_
  refine hK.out _ _ ⟨(cell_block (setRow_other _ _ _ _ (by omega))).trans s0, (cell_block (setRow_other _ _ _ _ (by omega))).trans s1, t2⟩ (fun hS5 => ?_)
  clear hK K hS4
  refine wpAnyH_take (i := 7) (v := .bool (sameD (clD S u l) (fun _ => 0))) rfl (by kernel_rfl) (by kernel_rfl) (by kernel_rfl) (fun _ _ _ h => h) (Or.inl ⟨by rfl, fun w' _ => by go_simp⟩) hS5 ?_
  change wpAnyH _ _ _ _ _ _ _ (Act.put _ (some 7) _) _
  simp only [Act.put, List.setIfInBounds_toArray, List.set_cons_zero, List.set_cons_succ]
  refine wpAnyH_done (by kernel_rfl) ?_ _
  clear hEQ
  go_wp2_with fail
  exact bodyPost_ret (v := .tuple #[.agg (da u), .bool (sameD (clD S u l) (fun _ => 0))]) (results_dr Tryd.results44 _ _ (w.heap.size + 1 + 1 + 1) 31 _ _ (by simp [Act.put]) (by simp [Act.put]) (setRow_heap _ _ _ _ _ _ R4)) rfl ⟨by rw [same_empty S u l huw]; rfl, below_setRow b4 (by omega)⟩
set_option maxRecDepth 20000 in
set_option maxHeartbeats 1000000 in
theorem implCanShare_any (s : Int) (A : Option Addr) (c : Nat) (l : List (Int × Int)) (a b : Nat → Int) (w : World) (hA : HA w A l) (hn : l.length ≤ 1048576) (hwf : HWF l) (hs : -32768 ≤ s ∧ s ≤ 32767) (ha : DWF a) (hb : DWF b) (hT : TabW w) :
    Calls Tryd.prog 23 #[.agg #[.int .i16 s, .slice A l.length c], .agg (da a), .agg (da b)] w (Pair (.bool (csB s l a b)) (.int .i64 (codeI (ask2B s l a b))) w) := by
  have hb0 : Below w.heap.size w (((w.alloc (.cells #[.int .i16 s, .slice A l.length c] 36)).alloc (.cells (da a) 31)).alloc (.cells (da b) 31)) := (((Below.refl _ _).alloc (Nat.le_refl _) _).alloc (by simp) _).alloc (by simp; omega) _
  have hD : Dr (((w.alloc (.cells #[.int .i16 s, .slice A l.length c] 36)).alloc (.cells (da a) 31)).alloc (.cells (da b) 31)) (w.heap.size + 1) 31 a := heap_old' (heap_new' _ _ _ (by simp))
  have hE : Dr (((w.alloc (.cells #[.int .i16 s, .slice A l.length c] 36)).alloc (.cells (da a) 31)).alloc (.cells (da b) 31)) (w.heap.size + 1 + 1) 31 b := heap_new' _ _ _ (by simp)
  have HRa := hide hD.range
  have HRb := hide hE.range
  go_enter Tryd.func23, Tryd.ntmps23
  go_wp2_with (first | (with_reducible refine wpList_load_da rfl 31 (.tmp 4) rfl (w.heap.size + 1) 0 rfl a _ HRa.out Tryd.underlying31 rfl (dInfo a) ?_) | (with_reducible refine wpList_load_da rfl 31 (.tmp 5) rfl (w.heap.size + 1 + 1) 0 rfl b _ HRb.out Tryd.underlying31 rfl (dInfo b) ?_) | (with_reducible refine wpList_build2 rfl (.tmp 14) (.tmp 15) rfl a b rfl rfl ?_))
  refine (machine2_any s A c l a b _ (hA.below hb0) hn hwf hs ha hb _ (by simp)).mono ?_
  rintro e w2 ⟨rfl, hb2⟩
  have hx0 : Below (((w.alloc (.cells #[.int .i16 s, .slice A l.length c] 36)).alloc (.cells (da a) 31)).alloc (.cells (da b) 31)).heap.size (((w.alloc (.cells #[.int .i16 s, .slice A l.length c] 36)).alloc (.cells (da a) 31)).alloc (.cells (da b) 31)) ((((w.alloc (.cells #[.int .i16 s, .slice A l.length c] 36)).alloc (.cells (da a) 31)).alloc (.cells (da b) 31)).alloc (.cells (da a ++ da b) 31)) := (Below.refl _ _).alloc (Nat.le_refl _) _
  have b2 := step_below hb2 (hb0.alloc hb0.size (.cells (da a ++ da b) 31))
  have hy : Below w2.heap.size w2 (w2.alloc (.cells #[.int .i64 s, .slice A l.length c] 64)) := (Below.refl _ _).alloc (Nat.le_refl _) _
  have b3 := b2.alloc b2.size (.cells #[.int .i64 s, .slice A l.length c] 64)
  have D3 := ((hD.keep hx0).keep hb2).keep hy
  have E3 := ((hE.keep hx0).keep hb2).keep hy
  have LDa := hide D3.range
  have LDb := hide E3.range
  have hzz := zeroDrum
  cases ha2 : ask2B s l a b
  · have HX := hide (show csB s l a b = false by simp [csB, ha2])
    have HC := hide ha2
    clear ha2
    go_wp2
    go_ret2
    exact ⟨by rw [HX.out, HC.out]; rfl, b3⟩
  obtain ⟨haa, hab⟩ := ask2_all ha2
  have hfa := ask_all haa
  have hfb := ask_all hab
  obtain ⟨S, hSs⟩ : ∃ S : Nat, s = (S : Int) := ⟨s.toNat, by omega⟩
  have hS2 : 2 ≤ S ∧ S ≤ 96 := by omega
  have hSn : s.toNat = S := by omega
  have HX := hide (show csB s l a b = decide (nclN S (unT [a, b] 2) l = 0) by simp [csB, ha2, hSn])
  have HC := hide ha2
  have hdr : drB s l.length (unT [a, b] 2) = true := drB_same (un_two ha hb) (or_in ha hb hfa.2.2.2 hfb.2.2.2)
  subst hSs
  have hl24 := hfa.2.1.2
  have HG1 := hide hfa.2.2.1
  have HV := hide hdr
  have hu : da (orD a b) = da (unT [a, b] 2) := da_congr (un_two ha hb)
  obtain ⟨u, hue⟩ : ∃ u, u = unT [a, b] 2 := ⟨_, rfl⟩
  have huw : DWF u := by rw [hue]; exact unT_wf _ _
  rw [← hue] at HX HV hu
  have HU := hide hu
  clear ha2 hfa hfb haa hab hdr hSn hue hu
  go_wp2_with (first | (with_reducible refine wpList_load_da rfl 31 (.tmp 4) rfl (w.heap.size + 1) 0 rfl a _ LDa.out Tryd.underlying31 rfl (dInfo a) ?_) | (with_reducible refine wpList_load_da rfl 31 (.tmp 5) rfl (w.heap.size + 1 + 1) 0 rfl b _ LDb.out Tryd.underlying31 rfl (dInfo b) ?_))
  refine (shared_any S A c l a b u _ (hA.below b3) hS2 hl24 HG1.out HU.out huw HV.out (hT.keep b3)).mono ?_
  rintro e w4 ⟨rfl, hb4⟩
  have b4 := step_below hb4 b3
  have hza : za.size = (da u).size := by rw [da_size]; rfl
  obtain ⟨X5, hX5⟩ : ∃ X, X = w4.alloc (.cells (da u) 31) := ⟨_, rfl⟩
  have hb5 : Below w4.heap.size w4 X5 := by rw [hX5]; exact (Below.refl _ _).alloc (Nat.le_refl _) _
  have b5 := step_below hb5 b4
  go_upto_region 5 with (with_reducible refine wpList_store_new rfl 31 (.tmp 10) (.tmp 27) rfl u rfl rfl 31 _ (dInfo u) hza ?_)
  rw [← hX5]
  clear hX5 hza hzz
  go_wp2
  go_ret2
  exact ⟨by rw [HX.out, HC.out]; rfl, b5⟩
end Go.Proofs.YtncdgjaadlpncaaDoor
