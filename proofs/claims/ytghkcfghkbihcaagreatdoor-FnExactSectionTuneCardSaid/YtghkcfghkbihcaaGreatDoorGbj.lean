import Derived.Test.YtghkcfghkbihcaaGreatDoorGbi
import Derived.Test.YtghkcfghkbihcaaGreatDoorGbh
namespace Go.Proofs.YtghkcfghkbihcaaGreatDoor
open Go.RowKit
/-- a cut of a tune -/
def ctQ (x y : Int) (n : Int × Int) : Bool := decide (x ≤ n.1) && decide (n.1 ≤ y - 1)
def ctM (x : Int) (n : Int × Int) : Int × Int := (n.1 - x, n.2)
def ctL (l : List (Int × Int)) (x y : Int) (k : Nat) : List (Int × Int) := ((l.take k).filter (ctQ x y)).map (ctM x)
def ctP (l : List (Int × Int)) (f e : Nat) : List (Int × Int) := (l.drop f).take (e - f)
def ctG (x y : Int) : Bool := decide (0 ≤ x ∧ x ≤ y ∧ y ≤ 200)
def ctC (l : List (Int × Int)) (x y : Int) : Int := if okB l then (if ctG x y then 0 else 2) else 1
def ctV (l : List (Int × Int)) (x y : Int) : List (Int × Int) := if okB l && ctG x y then ctL l x y l.length else []
theorem ctL_le (l : List (Int × Int)) (x y : Int) (k : Nat) : (ctL l x y k).length ≤ l.length := by
  unfold ctL
  rw [List.length_map]
  refine Nat.le_trans (List.length_filter_le _ _) ?_
  rw [List.length_take]
  omega
theorem ctV_le (l : List (Int × Int)) (x y : Int) : (ctV l x y).length ≤ l.length := by
  unfold ctV
  split
  · exact ctL_le _ _ _ _
  · simp
theorem ctL_succ {l : List (Int × Int)} {k : Nat} (x y : Int) (h : k < l.length) : ctL l x y (k + 1) = ctL l x y k ++ (if ctQ x y (nAt l k, nPi l k) then [ctM x (nAt l k, nPi l k)] else []) := by
  have e : l[k] = (nAt l k, nPi l k) := by simp [nAt, nPi, List.getD, h]
  unfold ctL
  rw [List.take_succ_eq_append_getElem h, List.filter_append, List.map_append, e]
  congr 1
  by_cases hq : ctQ x y (nAt l k, nPi l k)
  · rw [if_pos hq, List.filter_cons_of_pos hq]; rfl
  · rw [if_neg hq, List.filter_cons_of_neg hq]; rfl
theorem bd_ex {l : List (Int × Int)} (h : AscN l) (s : Int) : ∃ c, Bound (fun t => decide (s ≤ nAt l t)) l.length c :=
  bound_ex _ _ fun a b hab hb ha => by
    have h1 : nAt l a ≤ nAt l b := by
      rcases Nat.lt_or_ge a b with h1 | h1
      · have h2 := List.pairwise_iff_getElem.1 h a b (by omega) hb h1
        have e1 : nAt l a = l[a].1 := by simp [nAt, List.getD, show a < l.length by omega]
        have e2 : nAt l b = l[b].1 := by simp [nAt, List.getD, hb]
        unfold ltN at h2
        omega
      · obtain rfl : a = b := by omega
        exact Int.le_refl _
    simp only [decide_eq_true_eq] at ha ⊢
    omega
theorem ct_filter {l : List (Int × Int)} {x y : Int} {f e : Nat} (hf : Bound (fun t => decide (x ≤ nAt l t)) l.length f) (he : Bound (fun t => decide (y ≤ nAt l t)) l.length e) (hfe : f ≤ e) : l.filter (ctQ x y) = ctP l f e := by
  obtain ⟨f1, f2, f3⟩ := hf
  obtain ⟨e1, e2, e3⟩ := he
  simp only [decide_eq_false_iff_not, decide_eq_true_eq] at f2 f3 e2 e3
  have hat : ∀ i (hi : i < l.length), nAt l i = l[i].1 := fun i hi => by simp [nAt, List.getD, hi]
  have hl : l = l.take f ++ (ctP l f e ++ l.drop e) := by
    have h1 := (List.take_append_drop f l).symm
    have h2 := (List.take_append_drop (e - f) (l.drop f)).symm
    rw [List.drop_drop, show f + (e - f) = e by omega] at h2
    rw [ctP, ← h2]
    exact h1
  have p1 : (l.take f).filter (ctQ x y) = [] := List.filter_eq_nil_iff.2 fun a ha => by
    obtain ⟨i, hi, rfl⟩ := List.mem_iff_getElem.1 ha
    rw [List.length_take] at hi
    rw [List.getElem_take]
    have := f2 i (by omega)
    rw [hat i (by omega)] at this
    simp [ctQ]
    omega
  have p2 : (ctP l f e).filter (ctQ x y) = ctP l f e := List.filter_eq_self.2 fun a ha => by
    unfold ctP at ha
    obtain ⟨i, hi, rfl⟩ := List.mem_iff_getElem.1 ha
    rw [List.length_take, List.length_drop] at hi
    rw [List.getElem_take, List.getElem_drop]
    have h1 := f3 (f + i) (by omega) (by omega)
    have h2 := e2 (f + i) (by omega)
    rw [hat (f + i) (by omega)] at h1 h2
    simp [ctQ]
    omega
  have p3 : (l.drop e).filter (ctQ x y) = [] := List.filter_eq_nil_iff.2 fun a ha => by
    obtain ⟨i, hi, rfl⟩ := List.mem_iff_getElem.1 ha
    rw [List.length_drop] at hi
    rw [List.getElem_drop]
    have := e3 (e + i) (by omega) (by omega)
    rw [hat (e + i) (by omega)] at this
    simp [ctQ]
    omega
  calc l.filter (ctQ x y) = (l.take f ++ (ctP l f e ++ l.drop e)).filter (ctQ x y) := by rw [← hl]
    _ = ctP l f e := by rw [List.filter_append, List.filter_append, p1, p2, p3]; simp
theorem ct_sub {l : List (Int × Int)} {f e : Nat} {a : Int × Int} (ha : a ∈ ctP l f e) : a ∈ l := List.mem_of_mem_drop (List.mem_of_mem_take ha)
theorem ct_ch {l : List (Int × Int)} {x y : Int} {f e : Nat} (h : okB l = true) (hf : Bound (fun t => decide (x ≤ nAt l t)) l.length f) (he : Bound (fun t => decide (y ≤ nAt l t)) l.length e) (hfe : f ≤ e) (h0 : 0 ≤ x) :
    chV (shP (-x) 0) (ctP l f e) = ctL l x y l.length ∧ chC (shP (-x) 0) (ctP l f e) = 0 := by
  have hfl := ct_filter hf he hfe
  have hasc : AscN (ctP l f e) := List.Pairwise.take (List.Pairwise.drop (asc_of_ok h))
  have hq : ∀ a ∈ ctP l f e, ctQ x y a = true ∧ a ∈ l := fun a ha => ⟨by rw [← hfl] at ha; exact (List.mem_filter.1 ha).2, ct_sub ha⟩
  have ho : chO (shP (-x) 0) (ctP l f e) (ctP l f e).length = true := by
    simp only [chO, List.all_eq_true, List.mem_range]
    intro i hi
    have hm : (ctP l f e)[i] ∈ ctP l f e := List.getElem_mem hi
    obtain ⟨h1, h2⟩ := hq _ hm
    obtain ⟨j, hj, e2⟩ := List.mem_iff_getElem.1 h2
    have h3 := ok_in h j hj
    have e3 : nAt l j = l[j].1 := by simp [nAt, List.getD, hj]
    have e4 : nPi l j = l[j].2 := by simp [nPi, List.getD, hj]
    rw [e3, e4, e2] at h3
    have e5 : nAt (ctP l f e) i = (ctP l f e)[i].1 := by simp [nAt, List.getD, hi]
    have e6 : nPi (ctP l f e) i = (ctP l f e)[i].2 := by simp [nPi, List.getD, hi]
    simp only [ctQ, Bool.and_eq_true, decide_eq_true_eq] at h1
    simp only [shP, noteB, e5, e6, decide_eq_true_eq]
    omega
  refine ⟨?_, by simp [chC, ho]⟩
  rw [chV_asc (chL_asc hasc fun a b _ _ hab => by unfold ltN shP at *; omega)]
  unfold chW
  rw [if_pos ho, chL_map]
  unfold ctL
  rw [List.take_length, hfl]
  refine List.map_congr_left fun a _ => ?_
  simp [shP, ctM]
  omega
set_option maxRecDepth 20000 in
set_option maxHeartbeats 2000000 in
theorem between_any (A : Option Addr) (c : Nat) (l : List (Int × Int)) (x y : Int) (f e : Nat) (w : World) (hA : NA w A l) (hn : l.length ≤ 1048576) (hwf : WF l) (hcap : l.length ≤ c) (hf : Bound (fun t => decide (x ≤ nAt l t)) l.length f) (he : Bound (fun t => decide (y ≤ nAt l t)) l.length e) (hfe : f ≤ e) :
    Calls Tryz.prog 69 #[.slice A l.length c, .int .i64 x, .int .i64 y] w fun en w' => (∃ A', en = .returned (.slice A' (e - f) (e - f)) ∧ NA w A' (ctP l f e)) ∧ Below w.heap.size w w' := by
  have hel := he.1
  have K1 : ∀ W, Below w.heap.size w W → Calls Tryz.prog 87 #[.slice A l.length c, .int .i64 x] W fun e w' => e = .returned (.int .i64 f) ∧ Below W.heap.size W w' := fun W hW => firstFrom_any A c l x f W (hA.below hW) hn hwf hf
  have K2 : ∀ W, Below w.heap.size w W → Calls Tryz.prog 87 #[.slice A l.length c, .int .i64 y] W fun en w' => en = .returned (.int .i64 e) ∧ Below W.heap.size W w' := fun W hW => firstFrom_any A c l y e W (hA.below hW) hn hwf he
  clear hf he
  rcases Nat.eq_zero_or_pos l.length with h0 | h0
  · obtain rfl : e = 0 := by omega
    obtain rfl : f = 0 := by omega
    have hP : ∀ A', NA w A' (ctP l 0 0) := fun A' k hk => absurd hk (by simp [ctP])
    clear h0
    cases A with
    | none =>
      go_enter Tryz.func69, Tryz.ntmps69
      go_wp2_with fail
      refine (K1 _ (Below.refl _ _)).mono ?_
      rintro en w1 ⟨rfl, hb1⟩
      go_wp2_with fail
      refine (K2 _ hb1).mono ?_
      rintro en w2 ⟨rfl, hb2⟩
      go_wp2
      go_ret
      exact ⟨⟨_, rfl, hP _⟩, step_below hb2 hb1⟩
    | some ad =>
      obtain ⟨ab, ao, asp⟩ := ad
      go_enter Tryz.func69, Tryz.ntmps69
      go_wp2_with fail
      refine (K1 _ (Below.refl _ _)).mono ?_
      rintro en w1 ⟨rfl, hb1⟩
      go_wp2_with fail
      refine (K2 _ hb1).mono ?_
      rintro en w2 ⟨rfl, hb2⟩
      go_wp2
      all_goals go_ret
      all_goals exact ⟨⟨_, rfl, hP _⟩, step_below hb2 hb1⟩
  · obtain ⟨b, o, rfl, hbb, _, _⟩ := hA 0 h0
    have hP := hA.part f (e - f)
    have hP2 : ∀ o' g, NA w (some ⟨b, o', none⟩) (ctP l g g) := fun o' g k hk => absurd hk (by simp [ctP])
    go_enter Tryz.func69, Tryz.ntmps69
    go_wp2_with fail
    refine (K1 _ (Below.refl _ _)).mono ?_
    rintro en w1 ⟨rfl, hb1⟩
    go_wp2_with fail
    refine (K2 _ hb1).mono ?_
    rintro en w2 ⟨rfl, hb2⟩
    go_wp2
    all_goals go_ret
    all_goals first | exact ⟨⟨_, rfl, hP⟩, step_below hb2 hb1⟩ | exact ⟨⟨_, rfl, hP2 _ _⟩, step_below hb2 hb1⟩
end Go.Proofs.YtghkcfghkbihcaaGreatDoor
namespace Go.Proofs.YtghkcfghkbihcaaGreatDoor
open Go.RowKit
/-- the pins of one step -/
def rwP (P : Nat → Nat → Bool) (n j : Nat) : List (Nat × Nat) := ((List.range n).filter fun t => P j t).map fun t => (j, t)
theorem gK_rw (P : Nat → Nat → Bool) (n k : Nat) : gK P n k = (List.range k).flatMap (rwP P n) := rfl
theorem rw_fst {P : Nat → Nat → Bool} {n j : Nat} {p : Nat × Nat} (h : p ∈ rwP P n j) : p.1 = j := by
  unfold rwP at h
  obtain ⟨t, _, rfl⟩ := List.mem_map.1 h
  rfl
/-- the notes of a section, from its own beginning -/
def scN (l : List (Int × Int)) (d : Nat → Int) (F T : Nat) : List (Int × Int) := noL l (gK (fun k t => pinB d (F + k) t) l.length T)
/-- the notes of a section, where they are -/
def scT (l : List (Int × Int)) (d : Nat → Int) (F T : Nat) : List (Int × Int) := (toL l d).filter (ctQ F ((F : Int) + T))
theorem no_cut (l : List (Int × Int)) (ps : List (Nat × Nat)) (x y : Int) : (noL l ps).filter (ctQ x y) = noL l (ps.filter fun p => ctQ x y ((p.1 : Int), 0)) := by
  unfold noL
  rw [List.filter_map]
  rfl
theorem rw_none {P : Nat → Nat → Bool} {n : Nat} {q : Nat → Bool} (xs : List Nat) (h : ∀ j ∈ xs, q j = false) : (xs.flatMap (rwP P n)).filter (fun p => q p.1) = [] := by
  rw [List.filter_eq_nil_iff]
  intro p hp
  obtain ⟨j, hj, hpj⟩ := List.mem_flatMap.1 hp
  rw [rw_fst hpj, h j hj]
  simp
theorem rw_every {P : Nat → Nat → Bool} {n : Nat} {q : Nat → Bool} (xs : List Nat) (h : ∀ j ∈ xs, q j = true) : (xs.flatMap (rwP P n)).filter (fun p => q p.1) = xs.flatMap (rwP P n) := by
  rw [List.filter_eq_self]
  intro p hp
  obtain ⟨j, hj, hpj⟩ := List.mem_flatMap.1 hp
  rw [rw_fst hpj, h j hj]
theorem gK_cut (P : Nat → Nat → Bool) (n F T R : Nat) : (gK P n (F + T + R)).filter (fun p => ctQ F ((F : Int) + T) ((p.1 : Int), 0)) = (gK (fun k t => P (F + k) t) n T).map fun p => (F + p.1, p.2) := by
  rw [gK_rw, List.range_add, List.range_add, List.flatMap_append, List.flatMap_append, List.filter_append, List.filter_append]
  rw [rw_none (q := fun j => ctQ F ((F : Int) + T) ((j : Int), 0)) (List.range F) (fun j hj => by
      have := List.mem_range.1 hj
      simp [ctQ]; omega)]
  rw [rw_every (q := fun j => ctQ F ((F : Int) + T) ((j : Int), 0)) ((List.range T).map (F + ·)) (fun j hj => by
      obtain ⟨i, hi, rfl⟩ := List.mem_map.1 hj
      have := List.mem_range.1 hi
      simp [ctQ]; omega)]
  rw [rw_none (q := fun j => ctQ F ((F : Int) + T) ((j : Int), 0)) ((List.range R).map (F + T + ·)) (fun j hj => by
      obtain ⟨i, hi, rfl⟩ := List.mem_map.1 hj
      simp [ctQ]; omega)]
  rw [List.nil_append, List.append_nil, List.flatMap_map, gK_rw, List.map_flatMap]
  congr 1
  funext j
  simp [rwP]
theorem no_shift (l : List (Int × Int)) (ps : List (Nat × Nat)) (F : Nat) : (noL l (ps.map fun p => (F + p.1, p.2))).map (ctM F) = noL l ps := by
  unfold noL
  rw [List.map_map, List.map_map]
  refine List.map_congr_left fun p _ => ?_
  simp only [Function.comp, ctM]
  rw [show ((F + p.1 : Nat) : Int) - F = p.1 by omega]
theorem sc_main {S : Nat} {l : List (Int × Int)} {d : Nat → Int} {F T : Nat} (hdr : drB (S : Int) l.length d = true) (hd : DWF d) (hS : S ≤ 96) (hl : l.length ≤ 24) (h : F + T ≤ S) : (scT l d F T).map (ctM F) = scN l d F T := by
  obtain ⟨R, rfl⟩ : ∃ R, S = F + T + R := ⟨S - (F + T), by omega⟩
  rw [scT, toL, ← to_all hdr hd hS hl, no_cut, gK_cut, no_shift]
  rfl
theorem sort_map (F : Int) (L : List (Int × Int)) : sortU (L.map (ctM F)) = (sortU L).map (ctM F) := by
  refine asc_ext _ _ (sortU_asc _) ?_ fun x => ?_
  · refine List.Pairwise.map _ ?_ (sortU_asc L)
    intro a b h
    unfold ltN ctM at *
    dsimp only
    omega
  · rw [sortU_mem, List.mem_map, List.mem_map]
    constructor
    · rintro ⟨a, ha, e⟩
      exact ⟨a, (sortU_mem L a).2 ha, e⟩
    · rintro ⟨a, ha, e⟩
      exact ⟨a, (sortU_mem L a).1 ha, e⟩
theorem sc_sort {S : Nat} {l : List (Int × Int)} {d : Nat → Int} {F T : Nat} (hdr : drB (S : Int) l.length d = true) (hd : DWF d) (hS : S ≤ 96) (hl : l.length ≤ 24) (h : F + T ≤ S) : sortU (scN l d F T) = (sortU (scT l d F T)).map (ctM F) := by
  rw [← sc_main hdr hd hS hl h, sort_map]
theorem scT_mem {S : Int} {l : List (Int × Int)} {d : Nat → Int} {F T : Nat} (hg : HG S l l.length) (hdr : drB S l.length d = true) (hd : DWF d) (hT : T ≤ 96) {x : Int × Int} (h : x ∈ scT l d F T) : ((F : Int) ≤ x.1 ∧ x.1 ≤ (F : Int) + 95 ∧ x.1 ≤ 199) ∧ (0 ≤ x.2 ∧ x.2 ≤ 47) := by
  unfold scT at h
  obtain ⟨h1, h2⟩ := List.mem_filter.1 h
  have h3 := toL_mem hg hdr hd h1
  simp only [ctQ, Bool.and_eq_true, decide_eq_true_eq] at h2
  omega
theorem scT_range {S : Int} {l : List (Int × Int)} {d : Nat → Int} {F T : Nat} (hg : HG S l l.length) (hdr : drB S l.length d = true) (hd : DWF d) (hT : T ≤ 96) : rangeB (scT l d F T) = true := by
  refine rangeB_yes _ fun j hj => ?_
  have := scT_mem hg hdr hd hT (note_mem _ j hj)
  dsimp only at this
  simp only [noteB, decide_eq_true_eq]
  omega
theorem scT_len (l : List (Int × Int)) (d : Nat → Int) (F T : Nat) : (scT l d F T).length ≤ 4000 := Nat.le_trans (List.length_filter_le _ _) (toL_len l d)
/-- the sorted notes of a section, moved to its beginning -/
theorem sc_shift {S : Int} {l : List (Int × Int)} {d : Nat → Int} {F T : Nat} (hg : HG S l l.length) (hdr : drB S l.length d = true) (hd : DWF d) (hT : T ≤ 96) : chC (shP (-(F : Int)) 0) (sortU (scT l d F T)) = 0 ∧ chV (shP (-(F : Int)) 0) (sortU (scT l d F T)) = (sortU (scT l d F T)).map (ctM F) := by
  obtain ⟨M, hM⟩ : ∃ M, M = sortU (scT l d F T) := ⟨_, rfl⟩
  have hin : ∀ x ∈ M, ((F : Int) ≤ x.1 ∧ x.1 ≤ (F : Int) + 95 ∧ x.1 ≤ 199) ∧ (0 ≤ x.2 ∧ x.2 ≤ 47) := fun x hx => scT_mem hg hdr hd hT ((sortU_mem _ x).1 (by rw [← hM]; exact hx))
  have hA : AscN M := by rw [hM]; exact sortU_asc _
  rw [← hM]
  have hL : chL (shP (-(F : Int)) 0) M M.length = M.map (ctM F) := by
    rw [chL_map]
    refine List.map_congr_left fun x _ => ?_
    simp [shP, ctM, Int.sub_eq_add_neg]
  have hO : chO (shP (-(F : Int)) 0) M M.length = true := by
    unfold chO
    rw [List.all_eq_true]
    intro j hj
    have := hin _ (note_mem M j (List.mem_range.1 hj))
    dsimp only at this
    show noteB (nAt M j + -(F : Int)) (nPi M j + 0) = true
    simp only [noteB, decide_eq_true_eq]
    omega
  have hAs : AscN (chL (shP (-(F : Int)) 0) M M.length) := chL_asc hA fun x y _ _ h => by
    unfold ltN shP at *
    dsimp only
    omega
  refine ⟨by simp [chC, hO], ?_⟩
  rw [chV_asc hAs, chW, if_pos hO, hL]
end Go.Proofs.YtghkcfghkbihcaaGreatDoor
