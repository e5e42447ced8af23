import Derived.Test.YtehmkablandefaaGreatDoorGay
import Derived.Test.YtehmkablandefaaGreatDoorGaz
import Derived.Test.YtehmkablandefaaGreatDoorGaf
namespace Go.Proofs.YtehmkablandefaaGreatDoor
open Go.RowKit
/-- the pins of one step -/
def rwP (P : Nat → Nat → Bool) (n j : Nat) : List (Nat × Nat) := ((List.range n).filter fun t => P j t).map fun t => (j, t)
theorem gK_rw (P : Nat → Nat → Bool) (n k : Nat) : gK P n k = (List.range k).flatMap (rwP P n) := rfl
theorem rw_fst {P : Nat → Nat → Bool} {n j : Nat} {p : Nat × Nat} (h : p ∈ rwP P n j) : p.1 = j := by
  unfold rwP at h
  obtain ⟨t, _, rfl⟩ := List.mem_map.1 h
  rfl
/-- the notes of a section, from its own beginning -/
def scN (l : List (Int × Int)) (d : Nat → Int) (F T : Nat) : List (Int × Int) := noL l (gK (fun k t => pinB d (F + k) t) l.length T)
/-- the notes of a section, where they are -/
def scT (l : List (Int × Int)) (d : Nat → Int) (F T : Nat) : List (Int × Int) := (toL l d).filter (ctQ F ((F : Int) + T))
theorem no_cut (l : List (Int × Int)) (ps : List (Nat × Nat)) (x y : Int) : (noL l ps).filter (ctQ x y) = noL l (ps.filter fun p => ctQ x y ((p.1 : Int), 0)) := by
  unfold noL
  rw [List.filter_map]
  rfl
theorem rw_none {P : Nat → Nat → Bool} {n : Nat} {q : Nat → Bool} (xs : List Nat) (h : ∀ j ∈ xs, q j = false) : (xs.flatMap (rwP P n)).filter (fun p => q p.1) = [] := by
  rw [List.filter_eq_nil_iff]
  intro p hp
  obtain ⟨j, hj, hpj⟩ := List.mem_flatMap.1 hp
  rw [rw_fst hpj, h j hj]
  simp
theorem rw_every {P : Nat → Nat → Bool} {n : Nat} {q : Nat → Bool} (xs : List Nat) (h : ∀ j ∈ xs, q j = true) : (xs.flatMap (rwP P n)).filter (fun p => q p.1) = xs.flatMap (rwP P n) := by
  rw [List.filter_eq_self]
  intro p hp
  obtain ⟨j, hj, hpj⟩ := List.mem_flatMap.1 hp
  rw [rw_fst hpj, h j hj]
theorem gK_cut (P : Nat → Nat → Bool) (n F T R : Nat) : (gK P n (F + T + R)).filter (fun p => ctQ F ((F : Int) + T) ((p.1 : Int), 0)) = (gK (fun k t => P (F + k) t) n T).map fun p => (F + p.1, p.2) := by
  rw [gK_rw, List.range_add, List.range_add, List.flatMap_append, List.flatMap_append, List.filter_append, List.filter_append]
  rw [rw_none (q := fun j => ctQ F ((F : Int) + T) ((j : Int), 0)) (List.range F) (fun j hj => by
      have := List.mem_range.1 hj
      simp [ctQ]; omega)]
  rw [rw_every (q := fun j => ctQ F ((F : Int) + T) ((j : Int), 0)) ((List.range T).map (F + ·)) (fun j hj => by
      obtain ⟨i, hi, rfl⟩ := List.mem_map.1 hj
      have := List.mem_range.1 hi
      simp [ctQ]; omega)]
  rw [rw_none (q := fun j => ctQ F ((F : Int) + T) ((j : Int), 0)) ((List.range R).map (F + T + ·)) (fun j hj => by
      obtain ⟨i, hi, rfl⟩ := List.mem_map.1 hj
      simp [ctQ]; omega)]
  rw [List.nil_append, List.append_nil, List.flatMap_map, gK_rw, List.map_flatMap]
  congr 1
  funext j
  simp [rwP]
theorem no_shift (l : List (Int × Int)) (ps : List (Nat × Nat)) (F : Nat) : (noL l (ps.map fun p => (F + p.1, p.2))).map (ctM F) = noL l ps := by
  unfold noL
  rw [List.map_map, List.map_map]
  refine List.map_congr_left fun p _ => ?_
  simp only [Function.comp, ctM]
  rw [show ((F + p.1 : Nat) : Int) - F = p.1 by omega]
theorem sc_main {S : Nat} {l : List (Int × Int)} {d : Nat → Int} {F T : Nat} (hdr : drB (S : Int) l.length d = true) (hd : DWF d) (hS : S ≤ 96) (hl : l.length ≤ 24) (h : F + T ≤ S) : (scT l d F T).map (ctM F) = scN l d F T := by
  obtain ⟨R, rfl⟩ : ∃ R, S = F + T + R := ⟨S - (F + T), by omega⟩
  rw [scT, toL, ← to_all hdr hd hS hl, no_cut, gK_cut, no_shift]
  rfl
theorem sort_map (F : Int) (L : List (Int × Int)) : sortU (L.map (ctM F)) = (sortU L).map (ctM F) := by
  refine asc_ext _ _ (sortU_asc _) ?_ fun x => ?_
  · refine List.Pairwise.map _ ?_ (sortU_asc L)
    intro a b h
    unfold ltN ctM at *
    dsimp only
    omega
  · rw [sortU_mem, List.mem_map, List.mem_map]
    constructor
    · rintro ⟨a, ha, e⟩
      exact ⟨a, (sortU_mem L a).2 ha, e⟩
    · rintro ⟨a, ha, e⟩
      exact ⟨a, (sortU_mem L a).1 ha, e⟩
theorem sc_sort {S : Nat} {l : List (Int × Int)} {d : Nat → Int} {F T : Nat} (hdr : drB (S : Int) l.length d = true) (hd : DWF d) (hS : S ≤ 96) (hl : l.length ≤ 24) (h : F + T ≤ S) : sortU (scN l d F T) = (sortU (scT l d F T)).map (ctM F) := by
  rw [← sc_main hdr hd hS hl h, sort_map]
theorem scT_mem {S : Int} {l : List (Int × Int)} {d : Nat → Int} {F T : Nat} (hg : HG S l l.length) (hdr : drB S l.length d = true) (hd : DWF d) (hT : T ≤ 96) {x : Int × Int} (h : x ∈ scT l d F T) : ((F : Int) ≤ x.1 ∧ x.1 ≤ (F : Int) + 95 ∧ x.1 ≤ 199) ∧ (0 ≤ x.2 ∧ x.2 ≤ 47) := by
  unfold scT at h
  obtain ⟨h1, h2⟩ := List.mem_filter.1 h
  have h3 := toL_mem hg hdr hd h1
  simp only [ctQ, Bool.and_eq_true, decide_eq_true_eq] at h2
  omega
theorem scT_range {S : Int} {l : List (Int × Int)} {d : Nat → Int} {F T : Nat} (hg : HG S l l.length) (hdr : drB S l.length d = true) (hd : DWF d) (hT : T ≤ 96) : rangeB (scT l d F T) = true := by
  refine rangeB_yes _ fun j hj => ?_
  have := scT_mem hg hdr hd hT (note_mem _ j hj)
  dsimp only at this
  simp only [noteB, decide_eq_true_eq]
  omega
theorem scT_len (l : List (Int × Int)) (d : Nat → Int) (F T : Nat) : (scT l d F T).length ≤ 4000 := Nat.le_trans (List.length_filter_le _ _) (toL_len l d)
/-- the sorted notes of a section, moved to its beginning -/
theorem sc_shift {S : Int} {l : List (Int × Int)} {d : Nat → Int} {F T : Nat} (hg : HG S l l.length) (hdr : drB S l.length d = true) (hd : DWF d) (hT : T ≤ 96) : chC (shP (-(F : Int)) 0) (sortU (scT l d F T)) = 0 ∧ chV (shP (-(F : Int)) 0) (sortU (scT l d F T)) = (sortU (scT l d F T)).map (ctM F) := by
  obtain ⟨M, hM⟩ : ∃ M, M = sortU (scT l d F T) := ⟨_, rfl⟩
  have hin : ∀ x ∈ M, ((F : Int) ≤ x.1 ∧ x.1 ≤ (F : Int) + 95 ∧ x.1 ≤ 199) ∧ (0 ≤ x.2 ∧ x.2 ≤ 47) := fun x hx => scT_mem hg hdr hd hT ((sortU_mem _ x).1 (by rw [← hM]; exact hx))
  have hA : AscN M := by rw [hM]; exact sortU_asc _
  rw [← hM]
  have hL : chL (shP (-(F : Int)) 0) M M.length = M.map (ctM F) := by
    rw [chL_map]
    refine List.map_congr_left fun x _ => ?_
    simp [shP, ctM, Int.sub_eq_add_neg]
  have hO : chO (shP (-(F : Int)) 0) M M.length = true := by
    unfold chO
    rw [List.all_eq_true]
    intro j hj
    have := hin _ (note_mem M j (List.mem_range.1 hj))
    dsimp only at this
    show noteB (nAt M j + -(F : Int)) (nPi M j + 0) = true
    simp only [noteB, decide_eq_true_eq]
    omega
  have hAs : AscN (chL (shP (-(F : Int)) 0) M M.length) := chL_asc hA fun x y _ _ h => by
    unfold ltN shP at *
    dsimp only
    omega
  refine ⟨by simp [chC, hO], ?_⟩
  rw [chV_asc hAs, chW, if_pos hO, hL]
end Go.Proofs.YtehmkablandefaaGreatDoor
namespace Go.Proofs.YtehmkablandefaaGreatDoor
open Go.RowKit

/-- where the first k sections end -/
def secE (m : List (Int × Int)) : Nat → Int
  | 0 => 0
  | k + 1 => secF m k + secS m k
def secG (s : Int) (m : List (Int × Int)) (k : Nat) : Bool := decide (secE m k ≤ secF m k ∧ secF m k < s ∧ 1 ≤ secS m k ∧ secF m k + secS m k ≤ s)
def secsB (s : Int) (m : List (Int × Int)) : Bool := (List.range m.length).all (secG s m)
def ordG (n : Nat) (o : Nat → Int) (k : Nat) : Bool := inB (o k) (-1) ((n : Int) - 1)
def ordB (n : Nat) (o : Nat → Int) : Bool := (List.range 48).all (ordG n o)
def prgB (s : Int) (l m : List (Int × Int)) (o : Nat → Int) : Bool := frB s l && decide (m.length ≤ 12) && secsB s m && ordB m.length o
def SWF (m : List (Int × Int)) : Prop := ∀ k, k < m.length → (-32768 ≤ secF m k ∧ secF m k ≤ 32767) ∧ (-32768 ≤ secS m k ∧ secS m k ≤ 32767)
def OWF (o : Nat → Int) : Prop := ∀ k, k < 48 → -128 ≤ o k ∧ o k ≤ 127
/-- the first k hold -/
def SG (P : Nat → Bool) (k : Nat) : Prop := ∀ j, j < k → P j = true
theorem SG_zero (P : Nat → Bool) : SG P 0 := fun _ h => absurd h (Nat.not_lt_zero _)
theorem SG_succ {P : Nat → Bool} {k : Nat} (h : SG P k) (h' : P k = true) : SG P (k + 1) := fun j hj => by
  rcases Nat.lt_or_ge j k with h1 | h1
  · exact h j h1
  · rw [show j = k by omega]; exact h'
theorem SG_all {P : Nat → Bool} {n : Nat} (h : SG P n) : (List.range n).all P = true := by simp only [List.all_eq_true, List.mem_range]; exact h
theorem SG_no {P : Nat → Bool} {n k : Nat} (hk : k < n) (h : P k = false) : (List.range n).all P = false := by
  rw [List.all_eq_false]
  exact ⟨k, List.mem_range.2 hk, by simp [h]⟩
theorem all_SG {P : Nat → Bool} {n : Nat} (h : (List.range n).all P = true) : SG P n := by
  simp only [List.all_eq_true, List.mem_range] at h
  exact h
theorem secE_bound {m : List (Int × Int)} (h : SWF m) : ∀ k, k ≤ m.length → -65536 ≤ secE m k ∧ secE m k ≤ 65534
  | 0, _ => by simp [secE]
  | k + 1, hk => by have := h k (by omega); simp only [secE]; omega
theorem secG_of {s : Int} {m : List (Int × Int)} {k : Nat} (h : secG s m k = true) : secE m k ≤ secF m k ∧ secF m k < s ∧ 1 ≤ secS m k ∧ secF m k + secS m k ≤ s := by simpa [secG] using h
theorem secG_no {s : Int} {m : List (Int × Int)} {k : Nat} (h : ¬ (secE m k ≤ secF m k ∧ secF m k < s ∧ 1 ≤ secS m k ∧ secF m k + secS m k ≤ s)) : secG s m k = false := decide_eq_false h
theorem secG_yes {s : Int} {m : List (Int × Int)} {k : Nat} (h : (secE m k ≤ secF m k ∧ secF m k < s ∧ 1 ≤ secS m k ∧ secF m k + secS m k ≤ s)) : secG s m k = true := decide_eq_true h

set_option maxRecDepth 20000 in
set_option maxHeartbeats 2000000 in
theorem l04Ok_any (b g : Nat) (s : Int) (A : Option Addr) (c : Nat) (l : List (Int × Int)) (B : Option Addr) (d : Nat) (m : List (Int × Int)) (o : Nat → Int) (w : World) (hF : FP w b s A l.length c) (hA : HA w A l) (hn : l.length ≤ 1048576) (hwf : HWF l) (hs : -32768 ≤ s ∧ s ≤ 32767)
    (hP : Bk w g 47 (prA B m.length d o)) (hB : SecA w B m) (hm : m.length ≤ 1048576) (hswf : SWF m) (howf : OWF o) :
    Calls Tryz.prog 54 #[.pointer (some ⟨b, 0, none⟩), .pointer (some ⟨g, 0, none⟩)] w (Says (prgB s l m o) w) := by
  obtain ⟨hs1, hs2⟩ := id hs
  go_enter Tryz.func54, Tryz.ntmps54
  go_wp2_with fail
  refine (l02Frame_any b s A c l w hF hA hn hwf hs).mono ?_
  rintro e w1 ⟨rfl, hb1⟩
  have F1 := hF.keep hb1
  have P1 := hP.keep hb1
  have B1 := hB.below hb1
  have c0 := P1.slice
  cases hf : frB s l
  · go_wp2
    go_ret
    exact ⟨ret_bool (by simp [prgB, hf]), hb1⟩
  have HFR := hide hf
  clear hf
  by_cases h12 : 12 < m.length
  · have q0 : decide (12 < (m.length : Int)) = true := by simp; omega
    have HX := hide (show decide (m.length ≤ 12) = false by simp; omega)
    clear h12
    go_wp2
    go_ret
    exact ⟨ret_bool (by simp [prgB, HX.out]), hb1⟩
  have q0 : decide (12 < (m.length : Int)) = false := by simp; omega
  have h12' : m.length ≤ 12 := by omega
  go_wp2_with fail
  clear q0 c0
  go_loopw [5, 6] (fun x i wr => ∃ k : Nat, k ≤ m.length ∧ i = .int .i64 k ∧ x = .int .i64 (secE m k) ∧ SG (secG s m) k ∧ Below w1.heap.size w1 wr)
    (fun _ i _ => m.length - (intOf i).toNat)
  case atStart => exact ⟨0, Nat.zero_le _, rfl, rfl, SG_zero _, Below.refl _ _⟩
  case round =>
    obtain ⟨k, hk, rfl, rfl, hG, hb⟩ := hrel
    have HG := hide hG
    clear hG
    have F2 := F1.keep hb
    have c0 := (P1.keep hb).slice
    have e1 := F2.1
    have B2 := B1.below hb
    by_cases hlt : k < m.length
    · obtain ⟨b', p, rfl, hbb, c1, c2⟩ := B2 k hlt
      obtain ⟨⟨p1, p2⟩, r1, r2⟩ := hswf k hlt
      obtain ⟨u1, u2⟩ := secE_bound hswf k hk
      have hw1 : IntKind.i64.wrap (secF m k + secS m k) = secF m k + secS m k := IntWalk.i64_in _ (by omega)
      by_cases h1 : secF m k < secE m k
      · have q1 : decide (secF m k < secE m k) = true := decide_eq_true h1
        have HN := hide (secG_no (s := s) (m := m) (k := k) (fun h => by omega))
        clear h1
        go_wp2
        go_ret
        exact ⟨ret_bool (by simp [prgB, HFR.out, show secsB s m = false from SG_no hlt HN.out]), step_below hb hb1⟩
      have q1 : decide (secF m k < secE m k) = false := decide_eq_false h1
      by_cases h2 : s ≤ secF m k
      · have q2 : decide (s ≤ secF m k) = true := decide_eq_true h2
        have HN := hide (secG_no (s := s) (m := m) (k := k) (fun h => by omega))
        clear h1 h2
        go_wp2
        go_ret
        exact ⟨ret_bool (by simp [prgB, HFR.out, show secsB s m = false from SG_no hlt HN.out]), step_below hb hb1⟩
      have q2 : decide (s ≤ secF m k) = false := decide_eq_false h2
      by_cases h3 : secS m k < 1
      · have q3 : decide (secS m k < 1) = true := decide_eq_true h3
        have HN := hide (secG_no (s := s) (m := m) (k := k) (fun h => by omega))
        clear h1 h2 h3
        go_wp2
        go_ret
        exact ⟨ret_bool (by simp [prgB, HFR.out, show secsB s m = false from SG_no hlt HN.out]), step_below hb hb1⟩
      have q3 : decide (secS m k < 1) = false := decide_eq_false h3
      by_cases h4 : s < secF m k + secS m k
      · have q4 : decide (s < secF m k + secS m k) = true := decide_eq_true h4
        have HN := hide (secG_no (s := s) (m := m) (k := k) (fun h => by omega))
        clear h1 h2 h3 h4
        go_wp2
        go_ret
        exact ⟨ret_bool (by simp [prgB, HFR.out, show secsB s m = false from SG_no hlt HN.out]), step_below hb hb1⟩
      have q4 : decide (s < secF m k + secS m k) = false := decide_eq_false h4
      have HY := hide (secG_yes (s := s) (m := m) (k := k) ⟨by omega, by omega, by omega, by omega⟩)
      clear h1 h2 h3 h4
      go_wp2
      go_roundw
      case rel => exact ⟨k + 1, hlt, by go_num, rfl, SG_succ HG.out HY.out, hb⟩
      case measure => simp [intOf]; omega
    · obtain rfl : k = m.length := by omega
      have HSE := hide (show secsB s m = true from SG_all HG.out)
      have hbb := step_below hb hb1
      have P2 := P1.keep hb
      clear B2 hA hB B1 e1
      go_wp2_with fail
      clear c0
      go_loopw [9] (fun i wr' => ∃ k : Nat, k ≤ 48 ∧ i = .int .i64 k ∧ SG (ordG m.length o) k ∧ Below wr.heap.size wr wr')
        (fun i _ => 48 - (intOf i).toNat)
      case atStart => exact ⟨0, Nat.zero_le _, rfl, SG_zero _, Below.refl _ _⟩
      case round =>
        obtain ⟨k, hk, rfl, hG, hbq⟩ := hrel
        have HG := hide hG
        clear hG
        have c0 := Later.cell (P2.keep hbq).slice
        have hsz := hbq.size
        by_cases hlt : k < 48
        · have c1 := Later.cell ((P2.keep hbq).order k _ (o48_get o k hlt))
          obtain ⟨v1, v2⟩ := howf k hlt
          have hki : (k : Int) < 48 := by omega
          cases hq : ordG m.length o k
          · have K1 : ∀ W, Calls Tryz.prog 27 #[.int .i64 (o k), .int .i64 (-1), .int .i64 ((m.length : Int) - 1)] W fun e w' => e = .returned (.bool false) ∧ W = w' := fun W => by rw [← hq]; exact l00In_any _ _ _ W
            have HN := hide hq
            clear hq
            go_wp2_with fail
            refine wp_region_later (by kernel_rfl) (by kernel_rfl) ?_
            repeat (go_big_quiet_step ((go_at_call 27; with_reducible exact Later.same (K1 _))))
            refine wpQuiet_nil ?_
            rintro _ ⟨⟨wq, hq2⟩, rfl⟩
            go_wp2
            go_ret
            exact ⟨ret_bool (by simp [prgB, HFR.out, HSE.out, show ordB m.length o = false from SG_no hlt HN.out]), step_below (hbq.trans (hq2.mono hsz)) hbb⟩
          · have K1 : ∀ W, Calls Tryz.prog 27 #[.int .i64 (o k), .int .i64 (-1), .int .i64 ((m.length : Int) - 1)] W fun e w' => e = .returned (.bool true) ∧ W = w' := fun W => by rw [← hq]; exact l00In_any _ _ _ W
            have HN := hide hq
            clear hq
            go_wp2_with fail
            refine wp_region_later (by kernel_rfl) (by kernel_rfl) ?_
            repeat (go_big_quiet_step ((go_at_call 27; with_reducible exact Later.same (K1 _))))
            refine wpQuiet_nil ?_
            rintro _ ⟨⟨wq, hq2⟩, rfl⟩
            go_wp2
            go_roundw
            case rel => exact ⟨k + 1, hlt, by go_num, SG_succ HG.out HN.out, hbq.trans (hq2.mono hsz)⟩
            case measure => simp [intOf]; omega
        · obtain rfl : k = 48 := by omega
          go_wp2
          go_ret
          exact ⟨ret_bool (by simp [prgB, HFR.out, HSE.out, show m.length ≤ 12 from h12', show ordB m.length o = true from SG_all HG.out]), step_below hbq hbb⟩
end Go.Proofs.YtehmkablandefaaGreatDoor
