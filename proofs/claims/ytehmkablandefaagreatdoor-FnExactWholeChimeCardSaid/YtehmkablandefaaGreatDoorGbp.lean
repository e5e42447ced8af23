import Derived.Test.YtehmkablandefaaGreatDoorGbo
import Derived.Test.YtehmkablandefaaGreatDoorGay
import Derived.Test.YtehmkablandefaaGreatDoorSru
import Derived.Test.YtehmkablandefaaGreatDoorGax
namespace Go.Proofs.YtehmkablandefaaGreatDoor
open Go.RowKit
def OwnZc (w : World) (e : Ending) (w' : World) : Prop := ∃ (C : Option Addr) (q : Nat), e = .returned (.slice C 0 q) ∧ w'.ownsRow w.heap.size 83 2 (.slice C 0 q) 0 [] ∧ Below w.heap.size w w'
set_option maxRecDepth 20000 in
set_option maxHeartbeats 1000000 in
theorem grow_any (n : Nat) (w : World) (hn : n ≤ 4194304) :
    Calls Tryz.prog 90 #[.slice none 0 0, .int .i64 n] w (OwnZc w) := by
  obtain ⟨i0, hi, hz0, hz1, hz2⟩ := info_parts info83
  rcases Nat.eq_zero_or_pos n with rfl | h0
  · go_enter Tryz.func90, Tryz.ntmps90
    go_wp2
    go_ret
    exact ⟨none, 0, rfl, World.ownsRow_nil _ _ _ _, Below.refl _ _⟩
  · obtain ⟨G, hG⟩ : ∃ G, G = grownCap w n 0 83 := ⟨_, rfl⟩
    obtain ⟨Z, hZ⟩ : ∃ Z, Z = Builtin.zeroCells (Value.agg #[.int .i16 0, .int .i8 0]).cells n ++ Builtin.zeroCells (Value.agg #[.int .i16 0, .int .i8 0]).cells (G - n) := ⟨_, rfl⟩
    have hGn : n ≤ G := by rw [hG]; exact grownCap_ge _ _ _ _
    have hGm : G ≤ maxLen := by rw [hG]; exact grownCap_le_maxLen _ _ _ _ (by unfold maxLen; omega)
    have hZs : Z.size = G * 2 := by
      rw [hZ]
      simp only [Array.size_append, size_zeroCells]
      show n * 2 + (G - n) * 2 = G * 2
      omega
    have hrz : ∀ ty, (Builtin.append_ #[36, 3] ty #[.slice none 0 0, .int .i64 n]).run Tryz.prog w = .ok (.slice (some ⟨w.heap.size, 0, none⟩) n G) (w.drew.alloc (.cells Z 83)) := fun ty => by
      rw [hZ, hG]
      exact Lib.run_append_nil_zeros w 36 3 ty 83 i0 (.agg #[.int .i16 0, .int .i8 0]) .i64 .i64 Tryz.underlying36 Tryz.underlying3 hi hz0 n h0 (by omega) (by omega) (by rw [hz2]; omega)
    have hb : Below w.heap.size w (w.drew.alloc (.cells Z 83)) := (Below.refl _ _).drew.alloc (Nat.le_refl _) _
    have hown : (w.drew.alloc (.cells Z 83)).ownsRow w.heap.size 83 2 (.slice (some ⟨w.heap.size, 0, none⟩) 0 G) 0 [] := World.ownsRow_made w.drew Z G (Nat.le_refl _) hGm hZs
    have hGi : (G : Int) ≤ 9223372036854775807 := by unfold maxLen at hGm; omega
    have h1 : ¬ ((n : Int) < 0) := by omega
    have h4 : (0 : Int) < (n : Int) := by omega
    clear hG hZ hZs
    go_enter Tryz.func90, Tryz.ntmps90
    go_wp2_with (at_builtin; refine Lib.wpList_append_run _ rfl _ _ _ _ rfl _ _ rfl rfl _ _ (hrz _) ?_)
    all_goals (go_ret; exact ⟨_, _, rfl, hown, hb⟩)
set_option maxRecDepth 20000 in
set_option maxHeartbeats 4000000 in
theorem concat_any (g : Nat) (A : Option Addr) (c : Nat) (l : List (Int × Int)) (B : Option Addr) (d : Nat) (m : List (Int × Int)) (w : World) (hg : w.cell? ⟨g, 0, none⟩ = some (.slice A l.length c)) (hg1 : w.cell? ⟨g, 1, none⟩ = some (.slice B m.length d)) (hgs : g < w.heap.size)
    (hA : NA w A l) (hB : NA w B m) (hl : l.length ≤ 1048576) (hm : m.length ≤ 1048576) :
    Calls Tryz.prog 76 #[.slice (some ⟨g, 0, none⟩) 2 2] w (OwnT w (l ++ m)) := by
  obtain ⟨i0, hi, hz0, hz1, hz2⟩ := info_parts info83
  have KG : ∀ W, Below w.heap.size w W → Calls Tryz.prog 90 #[.slice none 0 0, .int .i64 ((l.length : Int) + (m.length : Int))] W (OwnZc W) := fun W _ => by
    have h := grow_any (l.length + m.length) W (by omega)
    rwa [Int.natCast_add] at h
  have hw1 : IntKind.i64.wrap (l.length : Int) = l.length := IntWalk.i64_in _ (by omega)
  have hw2 : IntKind.i64.wrap ((l.length : Int) + (m.length : Int)) = (l.length : Int) + (m.length : Int) := IntWalk.i64_in _ (by omega)
  have hn1 : ¬ ((l.length : Int) < 0) := by omega
  have hn2 : ¬ ((l.length : Int) + (m.length : Int) < 0) := by omega
  go_enter Tryz.func76, Tryz.ntmps76
  go_wp2_with fail
  go_loopw [3, 11] (fun s i wr => ((i = .int .i64 0 ∧ s = .int .i64 0) ∨ (i = .int .i64 1 ∧ s = .int .i64 l.length) ∨ (i = .int .i64 2 ∧ s = .int .i64 ((l.length : Int) + (m.length : Int)))) ∧ Below w.heap.size w wr)
    (fun _ i _ => 2 - (intOf i).toNat)
  case atStart => exact ⟨Or.inl ⟨rfl, rfl⟩, Below.refl _ _⟩
  case round =>
    obtain ⟨hc, hb⟩ := hrel
    have f0 := (hb.cell (p := ⟨g, 0, none⟩) hgs).trans hg
    have f1 := (hb.cell (p := ⟨g, 1, none⟩) hgs).trans hg1
    rcases hc with ⟨rfl, rfl⟩ | ⟨rfl, rfl⟩ | ⟨rfl, rfl⟩
    · go_wp2_with fail
      go_roundw
      case rel => exact ⟨Or.inr (Or.inl ⟨rfl, rfl⟩), hb⟩
      case measure => simp [intOf]
    · go_wp2_with fail
      go_roundw
      case rel => exact ⟨Or.inr (Or.inr ⟨rfl, rfl⟩), hb⟩
      case measure => simp [intOf]
    · have KG1 := KG wr hb
      go_wp2_with fail
      refine KG1.mono ?_
      rintro e w2 ⟨C2, q2, rfl, own2', hb2'⟩
      have own2 := own_base own2' hb.size
      have hb2 := step_below hb2' hb
      clear own2' hb2' KG1 KG f0 f1
      go_wp2_with fail
      go_loopw [6, 27] (fun v i wr => ((i = .int .i64 0 ∧ wr.ownsRow w.heap.size 83 2 v 0 []) ∨ (i = .int .i64 1 ∧ wr.ownsRow w.heap.size 83 2 v l.length (cellsOf l)) ∨ (i = .int .i64 2 ∧ wr.ownsRow w.heap.size 83 2 v (l.length + m.length) (cellsOf (l ++ m)))) ∧ Below w.heap.size w wr)
        (fun _ i _ => 2 - (intOf i).toNat)
      case atStart => exact ⟨Or.inl ⟨rfl, own2⟩, hb2⟩
      case round =>
        obtain ⟨hc, hb⟩ := hrel
        have f0 := (hb.cell (p := ⟨g, 0, none⟩) hgs).trans hg
        have f1 := (hb.cell (p := ⟨g, 1, none⟩) hgs).trans hg1
        rcases hc with ⟨rfl, own3⟩ | ⟨rfl, own3⟩ | ⟨rfl, own3⟩
        · obtain ⟨A3, c3, rfl⟩ := own_shapeT own3
          obtain ⟨A4, c4, w4, hr4, own4, gr4⟩ := run_append_na wr 36 36 83 Tryz.underlying36 Tryz.underlying36 w.heap.size i0 hi hz0 hz1 hz2 _ 0 [] own3 A c l (hA.below hb) (by omega) (by omega) hb.size
          simp only [Nat.zero_add, List.nil_append] at hr4 own4
          have hb4 : Below w.heap.size w w4 := hb.grown gr4 hb.size (fun j hj => (own3.lt j hj).1)
          clear gr4
          go_wp2_with (at_builtin; refine Lib.wpList_append_run _ rfl _ _ _ _ rfl _ _ rfl rfl _ _ (hr4 _) ?_)
          go_roundw
          case rel => exact ⟨Or.inr (Or.inl ⟨rfl, own4⟩), hb4⟩
          case measure => simp [intOf]
        · obtain ⟨A3, c3, rfl⟩ := own_shapeT own3
          obtain ⟨A4, c4, w4, hr4, own4, gr4⟩ := run_append_na wr 36 36 83 Tryz.underlying36 Tryz.underlying36 w.heap.size i0 hi hz0 hz1 hz2 _ l.length (cellsOf l) own3 B d m (hB.below hb) (by omega) (by omega) hb.size
          rw [← cellsOf_append] at own4
          have hb4 : Below w.heap.size w w4 := hb.grown gr4 hb.size (fun j hj => (own3.lt j hj).1)
          clear gr4
          go_wp2_with (at_builtin; refine Lib.wpList_append_run _ rfl _ _ _ _ rfl _ _ rfl rfl _ _ (hr4 _) ?_)
          go_roundw
          case rel => exact ⟨Or.inr (Or.inr ⟨rfl, own4⟩), hb4⟩
          case measure => simp [intOf]
        · obtain ⟨A3, c3, rfl⟩ := own_shapeT own3
          go_wp2
          go_ret
          exact ownT_of A3 c3 _ _ (by rw [List.length_append]) own3 hb
end Go.Proofs.YtehmkablandefaaGreatDoor
namespace Go.Proofs.YtehmkablandefaaGreatDoor
open Go.RowKit


def lenI (l : List (Int × Int)) : Int := if l.length = 0 then 0 else nAt l (l.length - 1) + 1
theorem lenI_zero (l : List (Int × Int)) (h : l.length = 0) : lenI l = 0 := by rw [lenI, if_pos h]
theorem lenI_pos (l : List (Int × Int)) (h : 0 < l.length) : lenI l = nAt l (l.length - 1) + 1 := by rw [lenI, if_neg (by omega)]

end Go.Proofs.YtehmkablandefaaGreatDoor
namespace Go.Proofs.YtehmkablandefaaGreatDoor
open Go.RowKit
theorem chL_nodup {pf : Int → Int → Int × Int} {l : List (Int × Int)} (h : AscN l) (hm : ∀ x y, x ∈ l → y ∈ l → ltN x y → pf x.1 x.2 ≠ pf y.1 y.2) : (chL pf l l.length).Nodup := by
  rw [chL_map]
  refine List.pairwise_map.2 ?_
  exact List.Pairwise.imp_of_mem (fun {x y} hx hy hxy => hm x y hx hy hxy) h
theorem chV_sort {pf : Int → Int → Int × Int} {l : List (Int × Int)} (h : (chL pf l l.length).Nodup) (ho : chO pf l l.length = true) : chV pf l = sortU (chL pf l l.length) := by
  unfold chV
  rw [if_pos ho]
  exact srtN_eq_sortU _ _ h fun _ => Iff.rfl
theorem asc_le {l : List (Int × Int)} (h : AscN l) {i j : Nat} (hij : i ≤ j) (hj : j < l.length) : nAt l i ≤ nAt l j := by
  rcases Nat.lt_or_ge i j with h1 | h1
  · have h2 := List.pairwise_iff_getElem.1 h i j (by omega) hj h1
    have e1 : nAt l i = l[i].1 := by simp [nAt, List.getD, show i < l.length by omega]
    have e2 : nAt l j = l[j].1 := by simp [nAt, List.getD, hj]
    unfold ltN at h2
    omega
  · obtain rfl : i = j := by omega
    exact Int.le_refl _
/-- backward -/
def bkP (last a q : Int) : Int × Int := (last - a, q)
theorem bk_in {l : List (Int × Int)} (h : okB l = true) (k : Nat) (hk : k < l.length) : (0 ≤ lenI l - 1 - nAt l k ∧ lenI l - 1 - nAt l k ≤ 199) ∧ (0 ≤ lenI l ∧ lenI l ≤ 200) := by
  have h1 := asc_le (asc_of_ok h) (show k ≤ l.length - 1 by omega) (by omega)
  have h2 := (ok_in h k hk).1
  have h3 := (ok_in h (l.length - 1) (by omega)).1
  have e : lenI l = nAt l (l.length - 1) + 1 := by
    unfold lenI
    split
    · omega
    · rfl
  omega
theorem len_in {l : List (Int × Int)} (h : okB l = true) : 0 ≤ lenI l ∧ lenI l ≤ 200 := by
  rcases Nat.eq_zero_or_pos l.length with e | e
  · unfold lenI
    split
    · omega
    · omega
  · exact (bk_in h 0 e).2
theorem bk_ok {l : List (Int × Int)} (h : okB l = true) : chO (bkP (lenI l - 1)) l l.length = true := by
  simp only [chO, List.all_eq_true, List.mem_range]
  intro i hi
  have h1 := bk_in h i hi
  have h2 := ok_in h i hi
  simp [bkP, noteB]
  omega
theorem bk_nodup {l : List (Int × Int)} (last : Int) (h : okB l = true) : (chL (bkP last) l l.length).Nodup :=
  chL_nodup (asc_of_ok h) fun x y _ _ hxy e => by
    have e1 := congrArg Prod.fst e
    have e2 := congrArg Prod.snd e
    simp only [bkP] at e1 e2
    unfold ltN at hxy
    omega
def bwC (l : List (Int × Int)) : Int := if okB l then 0 else 1
def bwV (l : List (Int × Int)) : List (Int × Int) := if okB l then sortU (chL (bkP (lenI l - 1)) l l.length) else []
theorem bwV_le (l : List (Int × Int)) : (bwV l).length ≤ l.length := by
  unfold bwV
  split
  · exact Nat.le_trans (sortU_le _) (Nat.le_of_eq (chL_len _ _ _))
  · simp
end Go.Proofs.YtehmkablandefaaGreatDoor
namespace Go.Proofs.YtehmkablandefaaGreatDoor
open Go.RowKit
theorem rangeB_ok {l : List (Int × Int)} (h : okB l = true) : rangeB l = true :=
  rangeB_yes l fun j hj => by
    have := ok_in h j hj
    simp only [noteB, decide_eq_true_eq]
    omega
theorem rangeB_append {l m : List (Int × Int)} (hl : rangeB l = true) (hm : rangeB m = true) : rangeB (l ++ m) = true := by
  simp only [rangeB, List.all_eq_true, List.mem_range] at hl hm ⊢
  intro k hk
  rw [List.length_append] at hk
  rcases Nat.lt_or_ge k l.length with h | h
  · have := hl k h
    simpa [nAt, nPi, List.getD, List.getElem?_append_left h] using this
  · have := hm (k - l.length) (by omega)
    simpa [nAt, nPi, List.getD, List.getElem?_append_right h] using this
theorem rangeB_ch {pf : Int → Int → Int × Int} {l : List (Int × Int)} (h : chO pf l l.length = true) : rangeB (chL pf l l.length) = true := by
  simp only [rangeB, chO, List.all_eq_true, List.mem_range, chL_len] at h ⊢
  intro k hk
  have e : (chL pf l l.length).getD k (0, 0) = pf (nAt l k) (nPi l k) := by simp [chL, List.getD, hk]
  have h1 := h k hk
  simp only [nAt, nPi] at e h1 ⊢
  rw [e]
  exact h1
theorem wf_range {l : List (Int × Int)} (h : rangeB l = true) : WF l := by
  intro k hk
  simp only [rangeB, List.all_eq_true, List.mem_range] at h
  have := h k hk
  simp only [noteB, decide_eq_true_eq] at this
  omega
theorem sortU_id {l : List (Int × Int)} (h : AscN l) : sortU l = l := by
  rw [← srtN_eq_sortU l l (h.imp fun {x y} h1 h2 => by subst h2; exact ltN_irr _ h1) fun _ => Iff.rfl, srtN_id l h]
theorem two_new (w : World) (x y : Value) (t : TypeId) : (w.alloc (.cells #[x, y] t)).cell? ⟨w.heap.size, 0, none⟩ = some x ∧ (w.alloc (.cells #[x, y] t)).cell? ⟨w.heap.size, 1, none⟩ = some y := by
  have h0 := cell_two_new' w x y t 0 x rfl
  have h1 := cell_two_new' w x y t 1 y rfl
  rw [Addr.add_lit] at h0 h1
  exact ⟨h0, h1⟩
/-- the codes of two tunes -/
def bothB (l m : List (Int × Int)) : Bool := okB l && okB m
def bcI (l m : List (Int × Int)) : Int := if bothB l m then 0 else 1
def togC (l m : List (Int × Int)) : Int := if bothB l m then mkC (l ++ m) else 1
def togV (l m : List (Int × Int)) : List (Int × Int) := if bothB l m then mkV (l ++ m) else []
theorem ok2_len {l m : List (Int × Int)} (h : bothB l m = true) : l.length ≤ 120 ∧ m.length ≤ 120 := by
  simp only [bothB, Bool.and_eq_true] at h
  exact ⟨ok_len h.1, ok_len h.2⟩
theorem togV_le (l m : List (Int × Int)) : (togV l m).length ≤ 1048576 := by
  unfold togV
  split
  · rename_i h
    have h1 := mkV_le (l ++ m)
    rw [List.length_append] at h1
    have := ok2_len h
    omega
  · simp
theorem tog_range {l m : List (Int × Int)} (h : bothB l m = true) : rangeB (l ++ m) = true := by
  simp only [bothB, Bool.and_eq_true] at h
  exact rangeB_append (rangeB_ok h.1) (rangeB_ok h.2)
end Go.Proofs.YtehmkablandefaaGreatDoor
namespace Go.Proofs.YtehmkablandefaaGreatDoor
open Go.RowKit
/-- joined -/
def joM (l m : List (Int × Int)) : List (Int × Int) := chL (shP (lenI l) 0) m m.length
def joG (l m : List (Int × Int)) : Bool := chO (shP (lenI l) 0) m m.length && decide (l.length + m.length ≤ 120)
def joC (l m : List (Int × Int)) : Int := if bothB l m then (if joG l m then 0 else 3) else 1
def joV (l m : List (Int × Int)) : List (Int × Int) := if bothB l m && joG l m then l ++ joM l m else []
theorem joM_len (l m : List (Int × Int)) : (joM l m).length = m.length := chL_len _ _ _
theorem joV_le (l m : List (Int × Int)) : (joV l m).length ≤ 1048576 := by
  unfold joV
  split
  · rename_i h
    simp only [Bool.and_eq_true, joG, decide_eq_true_eq] at h
    rw [List.length_append, joM_len]
    omega
  · simp
theorem mem_ok {l : List (Int × Int)} (h : okB l = true) {x : Int × Int} (hx : x ∈ l) : 0 ≤ x.1 ∧ x.1 < lenI l := by
  obtain ⟨i, hi, rfl⟩ := List.mem_iff_getElem.1 hx
  have h1 := bk_in h i hi
  have h2 := ok_in h i hi
  have e : nAt l i = l[i].1 := by simp [nAt, List.getD, hi]
  omega
theorem jo_asc {l m : List (Int × Int)} (h : bothB l m = true) : AscN (l ++ joM l m) := by
  simp only [bothB, Bool.and_eq_true] at h
  refine List.pairwise_append.2 ⟨asc_of_ok h.1, chL_asc (asc_of_ok h.2) fun x y hx hy hxy => by unfold ltN shP at *; omega, ?_⟩
  intro a ha b hb
  unfold joM at hb
  rw [chL_map] at hb
  obtain ⟨y, hy, rfl⟩ := List.mem_map.1 hb
  have h1 := mem_ok h.1 ha
  have h2 := mem_ok h.2 hy
  unfold ltN shP
  simp only
  omega
theorem jo_mk {l m : List (Int × Int)} (h : bothB l m = true) (hc : chO (shP (lenI l) 0) m m.length = true) : mkC (l ++ joM l m) = joC l m ∧ mkV (l ++ joM l m) = joV l m := by
  have hr : rangeB (l ++ joM l m) = true := by
    have h0 := h
    simp only [bothB, Bool.and_eq_true] at h0
    exact rangeB_append (rangeB_ok h0.1) (rangeB_ch hc)
  have hs := sortU_id (jo_asc h)
  have hlen : (l ++ joM l m).length = l.length + m.length := by rw [List.length_append, joM_len]
  have e1 : mkC (l ++ joM l m) = joC l m := by
    simp only [mkC, hr, hs, hlen, joC, h, joG, hc, if_true, Bool.true_and, decide_eq_true_eq]
  refine ⟨e1, ?_⟩
  unfold mkV
  rw [e1, hs]
  by_cases hle : l.length + m.length ≤ 120
  · simp [joC, joV, h, joG, hc, hle]
  · simp [joC, joV, h, joG, hc, hle]
theorem chW_jo {l m : List (Int × Int)} (hc : chO (shP (lenI l) 0) m m.length = true) : chW (shP (lenI l) 0) m = joM l m := by simp [chW, hc, joM]
end Go.Proofs.YtehmkablandefaaGreatDoor
