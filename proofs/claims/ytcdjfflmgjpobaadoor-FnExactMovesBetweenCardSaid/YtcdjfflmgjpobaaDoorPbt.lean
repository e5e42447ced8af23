import Derived.Test.YtcdjfflmgjpobaaDoorPns
namespace Go.Proofs.YtcdjfflmgjpobaaDoor
open Go.RowKit Go.Shelf
attribute [local go_sem] Oper.semAt_some

/-- the pins of a track ahead of a step -/
def trkC (d : Nat → Int) (t k : Nat) : Nat := ((List.range k).filter fun j => pinB d j t).length
theorem trkC_zero (d : Nat → Int) (t : Nat) : trkC d t 0 = 0 := rfl
theorem trkC_succ (d : Nat → Int) (t k : Nat) : trkC d t (k + 1) = trkC d t k + if pinB d k t = true then 1 else 0 := by
  unfold trkC
  rw [List.range_succ, List.filter_append, List.length_append]
  cases h : pinB d k t <;> simp [h]
theorem trkC_le (d : Nat → Int) (t k : Nat) : trkC d t k ≤ k := by simpa [trkC] using List.length_filter_le (fun j => pinB d j t) (List.range k)
def rowA (d : Nat → Int) (n k i : Nat) : List Nat := (List.range n).map fun t => trkC d t k + if t < i ∧ pinB d k t = true then 1 else 0
theorem rowA_len (d : Nat → Int) (n k i : Nat) : (rowA d n k i).length = n := by simp [rowA]
theorem rowA_get (d : Nat → Int) (n k i t : Nat) (h : t < n) : (rowA d n k i)[t]? = some (trkC d t k + if t < i ∧ pinB d k t = true then 1 else 0) := by simp [rowA, h]
theorem rowA_zero (d : Nat → Int) (n : Nat) : rowA d n 0 0 = List.replicate n 0 := by
  apply List.ext_getElem?
  intro t
  by_cases h : t < n
  · rw [rowA_get _ _ _ _ _ h]; simp [trkC_zero, h]
  · rw [List.getElem?_eq_none (by rw [rowA_len]; omega), List.getElem?_eq_none (by simp; omega)]
theorem rowA_next (d : Nat → Int) (n k : Nat) : rowA d n k n = rowA d n (k + 1) 0 := by
  apply List.map_congr_left
  intro t ht
  have := List.mem_range.1 ht
  rw [trkC_succ]
  simp [this]
theorem rowA_set (d : Nat → Int) (n k i : Nat) (hi : i < n) (h : pinB d k i = true) : (rowA d n k i).set i (trkC d i k + 1) = rowA d n k (i + 1) := by
  apply List.ext_getElem?
  intro t
  by_cases ht : t < n
  · rw [List.getElem?_set, rowA_get _ _ _ _ _ ht, rowA_get _ _ _ _ _ ht, rowA_len]
    by_cases e : i = t
    · subst e
      rw [if_pos rfl, if_pos hi, if_pos ⟨by omega, h⟩]
    · rw [if_neg e]
      have : (t < i ∧ pinB d k t = true) ↔ (t < i + 1 ∧ pinB d k t = true) := by constructor <;> (rintro ⟨h1, h2⟩; exact ⟨by omega, h2⟩)
      simp only [this]
  · rw [List.getElem?_eq_none (by rw [List.length_set, rowA_len]; omega), List.getElem?_eq_none (by rw [rowA_len]; omega)]
theorem rowA_skip (d : Nat → Int) (n k i : Nat) (h : pinB d k i = false) : rowA d n k i = rowA d n k (i + 1) := by
  apply List.map_congr_left
  intro t ht
  by_cases e : t = i
  · subst e; simp [h]
  · have : (t < i ∧ pinB d k t = true) ↔ (t < i + 1 ∧ pinB d k t = true) := by constructor <;> (rintro ⟨h1, h2⟩; exact ⟨by omega, h2⟩)
    simp only [this]
theorem tcells_len (xs : List Nat) : (tcells xs).length = xs.length := by simp [tcells]
theorem tcells_get {xs : List Nat} {i v : Nat} (h : xs[i]? = some v) : (tcells xs)[i]? = some (.int .i64 (v : Int)) := by simp [tcells, h]
theorem tcells_set (xs : List Nat) (i v : Nat) : (tcells xs).set i (.int .i64 (v : Int)) = tcells (xs.set i v) := by simp [tcells, List.map_set]
theorem tcells_rep (n : Nat) : tcells (List.replicate n 0) = (madeCells #[.int .i64 0] n).toList := by
  apply List.ext_getElem?
  intro j
  by_cases hj : j < n
  · simp [tcells, madeCells, hj, Nat.mod_one]
  · rw [List.getElem?_eq_none (by rw [tcells_len]; simp; omega), List.getElem?_eq_none (by simp [madeCells]; omega)]
/-- how many pins of a list each track has -/
def rowP (n : Nat) (l : List (Nat × Nat)) : List Nat := (List.range n).map fun t => (l.filter fun p => decide (p.2 = t)).length
theorem rowP_len (n : Nat) (l : List (Nat × Nat)) : (rowP n l).length = n := by simp [rowP]
theorem rowP_get (n : Nat) (l : List (Nat × Nat)) (t : Nat) (h : t < n) : (rowP n l)[t]? = some (l.filter fun p => decide (p.2 = t)).length := by simp [rowP, h]
theorem rowP_nil (n : Nat) : rowP n [] = List.replicate n 0 := by
  apply List.ext_getElem?
  intro t
  by_cases h : t < n
  · rw [rowP_get _ _ _ h]; simp [h]
  · rw [List.getElem?_eq_none (by rw [rowP_len]; omega), List.getElem?_eq_none (by simp; omega)]
theorem rowP_snoc (n : Nat) (l : List (Nat × Nat)) (p : Nat × Nat) (h : p.2 < n) : (rowP n l).set p.2 ((l.filter fun q => decide (q.2 = p.2)).length + 1) = rowP n (l ++ [p]) := by
  apply List.ext_getElem?
  intro t
  by_cases ht : t < n
  · rw [List.getElem?_set, rowP_get _ _ _ ht, rowP_get _ _ _ ht, rowP_len, List.filter_append, List.length_append]
    by_cases e : p.2 = t
    · rw [if_pos e, if_pos h]; simp [e]
    · rw [if_neg e]; simp [e]
  · rw [List.getElem?_eq_none (by rw [List.length_set, rowP_len]; omega), List.getElem?_eq_none (by rw [rowP_len]; omega)]
theorem one_filter (p : Nat → Bool) (t : Nat) : ∀ m, ((List.range m).filter fun a => decide (a = t) && p a).length = if t < m ∧ p t = true then 1 else 0
  | 0 => by simp
  | m + 1 => by
    rw [List.range_succ, List.filter_append, List.length_append, one_filter p t m]
    by_cases e : m = t
    · subst e
      have h1 : ¬ (m < m ∧ p m = true) := fun h => by omega
      rw [if_neg h1]
      cases h : p m <;> simp [h]
    · have h2 : (t < m + 1 ∧ p t = true) ↔ (t < m ∧ p t = true) := by constructor <;> (rintro ⟨h1, h2⟩; exact ⟨by omega, h2⟩)
      simp only [h2]
      simp [e]
theorem pins_trk (d : Nat → Int) (hd : DWF d) (t : Nat) (ht : t < 32) : ∀ k, k ≤ 96 → ((pinsT d k).filter fun p => decide (p.2 = t)).length = trkC d t k
  | 0, _ => rfl
  | k + 1, h => by
    rw [pinsT_succ, List.filter_append, List.length_append, pins_trk d hd t ht k (by omega), trkC_succ, pin_bit (hd k (by omega)).1]
    congr 1
    have e : (((bitsL (d k).toNat).map fun t => (k, t)).filter fun p => decide (p.2 = t)).length = ((List.range 32).filter fun a => decide (a = t) && (d k).toNat.testBit a).length := by
      rw [List.filter_map, List.length_map]
      unfold bitsL
      rw [List.filter_filter]
      rfl
    rw [e, one_filter]
    simp [ht]
theorem pin_in {s : Int} {n : Nat} {d : Nat → Int} (h : drB s n d = true) (hd : DWF d) {k t : Nat} (hk : k < 96) (hp : pinB d k t = true) : (k : Int) < s ∧ t < n := by
  have h1 := drB_all h k hk
  obtain ⟨x1, x2⟩ := hd k hk
  simp only [stepB, Bool.and_eq_true, Bool.or_eq_true, decide_eq_true_eq] at h1
  rw [pin_bit x1] at hp
  have h0 : d k ≠ 0 := by
    intro e
    rw [e] at hp
    simp at hp
  refine ⟨by omega, ?_⟩
  rcases Nat.lt_or_ge t n with h2 | h2
  · exact h2
  · exfalso
    obtain ⟨x, hx⟩ := Int.eq_ofNat_of_zero_le x1
    rw [hx, Int.toNat_natCast] at hp
    have h3 : x / 2 ^ n = 0 := by have := h1.1; rw [hx] at this; exact_mod_cast this
    have h4 : x < 2 ^ n := by
      rcases Nat.lt_or_ge x (2 ^ n) with h5 | h5
      · exact h5
      · have := Nat.div_pos h5 (Nat.two_pow_pos n); omega
    have h5 : x < 2 ^ t := Nat.lt_of_lt_of_le h4 (Nat.pow_le_pow_right (by omega) h2)
    rw [Nat.testBit_lt_two_pow h5] at hp
    cases hp
theorem trkC_stop {s : Int} {n : Nat} {d : Nat → Int} (h : drB s n d = true) (hd : DWF d) (t S : Nat) (hS : s = (S : Int)) : ∀ m, S + m ≤ 96 → trkC d t (S + m) = trkC d t S
  | 0, _ => rfl
  | m + 1, hm => by
    rw [← Nat.add_assoc, trkC_succ, trkC_stop h hd t S hS m (by omega)]
    have : ¬ pinB d (S + m) t = true := fun hp => by have := (pin_in h hd (by omega) hp).1; omega
    rw [if_neg this, Nat.add_zero]
theorem row_end {s : Int} {n S : Nat} {d : Nat → Int} (h : drB s n d = true) (hd : DWF d) (hS : s = (S : Int)) (hS96 : S ≤ 96) (hn : n ≤ 24) : rowP n (pinsL d) = rowA d n S 0 := by
  apply List.map_congr_left
  intro t ht
  have := List.mem_range.1 ht
  have h1 := pins_trk d hd t (by omega) 96 (Nat.le_refl _)
  have h2 := trkC_stop h hd t S hS (96 - S) (by omega)
  rw [show S + (96 - S) = 96 by omega] at h2
  unfold pinsL
  rw [h1, h2]
  simp
def pbL (s : Int) (l : List (Int × Int)) (d : Nat → Int) : List Nat := if askB s l d then rowA d l.length s.toNat 0 else []
theorem pbL_len (s : Int) (l : List (Int × Int)) (d : Nat → Int) (hn : l.length ≤ 1048576) : (pbL s l d).length ≤ 1048576 := by
  unfold pbL
  split
  · rw [rowA_len]; exact hn
  · simp

set_option maxRecDepth 20000 in
set_option maxHeartbeats 2000000 in
theorem specPinsByTrack_any (s : Int) (A : Option Addr) (c : Nat) (l : List (Int × Int)) (d : Nat → Int) (w : World) (hA : HA w A l) (hn : l.length ≤ 1048576) (hwf : HWF l) (hs : -32768 ≤ s ∧ s ≤ 32767) (hd : DWF d) :
    Calls Tryd.prog 12 #[.agg #[.int .i16 s, .slice A l.length c], .agg (da d)] w (OwnP w (pbL s l d) (codeI (askB s l d))) := by
  obtain ⟨i0, hi, hz0, hz1, hz2⟩ := info_parts info2
  have hb0 : Below w.heap.size w ((w.alloc (.cells #[.int .i16 s, .slice A l.length c] 34)).alloc (.cells (da d) 36)) := ((Below.refl _ _).alloc (Nat.le_refl _) _).alloc (by simp) _
  have hF : FP ((w.alloc (.cells #[.int .i16 s, .slice A l.length c] 34)).alloc (.cells (da d) 36)) w.heap.size s A l.length c := ⟨by simp [go_sem], by simp [go_sem]⟩
  have hD : Dr ((w.alloc (.cells #[.int .i16 s, .slice A l.length c] 34)).alloc (.cells (da d) 36)) (w.heap.size + 1) 36 d := heap_new' _ _ _ (by simp)
  go_enter Tryd.func12, Tryd.ntmps12
  go_wp2_with fail
  refine (l02Asked_any _ _ s A c l d _ hF hD (hA.below hb0) hn hwf hs hd).mono ?_
  rintro e w1 ⟨rfl, hb1⟩
  have b1 := step_below hb1 hb0
  have F1 := hF.keep hb1
  have D1 := hD.keep hb1
  cases ha : askB s l d
  · simp only [codeI]
    have HY := hide (show pbL s l d = [] by simp [pbL, ha])
    have HX := hide (show codeI (askB s l d) = 1 by rw [ha]; rfl)
    clear ha
    go_wp2
    go_ret2
    exact ⟨some ⟨w1.heap.size, 0, none⟩, 0, by rw [HX.out, HY.out]; rfl, by rw [HY.out]; exact own_empty b1.size, b1.alloc b1.size _⟩
  simp only [codeI]
  have hfa := ask_all ha
  obtain ⟨S, hSs⟩ : ∃ S : Nat, s = (S : Int) := ⟨s.toNat, by omega⟩
  have hS2 : 2 ≤ S ∧ S ≤ 96 := by omega
  have hSn : s.toNat = S := by omega
  have hl24 := hfa.2.1.2
  have HY := hide (show pbL s l d = rowA d l.length S 0 by simp [pbL, ha, hSn])
  have HX := hide (show codeI (askB s l d) = 0 by rw [ha]; rfl)
  clear ha hfa hSn
  subst hSs
  have e2 := F1.2
  go_wp2_with (at_make; refine wpList_make_full _ rfl _ _ 29 rfl w1.heap.size 2 i0 _ 1 Tryd.underlying29 hi hz0 hz1 _ _ _ _ l.length rfl rfl (by omega) (by omega) (by rw [hz2]; omega) (by unfold maxLen; omega) (by simp) ?_; intro w2 hown2 hgrow2)
  have hb2 : Below w1.heap.size w1 w2 := (Below.refl _ _).grown hgrow2 (Nat.le_refl _) (fun j e => by cases e)
  clear hgrow2 e2
  go_loopw [8] (fun i wr => ∃ k : Nat, k ≤ S ∧ i = .int .i64 k ∧ wr.ownsRow w1.heap.size 2 1 (.slice (some ⟨w1.heap.size, 0, none⟩) l.length l.length) l.length (tcells (rowA d l.length k 0)) ∧ Below w1.heap.size w1 wr)
    (fun i _ => S - (intOf i).toNat)
  case atStart =>
    refine ⟨0, Nat.zero_le _, rfl, ?_, hb2⟩
    rw [rowA_zero, tcells_rep]
    rw [Nat.mul_one] at hown2
    exact hown2
  case round =>
    obtain ⟨k, hk, rfl, hown, hb⟩ := hrel
    have F3 := F1.keep hb
    have e1 := F3.1
    by_cases hlt : k < S
    · have hk1 : (k : Int) < (S : Int) := by omega
      have hk2 : decide ((k : Int) < (S : Int)) = true := decide_eq_true hk1
      have hwS : IntKind.i64.wrap (S : Int) = (S : Int) := IntWalk.i64_in _ (by omega)
      go_wp2_with fail
      go_loopw [9, 28] (fun _ i wq => ∃ t : Nat, t ≤ l.length ∧ i = .int .i64 t ∧ wq.ownsRow w1.heap.size 2 1 (.slice (some ⟨w1.heap.size, 0, none⟩) l.length l.length) l.length (tcells (rowA d l.length k t)) ∧ Below w1.heap.size w1 wq)
        (fun _ i _ => l.length - (intOf i).toNat)
      case atStart => exact ⟨0, Nat.zero_le _, rfl, hown, hb⟩
      case round =>
        obtain ⟨t, ht, rfl, hown4, hb4⟩ := hrel
        have D4 := D1.keep hb4
        by_cases hlt2 : t < l.length
        · have KP : ∀ v, pinB d k t = v → ∀ W, W = wr → Calls Tryd.prog 47 #[.pointer (some ⟨w.heap.size + 1, 0, none⟩), .int .i64 k, .int .i64 t] W fun e w' => e = .returned (.bool v) ∧ W = w' := fun v hv W hW => by
            subst hW
            rw [← hv]
            exact l02Pin_any _ k t d _ D4 (by omega) (by omega) hd
          cases hp : pinB d k t
          · have KP' := KP false hp _ rfl
            have HS := hide (rowA_skip d l.length k t hp)
            clear hp KP
            go_wp2_with (go_at_call 47; with_reducible refine KP'.mono ?_; rintro e w' ⟨rfl, rfl⟩)
            go_roundw
            case rel => exact ⟨t + 1, hlt2, by go_num, by rw [← HS.out]; exact hown4, hb4⟩
            case measure => simp [intOf]; omega
          · have KP' := KP true hp _ rfl
            have HS := hide (rowA_set d l.length k t hlt2 hp)
            have hcv := trkC_le d t k
            have hcell := (hown4.cellAt t (by omega)).trans (tcells_get (rowA_get d l.length k t t hlt2))
            rw [if_neg (fun h => by omega), Nat.add_zero] at hcell
            have hfr := hown4.frozenAt t
            have hti : (t : Int) < (l.length : Int) := by omega
            have hwv : IntKind.i64.wrap ((trkC d t k : Int) + 1) = (trkC d t k : Int) + 1 := IntWalk.i64_in _ (by omega)
            clear hp KP
            go_wp2_with (go_at_call 47; with_reducible refine KP'.mono ?_; rintro e w' ⟨rfl, rfl⟩)
            go_roundw
            case rel =>
              refine ⟨t + 1, hlt2, by go_num, ?_, hb4.setCell (p := ⟨_, _, none⟩) (Nat.le_refl _) _⟩
              rw [← HS.out, ← tcells_set]
              exact (hown4.stored t _).1
            case measure => simp [intOf]; omega
        · obtain rfl : t = l.length := by omega
          go_wp2
          go_roundw
          case rel => exact ⟨k + 1, hlt, by go_num, by rw [← rowA_next]; exact hown4, hb4⟩
          case measure => simp [intOf]; omega
    · obtain rfl : k = S := by omega
      have hwS : IntKind.i64.wrap (k : Int) = (k : Int) := IntWalk.i64_in _ (by omega)
      go_wp2
      go_ret2
      exact ⟨some ⟨w1.heap.size, 0, none⟩, l.length, by rw [HX.out, HY.out, rowA_len]; rfl, by rw [HY.out, rowA_len]; exact own_base hown b1.size, step_below hb b1⟩

theorem TabW.kb {W : World} (l : Nat) {o : Obj} (o' : Obj) (ho : W.heap[l]? = some o) (hc : o.isCells = false) (h : TabW W) : TabW (W.putObj l o') := fun j hj =>
  cell_kept (h j hj) (grownBy_putObj' W l o') (fun r e => by cases e; exact ⟨o, ho, hc⟩)
theorem TabW.set {w : World} {b i : Nat} {v : Value} (h : TabW w) (hb : w.heap.size ≤ b ∨ 7 < b) : TabW (w.setCell ⟨b, i, none⟩ v) := fun j hj =>
  (cell_block (heap_setCell_other _ _ _ _ (by have := h.lt; rcases hb with h | h <;> (dsimp only; omega)))).trans (h j hj)

set_option maxHeartbeats 4000000 in
set_option maxRecDepth 100000 in
theorem implPinsByTrack_any (s : Int) (A : Option Addr) (c : Nat) (l : List (Int × Int)) (d : Nat → Int) (w : World) (hA : HA w A l) (hn : l.length ≤ 1048576) (hwf : HWF l) (hs : -32768 ≤ s ∧ s ≤ 32767) (hd : DWF d) (hT : TabW w) :
    Calls Tryd.prog 15 #[.agg #[.int .i16 s, .slice A l.length c], .agg (da d)] w (OwnP w (pbL s l d) (codeI (askB s l d))) := by
  obtain ⟨i0, hi, hz0, hz1, hz2⟩ := info_parts info2
  have hb0 : Below w.heap.size w ((w.alloc (.cells #[.int .i16 s, .slice A l.length c] 34)).alloc (.cells (da d) 36)) := ((Below.refl _ _).alloc (Nat.le_refl _) _).alloc (by simp) _
  have D0 : Dr ((w.alloc (.cells #[.int .i16 s, .slice A l.length c] 34)).alloc (.cells (da d) 36)) (w.heap.size + 1) 36 d := heap_new' _ _ _ (by simp)
  have HR0 := hide D0.range
  refine (callsIn_wide (n := 5)).1 ?_
  refine callsIn_of_wp_marks Tryd.func15 rfl trivial ?_ rfl
  simp only [Tryd.ntmps15, List.size_toArray, List.length_cons, List.length_nil, Nat.reduceAdd, Nat.reduceSub, Array.replicate_succ, Array.replicate_zero, List.push_toArray, List.append_toArray, List.nil_append, List.cons_append]
  refine wpIn_wide.2 ?_
  go_wp2_with (first | (with_reducible refine wpList_load_da rfl 36 (.tmp 3) rfl (w.heap.size + 1) 0 rfl d _ HR0.out Tryd.underlying36 rfl (dInfo d) ?_) | (with_reducible refine wpList_build1 rfl (.tmp 13) rfl d rfl ?_))
  refine (machine1_any s A c l d _ (hA.below hb0) hn hwf hs hd _ (by simp)).mono ?_
  rintro e w2 ⟨rfl, hb2⟩
  have hx0 : Below ((w.alloc (.cells #[.int .i16 s, .slice A l.length c] 34)).alloc (.cells (da d) 36)).heap.size ((w.alloc (.cells #[.int .i16 s, .slice A l.length c] 34)).alloc (.cells (da d) 36)) (((w.alloc (.cells #[.int .i16 s, .slice A l.length c] 34)).alloc (.cells (da d) 36)).alloc (.cells (da d) 36)) := (Below.refl _ _).alloc (Nat.le_refl _) _
  have b2 := step_below hb2 (hb0.alloc hb0.size (.cells (da d) 36))
  have hy : Below w2.heap.size w2 (w2.alloc (.cells #[.int .i64 s, .slice A l.length c] 78)) := (Below.refl _ _).alloc (Nat.le_refl _) _
  have M3 : (w2.alloc (.cells #[.int .i64 s, .slice A l.length c] 78)).heap[w2.heap.size]? = some (.cells #[.int .i64 s, .slice A l.length c] 78 (0, 0)) := heap_alloc_new _ _
  have b3 := b2.alloc b2.size (.cells #[.int .i64 s, .slice A l.length c] 78)
  have D3 := ((D0.keep hx0).keep hb2).keep hy
  cases ha : askB s l d
  · have HY := hide (show pbL s l d = [] by simp [pbL, ha])
    have HX := hide (show codeI (askB s l d) = 1 by rw [ha]; rfl)
    clear ha
    go_wp2_with fail
    exact bodyM_ret (results_tmp2 rfl _ _ _) rfl ⟨none, 0, by rw [HX.out, HY.out]; rfl, by rw [HY.out]; exact ⟨rfl, Or.inl ⟨rfl, rfl⟩⟩, b3⟩
  have hfa := ask_all ha
  obtain ⟨S, hSs⟩ : ∃ S : Nat, s = (S : Int) := ⟨s.toNat, by omega⟩
  have hS2 : 2 ≤ S ∧ S ≤ 96 := by omega
  have hSn : s.toNat = S := by omega
  have hl24 := hfa.2.1.2
  have HV := hide hfa.2.2.2
  have HY := hide (show pbL s l d = rowP l.length (pinsL d) by rw [row_end hfa.2.2.2 hd hSs hS2.2 hl24]; simp [pbL, ha, hSn])
  have HX := hide (show codeI (askB s l d) = 0 by rw [ha]; rfl)
  clear ha hfa hSn
  subst hSs
  obtain ⟨X, hX⟩ : ∃ X, w2.alloc (.cells #[.int .i64 S, .slice A l.length c] 78) = X := ⟨_, rfl⟩
  have hTX : TabW X := hT.keep (by rw [← hX]; exact b3)
  have hXs : w2.heap.size < X.heap.size := by rw [← hX]; simp
  have HTr := fun W => tracks_any A l.length c hn W
  have HXX := hide hX
  rw [hX] at M3 D3 b3
  clear hX M3 HR0 D0 hb0 hx0 b2 hb2 hy
  go_wp2_with fail
  rw [HXX.out]
  clear HXX
  refine (HTr _).mono ?_
  rintro e w' ⟨rfl, rfl⟩
  go_wp2_with (first | (at_make; refine wpList_make_full _ rfl _ _ 29 rfl X.heap.size 2 i0 _ 1 Tryd.underlying29 hi hz0 hz1 _ _ _ _ l.length rfl rfl (by omega) (by omega) (by rw [hz2]; omega) (by unfold maxLen; omega) (by simp) ?_; intro w4 hown4 hgrow4; have hb4 : Below X.heap.size X w4 := (Below.refl _ _).grown hgrow4 (Nat.le_refl _) (fun j e => by cases e); have hyy : Below w4.heap.size w4 (w4.alloc (.cells #[.slice (some ⟨X.heap.size, 0, none⟩) l.length l.length] 29)) := al_below _ _; have D4 := (D3.keep hb4).keep hyy; have HR4 := hide D4.range) | (with_reducible refine wpList_load_da rfl 36 (.tmp 3) rfl (w.heap.size + 1) 0 rfl d _ HR4.out Tryd.underlying36 rfl (dInfo d) ?_) | (go_at_call 51; refine (pins_call _ _).mono ?_; rintro e w5 ⟨rfl, rfl⟩))
  have hgX : X.heap.size < w4.heap.size := by
    have h := (hown4.lt X.heap.size rfl).2
    exact h
  obtain ⟨W0, hW0⟩ : ∃ W0, ((w4.alloc (.cells #[.slice (some ⟨X.heap.size, 0, none⟩) l.length l.length] 29)).alloc (.cells (da d) 36)) = W0 := ⟨_, rfl⟩
  have hs0 : W0.heap.size = w4.heap.size + 2 := by rw [← hW0]; simp
  have hbW : Below w4.heap.size w4 W0 := by rw [← hW0]; exact ((Below.refl _ w4).alloc (Nat.le_refl _) _).alloc (by simp) _
  have hbx := step_below hbW hb4
  have b5 := step_below hbx b3
  have Bx0 : Boxed W0 w4.heap.size 29 (.slice (some ⟨X.heap.size, 0, none⟩) l.length l.length) := by rw [← hW0]; exact heap_old' (heap_new' _ _ _ rfl)
  have DW : Dr W0 (w4.heap.size + 1) 36 d := by rw [← hW0]; exact heap_new' _ _ _ (by simp)
  have own0 := own_keep hown4 hbW
  have hTW : TabW W0 := hTX.keep hbx
  rw [Nat.mul_one] at own0
  have own1 : W0.ownsRow X.heap.size 2 1 (.slice (some ⟨X.heap.size, 0, none⟩) l.length l.length) l.length (tcells (rowP l.length [])) := by rw [rowP_nil, tcells_rep]; exact own0
  simp only [hW0]
  have hwX := b3.size
  have hX7 := hTX.lt
  clear hbx hbW hb4 hyy hown4 hgrow4 HR4 D4 D3 b3 hW0 own0
  refine (wpIn_wide (n := 5)).1 ?_
  refine wpIn_rangeFunc_ownF rfl (by omega) (gf := 78) (lb := #[.pointer (some ⟨w4.heap.size + 1, 0, none⟩)]) rfl trivial (enters_of Tryd.func78 (by kernel_rfl) rfl)
    (pins_stops (5 - 1) (by omega) (w4.heap.size + 1) d hd W0 DW hTW)
    (fun h1 h2 h => h2 (h1 h)) (fun W r o o' _ ho hc _ h => TabW.kb r o' ho hc h) (Below.refl _ _) (fun _ => rfl)
    (fun pre W => ((∃ v, Boxed W w4.heap.size 29 v ∧ W.ownsRow X.heap.size 2 1 v l.length (tcells (rowP l.length (pre.map fun x : PinOf d => x.1))) ∧ v = .slice (some ⟨X.heap.size, 0, none⟩) l.length l.length) ∧ TabW W) ∧ Below w.heap.size w W)
    (fun _ _ _ => False)
    (OwnFrom.and (OwnFrom.and ((holdsRow_own X.heap.size w4.heap.size 29 2 1 (fun _ => l.length) (fun pre : List (PinOf d) => tcells (rowP l.length (pre.map fun x : PinOf d => x.1))) (fun _ v => v = .slice (some ⟨X.heap.size, 0, none⟩) l.length l.length)).from _) (fun _ _ _ _ hs hg hr j hj => cell_kept (hs j hj) hg (fun r e => (hr r e).2))) (ownFrom_below (Nat.le_refl _) (by have := b5.size; omega)))
    (fun _ _ _ _ _ hs _ _ => hs)
    ⟨⟨⟨_, Bx0, own1, rfl⟩, hTW⟩, b5⟩ ?a1 ?assign ?body ?done ?stop
  case assign =>
    intro l x W K hK
    gi_wp2
    exact hK
  case body =>
    rintro r pre x W ⟨⟨⟨v, hv, hown, rfl⟩, hTb⟩, hBel⟩ hlen
    obtain ⟨hx1, hx2, hx3⟩ := x.2
    obtain ⟨hin1, hin2⟩ := pin_in HV.out hd hx1 hx3
    have f1 := hv.cell
    have hcnt : ((pre.map fun x : PinOf d => x.1).filter fun q => decide (q.2 = x.1.2)).length ≤ 4000 := by
      have h1 := List.length_filter_le (fun q : Nat × Nat => decide (q.2 = x.1.2)) (pre.map fun x : PinOf d => x.1)
      rw [List.length_map] at h1
      omega
    have f2 := (hown.cellAt x.1.2 (by omega)).trans (tcells_get (rowP_get l.length (pre.map fun x : PinOf d => x.1) x.1.2 hin2))
    have HN := hide (rowP_snoc l.length (pre.map fun x : PinOf d => x.1) x.1 hin2)
    obtain ⟨cn, hcn⟩ : ∃ cn, ((pre.map fun x : PinOf d => x.1).filter fun q => decide (q.2 = x.1.2)).length = cn := ⟨_, rfl⟩
    rw [hcn] at f2 hcnt HN
    clear hcn
    have f3 := hown.frozenAt x.1.2
    have hwv : IntKind.i64.wrap ((cn : Int) + 1) = (cn : Int) + 1 := IntWalk.i64_in _ (by omega)
    have hti : (x.1.2 : Int) < (l.length : Int) := by omega
    have hTl := hTb.lt
    gi_wp2
    refine ⟨KeepsOthers.setCell _ _ _, fun h => ?_, ⟨⟨_, ?_, ?_, rfl⟩, ?_⟩, ?_⟩
    · exact h.set (Or.inr hX7)
    · exact (heap_setCell_other W ⟨X.heap.size, _, none⟩ w4.heap.size _ (by dsimp only; omega)).trans hv
    · simp only [List.map_append, List.map_cons, List.map_nil]
      rw [← HN.out, ← tcells_set]
      exact (hown.stored _ _).1
    · exact hTb.set (Or.inr hX7)
    · exact hBel.setCell (p := ⟨X.heap.size, _, none⟩) hwX _
  case done =>
    rintro D ys W hD hS ⟨⟨⟨v, hv, hown, rfl⟩, _⟩, hBel⟩ hK
    rw [hS] at hown
    have f1 := hv.cell
    go_wp2_with fail
    refine ⟨by simp, .inl ⟨_, _, rfl, run_takeDeferred hK, ?_⟩⟩
    refine ⟨_, results_tmp2 (fn := Tryd.f15) rfl _ _ _, ?_⟩
    refine ⟨some ⟨X.heap.size, 0, none⟩, l.length, by rw [HX.out, HY.out, rowP_len]; rfl, ?_, hBel.trans (belowK_b (w := w) (Nat.le_refl _) W D _ _ (by omega) hK rfl rfl)⟩
    rw [HY.out, rowP_len]
    exact own_base (ownsRow_putObj hown _ hK rfl) hwX
  case stop =>
    rintro D c pre W _ _ h _
    exact h.elim
end Go.Proofs.YtcdjfflmgjpobaaDoor
