import Derived.Test.YtghkcfghkbihcaaGreatDoorGau
namespace Go.Proofs.YtghkcfghkbihcaaGreatDoor
open Go.RowKit Go.Shelf
attribute [local go_sem] Oper.semAt_some

/-- a pin of a drum -/
abbrev PinOf (d : Nat → Int) := { p : Nat × Nat // p.1 < 96 ∧ p.2 < 32 ∧ pinB d p.1 p.2 = true }
theorem bit_pin {d : Nat → Int} {k t : Nat} (hd : DWF d) (hk : k < 96) (h : (d k).toNat.testBit t = true) : pinB d k t = true := by
  rw [pin_bit (hd k hk).1]; exact h
theorem map_snoc {d : Nat → Int} (pre : List (PinOf d)) (x : PinOf d) : (pre ++ [x]).map (·.1) = pre.map (·.1) ++ [x.1] := by simp

theorem pins_call (d : Nat → Int) (w : World) : Calls Tryz.prog 85 #[.agg (da d)] w fun e w' => e = .returned (.func (.func 99) #[] #[.pointer (some ⟨w.heap.size, 0, none⟩)]) ∧ w' = w.alloc (.cells (da d) 43) := by
  go_enter Tryz.func85, Tryz.ntmps85
  go_wp2
  go_ret
  exact ⟨rfl, rfl⟩

set_option maxHeartbeats 2000000 in
set_option maxRecDepth 20000 in
theorem pins_stops (n : Nat) (hn : 2 ≤ n) (Bn : Nat) (d : Nat → Int) (hd : DWF d) (w : World) (hc : Dr w Bn 43 d) (hT : TabW w) :
    SeqStopsK Fence.wide n Tryz.prog 99 #[.pointer (some ⟨Bn, 0, none⟩)] (fun x : PinOf d => #[.int .i64 x.1.1, .int .i64 x.1.2]) (fun A B => TabW A → TabW B) (fun xs => xs.map (·.1) = pinsL d) (fun pre => pre.map (·.1) <+: pinsL d) 4000 w := by
  intro l J Jx W hW hJ hJx hY h0
  have D1 := hc.keep hW
  have T1 := hT.keep hW
  have HR1 := hide D1.range
  have HI := hide (fun k hk => indexD d k hk)
  show CallsIn Fence.wide n Tryz.prog 99 #[.func (.yield l) #[] #[], .pointer (some ⟨Bn, 0, none⟩)] W _
  refine callsIn_of_wp Tryz.func99 rfl trivial ?_ rfl
  simp only [Tryz.ntmps99, List.size_toArray, List.length_cons, List.length_nil, Nat.reduceAdd, Nat.reduceSub, Array.replicate_succ, Array.replicate_zero, List.push_toArray, List.append_toArray, List.nil_append, List.cons_append]
  gi_wp2_with (with_reducible refine wpListIn_load_da rfl 43 (.tmp 1) rfl Bn 0 rfl d _ HR1.out Tryz.underlying43 rfl (dInfo d) ?_)
  gi_loopw [6] (fun i wr => ∃ (k : Nat) (pre : List (PinOf d)), k ≤ 96 ∧ i = .int .i64 k ∧ pre.map (·.1) = pinsT d k ∧ J pre wr ∧ TabW wr) (fun i _ => 96 - (intOf i).toNat)
  case atStart => exact ⟨0, [], by omega, rfl, rfl, h0, T1⟩
  case round =>
    obtain ⟨k, pre, hk, rfl, hpre, hJs, hTs⟩ := hrel
    have HP := hide hpre
    clear hpre
    by_cases hlt : k < 96
    · have hx := HI.out k hlt
      obtain ⟨x, hxe⟩ : ∃ x : Nat, d k = (x : Int) := ⟨(d k).toNat, by have := hd k hlt; omega⟩
      have hxb : x < 4294967296 := by have := hd k hlt; omega
      have HXE := hide hxe
      rw [hxe] at hx
      clear hxe
      have hk1 : (k : Int) < 96 := by omega
      have hk2 : decide ((k : Int) < 96) = true := decide_eq_true hk1
      gi_wp2
      gi_loopw [4] (fun r wq => ∃ (y : Nat) (pre' : List (PinOf d)), r = .int .u32 y ∧ y < 4294967296 ∧ (∀ t, y.testBit t = true → x.testBit t = true) ∧ pre'.map (·.1) ++ (bitsL y).map (fun t => (k, t)) = pinsT d (k + 1) ∧ J pre' wq ∧ TabW wq) (fun r _ => (intOf r).toNat)
      case atStart => exact ⟨x, pre, rfl, hxb, fun _ h => h, by rw [HP.out, pinsT_succ, HXE.out, Int.toNat_natCast], hJs, hTs⟩
      case round =>
        obtain ⟨y, pre', rfl, hy, hsub, hmap, hJ2, hT2⟩ := hrel
        by_cases h0 : y = 0
        · subst h0
          have HM := hide (show pre'.map (·.1) = pinsT d (k + 1) by simpa [bitsL_zero] using hmap)
          clear hmap hJs hTs hsub
          gi_wp2
          go_roundw
          case rel => exact ⟨k + 1, pre', hlt, by go_num, HM.out, hJ2, hT2⟩
          case measure => simp [intOf]; omega
        · obtain ⟨l1, l2, l3, l4⟩ := low_facts hy h0
          have hbl := bitsL_low hy h0
          have hlen : pre'.length < 4000 := by
            have h1 := congrArg List.length hmap
            rw [List.length_append, List.length_map] at h1
            have h2 := pinsT_len d (k + 1)
            omega
          have HTZ := hide (fun W hW => tz_any y W hy h0 hW)
          obtain ⟨t, ht⟩ : ∃ t, Lib.ctz 32 y = t := ⟨_, rfl⟩
          obtain ⟨z, hz⟩ : ∃ z, y - 1 = z := ⟨_, rfl⟩
          obtain ⟨y', hy'⟩ : ∃ y', y &&& (y - 1) = y' := ⟨_, rfl⟩
          rw [ht] at l1 l2 hbl HTZ
          rw [hy'] at l3 l4 hbl
          have hsu : ((y : Int) - 1) % 4294967296 = (z : Int) := by omega
          have han : bits .and .u32 (y : Int) (z : Int) = (y' : Int) := by rw [and_nat y z hy (by omega), ← hz, hy']
          have hpos : 0 < y := by omega
          have hyz : (z : Int) = (y : Int) - 1 := by omega
          rw [hyz] at hsu han
          have hn1 : 1 ≤ n := by omega
          have hpin : pinB d k t = true := bit_pin hd hlt (by rw [HXE.out, Int.toNat_natCast]; exact hsub t l2)
          obtain ⟨fn, tmps, assign, body, hyy, hR⟩ := hY pre' ⟨(k, t), hlt, l1, hpin⟩ _ hJ2 hlen
          dsimp only at hyy
          have HM := hide (show (pre' ++ [(⟨(k, t), hlt, l1, hpin⟩ : PinOf d)]).map (·.1) ++ (bitsL y').map (fun t => (k, t)) = pinsT d (k + 1) by rw [map_snoc, ← hmap, hbl]; simp)
          have HL := hide l4
          have HS := hide hsub
          clear hbl hmap hsub l4 ht hz hy' h0 hJ2 hJs hTs hyz hsu
          gi_wp2_with (refine ⟨trivial, ?_⟩; gi_at_call 100; refine (callsIn_wide.2 (HTZ.out _ hT2)).mono ?_; rintro e w' ⟨rfl, rfl⟩)
          refine hR.mono ?_
          clear hyy hR
          rintro e W2 (⟨rfl, hJ3, hk3⟩ | ⟨rfl, hJx3⟩)
          · have hT3 := hk3 hT2
            gi_wp2
            go_roundw
            case rel => exact ⟨y', _, by go_num, by omega, fun t h => HS.out t (HL.out t h), HM.out, hJ3, hT3⟩
            case measure => simp [intOf]; omega
          · gi_wp2
            refine bodyPost_ret (results_none rfl _ _ _) rfl ?_
            exact ⟨⟨_, rfl⟩, .inr ⟨_, (List.prefix_append _ _).trans (HM.out ▸ pinsT_prefix d (by omega)), hJx3⟩⟩
    · obtain rfl : k = 96 := by omega
      gi_wp2
      go_end0
      exact ⟨⟨_, rfl⟩, .inl ⟨pre, HP.out, hJs⟩⟩
end Go.Proofs.YtghkcfghkbihcaaGreatDoor
namespace Go.Proofs.YtghkcfghkbihcaaGreatDoor
open Go.RowKit Go.Shelf
attribute [local go_sem] Oper.semAt_some

/-- the pins of a track ahead of a step -/
def trkC (d : Nat → Int) (t k : Nat) : Nat := ((List.range k).filter fun j => pinB d j t).length
theorem trkC_zero (d : Nat → Int) (t : Nat) : trkC d t 0 = 0 := rfl
theorem trkC_succ (d : Nat → Int) (t k : Nat) : trkC d t (k + 1) = trkC d t k + if pinB d k t = true then 1 else 0 := by
  unfold trkC
  rw [List.range_succ, List.filter_append, List.length_append]
  cases h : pinB d k t <;> simp [h]
theorem trkC_le (d : Nat → Int) (t k : Nat) : trkC d t k ≤ k := by simpa [trkC] using List.length_filter_le (fun j => pinB d j t) (List.range k)
def rowA (d : Nat → Int) (n k i : Nat) : List Nat := (List.range n).map fun t => trkC d t k + if t < i ∧ pinB d k t = true then 1 else 0
theorem rowA_len (d : Nat → Int) (n k i : Nat) : (rowA d n k i).length = n := by simp [rowA]
theorem rowA_get (d : Nat → Int) (n k i t : Nat) (h : t < n) : (rowA d n k i)[t]? = some (trkC d t k + if t < i ∧ pinB d k t = true then 1 else 0) := by simp [rowA, h]
theorem rowA_zero (d : Nat → Int) (n : Nat) : rowA d n 0 0 = List.replicate n 0 := by
  apply List.ext_getElem?
  intro t
  by_cases h : t < n
  · rw [rowA_get _ _ _ _ _ h]; simp [trkC_zero, h]
  · rw [List.getElem?_eq_none (by rw [rowA_len]; omega), List.getElem?_eq_none (by simp; omega)]
theorem rowA_next (d : Nat → Int) (n k : Nat) : rowA d n k n = rowA d n (k + 1) 0 := by
  apply List.map_congr_left
  intro t ht
  have := List.mem_range.1 ht
  rw [trkC_succ]
  simp [this]
theorem rowA_set (d : Nat → Int) (n k i : Nat) (hi : i < n) (h : pinB d k i = true) : (rowA d n k i).set i (trkC d i k + 1) = rowA d n k (i + 1) := by
  apply List.ext_getElem?
  intro t
  by_cases ht : t < n
  · rw [List.getElem?_set, rowA_get _ _ _ _ _ ht, rowA_get _ _ _ _ _ ht, rowA_len]
    by_cases e : i = t
    · subst e
      rw [if_pos rfl, if_pos hi, if_pos ⟨by omega, h⟩]
    · rw [if_neg e]
      have : (t < i ∧ pinB d k t = true) ↔ (t < i + 1 ∧ pinB d k t = true) := by constructor <;> (rintro ⟨h1, h2⟩; exact ⟨by omega, h2⟩)
      simp only [this]
  · rw [List.getElem?_eq_none (by rw [List.length_set, rowA_len]; omega), List.getElem?_eq_none (by rw [rowA_len]; omega)]
theorem rowA_skip (d : Nat → Int) (n k i : Nat) (h : pinB d k i = false) : rowA d n k i = rowA d n k (i + 1) := by
  apply List.map_congr_left
  intro t ht
  by_cases e : t = i
  · subst e; simp [h]
  · have : (t < i ∧ pinB d k t = true) ↔ (t < i + 1 ∧ pinB d k t = true) := by constructor <;> (rintro ⟨h1, h2⟩; exact ⟨by omega, h2⟩)
    simp only [this]
theorem tcells_len (xs : List Nat) : (tcells xs).length = xs.length := by simp [tcells]
theorem tcells_get {xs : List Nat} {i v : Nat} (h : xs[i]? = some v) : (tcells xs)[i]? = some (.int .i64 (v : Int)) := by simp [tcells, h]
theorem tcells_set (xs : List Nat) (i v : Nat) : (tcells xs).set i (.int .i64 (v : Int)) = tcells (xs.set i v) := by simp [tcells, List.map_set]
theorem tcells_rep (n : Nat) : tcells (List.replicate n 0) = (madeCells #[.int .i64 0] n).toList := by
  apply List.ext_getElem?
  intro j
  by_cases hj : j < n
  · simp [tcells, madeCells, hj, Nat.mod_one]
  · rw [List.getElem?_eq_none (by rw [tcells_len]; simp; omega), List.getElem?_eq_none (by simp [madeCells]; omega)]
/-- how many pins of a list each track has -/
def rowPb (n : Nat) (l : List (Nat × Nat)) : List Nat := (List.range n).map fun t => (l.filter fun p => decide (p.2 = t)).length
theorem rowPb_len (n : Nat) (l : List (Nat × Nat)) : (rowPb n l).length = n := by simp [rowPb]
theorem rowPb_get (n : Nat) (l : List (Nat × Nat)) (t : Nat) (h : t < n) : (rowPb n l)[t]? = some (l.filter fun p => decide (p.2 = t)).length := by simp [rowPb, h]
theorem rowPb_nil (n : Nat) : rowPb n [] = List.replicate n 0 := by
  apply List.ext_getElem?
  intro t
  by_cases h : t < n
  · rw [rowPb_get _ _ _ h]; simp [h]
  · rw [List.getElem?_eq_none (by rw [rowPb_len]; omega), List.getElem?_eq_none (by simp; omega)]
theorem rowPb_snoc (n : Nat) (l : List (Nat × Nat)) (p : Nat × Nat) (h : p.2 < n) : (rowPb n l).set p.2 ((l.filter fun q => decide (q.2 = p.2)).length + 1) = rowPb n (l ++ [p]) := by
  apply List.ext_getElem?
  intro t
  by_cases ht : t < n
  · rw [List.getElem?_set, rowPb_get _ _ _ ht, rowPb_get _ _ _ ht, rowPb_len, List.filter_append, List.length_append]
    by_cases e : p.2 = t
    · rw [if_pos e, if_pos h]; simp [e]
    · rw [if_neg e]; simp [e]
  · rw [List.getElem?_eq_none (by rw [List.length_set, rowPb_len]; omega), List.getElem?_eq_none (by rw [rowPb_len]; omega)]
theorem one_filter (p : Nat → Bool) (t : Nat) : ∀ m, ((List.range m).filter fun a => decide (a = t) && p a).length = if t < m ∧ p t = true then 1 else 0
  | 0 => by simp
  | m + 1 => by
    rw [List.range_succ, List.filter_append, List.length_append, one_filter p t m]
    by_cases e : m = t
    · subst e
      have h1 : ¬ (m < m ∧ p m = true) := fun h => by omega
      rw [if_neg h1]
      cases h : p m <;> simp [h]
    · have h2 : (t < m + 1 ∧ p t = true) ↔ (t < m ∧ p t = true) := by constructor <;> (rintro ⟨h1, h2⟩; exact ⟨by omega, h2⟩)
      simp only [h2]
      simp [e]
theorem pins_trk (d : Nat → Int) (hd : DWF d) (t : Nat) (ht : t < 32) : ∀ k, k ≤ 96 → ((pinsT d k).filter fun p => decide (p.2 = t)).length = trkC d t k
  | 0, _ => rfl
  | k + 1, h => by
    rw [pinsT_succ, List.filter_append, List.length_append, pins_trk d hd t ht k (by omega), trkC_succ, pin_bit (hd k (by omega)).1]
    congr 1
    have e : (((bitsL (d k).toNat).map fun t => (k, t)).filter fun p => decide (p.2 = t)).length = ((List.range 32).filter fun a => decide (a = t) && (d k).toNat.testBit a).length := by
      rw [List.filter_map, List.length_map]
      unfold bitsL
      rw [List.filter_filter]
      rfl
    rw [e, one_filter]
    simp [ht]
theorem pin_in {s : Int} {n : Nat} {d : Nat → Int} (h : drB s n d = true) (hd : DWF d) {k t : Nat} (hk : k < 96) (hp : pinB d k t = true) : (k : Int) < s ∧ t < n := by
  have h1 := drB_all h k hk
  obtain ⟨x1, x2⟩ := hd k hk
  simp only [stepB, Bool.and_eq_true, Bool.or_eq_true, decide_eq_true_eq] at h1
  rw [pin_bit x1] at hp
  have h0 : d k ≠ 0 := by
    intro e
    rw [e] at hp
    simp at hp
  refine ⟨by omega, ?_⟩
  rcases Nat.lt_or_ge t n with h2 | h2
  · exact h2
  · exfalso
    obtain ⟨x, hx⟩ := Int.eq_ofNat_of_zero_le x1
    rw [hx, Int.toNat_natCast] at hp
    have h3 : x / 2 ^ n = 0 := by have := h1.1; rw [hx] at this; exact_mod_cast this
    have h4 : x < 2 ^ n := by
      rcases Nat.lt_or_ge x (2 ^ n) with h5 | h5
      · exact h5
      · have := Nat.div_pos h5 (Nat.two_pow_pos n); omega
    have h5 : x < 2 ^ t := Nat.lt_of_lt_of_le h4 (Nat.pow_le_pow_right (by omega) h2)
    rw [Nat.testBit_lt_two_pow h5] at hp
    cases hp
theorem trkC_stop {s : Int} {n : Nat} {d : Nat → Int} (h : drB s n d = true) (hd : DWF d) (t S : Nat) (hS : s = (S : Int)) : ∀ m, S + m ≤ 96 → trkC d t (S + m) = trkC d t S
  | 0, _ => rfl
  | m + 1, hm => by
    rw [← Nat.add_assoc, trkC_succ, trkC_stop h hd t S hS m (by omega)]
    have : ¬ pinB d (S + m) t = true := fun hp => by have := (pin_in h hd (by omega) hp).1; omega
    rw [if_neg this, Nat.add_zero]
theorem row_end {s : Int} {n S : Nat} {d : Nat → Int} (h : drB s n d = true) (hd : DWF d) (hS : s = (S : Int)) (hS96 : S ≤ 96) (hn : n ≤ 24) : rowPb n (pinsL d) = rowA d n S 0 := by
  apply List.map_congr_left
  intro t ht
  have := List.mem_range.1 ht
  have h1 := pins_trk d hd t (by omega) 96 (Nat.le_refl _)
  have h2 := trkC_stop h hd t S hS (96 - S) (by omega)
  rw [show S + (96 - S) = 96 by omega] at h2
  unfold pinsL
  rw [h1, h2]
  simp
def pbL (s : Int) (l : List (Int × Int)) (d : Nat → Int) : List Nat := if askB s l d then rowA d l.length s.toNat 0 else []
theorem pbL_len (s : Int) (l : List (Int × Int)) (d : Nat → Int) (hn : l.length ≤ 1048576) : (pbL s l d).length ≤ 1048576 := by
  unfold pbL
  split
  · rw [rowA_len]; exact hn
  · simp

theorem TabW.kb {W : World} (l : Nat) {o : Obj} (o' : Obj) (ho : W.heap[l]? = some o) (hc : o.isCells = false) (h : TabW W) : TabW (W.putObj l o') := fun j hj =>
  cell_kept (h j hj) (grownBy_putObj' W l o') (fun r e => by cases e; exact ⟨o, ho, hc⟩)
theorem TabW.set {w : World} {b i : Nat} {v : Value} (h : TabW w) (hb : w.heap.size ≤ b ∨ 0 < b) : TabW (w.setCell ⟨b, i, none⟩ v) := fun j hj =>
  (cell_block (heap_setCell_other _ _ _ _ (by have := h.lt; rcases hb with h | h <;> (dsimp only; omega)))).trans (h j hj)

end Go.Proofs.YtghkcfghkbihcaaGreatDoor
