import Derived.Test.YtklkomgpaamcpaaPit
import Derived.Deep.MidRow
namespace Go.Proofs.Ytklkomgpaamcpaa
open Go.RowKit

/-- how many of the first k notes begin at step i -/
def cnt (l : List (Int × Int)) (k i : Nat) : Nat := ((List.range k).filter fun j => nAt l j == (i : Int)).length
theorem cnt_zero (l : List (Int × Int)) (i : Nat) : cnt l 0 i = 0 := rfl
theorem cnt_le (l : List (Int × Int)) (k i : Nat) : cnt l k i ≤ k := by
  have := List.length_filter_le (fun j => nAt l j == (i : Int)) (List.range k)
  simpa [cnt] using this
theorem cnt_succ (l : List (Int × Int)) (k i : Nat) : cnt l (k + 1) i = cnt l k i + if nAt l k = (i : Int) then 1 else 0 := by
  unfold cnt
  rw [List.range_succ, List.filter_append, List.length_append]
  congr 1
  by_cases h : nAt l k = (i : Int) <;> simp [h]
def cntV (l : List (Int × Int)) (k : Nat) : List Value := (List.range 200).map fun i => .int .i64 (cnt l k i)
theorem cntV_length (l : List (Int × Int)) (k : Nat) : (cntV l k).length = 200 := by simp [cntV]
theorem cntV_get (l : List (Int × Int)) (k i : Nat) (h : i < 200) : (cntV l k)[i]? = some (.int .i64 (cnt l k i)) := by simp [cntV, h]
theorem cntV_set (l : List (Int × Int)) (k a : Nat) (ha : nAt l k = (a : Int)) : (cntV l k).set a (.int .i64 ((cnt l k a : Int) + 1)) = cntV l (k + 1) := by
  apply List.ext_getElem?
  intro i
  by_cases hi : i < 200
  · rw [cntV_get _ _ _ hi, List.getElem?_set, cntV_get _ _ _ hi, cnt_succ, ha, cntV_length]
    by_cases e : a = i
    · subst e
      simp [hi]
    · rw [if_neg e, if_neg (by omega)]
      rfl
  · rw [List.getElem?_eq_none (by rw [List.length_set, cntV_length]; omega), List.getElem?_eq_none (by rw [cntV_length]; omega)]

/-- block g holds the counts -/
def Cnts (w : World) (g : Nat) (l : List (Int × Int)) (k : Nat) : Prop := w.heap[g]? = some (.cells (cntV l k).toArray 62 (0, 0))
theorem Cnts.lt {w : World} {g k : Nat} {l : List (Int × Int)} (h : Cnts w g l k) : g < w.heap.size := (Array.getElem?_eq_some_iff.1 h).1
theorem Cnts.cell {w : World} {g k : Nat} {l : List (Int × Int)} (h : Cnts w g l k) {i : Nat} (hi : i < 200) : w.cell? ⟨g, i, none⟩ = some (.int .i64 (cnt l k i)) := by
  rw [cell_of_row w g i _ _ _ h]
  simpa using cntV_get l k i hi
theorem Cnts.frozen {w : World} {g k : Nat} {l : List (Int × Int)} (h : Cnts w g l k) (i : Nat) : w.frozen? ⟨g, i, none⟩ = false := frozen_of_row w g i _ _ h
theorem Cnts.keep {w w' : World} {g k : Nat} {l : List (Int × Int)} (h : Cnts w g l k) (hb : Below w.heap.size w w') : Cnts w' g l k := (hb.block g h.lt).trans h
theorem Cnts.step {w : World} {g k a : Nat} {l : List (Int × Int)} (h : Cnts w g l k) (ha : nAt l k = (a : Int)) : Cnts (w.setCell ⟨g, a, none⟩ (.int .i64 ((cnt l k a : Int) + 1))) g l (k + 1) := by
  have := heap_setCell_same w g a _ _ (.int .i64 ((cnt l k a : Int) + 1)) h
  unfold Cnts
  rw [this, ← cntV_set l k a ha]
  simp
def zs200 : Array Value := (List.replicate 200 (.int .i64 0)).toArray
theorem rep_range (n : Nat) (v : Value) : List.replicate n v = (List.range n).map fun _ => v := by simp [List.map_const']
theorem zs200_eq (l : List (Int × Int)) : zs200 = (cntV l 0).toArray := by
  unfold zs200 cntV
  rw [rep_range]
  rfl
theorem zero200 (w : World) : (zeroValue 62).run Try.prog w = .ok (.agg zs200) w := by kernel_rfl

theorem store200 (w : World) : (storeCells ⟨w.heap.size, 0, none⟩ zs200.toList).run Try.prog (w.alloc (.cells zs200 62)) = .ok () (w.alloc (.cells zs200 62)) := by
  have hg : (w.alloc (.cells zs200 62)).heap[w.heap.size]? = some (.cells zs200 62 (0, 0)) := heap_alloc_new w _
  have h := run_storeCells_from (P := Try.prog) w.heap.size 62 zs200.toList 0 zs200 _ hg (by simp) (fun v hv => by
    have hv' : v ∈ List.replicate 200 (Value.int .i64 0) := by unfold zs200 at hv; exact hv
    rw [List.eq_of_mem_replicate hv']; rfl)
  rw [h]
  simp only [List.take_zero, List.nil_append, Array.toArray_toList, setRow_self _ _ _ _ _ hg]
theorem index200 (l : List (Int × Int)) (n k : Nat) (hk : k < 200) (w : World) : (Instr.index 62 (.agg (cntV l n).toArray) (.int .i64 k)).run Try.prog w = .ok (.int .i64 (cnt l n k)) w := by
  have h := cntV_get l n k hk
  simp [Instr.index, asIntOf, run_underlying Try.underlying62, go_sem, hk, h]
/-- where the greatest of the first k is, the first one of several -/
def amax (f : Nat → Nat) : Nat → Nat
  | 0 => 0
  | k + 1 => if f (amax f k) < f k then k else amax f k
theorem amax_lt (f : Nat → Nat) : ∀ k, amax f k < k + 1
  | 0 => by simp [amax]
  | k + 1 => by
    have := amax_lt f k
    unfold amax
    split <;> omega
theorem amax_one (f : Nat → Nat) : amax f 1 = 0 := by simp [amax]
/-- three values come back -/
def Trip (x y z : Value) (w : World) (e : Ending) (w' : World) : Prop := e = .returned (.tuple #[x, y, z]) ∧ Below w.heap.size w w'
theorem ret3 {x x' y y' z z' : Value} (h1 : x = x') (h2 : y = y') (h3 : z = z') : Ending.returned (.tuple #[x, y, z]) = .returned (.tuple #[x', y', z']) := by rw [h1, h2, h3]
def loudAt (l : List (Int × Int)) : Nat := amax (cnt l l.length) 200

set_option maxHeartbeats 1000000 in
set_option maxRecDepth 100000 in
theorem implLoud_yes (A : Option Addr) (c : Nat) (l : List (Int × Int)) (w : World) (hA : NA w A l) (hn : l.length ≤ 1048576) (hwf : WF l) (hok : okB l = true) (h0 : 0 < l.length) :
    Calls Try.prog 31 #[.slice A l.length c] w (Trip (.int .i64 (loudAt l)) (.int .i64 (cnt l l.length (loudAt l))) (.int .i64 0) w) := by
  have h0' : ¬ l.length = 0 := by omega
  have h1 : ((l.length : Int) == 0) = false := by simpa using h0'
  have h2 : (l.length == 0) = false := by simpa using h0'
  have HIN := hide (inRange_of l hok)
  have hz := zero200
  clear h0'
  go_enter Try.func31, Try.ntmps31
  go_wp2_with (go_at_call 16; refine (implValid_any A c l _ hA hn hwf).mono ?_; rintro e w1 ⟨rfl, hb⟩)
  have hc0 : Cnts (w1.alloc (.cells zs200 62)) w1.heap.size l 0 := by rw [zs200_eq l]; exact heap_alloc_new w1 _
  have hb0 : Below w.heap.size w (w1.alloc (.cells zs200 62)) := hb.alloc hb.size _
  have HS := hide hb.size
  clear hz
  go_loopw [19] (fun i wr => ∃ k : Nat, k ≤ l.length ∧ i = .int .i64 k ∧ Cnts wr w1.heap.size l k ∧ Below w.heap.size w wr)
    (fun i _ => l.length - (intOf i).toNat)
  case atStart => exact ⟨0, Nat.zero_le _, rfl, hc0, hb0⟩
  case round =>
    obtain ⟨k, hk, rfl, hc, hbr⟩ := hrel
    clear hc0 hb0
    by_cases hlt : k < l.length
    · obtain ⟨b, o, rfl, hbb, c1, c2⟩ := hA k hlt
      have d1 := (hbr.cell (p := ⟨b, o + k * 2, none⟩) hbb).trans c1
      have d2 := (hbr.cell (p := ⟨b, o + k * 2 + 1, none⟩) hbb).trans c2
      obtain ⟨⟨e1, e2⟩, _, _⟩ : (0 ≤ nAt l k ∧ nAt l k ≤ 199) ∧ 0 ≤ nPi l k ∧ nPi l k ≤ 47 := by simpa [noteB] using HIN.out k hlt
      obtain ⟨a, hae⟩ : ∃ a : Nat, nAt l k = (a : Int) := ⟨(nAt l k).toNat, by omega⟩
      have HAE := hide hae
      have hat : (nAt l k).toNat = a := by omega
      have ha : a < 200 := by omega
      have hbx : Below w.heap.size w (wr.alloc (.cells #[.int .i16 (nAt l k), .int .i8 (nPi l k)] 49)) := hbr.alloc hbr.size _
      have hcx : Cnts (wr.alloc (.cells #[.int .i16 (nAt l k), .int .i8 (nPi l k)] 49)) w1.heap.size l k := hc.keep ((Below.refl _ _).alloc (Nat.le_refl _) _)
      have f1 := hcx.cell ha
      have f2 := hcx.frozen a
      have hcl := cnt_le l k a
      clear c1 c2 hA hae
      go_wp2
      go_roundw
      case rel => exact ⟨k + 1, hlt, by go_num, hcx.step HAE.out, hbx.setCell (p := ⟨w1.heap.size, _, none⟩) HS.out _⟩
      case measure => simp [intOf]; omega
    · obtain rfl : k = l.length := by omega
      have HR := hide (show wr.heap[w1.heap.size]? = some (.cells (cntV l l.length).toArray 62 (0, 0)) from hc)
      have HI := hide (fun k hk => index200 l l.length k hk)
      go_wp2_with (with_reducible refine wpList_load_row rfl 62 (.tmp 5) rfl w1.heap.size rfl 62 (cntV l l.length).toArray (0, 0) _ HR.out Try.underlying62 rfl (by rw [List.size_toArray, cntV_length]; kernel_rfl) ?_)
      go_loop [8, 31] (fun x i => ∃ k : Nat, k ≤ 200 ∧ i = .int .i64 k ∧ x = .int .i64 (amax (cnt l l.length) k)) (fun _ i => 200 - (intOf i).toNat)
      case atStart => exact ⟨0, Nat.zero_le _, rfl, rfl⟩
      case round =>
        obtain ⟨k, hk2, rfl, rfl⟩ := hrel
        by_cases hlt2 : k < 200
        · have hal := amax_lt (cnt l l.length) k
          have f3 := hc.cell (i := amax (cnt l l.length) k) (by omega)
          have hix := HI.out k hlt2
          go_wp2
          · go_round
            case rel => exact ⟨k + 1, by omega, by go_num, by rw [amax, if_pos (by assumption)]⟩
            case measure => simp [intOf]; omega
          · go_round
            case rel => exact ⟨k + 1, by omega, by go_num, by rw [amax, if_neg (by assumption)]⟩
            case measure => simp [intOf]; omega
        · obtain rfl : k = 200 := by omega
          have hal : amax (cnt l l.length) 200 < 200 := by
            have h9 := amax_lt (cnt l l.length) 199
            rw [amax]
            split <;> omega
          obtain ⟨z, hz⟩ : ∃ z, z = amax (cnt l l.length) 200 := ⟨_, rfl⟩
          rw [← hz] at hal
          have f3 := Later.cell (hc.cell (i := z) hal)
          have HZ := hide (show z = loudAt l from hz)
          rw [← hz]
          clear hz
          go_wp2_with fail
          refine wp_region_later (by kernel_rfl) (by kernel_rfl) ?_
          repeat (go_big_quiet_step (fail))
          refine wpQuiet_nil ?_
          rintro _ ⟨⟨wq, hq⟩, rfl⟩
          go_wp2
          go_ret3
          exact ⟨ret3 (ret_int' (show (z : Int) = (loudAt l : Int) by rw [HZ.out])) (ret_int' (show ((cnt l l.length z : Nat) : Int) = (cnt l l.length (loudAt l) : Int) by rw [HZ.out])) rfl, hbr.trans (hq.mono hbr.size)⟩

set_option maxHeartbeats 1000000 in
set_option maxRecDepth 100000 in
theorem specLoud_yes (A : Option Addr) (c : Nat) (l : List (Int × Int)) (w : World) (hA : NA w A l) (hn : l.length ≤ 1048576) (hwf : WF l) (hok : okB l = true) (h0 : 0 < l.length) :
    Calls Try.prog 30 #[.slice A l.length c] w (Trip (.int .i64 (loudAt l)) (.int .i64 (cnt l l.length (loudAt l))) (.int .i64 0) w) := by
  have h0' : ¬ l.length = 0 := by omega
  have h1 : ((l.length : Int) == 0) = false := by simpa using h0'
  have h2 : (l.length == 0) = false := by simpa using h0'
  have HIN := hide (inRange_of l hok)
  have hz := zero200
  have hst := store200
  clear h0'
  go_enter Try.func30, Try.ntmps30
  go_wp2_with (go_at_call 36; refine (l01Ok_any A c l _ hA hn hwf).mono ?_; rintro e w1 ⟨rfl, hb⟩)
  have hc0 : Cnts (w1.alloc (.cells zs200 62)) w1.heap.size l 0 := by rw [zs200_eq l]; exact heap_alloc_new w1 _
  have hb0 : Below w.heap.size w (w1.alloc (.cells zs200 62)) := hb.alloc hb.size _
  have HS := hide hb.size
  clear hz hst
  go_loopw [7] (fun i wr => ∃ k : Nat, k ≤ l.length ∧ i = .int .i64 k ∧ Cnts wr w1.heap.size l k ∧ Below w.heap.size w wr)
    (fun i _ => l.length - (intOf i).toNat)
  case atStart => exact ⟨0, Nat.zero_le _, rfl, hc0, hb0⟩
  case round =>
    obtain ⟨k, hk, rfl, hc, hbr⟩ := hrel
    clear hc0 hb0
    by_cases hlt : k < l.length
    · obtain ⟨b, o, rfl, hbb, c1, c2⟩ := hA k hlt
      have d1 := (hbr.cell (p := ⟨b, o + k * 2, none⟩) hbb).trans c1
      have d2 := (hbr.cell (p := ⟨b, o + k * 2 + 1, none⟩) hbb).trans c2
      obtain ⟨⟨e1, e2⟩, _, _⟩ : (0 ≤ nAt l k ∧ nAt l k ≤ 199) ∧ 0 ≤ nPi l k ∧ nPi l k ≤ 47 := by simpa [noteB] using HIN.out k hlt
      obtain ⟨a, hae⟩ : ∃ a : Nat, nAt l k = (a : Int) := ⟨(nAt l k).toNat, by omega⟩
      have HAE := hide hae
      have hat : (nAt l k).toNat = a := by omega
      have ha : a < 200 := by omega
      have f1 := hc.cell ha
      have f2 := hc.frozen a
      have hcl := cnt_le l k a
      clear c1 c2 hA hae
      go_wp2
      go_roundw
      case rel => exact ⟨k + 1, hlt, by go_num, hc.step HAE.out, hbr.setCell (p := ⟨w1.heap.size, _, none⟩) HS.out _⟩
      case measure => simp [intOf]; omega
    · obtain rfl : k = l.length := by omega
      go_wp2
      go_loopw [6, 8] (fun x i wq => ∃ k : Nat, 0 < k ∧ k ≤ 200 ∧ i = .int .i64 k ∧ x = .int .i64 (amax (cnt l l.length) k) ∧ Below wr.heap.size wr wq) (fun _ i _ => 200 - (intOf i).toNat)
      case atStart => exact ⟨1, by omega, by omega, rfl, by rw [amax_one]; rfl, Below.refl _ _⟩
      case round =>
        obtain ⟨k, hk0, hk2, rfl, rfl, hbq⟩ := hrel
        by_cases hlt2 : k < 200
        · have hal := amax_lt (cnt l l.length) k
          obtain ⟨z, hz⟩ : ∃ z, z = amax (cnt l l.length) k := ⟨_, rfl⟩
          have HZ := hide hz
          rw [← hz] at hal ⊢
          clear hz
          have f3 := Later.cell ((hc.keep hbq).cell (i := z) (by omega))
          have f4 := Later.cell ((hc.keep hbq).cell (i := k) hlt2)
          go_wp2_with fail
          refine wp_region_later (by kernel_rfl) (by kernel_rfl) ?_
          repeat (go_big_quiet_step (fail))
          refine wpQuiet_nil ?_
          rintro _ ⟨⟨wq2, hq⟩, rfl⟩
          go_wp2
          · go_roundw
            case rel => exact ⟨k + 1, by omega, by omega, by go_num, by rw [amax, if_pos (by rw [← HZ.out]; assumption)], hbq.trans (hq.mono hbq.size)⟩
            case measure => simp [intOf]; omega
          · go_roundw
            case rel => exact ⟨k + 1, by omega, by omega, by go_num, by rw [amax, if_neg (by rw [← HZ.out]; assumption), ← HZ.out], hbq.trans (hq.mono hbq.size)⟩
            case measure => simp [intOf]; omega
        · obtain rfl : k = 200 := by omega
          have hal : amax (cnt l l.length) 200 < 200 := by
            have h9 := amax_lt (cnt l l.length) 199
            rw [amax]
            split <;> omega
          obtain ⟨z, hz⟩ : ∃ z, z = amax (cnt l l.length) 200 := ⟨_, rfl⟩
          rw [← hz] at hal
          have f3 := Later.cell ((hc.keep hbq).cell (i := z) hal)
          have HZ := hide (show z = loudAt l from hz)
          rw [← hz]
          clear hz
          have hbz := hbr.trans (hbq.mono hbr.size)
          go_wp2_with fail
          refine wp_region_later (by kernel_rfl) (by kernel_rfl) ?_
          repeat (go_big_quiet_step (fail))
          refine wpQuiet_nil ?_
          rintro _ ⟨⟨wq3, hq⟩, rfl⟩
          go_wp2
          go_ret3
          exact ⟨ret3 (ret_int' (show (z : Int) = (loudAt l : Int) by rw [HZ.out])) (ret_int' (show ((cnt l l.length z : Nat) : Int) = (cnt l l.length (loudAt l) : Int) by rw [HZ.out])) rfl, hbz.trans (hq.mono hbz.size)⟩

def lo1 (l : List (Int × Int)) : Int := if okB l = true ∧ 0 < l.length then (loudAt l : Int) else 0
def lo2 (l : List (Int × Int)) : Int := if okB l = true ∧ 0 < l.length then (cnt l l.length (loudAt l) : Int) else 0
def lo3 (l : List (Int × Int)) : Int := if okB l = true then (if 0 < l.length then 0 else 6) else 1
theorem lo1_no (l : List (Int × Int)) (h : okB l = false) : lo1 l = 0 := by simp [lo1, h]
theorem lo2_no (l : List (Int × Int)) (h : okB l = false) : lo2 l = 0 := by simp [lo2, h]
theorem lo3_no (l : List (Int × Int)) (h : okB l = false) : lo3 l = 1 := by simp [lo3, h]
theorem lo1_nil (l : List (Int × Int)) (h : l.length = 0) : lo1 l = 0 := by rw [lo1, if_neg (by omega)]
theorem lo2_nil (l : List (Int × Int)) (h : l.length = 0) : lo2 l = 0 := by rw [lo2, if_neg (by omega)]
theorem lo3_nil (l : List (Int × Int)) (h : okB l = true) (h0 : l.length = 0) : lo3 l = 6 := by rw [lo3, if_pos h, if_neg (by omega)]
theorem lo1_yes (l : List (Int × Int)) (h : okB l = true) (h0 : 0 < l.length) : lo1 l = (loudAt l : Int) := by rw [lo1, if_pos ⟨h, h0⟩]
theorem lo2_yes (l : List (Int × Int)) (h : okB l = true) (h0 : 0 < l.length) : lo2 l = (cnt l l.length (loudAt l) : Int) := by rw [lo2, if_pos ⟨h, h0⟩]
theorem lo3_yes (l : List (Int × Int)) (h : okB l = true) (h0 : 0 < l.length) : lo3 l = 0 := by rw [lo3, if_pos h, if_pos h0]

theorem specLoudestStep_any (A : Option Addr) (c : Nat) (l : List (Int × Int)) (w : World) (hA : NA w A l) (hn : l.length ≤ 1048576) (hwf : WF l) :
    Calls Try.prog 30 #[.slice A l.length c] w (Trip (.int .i64 (lo1 l)) (.int .i64 (lo2 l)) (.int .i64 (lo3 l)) w) := by
  cases hok : okB l
  · have HOK := hide hok
    have H1 := hide (lo1_no l hok)
    have H2 := hide (lo2_no l hok)
    have H3 := hide (lo3_no l hok)
    have H4 := hide (congrArg (!·) hok)
    clear hok
    go_enter Try.func30, Try.ntmps30
    go_wp2_with fail
    refine (l01Ok_any A c l _ hA hn hwf).mono ?_
    rintro e w' ⟨rfl, hb⟩
    rw [HOK.out]
    go_wp2
    go_ret3
    exact ⟨ret3 (ret_int' H1.out.symm) (ret_int' H2.out.symm) (ret_int' H3.out.symm), hb⟩
  · by_cases h0 : l.length = 0
    · have HOK := hide hok
      have H1 := hide (lo1_nil l h0)
      have H2 := hide (lo2_nil l h0)
      have H3 := hide (lo3_nil l hok h0)
      have h1 : ((l.length : Int) == 0) = true := by simp [h0]
      have h2 : (l.length == 0) = true := by simp [h0]
      clear hok h0
      go_enter Try.func30, Try.ntmps30
      go_wp2_with fail
      refine (l01Ok_any A c l _ hA hn hwf).mono ?_
      rintro e w' ⟨rfl, hb⟩
      rw [HOK.out]
      go_wp2
      go_ret3
      exact ⟨ret3 (ret_int' H1.out.symm) (ret_int' H2.out.symm) (ret_int' H3.out.symm), hb⟩
    · have h := specLoud_yes A c l w hA hn hwf hok (by omega)
      rw [← lo1_yes l hok (by omega), ← lo2_yes l hok (by omega), ← lo3_yes l hok (by omega)] at h
      exact h

theorem implLoudestStep_any (A : Option Addr) (c : Nat) (l : List (Int × Int)) (w : World) (hA : NA w A l) (hn : l.length ≤ 1048576) (hwf : WF l) :
    Calls Try.prog 31 #[.slice A l.length c] w (Trip (.int .i64 (lo1 l)) (.int .i64 (lo2 l)) (.int .i64 (lo3 l)) w) := by
  cases hok : okB l
  · have HOK := hide hok
    have H1 := hide (lo1_no l hok)
    have H2 := hide (lo2_no l hok)
    have H3 := hide (lo3_no l hok)
    have H4 := hide (congrArg (!·) hok)
    clear hok
    go_enter Try.func31, Try.ntmps31
    go_wp2_with fail
    refine (implValid_any A c l _ hA hn hwf).mono ?_
    rintro e w' ⟨rfl, hb⟩
    rw [HOK.out]
    go_wp2
    go_ret3
    exact ⟨ret3 (ret_int' H1.out.symm) (ret_int' H2.out.symm) (ret_int' H3.out.symm), hb⟩
  · by_cases h0 : l.length = 0
    · have HOK := hide hok
      have H1 := hide (lo1_nil l h0)
      have H2 := hide (lo2_nil l h0)
      have H3 := hide (lo3_nil l hok h0)
      have h1 : ((l.length : Int) == 0) = true := by simp [h0]
      have h2 : (l.length == 0) = true := by simp [h0]
      clear hok h0
      go_enter Try.func31, Try.ntmps31
      go_wp2_with fail
      refine (implValid_any A c l _ hA hn hwf).mono ?_
      rintro e w' ⟨rfl, hb⟩
      rw [HOK.out]
      go_wp2
      go_ret3
      exact ⟨ret3 (ret_int' H1.out.symm) (ret_int' H2.out.symm) (ret_int' H3.out.symm), hb⟩
    · have h := implLoud_yes A c l w hA hn hwf hok (by omega)
      rw [← lo1_yes l hok (by omega), ← lo2_yes l hok (by omega), ← lo3_yes l hok (by omega)] at h
      exact h
end Go.Proofs.Ytklkomgpaamcpaa
