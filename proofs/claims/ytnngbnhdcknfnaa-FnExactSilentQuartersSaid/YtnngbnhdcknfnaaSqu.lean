import Derived.Test.YtnngbnhdcknfnaaSd1
import Derived.Test.YtnngbnhdcknfnaaSkt
namespace Go.Proofs.Ytnngbnhdcknfnaa
open Go.RowKit

/-- the quarters ahead of k at which nothing is played -/
def sqL (o : Nat → Int) (k : Nat) : List Nat := (List.range k).filter fun j => decide (o j < 0)
theorem sqL_yes {o : Nat → Int} {k : Nat} (h : o k < 0) : sqL o (k + 1) = sqL o k ++ [k] := by simp [sqL, List.range_succ, List.filter_append, h]
theorem sqL_no {o : Nat → Int} {k : Nat} (h : ¬ o k < 0) : sqL o (k + 1) = sqL o k := by simp [sqL, List.range_succ, List.filter_append]; omega
theorem sqL_len (o : Nat → Int) (k : Nat) : (sqL o k).length ≤ k := by simpa [sqL] using List.length_filter_le (fun j => decide (o j < 0)) (List.range k)
def sqV (s : Int) (l m : List (Int × Int)) (o : Nat → Int) : List Int := if prgB s l m o then (sqL o 48).map fun (x : Nat) => (x : Int) else []
theorem sqV_len (s : Int) (l m : List (Int × Int)) (o : Nat → Int) : (sqV s l m o).length ≤ 1048576 := by
  unfold sqV
  split
  · rw [List.length_map]; have := sqL_len o 48; omega
  · simp
/-- how often each of n numbers is in a list -/
def rowQ (n : Nat) (xs : List Nat) : List Nat := (List.range n).map fun t => (xs.filter fun x => decide (x = t)).length
theorem rowQ_len (n : Nat) (xs : List Nat) : (rowQ n xs).length = n := by simp [rowQ]
theorem rowQ_get (n : Nat) (xs : List Nat) (t : Nat) (h : t < n) : (rowQ n xs)[t]? = some (xs.filter fun x => decide (x = t)).length := by simp [rowQ, h]
theorem rowQ_nil (n : Nat) : rowQ n [] = List.replicate n 0 := by
  apply List.ext_getElem?
  intro t
  by_cases h : t < n
  · rw [rowQ_get _ _ _ h]; simp [h]
  · rw [List.getElem?_eq_none (by rw [rowQ_len]; omega), List.getElem?_eq_none (by simp; omega)]
theorem rowQ_snoc (n : Nat) (xs : List Nat) (p : Nat) (h : p < n) : (rowQ n xs).set p ((xs.filter fun q => decide (q = p)).length + 1) = rowQ n (xs ++ [p]) := by
  apply List.ext_getElem?
  intro t
  by_cases ht : t < n
  · rw [List.getElem?_set, rowQ_get _ _ _ ht, rowQ_get _ _ _ ht, rowQ_len, List.filter_append, List.length_append]
    by_cases e : p = t
    · rw [if_pos e, if_pos h]; simp [e]
    · rw [if_neg e]; simp [e]
  · rw [List.getElem?_eq_none (by rw [List.length_set, rowQ_len]; omega), List.getElem?_eq_none (by rw [rowQ_len]; omega)]
def cpV (s : Int) (l m : List (Int × Int)) (o : Nat → Int) : List Int := if prgB s l m o then (rowQ m.length (plsd o 48)).map fun (x : Nat) => (x : Int) else []
theorem cpV_len (s : Int) (l m : List (Int × Int)) (o : Nat → Int) (hm : m.length ≤ 1048576) : (cpV s l m o).length ≤ 1048576 := by
  unfold cpV
  split
  · rw [List.length_map, rowQ_len]; exact hm
  · simp
theorem tcells_len' (xs : List Nat) : (tcells xs).length = xs.length := by simp [tcells]
theorem tcells_get' {xs : List Nat} {i v : Nat} (h : xs[i]? = some v) : (tcells xs)[i]? = some (.int .i64 (v : Int)) := by simp [tcells, h]
theorem tcells_set' (xs : List Nat) (i v : Nat) : (tcells xs).set i (.int .i64 (v : Int)) = tcells (xs.set i v) := by simp [tcells, List.map_set]
theorem tcells_rep' (n : Nat) : tcells (List.replicate n 0) = (madeCells #[.int .i64 0] n).toList := by
  apply List.ext_getElem?
  intro j
  by_cases hj : j < n
  · simp [tcells, madeCells, hj, Nat.mod_one]
  · rw [List.getElem?_eq_none (by rw [tcells_len']; simp; omega), List.getElem?_eq_none (by simp [madeCells]; omega)]
theorem ownZ_nil {w w1 : World} (C : Option Addr) (q : Nat) (cc : Int) (h : w1.ownsRow w.heap.size 2 1 (.slice C 0 q) 0 []) (hb : Below w.heap.size w w1) : OwnZ w [] cc (.returned (.tuple #[.slice C 0 q, .int .i64 cc])) w1 := ⟨C, q, rfl, h, hb⟩
theorem ownZ_of {w w1 : World} (C : Option Addr) (q : Nat) (cc : Int) (xs : List Nat) (n : Nat) (hn : xs.length = n) (h : w1.ownsRow w.heap.size 2 1 (.slice C n q) n (tcells xs)) (hb : Below w.heap.size w w1) : OwnZ w (xs.map fun (x : Nat) => (x : Int)) cc (.returned (.tuple #[.slice C n q, .int .i64 cc])) w1 := by
  subst hn
  exact ⟨C, q, by rw [List.length_map], by rw [List.length_map, ← tcells_icells]; exact h, hb⟩

set_option maxRecDepth 20000 in
set_option maxHeartbeats 2000000 in
theorem specSilentQuarters_any (s : Int) (A : Option Addr) (c : Nat) (l : List (Int × Int)) (B : Option Addr) (d : Nat) (m : List (Int × Int)) (o : Nat → Int) (w : World) (hA : HA w A l) (hn : l.length ≤ 1048576) (hwf : HWF l) (hs : -32768 ≤ s ∧ s ≤ 32767) (hB : SecA w B m) (hm : m.length ≤ 1048576) (hswf : SWF m) (howf : OWF o) :
    Calls Try.prog 30 #[.agg #[.int .i16 s, .slice A l.length c], .agg (prA B m.length d o)] w (OwnZ w (sqV s l m o) (codeI (prgB s l m o))) := by
  obtain ⟨i0, hi, hz0, hz1, hz2⟩ := info_parts info2
  go_enter Try.func30, Try.ntmps30
  go_upto_region 1 with fail
  obtain ⟨X, hX⟩ : ∃ X, X = (w.alloc (.cells #[.int .i16 s, .slice A l.length c] 36)).alloc (.cells (prA B m.length d o) 40) := ⟨_, rfl⟩
  have hb0 : Below w.heap.size w X := by rw [hX]; exact ((Below.refl _ _).alloc (Nat.le_refl _) _).alloc (by simp) _
  have F0 : FP X w.heap.size s A l.length c := by
    have h : Bk X w.heap.size 36 #[.int .i16 s, .slice A l.length c] := by rw [hX]; exact (Bk.new _ _ _ rfl).old _
    exact ⟨h.cell rfl, h.cell rfl⟩
  have P0 : Bk X (w.heap.size + 1) 40 (prA B m.length d o) := by rw [hX]; exact Bk.new _ _ _ (by simp)
  rw [← hX]
  clear hX
  go_wp2_with fail
  refine (l04Ok_any w.heap.size (w.heap.size + 1) s A c l B d m o X F0 (hA.below hb0) hn hwf hs P0 (hB.below hb0) hm hswf howf).mono ?_
  rintro e w1 ⟨rfl, hb1⟩
  have b1 := step_below hb1 hb0
  have F1 := F0.keep hb1
  have P1 := P0.keep hb1
  have A1 := hA.below b1
  have B1 := hB.below b1
  cases hp : prgB s l m o
  · have HX := hide (show codeI (prgB s l m o) = 1 by rw [hp]; rfl)
    have HY := hide (show sqV s l m o = [] by simp [sqV, hp])
    clear hp
    go_wp2
    go_ret2
    rw [HX.out, HY.out]
    exact ownZ_nil (some ⟨w1.heap.size, 0, none⟩) 0 1 (own_emptyT _ _ b1.size) (b1.alloc b1.size _)
  have HX := hide (show codeI (prgB s l m o) = 0 by rw [hp]; rfl)
  have HY := hide (show sqV s l m o = (sqL o 48).map fun (x : Nat) => (x : Int) by simp [sqV, hp])
  clear hp
  have hal : Below w1.heap.size w1 (w1.alloc (.cells #[] 2)) := (Below.refl _ _).alloc (Nat.le_refl _) _
  go_wp2_with fail
  go_loopw [6, 7] (fun v i wr => ∃ k : Nat, k ≤ 48 ∧ i = .int .i64 k ∧ wr.ownsRow w1.heap.size 2 1 v (sqL o k).length (tcells (sqL o k)) ∧ Below w1.heap.size w1 wr)
    (fun _ i _ => 48 - (intOf i).toNat)
  case atStart => exact ⟨0, Nat.zero_le _, rfl, own_emptyT _ _ (Nat.le_refl _), hal⟩
  case round =>
    obtain ⟨k, hk, rfl, hown, hbr⟩ := hrel
    obtain ⟨A', c', rfl⟩ := own_shape hown
    by_cases hlt : k < 48
    · have c1 := (P1.keep hbr).order k _ (o48_get o k hlt)
      obtain ⟨v1, v2⟩ := howf k hlt
      have hki : (k : Int) < 48 := by omega
      have hlen := sqL_len o k
      by_cases he : o k < 0
      · have q1 : decide (o k < 0) = true := decide_eq_true he
        have HT := hide (sqL_yes he)
        have hnew : ∀ j u, ([.int .i64 (k : Int)] : List Value)[j]? = some u → (wr.alloc (.cells #[.int .i64 (k : Int)] 2)).cell? ((⟨wr.heap.size, 0, none⟩ : Addr).add j) = some u := cell_one_new wr (.int .i64 (k : Int)) 2
        have own3 := hown.alloc (.cells #[.int .i64 (k : Int)] 2)
        clear he
        go_wp2_with (at_builtin; refine wpList_append_own _ rfl _ _ 56 rfl w1.heap.size 2 i0 (.int .i64 0) 1 8 Try.underlying56 hi hz0 hz1 hz2 rfl (by decide) _ _ _ rfl own3 ⟨wr.heap.size, 0, none⟩ 1 1 [.int .i64 (k : Int)] rfl rfl hnew (fun x hx => by simp at hx; subst hx; rfl) (by unfold maxLen; omega) (by omega) (by simp; have := hbr.size; omega) ?_; intro v' w3 hown3 hgrow3 hnil3)
        have hb3 := (hbr.alloc hbr.size (.cells #[.int .i64 (k : Int)] 2)).grown hgrow3 (by simp; have := hbr.size; omega) (fun j hj => (hown.lt j hj).1)
        go_roundw
        case rel => exact ⟨k + 1, hlt, by go_num, by rw [HT.out, List.length_append, tcells, List.map_append]; exact hown3, hb3⟩
        case measure => simp [intOf]; omega
      · have q1 : decide (o k < 0) = false := decide_eq_false he
        have HT := hide (sqL_no he)
        clear he
        go_wp2
        go_roundw
        case rel => exact ⟨k + 1, hlt, by go_num, by rw [HT.out]; exact hown, hbr⟩
        case measure => simp [intOf]; omega
    · obtain rfl : k = 48 := by omega
      go_wp2
      go_ret2
      rw [HX.out, HY.out]
      exact ownZ_of A' c' 0 (sqL o 48) _ rfl (own_base hown b1.size) (step_below hbr b1)
set_option maxRecDepth 20000 in
set_option maxHeartbeats 2000000 in
theorem implSilentQuarters_any (s : Int) (A : Option Addr) (c : Nat) (l : List (Int × Int)) (B : Option Addr) (d : Nat) (m : List (Int × Int)) (o : Nat → Int) (w : World) (hA : HA w A l) (hn : l.length ≤ 1048576) (hwf : HWF l) (hs : -32768 ≤ s ∧ s ≤ 32767) (hB : SecA w B m) (hm : m.length ≤ 1048576) (hswf : SWF m) (howf : OWF o) :
    Calls Try.prog 31 #[.agg #[.int .i16 s, .slice A l.length c], .agg (prA B m.length d o)] w (OwnZ w (sqV s l m o) (codeI (prgB s l m o))) := by
  obtain ⟨i0, hi, hz0, hz1, hz2⟩ := info_parts info2
  have hz := zeroPln
  go_enter Try.func31, Try.ntmps31
  go_upto_region 1 with fail
  obtain ⟨X, hX⟩ : ∃ X, X = (w.alloc (.cells #[.int .i16 s, .slice A l.length c] 36)).alloc (.cells (prA B m.length d o) 40) := ⟨_, rfl⟩
  have hb0 : Below w.heap.size w X := by rw [hX]; exact ((Below.refl _ _).alloc (Nat.le_refl _) _).alloc (by simp) _
  have F0 : FP X w.heap.size s A l.length c := by
    have h : Bk X w.heap.size 36 #[.int .i16 s, .slice A l.length c] := by rw [hX]; exact (Bk.new _ _ _ rfl).old _
    exact ⟨h.cell rfl, h.cell rfl⟩
  have P0 : Bk X (w.heap.size + 1) 40 (prA B m.length d o) := by rw [hX]; exact Bk.new _ _ _ (by simp)
  rw [← hX]
  clear hX
  have f0 := F0.1
  have f1 := F0.2
  have HP := hide P0.range49
  obtain ⟨b, hb⟩ : ∃ b, prgB s l m o = b := ⟨_, rfl⟩
  go_wp2_with (first | (with_reducible refine wpList_load_pr rfl 40 (.tmp 3) rfl (w.heap.size + 1) 0 rfl _ _ _ _ _ HP.out Try.underlying40 rfl (pInfo _ _ _ _) ?_))
  refine (planFor0_any s A c l B d m o _ (hA.below hb0) hn hwf hs (hB.below hb0) hm hswf howf b hb).mono ?_
  rintro e w1 ⟨rfl, hb1⟩
  have b1 := step_below hb1 hb0
  clear f0 f1 HP
  have hzi : (Try.prog.info? 84).map (·.size) = some zpl.size := by rw [zpl_eq]; exact plInfo
  have hzo : zpl.all (·.oneCell') = true := by rw [zpl_eq]; exact plA_one
  cases b
  · simp only [Bool.false_eq_true, if_false]
    have HX := hide (show codeI (prgB s l m o) = 1 by rw [hb]; rfl)
    have HY := hide (show sqV s l m o = [] by simp [sqV, hb])
    clear hb
    go_wp2_with (with_reducible refine wpList_store_newG rfl 84 (.tmp 6) (.tmp 15) rfl zpl rfl rfl 84 _ hzi rfl hzo ?_)
    go_ret2
    rw [HX.out, HY.out]
    exact ownZ_nil none 0 1 ⟨rfl, Or.inl ⟨rfl, rfl⟩⟩ (b1.alloc b1.size _)
  simp only [if_true]
  have hal : Below w1.heap.size w1 (w1.alloc (.cells (plA s A l.length c B m.length d o) 84)) := (Below.refl _ _).alloc (Nat.le_refl _) _
  have Q0 : Bk (w1.alloc (.cells (plA s A l.length c B m.length d o) 84)) w1.heap.size 84 (plA s A l.length c B m.length d o) := Bk.new _ _ _ rfl
  have b2 := step_below hal b1
  go_upto_region 2 with (with_reducible refine wpList_store_newG rfl 84 (.tmp 6) (.tmp 15) rfl (plA s A l.length c B m.length d o) rfl rfl 84 _ plInfo (by rw [zpl_eq, plA_size, plA_size]) plA_one ?_)
  obtain ⟨Y, hY⟩ : ∃ Y, Y = w1.alloc (.cells (plA s A l.length c B m.length d o) 84) := ⟨_, rfl⟩
  rw [← hY] at hal Q0 b2 ⊢
  clear hY hz hzi hzo hb1 b1
  have A2 := hA.below b2
  have B2 := hB.below b2
  have hpa := prgB_all hb
  have HX := hide (show codeI (prgB s l m o) = 0 by rw [hb]; rfl)
  have HY := hide (show sqV s l m o = (sqL o 48).map fun (x : Nat) => (x : Int) by simp [sqV, hb])
  have HO := hide hpa.2.2.2
  clear hb hpa
  have HR := hide Q0.plOrd
  have HI := hide (fun k hk => indexO o k hk)
  go_wp2_with (with_reducible refine wpList_load_oa rfl (.tmp 21) rfl w1.heap.size 3 rfl o HR.out ?_)
  go_loopw [8, 23] (fun v i wr => ∃ k : Nat, k ≤ 48 ∧ i = .int .i64 k ∧ wr.ownsRow Y.heap.size 2 1 v (sqL o k).length (tcells (sqL o k)) ∧ Below Y.heap.size Y wr)
    (fun _ i _ => 48 - (intOf i).toNat)
  case atStart => exact ⟨0, Nat.zero_le _, rfl, ⟨rfl, Or.inl ⟨rfl, rfl⟩⟩, Below.refl _ _⟩
  case round =>
    obtain ⟨k, hk, rfl, hown, hbr⟩ := hrel
    obtain ⟨A', c', rfl⟩ := own_shape hown
    by_cases hlt : k < 48
    · have hx := HI.out k hlt
      obtain ⟨v1, v2⟩ := howf k hlt
      have hlen := sqL_len o k
      have hok : -1 ≤ o k := by have := HO.out k hlt; simp [ordG, inB] at this; omega
      by_cases he : o k < 0
      · have q1 : (o k == -1) = true := by simp; omega
        have HT := hide (sqL_yes he)
        have hnew : ∀ j u, ([.int .i64 (k : Int)] : List Value)[j]? = some u → (wr.alloc (.cells #[.int .i64 (k : Int)] 2)).cell? ((⟨wr.heap.size, 0, none⟩ : Addr).add j) = some u := cell_one_new wr (.int .i64 (k : Int)) 2
        have own3 := hown.alloc (.cells #[.int .i64 (k : Int)] 2)
        clear he
        go_wp2_with (at_builtin; refine wpList_append_own _ rfl _ _ 56 rfl Y.heap.size 2 i0 (.int .i64 0) 1 8 Try.underlying56 hi hz0 hz1 hz2 rfl (by decide) _ _ _ rfl own3 ⟨wr.heap.size, 0, none⟩ 1 1 [.int .i64 (k : Int)] rfl rfl hnew (fun x hx => by simp at hx; subst hx; rfl) (by unfold maxLen; omega) (by omega) (by simp; have := hbr.size; omega) ?_; intro v' w3 hown3 hgrow3 hnil3)
        have hb3 := (hbr.alloc hbr.size (.cells #[.int .i64 (k : Int)] 2)).grown hgrow3 (by simp; have := hbr.size; omega) (fun j hj => (hown.lt j hj).1)
        go_roundw
        case rel => exact ⟨k + 1, hlt, by go_num, by rw [HT.out, List.length_append, tcells, List.map_append]; exact hown3, hb3⟩
        case measure => simp [intOf]; omega
      · have q1 : (o k == -1) = false := by simp; omega
        have HT := hide (sqL_no he)
        clear he
        go_wp2
        go_roundw
        case rel => exact ⟨k + 1, hlt, by go_num, by rw [HT.out]; exact hown, hbr⟩
        case measure => simp [intOf]; omega
    · obtain rfl : k = 48 := by omega
      go_wp2
      go_ret2
      rw [HX.out, HY.out]
      exact ownZ_of A' c' 0 (sqL o 48) _ rfl (own_base hown b2.size) (step_below hbr b2)
set_option maxRecDepth 20000 in
set_option maxHeartbeats 2000000 in
theorem specCountPlays_any (s : Int) (A : Option Addr) (c : Nat) (l : List (Int × Int)) (B : Option Addr) (d : Nat) (m : List (Int × Int)) (o : Nat → Int) (w : World) (hA : HA w A l) (hn : l.length ≤ 1048576) (hwf : HWF l) (hs : -32768 ≤ s ∧ s ≤ 32767) (hB : SecA w B m) (hm : m.length ≤ 1048576) (hswf : SWF m) (howf : OWF o) :
    Calls Try.prog 37 #[.agg #[.int .i16 s, .slice A l.length c], .agg (prA B m.length d o)] w (OwnZ w (cpV s l m o) (codeI (prgB s l m o))) := by
  obtain ⟨i0, hi, hz0, hz1, hz2⟩ := info_parts info2
  go_enter Try.func37, Try.ntmps37
  go_upto_region 1 with fail
  obtain ⟨X, hX⟩ : ∃ X, X = (w.alloc (.cells #[.int .i16 s, .slice A l.length c] 36)).alloc (.cells (prA B m.length d o) 40) := ⟨_, rfl⟩
  have hb0 : Below w.heap.size w X := by rw [hX]; exact ((Below.refl _ _).alloc (Nat.le_refl _) _).alloc (by simp) _
  have F0 : FP X w.heap.size s A l.length c := by
    have h : Bk X w.heap.size 36 #[.int .i16 s, .slice A l.length c] := by rw [hX]; exact (Bk.new _ _ _ rfl).old _
    exact ⟨h.cell rfl, h.cell rfl⟩
  have P0 : Bk X (w.heap.size + 1) 40 (prA B m.length d o) := by rw [hX]; exact Bk.new _ _ _ (by simp)
  rw [← hX]
  clear hX
  go_wp2_with fail
  refine (l04Ok_any w.heap.size (w.heap.size + 1) s A c l B d m o X F0 (hA.below hb0) hn hwf hs P0 (hB.below hb0) hm hswf howf).mono ?_
  rintro e w1 ⟨rfl, hb1⟩
  have b1 := step_below hb1 hb0
  have F1 := F0.keep hb1
  have P1 := P0.keep hb1
  have A1 := hA.below b1
  have B1 := hB.below b1
  cases hp : prgB s l m o
  · have HX := hide (show codeI (prgB s l m o) = 1 by rw [hp]; rfl)
    have HY := hide (show cpV s l m o = [] by simp [cpV, hp])
    clear hp
    go_wp2
    go_ret2
    rw [HX.out, HY.out]
    exact ownZ_nil (some ⟨w1.heap.size, 0, none⟩) 0 1 (own_emptyT _ _ b1.size) (b1.alloc b1.size _)
  have hpa := prgB_all hp
  have HX := hide (show codeI (prgB s l m o) = 0 by rw [hp]; rfl)
  have HY := hide (show cpV s l m o = (rowQ m.length (plsd o 48)).map fun (x : Nat) => (x : Int) by simp [cpV, hp])
  have HO := hide hpa.2.2.2
  have hm12 := hpa.2.1
  clear hp hpa
  have c0 := P1.slice
  go_wp2_with (at_make; refine wpList_make_full _ rfl _ _ 56 rfl w1.heap.size 2 i0 _ 1 Try.underlying56 hi hz0 hz1 _ _ _ _ m.length rfl rfl (by omega) (by omega) (by rw [hz2]; omega) (by unfold maxLen; omega) (by simp) ?_; intro w2 hown2 hgrow2)
  have hb2 : Below w1.heap.size w1 w2 := (Below.refl _ _).grown hgrow2 (Nat.le_refl _) (fun j e => by cases e)
  clear hgrow2 c0
  go_loopw [7] (fun i wr => ∃ k : Nat, k ≤ 48 ∧ i = .int .i64 k ∧ wr.ownsRow w1.heap.size 2 1 (.slice (some ⟨w1.heap.size, 0, none⟩) m.length m.length) m.length (tcells (rowQ m.length (plsd o k))) ∧ Below w1.heap.size w1 wr)
    (fun i _ => 48 - (intOf i).toNat)
  case atStart =>
    refine ⟨0, Nat.zero_le _, rfl, ?_, hb2⟩
    rw [show plsd o 0 = [] from rfl, rowQ_nil, tcells_rep']
    rw [Nat.mul_one] at hown2
    exact hown2
  case round =>
    obtain ⟨k, hk, rfl, hown, hbr⟩ := hrel
    by_cases hlt : k < 48
    · have c1 := (P1.keep hbr).order k _ (o48_get o k hlt)
      have hki : (k : Int) < 48 := by omega
      by_cases he : 0 ≤ o k
      · have q1 : decide (0 ≤ o k) = true := decide_eq_true he
        obtain ⟨tt, hto⟩ : ∃ tt : Nat, o k = (tt : Int) := ⟨(o k).toNat, by omega⟩
        have htm : tt < m.length := by have := HO.out k hlt; simp [ordG, inB] at this; omega
        have hpe : plsd o (k + 1) = plsd o k ++ [tt] := by rw [plsd_yes (by omega), hto]; simp
        obtain ⟨v, hv⟩ : ∃ v, v = ((plsd o k).filter fun x => decide (x = tt)).length := ⟨_, rfl⟩
        have hv48 : v ≤ 48 := by
          have h1 := List.length_filter_le (fun x => decide (x = tt)) (plsd o k)
          have h2 := plsd_len o k
          omega
        have hcell := (hown.cellAt tt (by omega)).trans (tcells_get' (show (rowQ m.length (plsd o k))[tt]? = some v by rw [rowQ_get _ _ _ htm, hv]))
        have hfr := hown.frozenAt tt
        have HS := hide (show (rowQ m.length (plsd o k)).set tt (v + 1) = rowQ m.length (plsd o (k + 1)) by rw [hpe, hv]; exact rowQ_snoc _ _ _ htm)
        have hti : (tt : Int) < (m.length : Int) := by omega
        have hwv : IntKind.i64.wrap ((v : Int) + 1) = (v : Int) + 1 := IntWalk.i64_in _ (by omega)
        clear hpe hv
        rw [hto] at c1 q1
        clear he hto
        go_wp2
        go_roundw
        case rel =>
          refine ⟨k + 1, hlt, by go_num, ?_, hbr.setCell (p := ⟨_, _, none⟩) (Nat.le_refl _) _⟩
          rw [← HS.out, ← tcells_set']
          exact (hown.stored tt _).1
        case measure => simp [intOf]; omega
      · have q1 : decide (0 ≤ o k) = false := decide_eq_false he
        obtain ⟨v1, v2⟩ := howf k hlt
        have HT := hide (plsd_no he)
        clear he
        go_wp2
        go_roundw
        case rel => exact ⟨k + 1, hlt, by go_num, by rw [HT.out]; exact hown, hbr⟩
        case measure => simp [intOf]; omega
    · obtain rfl : k = 48 := by omega
      go_wp2
      go_ret2
      rw [HX.out, HY.out]
      exact ownZ_of _ _ 0 (rowQ m.length (plsd o 48)) _ (rowQ_len _ _) (own_base hown b1.size) (step_below hbr b1)
set_option maxRecDepth 20000 in
set_option maxHeartbeats 2000000 in
theorem implCountPlays_any (s : Int) (A : Option Addr) (c : Nat) (l : List (Int × Int)) (B : Option Addr) (d : Nat) (m : List (Int × Int)) (o : Nat → Int) (w : World) (hA : HA w A l) (hn : l.length ≤ 1048576) (hwf : HWF l) (hs : -32768 ≤ s ∧ s ≤ 32767) (hB : SecA w B m) (hm : m.length ≤ 1048576) (hswf : SWF m) (howf : OWF o) :
    Calls Try.prog 38 #[.agg #[.int .i16 s, .slice A l.length c], .agg (prA B m.length d o)] w (OwnZ w (cpV s l m o) (codeI (prgB s l m o))) := by
  obtain ⟨i0, hi, hz0, hz1, hz2⟩ := info_parts info2
  have hz := zeroPln
  go_enter Try.func38, Try.ntmps38
  go_upto_region 1 with fail
  obtain ⟨X, hX⟩ : ∃ X, X = (w.alloc (.cells #[.int .i16 s, .slice A l.length c] 36)).alloc (.cells (prA B m.length d o) 40) := ⟨_, rfl⟩
  have hb0 : Below w.heap.size w X := by rw [hX]; exact ((Below.refl _ _).alloc (Nat.le_refl _) _).alloc (by simp) _
  have F0 : FP X w.heap.size s A l.length c := by
    have h : Bk X w.heap.size 36 #[.int .i16 s, .slice A l.length c] := by rw [hX]; exact (Bk.new _ _ _ rfl).old _
    exact ⟨h.cell rfl, h.cell rfl⟩
  have P0 : Bk X (w.heap.size + 1) 40 (prA B m.length d o) := by rw [hX]; exact Bk.new _ _ _ (by simp)
  rw [← hX]
  clear hX
  have f0 := F0.1
  have f1 := F0.2
  have HP := hide P0.range49
  obtain ⟨b, hb⟩ : ∃ b, prgB s l m o = b := ⟨_, rfl⟩
  go_wp2_with (first | (with_reducible refine wpList_load_pr rfl 40 (.tmp 3) rfl (w.heap.size + 1) 0 rfl _ _ _ _ _ HP.out Try.underlying40 rfl (pInfo _ _ _ _) ?_))
  refine (planFor0_any s A c l B d m o _ (hA.below hb0) hn hwf hs (hB.below hb0) hm hswf howf b hb).mono ?_
  rintro e w1 ⟨rfl, hb1⟩
  have b1 := step_below hb1 hb0
  clear f0 f1 HP
  have hzi : (Try.prog.info? 84).map (·.size) = some zpl.size := by rw [zpl_eq]; exact plInfo
  have hzo : zpl.all (·.oneCell') = true := by rw [zpl_eq]; exact plA_one
  cases b
  · simp only [Bool.false_eq_true, if_false]
    have HX := hide (show codeI (prgB s l m o) = 1 by rw [hb]; rfl)
    have HY := hide (show cpV s l m o = [] by simp [cpV, hb])
    clear hb
    go_wp2_with (with_reducible refine wpList_store_newG rfl 84 (.tmp 6) (.tmp 15) rfl zpl rfl rfl 84 _ hzi rfl hzo ?_)
    go_ret2
    rw [HX.out, HY.out]
    exact ownZ_nil none 0 1 ⟨rfl, Or.inl ⟨rfl, rfl⟩⟩ (b1.alloc b1.size _)
  simp only [if_true]
  have hal : Below w1.heap.size w1 (w1.alloc (.cells (plA s A l.length c B m.length d o) 84)) := (Below.refl _ _).alloc (Nat.le_refl _) _
  have Q0 : Bk (w1.alloc (.cells (plA s A l.length c B m.length d o) 84)) w1.heap.size 84 (plA s A l.length c B m.length d o) := Bk.new _ _ _ rfl
  have b2 := step_below hal b1
  go_upto_region 2 with (with_reducible refine wpList_store_newG rfl 84 (.tmp 6) (.tmp 15) rfl (plA s A l.length c B m.length d o) rfl rfl 84 _ plInfo (by rw [zpl_eq, plA_size, plA_size]) plA_one ?_)
  obtain ⟨Y, hY⟩ : ∃ Y, Y = w1.alloc (.cells (plA s A l.length c B m.length d o) 84) := ⟨_, rfl⟩
  rw [← hY] at hal Q0 b2 ⊢
  clear hY hz hzi hzo hb1 b1
  have A2 := hA.below b2
  have B2 := hB.below b2
  have hpa := prgB_all hb
  have HX := hide (show codeI (prgB s l m o) = 0 by rw [hb]; rfl)
  have HY := hide (show cpV s l m o = (rowQ m.length (plsd o 48)).map fun (x : Nat) => (x : Int) by simp [cpV, hb])
  have HO := hide hpa.2.2.2
  have hm12 := hpa.2.1
  clear hb hpa
  have HI := hide (fun k hk => indexO o k hk)
  have c0 := Q0.plSecs
  go_upto_region 5 with (at_make; refine wpList_make_full _ rfl _ _ 56 rfl Y.heap.size 2 i0 _ 1 Try.underlying56 hi hz0 hz1 _ _ _ _ m.length rfl rfl (by omega) (by omega) (by rw [hz2]; omega) (by unfold maxLen; omega) (by simp) ?_; intro w3 hown3 hgrow3)
  have hb3 : Below Y.heap.size Y w3 := (Below.refl _ _).grown hgrow3 (Nat.le_refl _) (fun j e => by cases e)
  clear hgrow3 c0
  have HR := hide (Q0.keep hb3).plOrd
  go_wp2_with (with_reducible refine wpList_load_oa rfl (.tmp 26) rfl w1.heap.size 3 rfl o HR.out ?_)
  go_loopw [28] (fun i wr => ∃ k : Nat, k ≤ 48 ∧ i = .int .i64 k ∧ wr.ownsRow Y.heap.size 2 1 (.slice (some ⟨Y.heap.size, 0, none⟩) m.length m.length) m.length (tcells (rowQ m.length (plsd o k))) ∧ Below Y.heap.size Y wr)
    (fun i _ => 48 - (intOf i).toNat)
  case atStart =>
    refine ⟨0, Nat.zero_le _, rfl, ?_, hb3⟩
    rw [show plsd o 0 = [] from rfl, rowQ_nil, tcells_rep']
    rw [Nat.mul_one] at hown3
    exact hown3
  case round =>
    obtain ⟨k, hk, rfl, hown, hbr⟩ := hrel
    by_cases hlt : k < 48
    · have hx := HI.out k hlt
      by_cases he : 0 ≤ o k
      · have q1 : (o k != -1) = true := by simp; omega
        obtain ⟨tt, hto⟩ : ∃ tt : Nat, o k = (tt : Int) := ⟨(o k).toNat, by omega⟩
        have htm : tt < m.length := by have := HO.out k hlt; simp [ordG, inB] at this; omega
        have hpe : plsd o (k + 1) = plsd o k ++ [tt] := by rw [plsd_yes (by omega), hto]; simp
        obtain ⟨v, hv⟩ : ∃ v, v = ((plsd o k).filter fun x => decide (x = tt)).length := ⟨_, rfl⟩
        have hv48 : v ≤ 48 := by
          have h1 := List.length_filter_le (fun x => decide (x = tt)) (plsd o k)
          have h2 := plsd_len o k
          omega
        have hcell := (hown.cellAt tt (by omega)).trans (tcells_get' (show (rowQ m.length (plsd o k))[tt]? = some v by rw [rowQ_get _ _ _ htm, hv]))
        have hfr := hown.frozenAt tt
        have HS := hide (show (rowQ m.length (plsd o k)).set tt (v + 1) = rowQ m.length (plsd o (k + 1)) by rw [hpe, hv]; exact rowQ_snoc _ _ _ htm)
        have hti : (tt : Int) < (m.length : Int) := by omega
        have hwv : IntKind.i64.wrap ((v : Int) + 1) = (v : Int) + 1 := IntWalk.i64_in _ (by omega)
        clear hpe hv
        rw [hto] at hx q1
        clear he hto
        go_wp2
        go_roundw
        case rel =>
          refine ⟨k + 1, hlt, by go_num, ?_, hbr.setCell (p := ⟨_, _, none⟩) (Nat.le_refl _) _⟩
          rw [← HS.out, ← tcells_set']
          exact (hown.stored tt _).1
        case measure => simp [intOf]; omega
      · have q1 : (o k != -1) = false := by have := HO.out k hlt; simp [ordG, inB] at this ⊢; omega
        have HT := hide (plsd_no he)
        clear he
        go_wp2
        go_roundw
        case rel => exact ⟨k + 1, hlt, by go_num, by rw [HT.out]; exact hown, hbr⟩
        case measure => simp [intOf]; omega
    · obtain rfl : k = 48 := by omega
      go_wp2
      go_ret2
      rw [HX.out, HY.out]
      exact ownZ_of _ _ 0 (rowQ m.length (plsd o 48)) _ (rowQ_len _ _) (own_base hown b2.size) (step_below hbr b2)
end Go.Proofs.Ytnngbnhdcknfnaa
