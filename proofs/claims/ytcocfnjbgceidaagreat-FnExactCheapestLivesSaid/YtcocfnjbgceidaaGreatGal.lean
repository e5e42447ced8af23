import Derived.Test.YtcocfnjbgceidaaGreatGae
import Derived.Test.YtcocfnjbgceidaaGreatWpn
import Derived.Test.YtcocfnjbgceidaaGreatGad
import Derived.Deep.CutRange
namespace Go.Proofs.YtcocfnjbgceidaaGreat
open Go.RowKit
/-- a slice's address under which the numbers lie -/
def SZ (w : World) (A : Option Addr) (zs : List Int) : Prop := ∀ k, k < zs.length → ∃ b o, A = some ⟨b, o, none⟩ ∧ b < w.heap.size ∧ w.cell? ⟨b, o + k, none⟩ = some (.int .i64 (zAt zs k))
def ZWF (zs : List Int) : Prop := ∀ k, k < zs.length → -9223372036854775808 ≤ zAt zs k ∧ zAt zs k ≤ 9223372036854775807
theorem SZ.below {w w' : World} {A : Option Addr} {l : List Int} (h : SZ w A l) (hb : Below w.heap.size w w') : SZ w' A l := by
  intro k hk
  obtain ⟨b, o, rfl, hlt, h1⟩ := h k hk
  exact ⟨b, o, rfl, Nat.lt_of_lt_of_le hlt hb.size, (hb.cell (p := ⟨b, _, none⟩) hlt).trans h1⟩
theorem SZ.of_own {w : World} {base : Nat} {A : Option Addr} {c : Nat} {zs : List Int} (h : w.ownsRow base 2 1 (.slice A zs.length c) zs.length (icells zs)) : SZ w A zs := by
  intro k hk
  rcases h.2 with ⟨h', h0⟩ | ⟨g, cap, cur, h', hb, hg, _⟩
  · omega
  · simp only [Value.slice.injEq, true_and] at h'
    obtain ⟨rfl, rfl⟩ := h'
    exact ⟨g, 0, rfl, (Array.getElem?_eq_some_iff.1 hg).1, by rw [Nat.zero_add, h.cellAt k (by omega), icells_get zs k hk]⟩
def zupto (l : List Int) (k : Nat) : List Int := l.take k ++ List.replicate (l.length - k) 0
theorem zupto_length (l : List Int) (k : Nat) (h : k ≤ l.length) : (zupto l k).length = l.length := by simp [zupto]; omega
theorem zupto_set (l : List Int) (k : Nat) (h : k < l.length) : (zupto l k).set k (zAt l k) = zupto l (k + 1) := by
  have e1 : l.length - k = (l.length - (k + 1)) + 1 := by omega
  have e2 : zAt l k = l[k] := by simp [zAt, List.getD, h]
  rw [zupto, zupto, e1, List.replicate_succ, e2, List.take_succ_eq_append_getElem h, List.set_append_right _ _ (by simp; omega)]
  simp only [List.length_take, show k - min k l.length = 0 by omega, List.set_cons_zero, List.append_assoc, List.cons_append, List.nil_append]
theorem zupto_zero (l : List Int) : zupto l 0 = List.replicate l.length 0 := by simp [zupto]
theorem zupto_all (l : List Int) : zupto l l.length = l := by simp [zupto]
theorem icells_replicate (n : Nat) : icells (List.replicate n 0) = (madeCells #[.int .i64 0] n).toList := by
  apply List.ext_getElem?
  intro j
  by_cases hj : j < n
  · simp [icells, madeCells, hj, Nat.mod_one]
  · rw [List.getElem?_eq_none (by rw [icells_length]; simp; omega), List.getElem?_eq_none (by simp [madeCells]; omega)]
set_option maxRecDepth 20000 in
set_option maxHeartbeats 400000 in
theorem toInt64S_ex (A : Option Addr) (c : Nat) (l : List Int) (w : World) (hA : SZ w A l) (hn : l.length ≤ 1048576) :
    Calls Tryz.prog 50 #[.slice A l.length c] w fun e w' => ∃ g, e = .returned (.slice (some ⟨g, 0, none⟩) l.length l.length) ∧ w.heap.size ≤ g ∧ w'.ownsRow w.heap.size 2 1 (.slice (some ⟨g, 0, none⟩) l.length l.length) l.length (icells l) ∧ Below w.heap.size w w' := by
  obtain ⟨i0, hi, hz0, hz1, hz2⟩ := info_parts info2
  go_enter Tryz.func50, Tryz.ntmps50
  go_wp2_with (at_make; refine wpList_make_full _ rfl _ _ 27 rfl w.heap.size 2 i0 _ 1 Tryz.underlying27 hi hz0 hz1 _ _ _ _ l.length rfl rfl (by omega) (by omega) (by rw [hz2]; omega) (by unfold maxLen; omega) (by simp) ?_; intro w1 hown1 hgrow1)
  have hb0 : Below w.heap.size w w1 := (Below.refl _ _).grown hgrow1 (Nat.le_refl _) (fun j e => by cases e)
  clear hgrow1
  go_loopw [4] (fun i wr => ∃ k : Nat, k ≤ l.length ∧ i = .int .i64 k ∧ wr.ownsRow w.heap.size 2 1 (.slice (some ⟨w.heap.size, 0, none⟩) l.length l.length) l.length (icells (zupto l k)) ∧ Below w.heap.size w wr)
    (fun i _ => l.length - (intOf i).toNat)
  case atStart =>
    refine ⟨0, Nat.zero_le _, rfl, ?_, hb0⟩
    rw [zupto_zero, icells_replicate]
    rw [Nat.mul_one] at hown1
    exact hown1
  case round =>
    obtain ⟨k, hk, rfl, hown, hb⟩ := hrel
    by_cases hlt : k < l.length
    · obtain ⟨b, o, rfl, hbb, c1⟩ := hA k hlt
      have d1 := (hb.cell (p := ⟨b, o + k, none⟩) hbb).trans c1
      have hs := hb.size
      have f1 := (hown.cellAt k (by omega)).trans (icells_get _ k (by rw [zupto_length l k hk]; exact hlt))
      have f3 := hown.frozenAt k
      have HZ := hide (zupto_set l k hlt)
      clear c1 hA hown1 hb0
      go_wp2
      go_roundw
      case rel => exact ⟨k + 1, hlt, by go_num, by rw [← HZ.out, ← icells_set]; exact (hown.stored k _).1, hb.setCell (p := ⟨w.heap.size, _, none⟩) (Nat.le_refl _) _⟩
      case measure => simp [intOf]; omega
    · obtain rfl : k = l.length := by omega
      go_wp2
      go_ret
      exact ⟨_, rfl, Nat.le_refl _, by rw [zupto_all] at hown; exact hown, hb⟩
theorem eqInt64S_self (A C : Option Addr) (c d : Nat) (zs : List Int) (w : World) (hA : SI w w.heap.size A zs) (hC : SI w w.heap.size C zs) (hn : zs.length ≤ 1048576) :
    Calls Tryz.prog 52 #[.slice A zs.length c, .slice C zs.length d] w (Says true w) := eqInt64S_any A C c d zs w.heap.size w hA hC (Nat.le_refl _) hn
theorem szInt64S_small (A : Option Addr) (n c : Nat) (x : Int) (h0 : 0 ≤ x) (h1 : x ≤ 1048576) (hm : n ≤ maxLen) (hs : (n : Int) ≤ x) (w : World) :
    Calls Tryz.prog 44 #[.slice A n c, .int .i64 x] w fun e w' => e = .returned (.int .i64 (x - n)) ∧ w = w' := by
  unfold maxLen at hm
  go_enter Tryz.func44, Tryz.ntmps44
  go_wp2
  all_goals go_ret
  all_goals exact ⟨ret_int (by omega), rfl⟩
theorem szInt64S_big (A : Option Addr) (n c : Nat) (x : Int) (h0 : 0 ≤ x) (h1 : x ≤ 1048576) (hm : n ≤ maxLen) (hs : x < (n : Int)) (w : World) :
    Calls Tryz.prog 44 #[.slice A n c, .int .i64 x] w fun e w' => e = .returned (.int .i64 (-1)) ∧ w = w' := by
  unfold maxLen at hm
  go_enter Tryz.func44, Tryz.ntmps44
  go_wp2
  all_goals go_ret
  all_goals exact ⟨ret_int (by omega), rfl⟩
end Go.Proofs.YtcocfnjbgceidaaGreat
namespace Go.Proofs.YtcocfnjbgceidaaGreat
open Go.RowKit

/-- what toWear leaves: a wear whose pins and strokes lie under addresses of its own -/
def MadeW (w : World) (l : List (Int × Int × Int)) (z : List Int) (e : Ending) (w' : World) : Prop :=
  ∃ g m, e = .returned (.agg #[.slice (some ⟨g, 0, none⟩) l.length l.length, .slice (some ⟨m, 0, none⟩) z.length z.length]) ∧ w.heap.size ≤ g ∧ w.heap.size ≤ m ∧ w'.ownsRow w.heap.size 97 3 (.slice (some ⟨g, 0, none⟩) l.length l.length) l.length (wnC l) ∧ w'.ownsRow w.heap.size 2 1 (.slice (some ⟨m, 0, none⟩) z.length z.length) z.length (icells z) ∧ Below w.heap.size w w'
theorem own_low {w : World} {b b' : Nat} {e : TypeId} {n : Nat} {v : Value} {k : Nat} {xs : List Value} (h : w.ownsRow b e n v k xs) (hb : b' ≤ b) : w.ownsRow b' e n v k xs := by
  refine ⟨h.1, ?_⟩
  rcases h.2 with h' | ⟨g, cap, cur, h1, h2, h3, r⟩
  · exact Or.inl h'
  · exact Or.inr ⟨g, cap, cur, h1, Nat.le_trans hb h2, h3, r⟩
set_option maxRecDepth 20000 in
set_option maxHeartbeats 1000000 in
theorem toWear_any (A : Option Addr) (c : Nat) (l : List (Int × Int × Int)) (U : Option Addr) (v : Nat) (z : List Int) (w : World) (hA : WnA w A l) (hU : SZ w U z) (hn : l.length ≤ 1048576) (hz : z.length ≤ 1048576) :
    Calls Tryz.prog 14 #[.agg #[.slice A l.length c, .slice U z.length v]] w (MadeW w l z) := by
  obtain ⟨X, hX⟩ : ∃ X, X = ((w.alloc (.cells #[.slice A l.length c, .slice U z.length v] 29)).alloc (.cells #[.slice none 0 0, .slice none 0 0] 34)).alloc (.cells #[.slice none 0 0, .slice none 0 0] 34) := ⟨_, rfl⟩
  have hb0 : Below w.heap.size w X := by rw [hX]; exact (((Below.refl _ _).alloc (Nat.le_refl _) _).alloc (by simp) _).alloc (by simp; omega) _
  have P0 : Bk X w.heap.size 29 #[.slice A l.length c, .slice U z.length v] := by rw [hX]; exact (Bk.new _ _ _ rfl).old _ |>.old _
  have Z1 : Bk X (w.heap.size + 1) 34 #[.slice none 0 0, .slice none 0 0] := by rw [hX]; exact (Bk.new _ _ _ (by simp)).old _
  have Z2 : Bk X (w.heap.size + 1 + 1) 34 #[.slice none 0 0, .slice none 0 0] := by rw [hX]; exact Bk.new _ _ _ (by simp)
  have hXs : w.heap.size + 1 + 1 < X.heap.size := by rw [hX]; simp
  go_enter Tryz.func14, Tryz.ntmps14
  go_upto_region 2 with fail
  rw [← hX]
  clear hX
  have c0 := P0.cell (i := 0) rfl
  have c1 := P0.cell (i := 1) rfl
  go_wp2_with fail
  refine (toWornPinS_any A c l _ (hA.below hb0) hn).mono ?_
  rintro e w2 ⟨rfl, own, hb⟩
  have b2 := step_below hb hb0
  have Q0 := P0.keep hb
  have Q1 := Z1.keep hb
  have Q2 := Z2.keep hb
  have hs2 := hb.size
  have f1 := Q2.frozen 0
  have g1 : w2.cell? ⟨w.heap.size + 1 + 1, 0, none⟩ = some (.slice none 0 0) := Q2.cell (i := 0) rfl
  have S0 := Q0.other (by omega : w.heap.size ≠ w.heap.size + 1 + 1) (k := 0) (.slice (some ⟨X.heap.size, 0, none⟩) l.length l.length)
  have S1 := Q1.other (by omega : w.heap.size + 1 ≠ w.heap.size + 1 + 1) (k := 0) (.slice (some ⟨X.heap.size, 0, none⟩) l.length l.length)
  have S2 : Bk (w2.setCell ⟨w.heap.size + 1 + 1, 0, none⟩ (.slice (some ⟨X.heap.size, 0, none⟩) l.length l.length)) (w.heap.size + 1 + 1) 34 #[.slice (some ⟨X.heap.size, 0, none⟩) l.length l.length, .slice none 0 0] := heap_setCell_same w2 _ 0 _ _ _ Q2
  have own2 := own_other own (w' := w2.setCell ⟨w.heap.size + 1 + 1, 0, none⟩ (.slice (some ⟨X.heap.size, 0, none⟩) l.length l.length)) (heap_setCell_other _ _ _ _ (by dsimp only; omega))
  have b3 : Below w.heap.size w (w2.setCell ⟨w.heap.size + 1 + 1, 0, none⟩ (.slice (some ⟨X.heap.size, 0, none⟩) l.length l.length)) := b2.setCell (p := ⟨_, _, none⟩) (by dsimp only; omega) _
  obtain ⟨Y, hY⟩ : ∃ Y, Y = w2.setCell ⟨w.heap.size + 1 + 1, 0, none⟩ (.slice (some ⟨X.heap.size, 0, none⟩) l.length l.length) := ⟨_, rfl⟩
  have hYs : Y.heap.size = w2.heap.size := by rw [hY]; simp
  rw [← hY] at S0 S1 S2 own2 b3
  have HY := hide hY
  clear Z1 Z2 hb0 hb b2 Q0 Q1 Q2 hY own
  go_upto_region 3 with fail
  rw [← HY.out]
  clear f1 g1 HY c0 c1
  have c1 : Y.cell? ⟨w.heap.size, 1, none⟩ = some (.slice U z.length v) := S0.cell (i := 1) rfl
  go_wp2_with fail
  refine (toInt64S_ex U v z _ (hU.below b3) hz).mono ?_
  rintro e w4 ⟨g, rfl, hg, ownz, hb4⟩
  have b4 := step_below hb4 b3
  have R1 := S1.keep hb4
  have R2 := S2.keep hb4
  have own4 := own_keep own2 hb4
  have hs4 := hb4.size
  have f1 := R2.frozen 1
  have g1 : w4.cell? ⟨w.heap.size + 1 + 1, 1, none⟩ = some (.slice none 0 0) := R2.cell (i := 1) rfl
  have V1 := R1.other (by omega : w.heap.size + 1 ≠ w.heap.size + 1 + 1) (k := 1) (.slice (some ⟨g, 0, none⟩) z.length z.length)
  have V2 : Bk (w4.setCell ⟨w.heap.size + 1 + 1, 1, none⟩ (.slice (some ⟨g, 0, none⟩) z.length z.length)) (w.heap.size + 1 + 1) 34 #[.slice (some ⟨X.heap.size, 0, none⟩) l.length l.length, .slice (some ⟨g, 0, none⟩) z.length z.length] := heap_setCell_same w4 _ 1 _ _ _ R2
  have ownz5 := own_other (own_low ownz (Nat.le_refl _)) (w' := w4.setCell ⟨w.heap.size + 1 + 1, 1, none⟩ (.slice (some ⟨g, 0, none⟩) z.length z.length)) (heap_setCell_other _ _ _ _ (by dsimp only; omega))
  have own5 := own_other own4 (w' := w4.setCell ⟨w.heap.size + 1 + 1, 1, none⟩ (.slice (some ⟨g, 0, none⟩) z.length z.length)) (heap_setCell_other _ _ _ _ (by dsimp only; omega))
  have b5 : Below w.heap.size w (w4.setCell ⟨w.heap.size + 1 + 1, 1, none⟩ (.slice (some ⟨g, 0, none⟩) z.length z.length)) := b4.setCell (p := ⟨_, _, none⟩) (by dsimp only; omega) _
  obtain ⟨Z, hZ⟩ : ∃ Z, Z = w4.setCell ⟨w.heap.size + 1 + 1, 1, none⟩ (.slice (some ⟨g, 0, none⟩) z.length z.length) := ⟨_, rfl⟩
  rw [← hZ] at V1 V2 ownz5 own5 b5
  have HZ := hide hZ
  clear hZ S0 S1 S2 own2 b3 hb4 b4 R1 R2 own4 ownz
  go_upto_region 4 with fail
  rw [← HZ.out]
  clear f1 g1 HZ c1
  have d0 : Z.cell? ⟨w.heap.size + 1 + 1, 0, none⟩ = some (.slice (some ⟨X.heap.size, 0, none⟩) l.length l.length) := V2.cell (i := 0) rfl
  have d1 : Z.cell? ⟨w.heap.size + 1 + 1, 1, none⟩ = some (.slice (some ⟨g, 0, none⟩) z.length z.length) := V2.cell (i := 1) rfl
  have e0 : Z.cell? ⟨w.heap.size + 1, 0, none⟩ = some (.slice none 0 0) := V1.cell (i := 0) rfl
  have e1 : Z.cell? ⟨w.heap.size + 1, 1, none⟩ = some (.slice none 0 0) := V1.cell (i := 1) rfl
  have f2 := V1.frozen 0
  have f3 := V1.frozen 1
  go_wp2
  refine bodyPost_ret (v := .agg #[.slice (some ⟨X.heap.size, 0, none⟩) l.length l.length, .slice (some ⟨g, 0, none⟩) z.length z.length]) (by simp [results, Tryz.results14, go_sem, e0, e1]) rfl ⟨X.heap.size, g, rfl, by omega, by omega, ?_, ?_, ?_⟩
  · exact own_other (own_low own5 (by omega)) (by rw [heap_setCell_other _ _ _ _ (by dsimp only; omega), heap_setCell_other _ _ _ _ (by dsimp only; omega)])
  · exact own_other (own_low ownz5 (by omega)) (by rw [heap_setCell_other _ _ _ _ (by dsimp only; omega), heap_setCell_other _ _ _ _ (by dsimp only; omega)])
  · exact (b5.setCell (p := ⟨_, _, none⟩) (by dsimp only; omega) _).setCell (p := ⟨_, _, none⟩) (by dsimp only; omega) _

theorem eqWear_self (A B : Option Addr) (c d : Nat) (l : List (Int × Int × Int)) (U V : Option Addr) (e f : Nat) (z : List Int) (w : World) (hA : WnA w A l) (hB : WnA w B l) (hU : SI w w.heap.size U z) (hV : SI w w.heap.size V z) (hn : l.length ≤ 1048576) (hz : z.length ≤ 1048576) :
    Calls Tryz.prog 16 #[.agg #[.slice A l.length c, .slice U z.length e], .agg #[.slice B l.length d, .slice V z.length f]] w (Says true w) := by
  have hb0 : Below w.heap.size w ((w.alloc (.cells #[.slice A l.length c, .slice U z.length e] 34)).alloc (.cells #[.slice B l.length d, .slice V z.length f] 34)) := ((Below.refl _ _).alloc (Nat.le_refl _) _).alloc (by simp) _
  obtain ⟨X, hX⟩ : ∃ X, X = (w.alloc (.cells #[.slice A l.length c, .slice U z.length e] 34)).alloc (.cells #[.slice B l.length d, .slice V z.length f] 34) := ⟨_, rfl⟩
  rw [← hX] at hb0
  have P0 : Bk X w.heap.size 34 #[.slice A l.length c, .slice U z.length e] := by rw [hX]; exact (Bk.new _ _ _ rfl).old _
  have P1 : Bk X (w.heap.size + 1) 34 #[.slice B l.length d, .slice V z.length f] := by rw [hX]; exact Bk.new _ _ _ (by simp)
  go_enter Tryz.func16, Tryz.ntmps16
  go_upto_region 1 with fail
  rw [← hX]
  clear hX
  have c0 := P0.cell (i := 0) rfl
  have c1 := P1.cell (i := 0) rfl
  go_wp2_with fail
  refine (eqWornPinS_self A B c d l _ (hA.below hb0) (hB.below hb0) hn).mono ?_
  rintro x w2 ⟨rfl, hb2⟩
  have b2 := step_below hb2 hb0
  have d0 := (P0.keep hb2).cell (i := 1) rfl
  have d1 := (P1.keep hb2).cell (i := 1) rfl
  clear c0 c1
  go_wp2_with fail
  refine (eqInt64S_self U V e f z _ ((hU.below b2).up b2.size) ((hV.below b2).up b2.size) hz).mono ?_
  rintro x w3 ⟨rfl, hb3⟩
  have b3 := step_below hb3 b2
  go_wp2
  go_ret
  exact ⟨rfl, b3⟩
theorem szWear_small (A : Option Addr) (n c : Nat) (U : Option Addr) (m v : Nat) (x : Int) (h0 : 0 ≤ x) (h1 : x ≤ 1048576) (hn : n ≤ maxLen) (hm : m ≤ maxLen) (hs : (n : Int) + m ≤ x) (w : World) :
    Calls Tryz.prog 11 #[.agg #[.slice A n c, .slice U m v], .int .i64 x] w fun e w' => e = .returned (.int .i64 (x - (n + m))) ∧ Below w.heap.size w w' := by
  have hb0 : Below w.heap.size w (w.alloc (.cells #[.slice A n c, .slice U m v] 29)) := (Below.refl _ _).alloc (Nat.le_refl _) _
  have hlt : decide (x - (n : Int) < 0) = false := by simp; omega
  have hlt2 : decide (x - (n : Int) - m < 0) = false := by simp; omega
  go_enter Tryz.func11, Tryz.ntmps11
  go_wp2_with (first | (go_at_call 43; refine (szWornPinS_small A n c x h0 h1 hn (by omega) _).mono ?_; rintro e w' ⟨rfl, rfl⟩) | (go_at_call 44; refine (szInt64S_small U m v (x - n) (by omega) (by omega) hm (by omega) _).mono ?_; rintro e w' ⟨rfl, rfl⟩))
  go_ret
  exact ⟨ret_int (by omega), hb0⟩
theorem szWear_big (A : Option Addr) (n c : Nat) (U : Option Addr) (m v : Nat) (x : Int) (h0 : 0 ≤ x) (h1 : x ≤ 1048576) (hn : n ≤ maxLen) (hm : m ≤ maxLen) (hs : x < (n : Int) + m) (w : World) :
    Calls Tryz.prog 11 #[.agg #[.slice A n c, .slice U m v], .int .i64 x] w fun e w' => e = .returned (.int .i64 (-1)) ∧ Below w.heap.size w w' := by
  have hb0 : Below w.heap.size w (w.alloc (.cells #[.slice A n c, .slice U m v] 29)) := (Below.refl _ _).alloc (Nat.le_refl _) _
  rcases Int.lt_or_le x n with h | h
  · go_enter Tryz.func11, Tryz.ntmps11
    go_wp2_with (go_at_call 43; refine (szWornPinS_big A n c x h0 h1 hn h _).mono ?_; rintro e w' ⟨rfl, rfl⟩)
    go_ret
    exact ⟨rfl, hb0⟩
  · have hlt : decide (x - (n : Int) < 0) = false := by simp; omega
    go_enter Tryz.func11, Tryz.ntmps11
    go_wp2_with (first | (go_at_call 43; refine (szWornPinS_small A n c x h0 h1 hn (by omega) _).mono ?_; rintro e w' ⟨rfl, rfl⟩) | (go_at_call 44; refine (szInt64S_big U m v (x - n) (by omega) (by omega) hm (by omega) _).mono ?_; rintro e w' ⟨rfl, rfl⟩))
    go_ret
    exact ⟨rfl, hb0⟩
end Go.Proofs.YtcocfnjbgceidaaGreat
