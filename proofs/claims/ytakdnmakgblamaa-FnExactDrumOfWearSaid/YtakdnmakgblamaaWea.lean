import Derived.Test.YtakdnmakgblamaaWpn
import Derived.Test.YtakdnmakgblamaaSzi
import Derived.Test.YtakdnmakgblamaaRw
import Derived.Deep.CutRange
namespace Go.Proofs.Ytakdnmakgblamaa
open Go.RowKit

/-- what toWear leaves: a wear whose pins and strokes lie under addresses of its own -/
def MadeW (w : World) (l : List (Int × Int × Int)) (z : List Int) (e : Ending) (w' : World) : Prop :=
  ∃ g m, e = .returned (.agg #[.slice (some ⟨g, 0, none⟩) l.length l.length, .slice (some ⟨m, 0, none⟩) z.length z.length]) ∧ w.heap.size ≤ g ∧ w.heap.size ≤ m ∧ w'.ownsRow w.heap.size 102 3 (.slice (some ⟨g, 0, none⟩) l.length l.length) l.length (wnC l) ∧ w'.ownsRow w.heap.size 2 1 (.slice (some ⟨m, 0, none⟩) z.length z.length) z.length (icells z) ∧ Below w.heap.size w w'
theorem own_low {w : World} {b b' : Nat} {e : TypeId} {n : Nat} {v : Value} {k : Nat} {xs : List Value} (h : w.ownsRow b e n v k xs) (hb : b' ≤ b) : w.ownsRow b' e n v k xs := by
  refine ⟨h.1, ?_⟩
  rcases h.2 with h' | ⟨g, cap, cur, h1, h2, h3, r⟩
  · exact Or.inl h'
  · exact Or.inr ⟨g, cap, cur, h1, Nat.le_trans hb h2, h3, r⟩
set_option maxRecDepth 20000 in
set_option maxHeartbeats 1000000 in
theorem toWear_any (A : Option Addr) (c : Nat) (l : List (Int × Int × Int)) (U : Option Addr) (v : Nat) (z : List Int) (w : World) (hA : WnA w A l) (hU : SZ w U z) (hn : l.length ≤ 1048576) (hz : z.length ≤ 1048576) :
    Calls Try.prog 18 #[.agg #[.slice A l.length c, .slice U z.length v]] w (MadeW w l z) := by
  obtain ⟨X, hX⟩ : ∃ X, X = ((w.alloc (.cells #[.slice A l.length c, .slice U z.length v] 35)).alloc (.cells #[.slice none 0 0, .slice none 0 0] 45)).alloc (.cells #[.slice none 0 0, .slice none 0 0] 45) := ⟨_, rfl⟩
  have hb0 : Below w.heap.size w X := by rw [hX]; exact (((Below.refl _ _).alloc (Nat.le_refl _) _).alloc (by simp) _).alloc (by simp; omega) _
  have P0 : Bk X w.heap.size 35 #[.slice A l.length c, .slice U z.length v] := by rw [hX]; exact (Bk.new _ _ _ rfl).old _ |>.old _
  have Z1 : Bk X (w.heap.size + 1) 45 #[.slice none 0 0, .slice none 0 0] := by rw [hX]; exact (Bk.new _ _ _ (by simp)).old _
  have Z2 : Bk X (w.heap.size + 1 + 1) 45 #[.slice none 0 0, .slice none 0 0] := by rw [hX]; exact Bk.new _ _ _ (by simp)
  have hXs : w.heap.size + 1 + 1 < X.heap.size := by rw [hX]; simp
  go_enter Try.func18, Try.ntmps18
  go_upto_region 2 with fail
  rw [← hX]
  clear hX
  have c0 := P0.cell (i := 0) rfl
  have c1 := P0.cell (i := 1) rfl
  go_wp2_with fail
  refine (toWornPinS_any A c l _ (hA.below hb0) hn).mono ?_
  rintro e w2 ⟨rfl, own, hb⟩
  have b2 := step_below hb hb0
  have Q0 := P0.keep hb
  have Q1 := Z1.keep hb
  have Q2 := Z2.keep hb
  have hs2 := hb.size
  have f1 := Q2.frozen 0
  have g1 : w2.cell? ⟨w.heap.size + 1 + 1, 0, none⟩ = some (.slice none 0 0) := Q2.cell (i := 0) rfl
  have S0 := Q0.other (by omega : w.heap.size ≠ w.heap.size + 1 + 1) (k := 0) (.slice (some ⟨X.heap.size, 0, none⟩) l.length l.length)
  have S1 := Q1.other (by omega : w.heap.size + 1 ≠ w.heap.size + 1 + 1) (k := 0) (.slice (some ⟨X.heap.size, 0, none⟩) l.length l.length)
  have S2 : Bk (w2.setCell ⟨w.heap.size + 1 + 1, 0, none⟩ (.slice (some ⟨X.heap.size, 0, none⟩) l.length l.length)) (w.heap.size + 1 + 1) 45 #[.slice (some ⟨X.heap.size, 0, none⟩) l.length l.length, .slice none 0 0] := heap_setCell_same w2 _ 0 _ _ _ Q2
  have own2 := own_other own (w' := w2.setCell ⟨w.heap.size + 1 + 1, 0, none⟩ (.slice (some ⟨X.heap.size, 0, none⟩) l.length l.length)) (heap_setCell_other _ _ _ _ (by dsimp only; omega))
  have b3 : Below w.heap.size w (w2.setCell ⟨w.heap.size + 1 + 1, 0, none⟩ (.slice (some ⟨X.heap.size, 0, none⟩) l.length l.length)) := b2.setCell (p := ⟨_, _, none⟩) (by dsimp only; omega) _
  obtain ⟨Y, hY⟩ : ∃ Y, Y = w2.setCell ⟨w.heap.size + 1 + 1, 0, none⟩ (.slice (some ⟨X.heap.size, 0, none⟩) l.length l.length) := ⟨_, rfl⟩
  have hYs : Y.heap.size = w2.heap.size := by rw [hY]; simp
  rw [← hY] at S0 S1 S2 own2 b3
  have HY := hide hY
  clear Z1 Z2 hb0 hb b2 Q0 Q1 Q2 hY own
  go_upto_region 3 with fail
  rw [← HY.out]
  clear f1 g1 HY c0 c1
  have c1 : Y.cell? ⟨w.heap.size, 1, none⟩ = some (.slice U z.length v) := S0.cell (i := 1) rfl
  go_wp2_with fail
  refine (toInt64S_ex U v z _ (hU.below b3) hz).mono ?_
  rintro e w4 ⟨g, rfl, hg, ownz, hb4⟩
  have b4 := step_below hb4 b3
  have R1 := S1.keep hb4
  have R2 := S2.keep hb4
  have own4 := own_keep own2 hb4
  have hs4 := hb4.size
  have f1 := R2.frozen 1
  have g1 : w4.cell? ⟨w.heap.size + 1 + 1, 1, none⟩ = some (.slice none 0 0) := R2.cell (i := 1) rfl
  have V1 := R1.other (by omega : w.heap.size + 1 ≠ w.heap.size + 1 + 1) (k := 1) (.slice (some ⟨g, 0, none⟩) z.length z.length)
  have V2 : Bk (w4.setCell ⟨w.heap.size + 1 + 1, 1, none⟩ (.slice (some ⟨g, 0, none⟩) z.length z.length)) (w.heap.size + 1 + 1) 45 #[.slice (some ⟨X.heap.size, 0, none⟩) l.length l.length, .slice (some ⟨g, 0, none⟩) z.length z.length] := heap_setCell_same w4 _ 1 _ _ _ R2
  have ownz5 := own_other (own_low ownz (Nat.le_refl _)) (w' := w4.setCell ⟨w.heap.size + 1 + 1, 1, none⟩ (.slice (some ⟨g, 0, none⟩) z.length z.length)) (heap_setCell_other _ _ _ _ (by dsimp only; omega))
  have own5 := own_other own4 (w' := w4.setCell ⟨w.heap.size + 1 + 1, 1, none⟩ (.slice (some ⟨g, 0, none⟩) z.length z.length)) (heap_setCell_other _ _ _ _ (by dsimp only; omega))
  have b5 : Below w.heap.size w (w4.setCell ⟨w.heap.size + 1 + 1, 1, none⟩ (.slice (some ⟨g, 0, none⟩) z.length z.length)) := b4.setCell (p := ⟨_, _, none⟩) (by dsimp only; omega) _
  obtain ⟨Z, hZ⟩ : ∃ Z, Z = w4.setCell ⟨w.heap.size + 1 + 1, 1, none⟩ (.slice (some ⟨g, 0, none⟩) z.length z.length) := ⟨_, rfl⟩
  rw [← hZ] at V1 V2 ownz5 own5 b5
  have HZ := hide hZ
  clear hZ S0 S1 S2 own2 b3 hb4 b4 R1 R2 own4 ownz
  go_upto_region 4 with fail
  rw [← HZ.out]
  clear f1 g1 HZ c1
  have d0 : Z.cell? ⟨w.heap.size + 1 + 1, 0, none⟩ = some (.slice (some ⟨X.heap.size, 0, none⟩) l.length l.length) := V2.cell (i := 0) rfl
  have d1 : Z.cell? ⟨w.heap.size + 1 + 1, 1, none⟩ = some (.slice (some ⟨g, 0, none⟩) z.length z.length) := V2.cell (i := 1) rfl
  have e0 : Z.cell? ⟨w.heap.size + 1, 0, none⟩ = some (.slice none 0 0) := V1.cell (i := 0) rfl
  have e1 : Z.cell? ⟨w.heap.size + 1, 1, none⟩ = some (.slice none 0 0) := V1.cell (i := 1) rfl
  have f2 := V1.frozen 0
  have f3 := V1.frozen 1
  go_wp2
  refine bodyPost_ret (v := .agg #[.slice (some ⟨X.heap.size, 0, none⟩) l.length l.length, .slice (some ⟨g, 0, none⟩) z.length z.length]) (by simp [results, Try.results18, go_sem, e0, e1]) rfl ⟨X.heap.size, g, rfl, by omega, by omega, ?_, ?_, ?_⟩
  · exact own_other (own_low own5 (by omega)) (by rw [heap_setCell_other _ _ _ _ (by dsimp only; omega), heap_setCell_other _ _ _ _ (by dsimp only; omega)])
  · exact own_other (own_low ownz5 (by omega)) (by rw [heap_setCell_other _ _ _ _ (by dsimp only; omega), heap_setCell_other _ _ _ _ (by dsimp only; omega)])
  · exact (b5.setCell (p := ⟨_, _, none⟩) (by dsimp only; omega) _).setCell (p := ⟨_, _, none⟩) (by dsimp only; omega) _

theorem eqWear_self (A B : Option Addr) (c d : Nat) (l : List (Int × Int × Int)) (U V : Option Addr) (e f : Nat) (z : List Int) (w : World) (hA : WnA w A l) (hB : WnA w B l) (hU : SI w w.heap.size U z) (hV : SI w w.heap.size V z) (hn : l.length ≤ 1048576) (hz : z.length ≤ 1048576) :
    Calls Try.prog 21 #[.agg #[.slice A l.length c, .slice U z.length e], .agg #[.slice B l.length d, .slice V z.length f]] w (Says true w) := by
  have hb0 : Below w.heap.size w ((w.alloc (.cells #[.slice A l.length c, .slice U z.length e] 45)).alloc (.cells #[.slice B l.length d, .slice V z.length f] 45)) := ((Below.refl _ _).alloc (Nat.le_refl _) _).alloc (by simp) _
  obtain ⟨X, hX⟩ : ∃ X, X = (w.alloc (.cells #[.slice A l.length c, .slice U z.length e] 45)).alloc (.cells #[.slice B l.length d, .slice V z.length f] 45) := ⟨_, rfl⟩
  rw [← hX] at hb0
  have P0 : Bk X w.heap.size 45 #[.slice A l.length c, .slice U z.length e] := by rw [hX]; exact (Bk.new _ _ _ rfl).old _
  have P1 : Bk X (w.heap.size + 1) 45 #[.slice B l.length d, .slice V z.length f] := by rw [hX]; exact Bk.new _ _ _ (by simp)
  go_enter Try.func21, Try.ntmps21
  go_upto_region 1 with fail
  rw [← hX]
  clear hX
  have c0 := P0.cell (i := 0) rfl
  have c1 := P1.cell (i := 0) rfl
  go_wp2_with fail
  refine (eqWornPinS_self A B c d l _ (hA.below hb0) (hB.below hb0) hn).mono ?_
  rintro x w2 ⟨rfl, hb2⟩
  have b2 := step_below hb2 hb0
  have d0 := (P0.keep hb2).cell (i := 1) rfl
  have d1 := (P1.keep hb2).cell (i := 1) rfl
  clear c0 c1
  go_wp2_with fail
  refine (eqInt64S_self U V e f z _ ((hU.below b2).up b2.size) ((hV.below b2).up b2.size) hz).mono ?_
  rintro x w3 ⟨rfl, hb3⟩
  have b3 := step_below hb3 b2
  go_wp2
  go_ret
  exact ⟨rfl, b3⟩
theorem szWear_small (A : Option Addr) (n c : Nat) (U : Option Addr) (m v : Nat) (x : Int) (h0 : 0 ≤ x) (h1 : x ≤ 1048576) (hn : n ≤ maxLen) (hm : m ≤ maxLen) (hs : (n : Int) + m ≤ x) (w : World) :
    Calls Try.prog 15 #[.agg #[.slice A n c, .slice U m v], .int .i64 x] w fun e w' => e = .returned (.int .i64 (x - (n + m))) ∧ Below w.heap.size w w' := by
  have hb0 : Below w.heap.size w (w.alloc (.cells #[.slice A n c, .slice U m v] 35)) := (Below.refl _ _).alloc (Nat.le_refl _) _
  have hlt : decide (x - (n : Int) < 0) = false := by simp; omega
  have hlt2 : decide (x - (n : Int) - m < 0) = false := by simp; omega
  go_enter Try.func15, Try.ntmps15
  go_wp2_with (first | (go_at_call 50; refine (szWornPinS_small A n c x h0 h1 hn (by omega) _).mono ?_; rintro e w' ⟨rfl, rfl⟩) | (go_at_call 51; refine (szInt64S_small U m v (x - n) (by omega) (by omega) hm (by omega) _).mono ?_; rintro e w' ⟨rfl, rfl⟩))
  go_ret
  exact ⟨ret_int (by omega), hb0⟩
theorem szWear_big (A : Option Addr) (n c : Nat) (U : Option Addr) (m v : Nat) (x : Int) (h0 : 0 ≤ x) (h1 : x ≤ 1048576) (hn : n ≤ maxLen) (hm : m ≤ maxLen) (hs : x < (n : Int) + m) (w : World) :
    Calls Try.prog 15 #[.agg #[.slice A n c, .slice U m v], .int .i64 x] w fun e w' => e = .returned (.int .i64 (-1)) ∧ Below w.heap.size w w' := by
  have hb0 : Below w.heap.size w (w.alloc (.cells #[.slice A n c, .slice U m v] 35)) := (Below.refl _ _).alloc (Nat.le_refl _) _
  rcases Int.lt_or_le x n with h | h
  · go_enter Try.func15, Try.ntmps15
    go_wp2_with (go_at_call 50; refine (szWornPinS_big A n c x h0 h1 hn h _).mono ?_; rintro e w' ⟨rfl, rfl⟩)
    go_ret
    exact ⟨rfl, hb0⟩
  · have hlt : decide (x - (n : Int) < 0) = false := by simp; omega
    go_enter Try.func15, Try.ntmps15
    go_wp2_with (first | (go_at_call 50; refine (szWornPinS_small A n c x h0 h1 hn (by omega) _).mono ?_; rintro e w' ⟨rfl, rfl⟩) | (go_at_call 51; refine (szInt64S_big U m v (x - n) (by omega) (by omega) hm (by omega) _).mono ?_; rintro e w' ⟨rfl, rfl⟩))
    go_ret
    exact ⟨rfl, hb0⟩
end Go.Proofs.Ytakdnmakgblamaa
