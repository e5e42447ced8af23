import Derived.Test.YtcocfnjbgceidaaGreatGbi
import Derived.Test.YtcocfnjbgceidaaGreatAct
import Derived.Test.YtcocfnjbgceidaaGreatGaa
namespace Go.Proofs.YtcocfnjbgceidaaGreat
open Go.RowKit Go.Maps
/-- the state of a wear behind the first acts -/
def stA (n : Nat) (T : List Wp) (z : List Int) (l : List (Int × Int × Int × Int × Int)) : Nat → List Wp × List Int
  | 0 => (T, z)
  | k + 1 => (acT (stA n T z l k).1 (qaK l k) (qaA l k) (qaB l k) (qaE l k) (qaD l k), acZ n (stA n T z l k).1 (stA n T z l k).2 (qaK l k) (qaA l k) (qaB l k) (qaE l k) (qaD l k))
/-- what an act of the list comes to by itself -/
def dnA (s : Int) (n : Nat) (T : List Wp) (z : List Int) (l : List (Int × Int × Int × Int × Int)) (k : Nat) : Int := acC s n (stA n T z l k).1 (stA n T z l k).2 (qaK l k) (qaA l k) (qaB l k) (qaE l k) (qaD l k)
/-- what an act of the list comes to, with what is worn out behind it -/
def dnC (s : Int) (n : Nat) (T : List Wp) (z : List Int) (l : List (Int × Int × Int × Int × Int)) (a b : Int) (k : Nat) : Int :=
  if dnA s n T z l k = 0 then (if wholeB (stA n T z l (k + 1)).1 (stA n T z l (k + 1)).2 a b then 0 else 8) else dnA s n T z l k
def dnK (s : Int) (n : Nat) (T : List Wp) (z : List Int) (l : List (Int × Int × Int × Int × Int)) (a b : Int) : Nat := (List.range l.length).findIdx fun k => decide (dnC s n T z l a b k ≠ 0)
theorem dnK_hit {s : Int} {n : Nat} {T : List Wp} {z : List Int} {l : List (Int × Int × Int × Int × Int)} {a b : Int} {k : Nat} (hk : k < l.length) (h0 : ∀ j, j < k → dnC s n T z l a b j = 0) (h : dnC s n T z l a b k ≠ 0) : dnK s n T z l a b = k := by
  unfold dnK
  rw [List.findIdx_eq (by simpa using hk)]
  exact ⟨by simpa using h, fun j hj => by simpa using h0 j hj⟩
theorem dnK_all {s : Int} {n : Nat} {T : List Wp} {z : List Int} {l : List (Int × Int × Int × Int × Int)} {a b : Int} (h0 : ∀ j, j < l.length → dnC s n T z l a b j = 0) : dnK s n T z l a b = l.length := by
  have := List.findIdx_eq_length (xs := List.range l.length) (p := fun k => decide (dnC s n T z l a b k ≠ 0))
  rw [List.length_range] at this
  exact this.2 fun x hx => by simpa using h0 x (List.mem_range.1 hx)
/-- the code of the acts -/
def dnW (s : Int) (n : Nat) (T : List Wp) (z : List Int) (l : List (Int × Int × Int × Int × Int)) (a b : Int) : Int := if dnK s n T z l a b < l.length then dnC s n T z l a b (dnK s n T z l a b) else 0
/-- the first act with an error -/
def dnI (d : Int) (s : Int) (n : Nat) (T : List Wp) (z : List Int) (l : List (Int × Int × Int × Int × Int)) (a b : Int) : Int := if dnK s n T z l a b < l.length then (dnK s n T z l a b : Int) else d
theorem dn_hit {s : Int} {n : Nat} {T : List Wp} {z : List Int} {l : List (Int × Int × Int × Int × Int)} {a b : Int} {k : Nat} (hk : k < l.length) (h0 : ∀ j, j < k → dnC s n T z l a b j = 0) (h : dnC s n T z l a b k ≠ 0) : dnW s n T z l a b = dnC s n T z l a b k ∧ ∀ d, dnI d s n T z l a b = (k : Int) := by
  have e := dnK_hit hk h0 h
  unfold dnW dnI
  rw [e, if_pos hk]
  exact ⟨rfl, fun d => if_pos hk⟩
theorem dn_all {s : Int} {n : Nat} {T : List Wp} {z : List Int} {l : List (Int × Int × Int × Int × Int)} {a b : Int} (h0 : ∀ j, j < l.length → dnC s n T z l a b j = 0) : dnW s n T z l a b = 0 ∧ ∀ d, dnI d s n T z l a b = d := by
  have e := dnK_all h0
  unfold dnW dnI
  rw [e, if_neg (Nat.lt_irrefl _)]
  exact ⟨rfl, fun d => if_neg (Nat.lt_irrefl _)⟩
theorem dn_succ {s : Int} {n : Nat} {T : List Wp} {z : List Int} {l : List (Int × Int × Int × Int × Int)} {a b : Int} {k : Nat} (h0 : ∀ j, j < k → dnC s n T z l a b j = 0) (h : dnC s n T z l a b k = 0) : ∀ j, j < k + 1 → dnC s n T z l a b j = 0 := fun j hj => by
  rcases Nat.lt_or_ge j k with h1 | h1
  · exact h0 j h1
  · rw [show j = k by omega]; exact h
def cons1 {α : Type} (a : α) (f : Nat → α) : Nat → α
  | 0 => a
  | i + 1 => f i
theorem Bkf.cons {w : World} {g : Nat} {t : TypeId} {cs : Array Value} {g2 : Nat → Nat} {t2 : Nat → TypeId} {cs2 : Nat → Array Value} (h : Bk w g t cs) (h2 : Bkf w g2 t2 cs2) : Bkf w (cons1 g g2) (cons1 t t2) (cons1 cs cs2) := fun i => by
  cases i with
  | zero => exact h
  | succ i => exact h2 i
theorem ne_cons {t t0 : TypeId} {t2 : Nat → TypeId} (h : t ≠ t0) (h2 : ∀ i, t2 i ≠ t0) : ∀ i, cons1 t t2 i ≠ t0 := fun i => by
  cases i with
  | zero => exact h
  | succ i => exact h2 i
theorem st_len {s : Int} {n base : Nat} {C : Option Addr} {q M N : Nat} {T : List Wp} {z : List Int} {w : World} (h : WSt s n base C q M N T z w) : z.length = n := by
  obtain ⟨_, _, _, _, _, h, _⟩ := h
  exact h
set_option maxRecDepth 20000 in
set_option maxHeartbeats 8000000 in
theorem doAll_any (s : Int) (A : Option Addr) (n c M q N : Nat) (C : Option Addr) (T : List Wp) (z : List Int) (a b : Int) (L : Option Addr) (lc : Nat) (l : List (Int × Int × Int × Int × Int)) (w0 w : World) (hs : s ≤ 96) (hn : n ≤ 24) (hs' : -32768 ≤ s) (hSt : WSt s n w0.heap.size C q M N T z w) (hW : Below w0.heap.size w0 w)
    (hA : AcA w0 L l) (hwf : AcWF l) (hl : l.length ≤ 60) (hN : N ≤ 1048576) (g2 : Nat → Nat) (t2 : Nat → TypeId) (cs2 : Nat → Array Value) (hB : Bkf w g2 t2 cs2) (ht2 : ∀ i, t2 i ≠ 2) :
    Calls Tryz.prog 67 #[.agg #[.int .i64 s, .slice A n c, .map (some M), .slice C n q], .agg #[.int .i64 a, .int .i64 b], .slice L l.length lc] w
      fun e w' => e = .returned (.tuple #[.int .i64 (dnI 0 s n T z l a b), .int .i64 (dnW s n T z l a b)]) ∧ (dnW s n T z l a b = 0 → WSt s n w0.heap.size C q M (N + l.length) (stA n T z l l.length).1 (stA n T z l l.length).2 w') ∧ Bkf w' g2 t2 cs2 ∧ Below w0.heap.size w w' := by
  obtain ⟨X, hX⟩ : ∃ X, X = (w.alloc (.cells #[.int .i64 s, .slice A n c, .map (some M), .slice C n q] 106)).alloc (.cells #[.int .i64 a, .int .i64 b] 63) := ⟨_, rfl⟩
  have bX : Below w.heap.size w X := by rw [hX]; exact ((Below.refl _ _).alloc (Nat.le_refl _) _).alloc (by simp) _
  have P0 : Bk X w.heap.size 106 #[.int .i64 s, .slice A n c, .map (some M), .slice C n q] := by rw [hX]; exact (Bk.new _ _ _ rfl).old _
  have P1 : Bk X (w.heap.size + 1) 63 #[.int .i64 a, .int .i64 b] := by rw [hX]; exact Bk.new _ _ _ (by simp)
  have StX := hSt.keep bX
  have BX := hB.keep bX
  have hWs := hW.size
  have bX0 := bX.mono hWs
  clear hSt hB
  go_enter Tryz.func67, Tryz.ntmps67
  go_upto_region 1 with fail
  rw [← hX]
  clear hX
  go_wp2_with fail
  go_loopw [8, 9, 10, 13] (fun _ _ _ i wr => ∃ k : Nat, k ≤ l.length ∧ i = .int .i64 k ∧ (∀ j, j < k → dnC s n T z l a b j = 0) ∧ WSt s n w0.heap.size C q M (N + k) (stA n T z l k).1 (stA n T z l k).2 wr ∧ Bk wr w.heap.size 106 #[.int .i64 s, .slice A n c, .map (some M), .slice C n q] ∧ Bk wr (w.heap.size + 1) 63 #[.int .i64 a, .int .i64 b] ∧ Bkf wr g2 t2 cs2 ∧ Below w0.heap.size w wr)
    (fun _ _ _ i _ => l.length - (intOf i).toNat)
  case atStart => exact ⟨0, Nat.zero_le _, rfl, fun j hj => absurd hj (Nat.not_lt_zero _), StX, P0, P1, BX, bX0⟩
  case round =>
    obtain ⟨k, hk, rfl, hG, St, Q0, Q1, QB, hb⟩ := hrel
    have HG := hide hG
    clear hG
    by_cases hlt : k < l.length
    · obtain ⟨bb, o, rfl, hbb, c0, c1, c2, c3, c4⟩ := hA k hlt
      have hb0 := hW.trans hb
      have d0 := (hb0.cell (p := ⟨bb, o + k * 5, none⟩) hbb).trans c0
      have d1 := (hb0.cell (p := ⟨bb, o + k * 5 + 1, none⟩) hbb).trans c1
      have d2 := (hb0.cell (p := ⟨bb, o + k * 5 + 2, none⟩) hbb).trans c2
      have d3 := (hb0.cell (p := ⟨bb, o + k * 5 + 3, none⟩) hbb).trans c3
      have d4 := (hb0.cell (p := ⟨bb, o + k * 5 + 4, none⟩) hbb).trans c4
      obtain ⟨hk8, _⟩ := hwf k hlt
      have hki : (k : Int) < (l.length : Int) := by omega
      obtain ⟨Y, hY⟩ : ∃ Y, Y = wr.alloc (.cells #[.int .i8 (qaK l k), .int .i64 (qaA l k), .int .i64 (qaB l k), .int .i64 (qaE l k), .int .i64 (qaD l k)] 55) := ⟨_, rfl⟩
      have bY : Below wr.heap.size wr Y := by rw [hY]; exact (Below.refl _ _).alloc (Nat.le_refl _) _
      have B0 : Bk Y wr.heap.size 55 #[.int .i8 (qaK l k), .int .i64 (qaA l k), .int .i64 (qaB l k), .int .i64 (qaE l k), .int .i64 (qaD l k)] := by rw [hY]; exact Bk.new _ _ _ rfl
      have hbs := hb.size
      have R0 := Q0.keep bY
      have R1 := Q1.keep bY
      have RB := QB.keep bY
      have hbY := hb.trans (bY.mono (by omega))
      have KD := do_any s A n c M q (N + k) w0.heap.size C (stA n T z l k).1 (stA n T z l k).2 (qaK l k) (qaA l k) (qaB l k) (qaE l k) (qaD l k) Y hs hn hs' (St.keep bY) (by have := bY.size; omega) (by omega) _ _ _ (Bkf.cons R0 (Bkf.cons R1 RB)) (ne_cons (by decide) (ne_cons (by decide) ht2)) hk8
      have StL := st_len (St.keep bY)
      go_upto_region 4 with fail
      rw [← hY]
      clear hY c0 c1 c2 c3 c4 d0 d1 d2 d3 d4 Q0 Q1 QB
      have e0 := R0.cell (i := 0) rfl
      have e1 := R0.cell (i := 1) rfl
      have e2 := R0.cell (i := 2) rfl
      have e3 := R0.cell (i := 3) rfl
      have a0 := B0.cell (i := 0) rfl
      have a1 := B0.cell (i := 1) rfl
      have a2 := B0.cell (i := 2) rfl
      have a3 := B0.cell (i := 3) rfl
      have a4 := B0.cell (i := 4) rfl
      obtain ⟨cc, hcc⟩ : ∃ x, x = acC s n (stA n T z l k).1 (stA n T z l k).2 (qaK l k) (qaA l k) (qaB l k) (qaE l k) (qaD l k) := ⟨_, rfl⟩
      rw [← hcc] at KD
      have HCC := hide (show dnA s n T z l k = cc from hcc.symm)
      clear hcc
      go_wp2_with fail
      refine KD.mono ?_
      rintro e w5 ⟨rfl, hst5, hF5, hb5⟩
      have S0 : Bk w5 w.heap.size 106 #[.int .i64 s, .slice A n c, .map (some M), .slice C n q] := hF5 0
      have S1 : Bk w5 (w.heap.size + 1) 63 #[.int .i64 a, .int .i64 b] := hF5 1
      have SB : Bkf w5 g2 t2 cs2 := fun i => hF5 (i + 2)
      have b5 := hbY.trans hb5
      clear KD e0 e1 e2 e3 a0 a1 a2 a3 a4 hF5 R0 R1 RB B0
      by_cases hc0 : cc = 0
      · subst hc0
        have st5 : WSt s n w0.heap.size C q M (N + (k + 1)) (stA n T z l (k + 1)).1 (stA n T z l (k + 1)).2 w5 := hst5 rfl
        have hst5' := st5
        obtain ⟨D, hM5, hD5, hI5, hO5, hz5, hv5, hvz5, hbM5⟩ := hst5'
        have KE := exceeds_any M C q (N + (k + 1)) (stA n T z l (k + 1)).2 D (stA n T z l (k + 1)).1 a b w5 hM5 hD5 (SZ.of_own (c := q) (by rw [hz5]; exact hO5)) (by omega)
        rw [hz5] at KE
        have f2 := S0.cell (i := 2) rfl
        have f3 := S0.cell (i := 3) rfl
        have f0 := S1.cell (i := 0) rfl
        have f1 := S1.cell (i := 1) rfl
        clear hst5 hM5 hD5 hO5 hv5 hvz5 hz5
        cases hw : wholeB (stA n T z l (k + 1)).1 (stA n T z l (k + 1)).2 a b
        · rw [hw] at KE
          have HD := hide (dn_hit hlt HG.out (show dnC s n T z l a b k ≠ 0 by rw [dnC, if_pos HCC.out, hw]; decide))
          have HC8 := hide (show dnC s n T z l a b k = 8 by rw [dnC, if_pos HCC.out, hw]; rfl)
          clear hw
          go_wp2_with fail
          refine KE.mono ?_
          rintro e w6 ⟨rfl, hb6⟩
          have b6 := b5.trans (hb6.mono (by have := b5.size; omega))
          go_wp2
          go_ret2
          exact ⟨by rw [HD.out.2, HD.out.1, HC8.out]; rfl, fun h => by rw [HD.out.1, HC8.out] at h; exact absurd h (by decide), SB.keep hb6, b6⟩
        · rw [hw] at KE
          have HC8 := hide (show dnC s n T z l a b k = 0 by rw [dnC, if_pos HCC.out, hw]; rfl)
          clear hw
          go_wp2_with fail
          refine KE.mono ?_
          rintro e w6 ⟨rfl, hb6⟩
          have b6 := b5.trans (hb6.mono (by have := b5.size; omega))
          have St6 := st5.keep hb6
          have S06 := S0.keep hb6
          have S16 := S1.keep hb6
          have SB6 := SB.keep hb6
          clear S0 S1 SB f0 f1 f2 f3 KE
          go_wp2
          go_roundw
          case rel => exact ⟨k + 1, hlt, by go_num, dn_succ HG.out HC8.out, St6, S06, S16, SB6, b6⟩
          case measure => simp [intOf]; omega
      · have HD := hide (dn_hit hlt HG.out (show dnC s n T z l a b k ≠ 0 by rw [dnC, if_neg (by rw [HCC.out]; exact hc0), HCC.out]; exact hc0))
        have HC8 := hide (show dnC s n T z l a b k = cc by rw [dnC, if_neg (by rw [HCC.out]; exact hc0), HCC.out])
        have hq : (cc == 0) = false := by simpa using hc0
        have hq2 : (cc != 0) = true := by simpa using hc0
        have HCN := hide hc0
        clear hc0 hst5
        go_wp2
        go_ret2
        exact ⟨by rw [HD.out.2, HD.out.1, HC8.out]; rfl, fun h => by rw [HD.out.1, HC8.out] at h; exact absurd h HCN.out, SB, b5⟩
    · have HK := hide (show k = l.length by omega)
      have hni : ¬ (k : Int) < (l.length : Int) := by omega
      clear hk hlt Q0 Q1
      go_wp2
      go_ret2
      have hke := HK.out
      subst hke
      have hd := dn_all HG.out
      exact ⟨by rw [hd.1, hd.2]; rfl, fun _ => St, QB, hb⟩
end Go.Proofs.YtcocfnjbgceidaaGreat
namespace Go.Proofs.YtcocfnjbgceidaaGreat
open Go.RowKit
/-- two numbers of 64 bits -/
def LvWF (x y : Int) : Prop := (-9223372036854775808 ≤ x ∧ x ≤ 9223372036854775807) ∧ (-9223372036854775808 ≤ y ∧ y ≤ 9223372036854775807)
def lvB (x y : Int) : Bool := inB x 1 1000000 && inB y 1 1000000
theorem toLives_any (x y : Int) (w : World) :
    Calls Tryz.prog 30 #[.agg #[.int .i64 x, .int .i64 y]] w fun e w' => e = .returned (.agg #[.int .i64 x, .int .i64 y]) ∧ Below w.heap.size w w' := by
  go_enter Tryz.func30, Tryz.ntmps30
  go_wp2
  refine bodyPost_ret (v := .agg #[.int .i64 x, .int .i64 y]) (by simp [results, Tryz.results30, go_sem]) rfl ⟨rfl, ?_⟩
  repeat (first | exact Below.refl _ _ | refine Below.alloc ?_ (by simp <;> omega) _ | refine Below.setCell ?_ (by simp) _)
theorem implValidLives_any (x y : Int) (w : World) (_ : LvWF x y) :
    Calls Tryz.prog 109 #[.agg #[.int .i64 x, .int .i64 y]] w (Says (lvB x y) w) := by
  have hb0 : Below w.heap.size w (w.alloc (.cells #[.int .i64 x, .int .i64 y] 63)) := (Below.refl _ _).alloc (Nat.le_refl _) _
  cases h1 : inB x 1 1000000
  · have K1 : ∀ W, Calls Tryz.prog 73 #[.int .i64 x, .int .i64 1, .int .i64 1000000] W fun e w' => e = .returned (.bool false) ∧ W = w' := fun W => by rw [← h1]; exact within_any _ _ _ W
    have HX := hide (show lvB x y = false by simp [lvB, h1])
    clear h1
    go_enter Tryz.func109, Tryz.ntmps109
    go_wp2_with (go_at_call 73; with_reducible refine (K1 _).mono ?_; rintro e w' ⟨rfl, rfl⟩)
    go_ret
    exact ⟨ret_bool HX.out.symm, hb0⟩
  · have K1 : ∀ W, Calls Tryz.prog 73 #[.int .i64 x, .int .i64 1, .int .i64 1000000] W fun e w' => e = .returned (.bool true) ∧ W = w' := fun W => by rw [← h1]; exact within_any _ _ _ W
    have K2 : ∀ W, Calls Tryz.prog 73 #[.int .i64 y, .int .i64 1, .int .i64 1000000] W fun e w' => e = .returned (.bool (lvB x y)) ∧ W = w' := fun W => by rw [show lvB x y = inB y 1 1000000 by simp [lvB, h1]]; exact within_any _ _ _ W
    clear h1
    generalize lvB x y = b at K2 ⊢
    go_enter Tryz.func109, Tryz.ntmps109
    go_wp2_with (first | (go_at_call 73; with_reducible refine (K1 _).mono ?_; rintro e w' ⟨rfl, rfl⟩) | (go_at_call 73; with_reducible refine (K2 _).mono ?_; rintro e w' ⟨rfl, rfl⟩))
    go_ret
    exact ⟨rfl, hb0⟩
theorem l06Lives_any (x y : Int) (w : World) :
    Calls Tryz.prog 71 #[.agg #[.int .i64 x, .int .i64 y]] w (Says (lvB x y) w) := by
  have hb0 : Below w.heap.size w (w.alloc (.cells #[.int .i64 x, .int .i64 y] 63)) := (Below.refl _ _).alloc (Nat.le_refl _) _
  cases h1 : inB x 1 1000000
  · have K1 : ∀ W, Calls Tryz.prog 46 #[.int .i64 x, .int .i64 1, .int .i64 1000000] W fun e w' => e = .returned (.bool false) ∧ W = w' := fun W => by rw [← h1]; exact l00In_any _ _ _ W
    have HX := hide (show lvB x y = false by simp [lvB, h1])
    clear h1
    go_enter Tryz.func71, Tryz.ntmps71
    go_wp2_with (go_at_call 46; with_reducible refine (K1 _).mono ?_; rintro e w' ⟨rfl, rfl⟩)
    go_ret
    exact ⟨ret_bool HX.out.symm, hb0⟩
  · have K1 : ∀ W, Calls Tryz.prog 46 #[.int .i64 x, .int .i64 1, .int .i64 1000000] W fun e w' => e = .returned (.bool true) ∧ W = w' := fun W => by rw [← h1]; exact l00In_any _ _ _ W
    have K2 : ∀ W, Calls Tryz.prog 46 #[.int .i64 y, .int .i64 1, .int .i64 1000000] W fun e w' => e = .returned (.bool (lvB x y)) ∧ W = w' := fun W => by rw [show lvB x y = inB y 1 1000000 by simp [lvB, h1]]; exact l00In_any _ _ _ W
    clear h1
    generalize lvB x y = b at K2 ⊢
    go_enter Tryz.func71, Tryz.ntmps71
    go_wp2_with (first | (go_at_call 46; with_reducible refine (K1 _).mono ?_; rintro e w' ⟨rfl, rfl⟩) | (go_at_call 46; with_reducible refine (K2 _).mono ?_; rintro e w' ⟨rfl, rfl⟩))
    go_ret
    exact ⟨rfl, hb0⟩
end Go.Proofs.YtcocfnjbgceidaaGreat
