import Derived.Test.YtcocfnjbgceidaaGbb
import Derived.Test.YtcocfnjbgceidaaGax
import Derived.Test.YtcocfnjbgceidaaTun
namespace Go.Proofs.Ytcocfnjbgceidaa
open Go.RowKit Go.Maps
theorem vz_set {z : List Int} (h : VZ z) (k : Nat) : VZ (z.set k 0) := fun y hy => by
  rcases List.mem_or_eq_of_mem_set hy with h1 | rfl
  · exact h y h1
  · omega
/-- a hammer made new, as a deed -/
theorem renewOn_any (s : Int) (A : Option Addr) (n c M q N base : Nat) (C : Option Addr) (T : List Wp) (z : List Int) (x : Int) (w : World) (hs : s ≤ 96) (hn : n ≤ 24) (hs' : -32768 ≤ s) (hSt : WSt s n base C q M N T z w) (hbase : base ≤ w.heap.size) (hN : N ≤ 1099511627776) (g2 : Nat → Nat) (t2 : Nat → TypeId) (cs2 : Nat → Array Value) (hB : Bkf w g2 t2 cs2) (ht2 : ∀ i, t2 i ≠ 2) :
    Calls Try.prog 233 #[.agg #[.int .i64 x], .agg #[.int .i64 s, .slice A n c, .map (some M), .slice C n q]] w (OnP s n base C q M (N + 1) T (rnZ n z x) (rnC n x) g2 t2 cs2 w) := by
  obtain ⟨D, hM, hD, hI, hO, hz, hv, hvz, hbM⟩ := hSt
  subst hz
  refine (renewing_any s x A z.length c M q base C z N D w (by omega) rfl hO hbase hM (fun g hg => map_ne_own hM hO g (by rw [hg]; rfl)) g2 t2 cs2 hB ht2).mono ?_
  rintro e w' ⟨rfl, hO', hM', hB', hb'⟩
  refine ⟨rfl, fun _ => ⟨D, hM'.mono (Nat.le_succ _), hD, hI, hO', ?_, hv, ?_, hbM⟩, hB', hb'⟩
  · unfold rnZ
    split <;> simp
  · unfold rnZ
    split
    · exact vz_set hvz _
    · exact hvz
set_option maxRecDepth 20000 in
set_option maxHeartbeats 4000000 in
theorem deed_pin (a b c2 d2 : Int) (w : World) :
    Calls Try.prog 144 #[.agg #[.int .i8 2, .int .i64 a, .int .i64 b, .int .i64 c2, .int .i64 d2]] w fun e w' => e = .returned (.iface 257 (.agg #[.int .i64 a, .int .i64 b])) ∧ Below w.heap.size w w' := by
  have hb0 : Below w.heap.size w (w.alloc (.cells #[.int .i8 2, .int .i64 a, .int .i64 b, .int .i64 c2, .int .i64 d2] 115)) := (Below.refl _ _).alloc (Nat.le_refl _) _
  go_enter Try.func144, Try.ntmps144
  go_wp2
  go_ret
  exact ⟨rfl, hb0⟩
set_option maxRecDepth 20000 in
set_option maxHeartbeats 4000000 in
theorem do_pin (s : Int) (A : Option Addr) (n c M q N base : Nat) (C : Option Addr) (T : List Wp) (z : List Int) (a b c2 d2 : Int) (w : World) (hs : s ≤ 96) (hn : n ≤ 24) (hs' : -32768 ≤ s) (hSt : WSt s n base C q M N T z w) (hbase : base ≤ w.heap.size) (hN : N ≤ 1099511627776) (g2 : Nat → Nat) (t2 : Nat → TypeId) (cs2 : Nat → Array Value) (hB : Bkf w g2 t2 cs2) :
    Calls Try.prog 105 #[.agg #[.int .i64 s, .slice A n c, .map (some M), .slice C n q], .agg #[.int .i8 2, .int .i64 a, .int .i64 b, .int .i64 c2, .int .i64 d2]] w (OnP s n base C q M (N + 1) (plT T a b) (z) (plC s n a b) g2 t2 cs2 w) := by
  obtain ⟨X, hX⟩ : ∃ X, X = (w.alloc (.cells #[.int .i64 s, .slice A n c, .map (some M), .slice C n q] 125)).alloc (.cells #[.int .i8 2, .int .i64 a, .int .i64 b, .int .i64 c2, .int .i64 d2] 115) := ⟨_, rfl⟩
  have bX : Below w.heap.size w X := by rw [hX]; exact ((Below.refl _ _).alloc (Nat.le_refl _) _).alloc (by simp) _
  have W0 : Bk X w.heap.size 125 #[.int .i64 s, .slice A n c, .map (some M), .slice C n q] := by rw [hX]; exact (Bk.new _ _ _ rfl).old _
  have A0 : Bk X (w.heap.size + 1) 115 #[.int .i8 2, .int .i64 a, .int .i64 b, .int .i64 c2, .int .i64 d2] := by rw [hX]; exact Bk.new _ _ _ (by simp)
  have St0 := hSt.keep bX
  have B0 := hB.keep bX
  go_enter Try.func105, Try.ntmps105
  go_upto_region 1 with fail
  rw [← hX]
  clear hX
  have c0 := A0.cell (i := 0) rfl
  have c1 := A0.cell (i := 1) rfl
  have c2_ := A0.cell (i := 2) rfl
  have c3 := A0.cell (i := 3) rfl
  have c4 := A0.cell (i := 4) rfl
  go_wp2_with fail
  clear c0 c1 c2_ c3 c4
  refine (deed_pin a b c2 d2 _).mono ?_
  rintro e w2 ⟨rfl, hb2⟩
  have b2 := step_below hb2 bX
  have W2 := W0.keep hb2
  have c0 := W2.cell (i := 0) rfl
  have c1 := W2.cell (i := 1) rfl
  have c2_ := W2.cell (i := 2) rfl
  have c3 := W2.cell (i := 3) rfl
  have KR := placing_any s A n c M q N base C T z a b w2 hs hn hs' (St0.keep hb2) (Nat.le_trans hbase b2.size) hN g2 t2 cs2 (B0.keep hb2)
  have hm : ∀ (k : Nat) W, (method (k + 1) 257 (.agg #[.int .i64 a, .int .i64 b]) "loop.example/g01311/impl.on").run Try.prog W = .ok (234, .agg #[.int .i64 a, .int .i64 b]) W := fun k W => rfl
  go_wp2_with fail
  refine KR.mono ?_
  rintro e w3 ⟨rfl, hst3, B3, hb3⟩
  go_wp2
  go_ret
  exact ⟨rfl, hst3, B3, (b2.mono hbase).trans hb3⟩
set_option maxRecDepth 20000 in
set_option maxHeartbeats 4000000 in
theorem deed_move (a b c2 d2 : Int) (w : World) :
    Calls Try.prog 144 #[.agg #[.int .i8 3, .int .i64 a, .int .i64 b, .int .i64 c2, .int .i64 d2]] w fun e w' => e = .returned (.iface 259 (.agg #[.int .i64 a, .int .i64 b, .int .i64 c2, .int .i64 d2])) ∧ Below w.heap.size w w' := by
  have hb0 : Below w.heap.size w (w.alloc (.cells #[.int .i8 3, .int .i64 a, .int .i64 b, .int .i64 c2, .int .i64 d2] 115)) := (Below.refl _ _).alloc (Nat.le_refl _) _
  go_enter Try.func144, Try.ntmps144
  go_wp2
  go_ret
  exact ⟨rfl, hb0⟩
set_option maxRecDepth 20000 in
set_option maxHeartbeats 4000000 in
theorem do_move (s : Int) (A : Option Addr) (n c M q N base : Nat) (C : Option Addr) (T : List Wp) (z : List Int) (a b c2 d2 : Int) (w : World) (hs : s ≤ 96) (hn : n ≤ 24) (hs' : -32768 ≤ s) (hSt : WSt s n base C q M N T z w) (hbase : base ≤ w.heap.size) (hN : N ≤ 1099511627776) (g2 : Nat → Nat) (t2 : Nat → TypeId) (cs2 : Nat → Array Value) (hB : Bkf w g2 t2 cs2) :
    Calls Try.prog 105 #[.agg #[.int .i64 s, .slice A n c, .map (some M), .slice C n q], .agg #[.int .i8 3, .int .i64 a, .int .i64 b, .int .i64 c2, .int .i64 d2]] w (OnP s n base C q M (N + 1) (mvT T a b c2 d2) (z) (mvC s n T a b c2 d2) g2 t2 cs2 w) := by
  obtain ⟨X, hX⟩ : ∃ X, X = (w.alloc (.cells #[.int .i64 s, .slice A n c, .map (some M), .slice C n q] 125)).alloc (.cells #[.int .i8 3, .int .i64 a, .int .i64 b, .int .i64 c2, .int .i64 d2] 115) := ⟨_, rfl⟩
  have bX : Below w.heap.size w X := by rw [hX]; exact ((Below.refl _ _).alloc (Nat.le_refl _) _).alloc (by simp) _
  have W0 : Bk X w.heap.size 125 #[.int .i64 s, .slice A n c, .map (some M), .slice C n q] := by rw [hX]; exact (Bk.new _ _ _ rfl).old _
  have A0 : Bk X (w.heap.size + 1) 115 #[.int .i8 3, .int .i64 a, .int .i64 b, .int .i64 c2, .int .i64 d2] := by rw [hX]; exact Bk.new _ _ _ (by simp)
  have St0 := hSt.keep bX
  have B0 := hB.keep bX
  go_enter Try.func105, Try.ntmps105
  go_upto_region 1 with fail
  rw [← hX]
  clear hX
  have c0 := A0.cell (i := 0) rfl
  have c1 := A0.cell (i := 1) rfl
  have c2_ := A0.cell (i := 2) rfl
  have c3 := A0.cell (i := 3) rfl
  have c4 := A0.cell (i := 4) rfl
  go_wp2_with fail
  clear c0 c1 c2_ c3 c4
  refine (deed_move a b c2 d2 _).mono ?_
  rintro e w2 ⟨rfl, hb2⟩
  have b2 := step_below hb2 bX
  have W2 := W0.keep hb2
  have c0 := W2.cell (i := 0) rfl
  have c1 := W2.cell (i := 1) rfl
  have c2_ := W2.cell (i := 2) rfl
  have c3 := W2.cell (i := 3) rfl
  have KR := moving_any s A n c M q N base C T z a b c2 d2 w2 hs hn hs' (St0.keep hb2) (Nat.le_trans hbase b2.size) hN g2 t2 cs2 (B0.keep hb2)
  have hm : ∀ (k : Nat) W, (method (k + 1) 259 (.agg #[.int .i64 a, .int .i64 b, .int .i64 c2, .int .i64 d2]) "loop.example/g01311/impl.on").run Try.prog W = .ok (235, .agg #[.int .i64 a, .int .i64 b, .int .i64 c2, .int .i64 d2]) W := fun k W => rfl
  go_wp2_with fail
  refine KR.mono ?_
  rintro e w3 ⟨rfl, hst3, B3, hb3⟩
  go_wp2
  go_ret
  exact ⟨rfl, hst3, B3, (b2.mono hbase).trans hb3⟩
set_option maxRecDepth 20000 in
set_option maxHeartbeats 4000000 in
theorem deed_hammer (a b c2 d2 : Int) (w : World) :
    Calls Try.prog 144 #[.agg #[.int .i8 1, .int .i64 a, .int .i64 b, .int .i64 c2, .int .i64 d2]] w fun e w' => e = .returned (.iface 255 (.agg #[.int .i64 a])) ∧ Below w.heap.size w w' := by
  have hb0 : Below w.heap.size w (w.alloc (.cells #[.int .i8 1, .int .i64 a, .int .i64 b, .int .i64 c2, .int .i64 d2] 115)) := (Below.refl _ _).alloc (Nat.le_refl _) _
  go_enter Try.func144, Try.ntmps144
  go_wp2
  go_ret
  exact ⟨rfl, hb0⟩
set_option maxRecDepth 20000 in
set_option maxHeartbeats 4000000 in
theorem do_hammer (s : Int) (A : Option Addr) (n c M q N base : Nat) (C : Option Addr) (T : List Wp) (z : List Int) (a b c2 d2 : Int) (w : World) (hs : s ≤ 96) (hn : n ≤ 24) (hs' : -32768 ≤ s) (hSt : WSt s n base C q M N T z w) (hbase : base ≤ w.heap.size) (hN : N ≤ 1099511627776) (g2 : Nat → Nat) (t2 : Nat → TypeId) (cs2 : Nat → Array Value) (hB : Bkf w g2 t2 cs2) (ht2 : ∀ i, t2 i ≠ 2) :
    Calls Try.prog 105 #[.agg #[.int .i64 s, .slice A n c, .map (some M), .slice C n q], .agg #[.int .i8 1, .int .i64 a, .int .i64 b, .int .i64 c2, .int .i64 d2]] w (OnP s n base C q M (N + 1) (T) (rnZ n z a) (rnC n a) g2 t2 cs2 w) := by
  obtain ⟨X, hX⟩ : ∃ X, X = (w.alloc (.cells #[.int .i64 s, .slice A n c, .map (some M), .slice C n q] 125)).alloc (.cells #[.int .i8 1, .int .i64 a, .int .i64 b, .int .i64 c2, .int .i64 d2] 115) := ⟨_, rfl⟩
  have bX : Below w.heap.size w X := by rw [hX]; exact ((Below.refl _ _).alloc (Nat.le_refl _) _).alloc (by simp) _
  have W0 : Bk X w.heap.size 125 #[.int .i64 s, .slice A n c, .map (some M), .slice C n q] := by rw [hX]; exact (Bk.new _ _ _ rfl).old _
  have A0 : Bk X (w.heap.size + 1) 115 #[.int .i8 1, .int .i64 a, .int .i64 b, .int .i64 c2, .int .i64 d2] := by rw [hX]; exact Bk.new _ _ _ (by simp)
  have St0 := hSt.keep bX
  have B0 := hB.keep bX
  go_enter Try.func105, Try.ntmps105
  go_upto_region 1 with fail
  rw [← hX]
  clear hX
  have c0 := A0.cell (i := 0) rfl
  have c1 := A0.cell (i := 1) rfl
  have c2_ := A0.cell (i := 2) rfl
  have c3 := A0.cell (i := 3) rfl
  have c4 := A0.cell (i := 4) rfl
  go_wp2_with fail
  clear c0 c1 c2_ c3 c4
  refine (deed_hammer a b c2 d2 _).mono ?_
  rintro e w2 ⟨rfl, hb2⟩
  have b2 := step_below hb2 bX
  have W2 := W0.keep hb2
  have c0 := W2.cell (i := 0) rfl
  have c1 := W2.cell (i := 1) rfl
  have c2_ := W2.cell (i := 2) rfl
  have c3 := W2.cell (i := 3) rfl
  have KR := renewOn_any s A n c M q N base C T z a w2 hs hn hs' (St0.keep hb2) (Nat.le_trans hbase b2.size) hN g2 t2 cs2 (B0.keep hb2) ht2
  have hm : ∀ (k : Nat) W, (method (k + 1) 255 (.agg #[.int .i64 a]) "loop.example/g01311/impl.on").run Try.prog W = .ok (233, .agg #[.int .i64 a]) W := fun k W => rfl
  go_wp2_with fail
  refine KR.mono ?_
  rintro e w3 ⟨rfl, hst3, B3, hb3⟩
  go_wp2
  go_ret
  exact ⟨rfl, hst3, B3, (b2.mono hbase).trans hb3⟩
/-- what an act on a wear comes to -/
def waC (s : Int) (h : List (Int × Int)) (l : List Wp) (z : List Int) (code : Int) : Int := if weB s h l z then code else 1
def waT (s : Int) (h : List (Int × Int)) (l : List Wp) (z : List Int) (code : Int) (T : List Wp) : List Wp := if waC s h l z code = 0 then T else []
def waZ (s : Int) (h : List (Int × Int)) (l : List Wp) (z : List Int) (code : Int) (y : List Int) : List Int := if waC s h l z code = 0 then y else []
theorem wst_start {s : Int} {h : List (Int × Int)} {l : List Wp} {z : List Int} (hw : weB s h l z = true) (hlw : WnWF l) {base q M : Nat} {C : Option Addr} {w : World} (hM : w.ownsMap Try.prog 175 (plainElem (H := Unit) Try.prog 2) M l.length (mapW l l.length)) (hO : w.ownsRow base 2 1 (.slice C z.length q) z.length (icells z)) (hb : base ≤ M) : WSt s h.length base C q M l.length l z w := by
  obtain ⟨h1, h2, h3⟩ := weB_VT hw
  have hpb : pinsB s h.length l = true := by
    simp only [weB, Bool.and_eq_true] at hw
    exact hw.1.2
  rw [pinsB_split, Bool.and_eq_true] at hpb
  exact ⟨_, hM, readsW_map hlw (ascW_of hpb.1), mapW_isMap l _, by rw [h3] at hO; exact hO, h3, h1, h2, hb⟩
theorem weB_fr {s : Int} {h : List (Int × Int)} {l : List Wp} {z : List Int} (hw : weB s h l z = true) : s ≤ 96 ∧ h.length ≤ 24 := by
  simp only [weB, Bool.and_eq_true] at hw
  exact frB_bounds hw.1.1.1
end Go.Proofs.Ytcocfnjbgceidaa
namespace Go.Proofs.Ytcocfnjbgceidaa
open Go.RowKit Go.Maps
/-- what turning comes to -/
def trC (T : List Wp) (z : List Int) (a : Int) : Int := if inB a 0 1000000 then tuC T z a else 2
theorem OnP.succ {s : Int} {n base : Nat} {C : Option Addr} {q M N : Nat} {T : List Wp} {z : List Int} {c : Int} {g2 : Nat → Nat} {t2 : Nat → TypeId} {cs2 : Nat → Array Value} {w : World} {e : Ending} {w' : World} (h : OnP s n base C q M N T z c g2 t2 cs2 w e w') : OnP s n base C q M (N + 1) T z c g2 t2 cs2 w e w' := by
  obtain ⟨h1, h2, h3, h4⟩ := h
  refine ⟨h1, fun hc => ?_, h3, h4⟩
  obtain ⟨D, hM, hr⟩ := h2 hc
  exact ⟨D, hM.mono (Nat.le_succ _), hr⟩
set_option maxRecDepth 20000 in
set_option maxHeartbeats 4000000 in
theorem turningOn_any (s : Int) (A : Option Addr) (n c M q N base : Nat) (C : Option Addr) (T : List Wp) (z : List Int) (a : Int) (w : World) (hs : s ≤ 96) (hn : n ≤ 24) (hs' : -32768 ≤ s) (hSt : WSt s n base C q M N T z w) (hbase : base ≤ w.heap.size) (hN : N ≤ 1099511627776) (g2 : Nat → Nat) (t2 : Nat → TypeId) (cs2 : Nat → Array Value) (hB : Bkf w g2 t2 cs2) (ht2 : ∀ i, t2 i ≠ 2) :
    Calls Try.prog 232 #[.agg #[.int .i64 a], .agg #[.int .i64 s, .slice A n c, .map (some M), .slice C n q]] w (OnP s n base C q M (N + 1) (turT T a) (turZ T z a) (trC T z a) g2 t2 cs2 w) := by
  obtain ⟨X, hX⟩ : ∃ X, X = (w.alloc (.cells #[.int .i64 a] 253)).alloc (.cells #[.int .i64 s, .slice A n c, .map (some M), .slice C n q] 125) := ⟨_, rfl⟩
  have bX : Below w.heap.size w X := by rw [hX]; exact ((Below.refl _ _).alloc (Nat.le_refl _) _).alloc (by simp) _
  have R0 : Bk X w.heap.size 253 #[.int .i64 a] := by rw [hX]; exact (Bk.new _ _ _ rfl).old _
  have W0 : Bk X (w.heap.size + 1) 125 #[.int .i64 s, .slice A n c, .map (some M), .slice C n q] := by rw [hX]; exact Bk.new _ _ _ (by simp)
  have St0 := hSt.keep bX
  have B0 := hB.keep bX
  have hX2 := W0.lt
  go_enter Try.func232, Try.ntmps232
  go_upto_region 1 with fail
  rw [← hX]
  clear hX
  have r0 := R0.cell (i := 0) rfl
  have KW := fun W => within_any a 0 1000000 W
  cases hin : inB a 0 1000000
  · rw [hin] at KW
    have HC := hide (show trC T z a = 2 by simp [trC, hin])
    clear hin
    go_wp2_with (go_at_call 55; with_reducible refine (KW _).mono ?_; rintro e w' ⟨rfl, rfl⟩)
    go_ret
    exact ⟨by rw [HC.out]; rfl, fun h => absurd h (by rw [HC.out]; decide), B0, bX.mono hbase⟩
  · rw [hin] at KW
    have HC := hide (show trC T z a = tuC T z a by simp [trC, hin])
    have hia : 0 ≤ a ∧ a ≤ 1000000 := by simpa [inB] using hin
    have w2_ := W0.cell (i := 2) rfl
    have w3_ := W0.cell (i := 3) rfl
    have KT := turn_any s n base C q M N T z a X hs hn St0 (Nat.le_trans hbase bX.size) hia g2 t2 cs2 B0 ht2
    clear hin hia
    go_wp2_with (go_at_call 55; with_reducible refine (KW _).mono ?_; rintro e w' ⟨rfl, rfl⟩)
    refine KT.mono ?_
    rintro e w3 h3
    have h4 := h3.succ
    obtain ⟨rfl, hst, B3, hb3⟩ := h4
    have HST := hide hst
    clear hst h3
    go_wp2
    go_ret
    exact ⟨by rw [HC.out]; rfl, fun h => HST.out (by rw [HC.out] at h; exact h), B3, (bX.mono hbase).trans hb3⟩
set_option maxRecDepth 20000 in
set_option maxHeartbeats 4000000 in
theorem deed_turn (a b c2 d2 : Int) (w : World) :
    Calls Try.prog 144 #[.agg #[.int .i8 0, .int .i64 a, .int .i64 b, .int .i64 c2, .int .i64 d2]] w fun e w' => e = .returned (.iface 253 (.agg #[.int .i64 a])) ∧ Below w.heap.size w w' := by
  have hb0 : Below w.heap.size w (w.alloc (.cells #[.int .i8 0, .int .i64 a, .int .i64 b, .int .i64 c2, .int .i64 d2] 115)) := (Below.refl _ _).alloc (Nat.le_refl _) _
  go_enter Try.func144, Try.ntmps144
  go_wp2
  go_ret
  exact ⟨rfl, hb0⟩
set_option maxRecDepth 20000 in
set_option maxHeartbeats 4000000 in
theorem do_turn (s : Int) (A : Option Addr) (n c M q N base : Nat) (C : Option Addr) (T : List Wp) (z : List Int) (a b c2 d2 : Int) (w : World) (hs : s ≤ 96) (hn : n ≤ 24) (hs' : -32768 ≤ s) (hSt : WSt s n base C q M N T z w) (hbase : base ≤ w.heap.size) (hN : N ≤ 1099511627776) (g2 : Nat → Nat) (t2 : Nat → TypeId) (cs2 : Nat → Array Value) (hB : Bkf w g2 t2 cs2) (ht2 : ∀ i, t2 i ≠ 2) :
    Calls Try.prog 105 #[.agg #[.int .i64 s, .slice A n c, .map (some M), .slice C n q], .agg #[.int .i8 0, .int .i64 a, .int .i64 b, .int .i64 c2, .int .i64 d2]] w (OnP s n base C q M (N + 1) (turT T a) (turZ T z a) (trC T z a) g2 t2 cs2 w) := by
  obtain ⟨X, hX⟩ : ∃ X, X = (w.alloc (.cells #[.int .i64 s, .slice A n c, .map (some M), .slice C n q] 125)).alloc (.cells #[.int .i8 0, .int .i64 a, .int .i64 b, .int .i64 c2, .int .i64 d2] 115) := ⟨_, rfl⟩
  have bX : Below w.heap.size w X := by rw [hX]; exact ((Below.refl _ _).alloc (Nat.le_refl _) _).alloc (by simp) _
  have W0 : Bk X w.heap.size 125 #[.int .i64 s, .slice A n c, .map (some M), .slice C n q] := by rw [hX]; exact (Bk.new _ _ _ rfl).old _
  have A0 : Bk X (w.heap.size + 1) 115 #[.int .i8 0, .int .i64 a, .int .i64 b, .int .i64 c2, .int .i64 d2] := by rw [hX]; exact Bk.new _ _ _ (by simp)
  have St0 := hSt.keep bX
  have B0 := hB.keep bX
  go_enter Try.func105, Try.ntmps105
  go_upto_region 1 with fail
  rw [← hX]
  clear hX
  have c0 := A0.cell (i := 0) rfl
  have c1 := A0.cell (i := 1) rfl
  have c2_ := A0.cell (i := 2) rfl
  have c3 := A0.cell (i := 3) rfl
  have c4 := A0.cell (i := 4) rfl
  go_wp2_with fail
  clear c0 c1 c2_ c3 c4
  refine (deed_turn a b c2 d2 _).mono ?_
  rintro e w2 ⟨rfl, hb2⟩
  have b2 := step_below hb2 bX
  have W2 := W0.keep hb2
  have c0 := W2.cell (i := 0) rfl
  have c1 := W2.cell (i := 1) rfl
  have c2_ := W2.cell (i := 2) rfl
  have c3 := W2.cell (i := 3) rfl
  have KR := turningOn_any s A n c M q N base C T z a w2 hs hn hs' (St0.keep hb2) (Nat.le_trans hbase b2.size) hN g2 t2 cs2 (B0.keep hb2) ht2
  have hm : ∀ (k : Nat) W, (method (k + 1) 253 (.agg #[.int .i64 a]) "loop.example/g01311/impl.on").run Try.prog W = .ok (232, .agg #[.int .i64 a]) W := fun k W => rfl
  go_wp2_with fail
  refine KR.mono ?_
  rintro e w3 ⟨rfl, hst3, B3, hb3⟩
  go_wp2
  go_ret
  exact ⟨rfl, hst3, B3, (b2.mono hbase).trans hb3⟩
set_option maxRecDepth 20000 in
set_option maxHeartbeats 4000000 in
theorem deed_none (k a b c2 d2 : Int) (w : World) (hk : -128 ≤ k ∧ k ≤ 127) (h : k < 0 ∨ 3 < k) :
    Calls Try.prog 144 #[.agg #[.int .i8 k, .int .i64 a, .int .i64 b, .int .i64 c2, .int .i64 d2]] w fun e w' => e = .returned .nilIface ∧ Below w.heap.size w w' := by
  have hb0 : Below w.heap.size w (w.alloc (.cells #[.int .i8 k, .int .i64 a, .int .i64 b, .int .i64 c2, .int .i64 d2] 115)) := (Below.refl _ _).alloc (Nat.le_refl _) _
  have n0 : (k == 0) = false := by simp; omega
  have n1 : (k == 1) = false := by simp; omega
  have n2 : (k == 2) = false := by simp; omega
  have n3 : (k == 3) = false := by simp; omega
  go_enter Try.func144, Try.ntmps144
  go_wp2
  go_ret
  exact ⟨rfl, hb0⟩
end Go.Proofs.Ytcocfnjbgceidaa
