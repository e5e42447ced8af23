import Derived.Test.YtcocfnjbgceidaaGreatGba
import Derived.Test.YtcocfnjbgceidaaGreatGav
namespace Go.Proofs.YtcocfnjbgceidaaGreat
open Go.RowKit Go.Maps
theorem vz_set {z : List Int} (h : VZ z) (k : Nat) : VZ (z.set k 0) := fun y hy => by
  rcases List.mem_or_eq_of_mem_set hy with h1 | rfl
  · exact h y h1
  · omega
/-- a hammer made new, as a deed -/
theorem renewOn_any (s : Int) (A : Option Addr) (n c M q N base : Nat) (C : Option Addr) (T : List Wp) (z : List Int) (x : Int) (w : World) (hs : s ≤ 96) (hn : n ≤ 24) (hs' : -32768 ≤ s) (hSt : WSt s n base C q M N T z w) (hbase : base ≤ w.heap.size) (hN : N ≤ 1099511627776) (g2 : Nat → Nat) (t2 : Nat → TypeId) (cs2 : Nat → Array Value) (hB : Bkf w g2 t2 cs2) (ht2 : ∀ i, t2 i ≠ 2) :
    Calls Tryz.prog 165 #[.agg #[.int .i64 x], .agg #[.int .i64 s, .slice A n c, .map (some M), .slice C n q]] w (OnP s n base C q M (N + 1) T (rnZ n z x) (rnC n x) g2 t2 cs2 w) := by
  obtain ⟨D, hM, hD, hI, hO, hz, hv, hvz, hbM⟩ := hSt
  subst hz
  refine (renewing_any s x A z.length c M q base C z N D w (by omega) rfl hO hbase hM (fun g hg => map_ne_own hM hO g (by rw [hg]; rfl)) g2 t2 cs2 hB ht2).mono ?_
  rintro e w' ⟨rfl, hO', hM', hB', hb'⟩
  refine ⟨rfl, fun _ => ⟨D, hM'.mono (Nat.le_succ _), hD, hI, hO', ?_, hv, ?_, hbM⟩, hB', hb'⟩
  · unfold rnZ
    split <;> simp
  · unfold rnZ
    split
    · exact vz_set hvz _
    · exact hvz
set_option maxRecDepth 20000 in
set_option maxHeartbeats 4000000 in
theorem deed_pin (a b c2 d2 : Int) (w : World) :
    Calls Tryz.prog 87 #[.agg #[.int .i8 2, .int .i64 a, .int .i64 b, .int .i64 c2, .int .i64 d2]] w fun e w' => e = .returned (.iface 175 (.agg #[.int .i64 a, .int .i64 b])) ∧ Below w.heap.size w w' := by
  have hb0 : Below w.heap.size w (w.alloc (.cells #[.int .i8 2, .int .i64 a, .int .i64 b, .int .i64 c2, .int .i64 d2] 55)) := (Below.refl _ _).alloc (Nat.le_refl _) _
  go_enter Tryz.func87, Tryz.ntmps87
  go_wp2
  go_ret
  exact ⟨rfl, hb0⟩
set_option maxRecDepth 20000 in
set_option maxHeartbeats 4000000 in
theorem do_pin (s : Int) (A : Option Addr) (n c M q N base : Nat) (C : Option Addr) (T : List Wp) (z : List Int) (a b c2 d2 : Int) (w : World) (hs : s ≤ 96) (hn : n ≤ 24) (hs' : -32768 ≤ s) (hSt : WSt s n base C q M N T z w) (hbase : base ≤ w.heap.size) (hN : N ≤ 1099511627776) (g2 : Nat → Nat) (t2 : Nat → TypeId) (cs2 : Nat → Array Value) (hB : Bkf w g2 t2 cs2) :
    Calls Tryz.prog 63 #[.agg #[.int .i64 s, .slice A n c, .map (some M), .slice C n q], .agg #[.int .i8 2, .int .i64 a, .int .i64 b, .int .i64 c2, .int .i64 d2]] w (OnP s n base C q M (N + 1) (plT T a b) (z) (plC s n a b) g2 t2 cs2 w) := by
  obtain ⟨X, hX⟩ : ∃ X, X = (w.alloc (.cells #[.int .i64 s, .slice A n c, .map (some M), .slice C n q] 106)).alloc (.cells #[.int .i8 2, .int .i64 a, .int .i64 b, .int .i64 c2, .int .i64 d2] 55) := ⟨_, rfl⟩
  have bX : Below w.heap.size w X := by rw [hX]; exact ((Below.refl _ _).alloc (Nat.le_refl _) _).alloc (by simp) _
  have W0 : Bk X w.heap.size 106 #[.int .i64 s, .slice A n c, .map (some M), .slice C n q] := by rw [hX]; exact (Bk.new _ _ _ rfl).old _
  have A0 : Bk X (w.heap.size + 1) 55 #[.int .i8 2, .int .i64 a, .int .i64 b, .int .i64 c2, .int .i64 d2] := by rw [hX]; exact Bk.new _ _ _ (by simp)
  have St0 := hSt.keep bX
  have B0 := hB.keep bX
  go_enter Tryz.func63, Tryz.ntmps63
  go_upto_region 1 with fail
  rw [← hX]
  clear hX
  have c0 := A0.cell (i := 0) rfl
  have c1 := A0.cell (i := 1) rfl
  have c2_ := A0.cell (i := 2) rfl
  have c3 := A0.cell (i := 3) rfl
  have c4 := A0.cell (i := 4) rfl
  go_wp2_with fail
  clear c0 c1 c2_ c3 c4
  refine (deed_pin a b c2 d2 _).mono ?_
  rintro e w2 ⟨rfl, hb2⟩
  have b2 := step_below hb2 bX
  have W2 := W0.keep hb2
  have c0 := W2.cell (i := 0) rfl
  have c1 := W2.cell (i := 1) rfl
  have c2_ := W2.cell (i := 2) rfl
  have c3 := W2.cell (i := 3) rfl
  have KR := placing_any s A n c M q N base C T z a b w2 hs hn hs' (St0.keep hb2) (Nat.le_trans hbase b2.size) hN g2 t2 cs2 (B0.keep hb2)
  have hm : ∀ (k : Nat) W, (method (k + 1) 175 (.agg #[.int .i64 a, .int .i64 b]) "loop.example/g01311/impl.on").run Tryz.prog W = .ok (166, .agg #[.int .i64 a, .int .i64 b]) W := fun k W => rfl
  go_wp2_with fail
  refine KR.mono ?_
  rintro e w3 ⟨rfl, hst3, B3, hb3⟩
  go_wp2
  go_ret
  exact ⟨rfl, hst3, B3, (b2.mono hbase).trans hb3⟩
set_option maxRecDepth 20000 in
set_option maxHeartbeats 4000000 in
theorem deed_move (a b c2 d2 : Int) (w : World) :
    Calls Tryz.prog 87 #[.agg #[.int .i8 3, .int .i64 a, .int .i64 b, .int .i64 c2, .int .i64 d2]] w fun e w' => e = .returned (.iface 177 (.agg #[.int .i64 a, .int .i64 b, .int .i64 c2, .int .i64 d2])) ∧ Below w.heap.size w w' := by
  have hb0 : Below w.heap.size w (w.alloc (.cells #[.int .i8 3, .int .i64 a, .int .i64 b, .int .i64 c2, .int .i64 d2] 55)) := (Below.refl _ _).alloc (Nat.le_refl _) _
  go_enter Tryz.func87, Tryz.ntmps87
  go_wp2
  go_ret
  exact ⟨rfl, hb0⟩
set_option maxRecDepth 20000 in
set_option maxHeartbeats 4000000 in
theorem do_move (s : Int) (A : Option Addr) (n c M q N base : Nat) (C : Option Addr) (T : List Wp) (z : List Int) (a b c2 d2 : Int) (w : World) (hs : s ≤ 96) (hn : n ≤ 24) (hs' : -32768 ≤ s) (hSt : WSt s n base C q M N T z w) (hbase : base ≤ w.heap.size) (hN : N ≤ 1099511627776) (g2 : Nat → Nat) (t2 : Nat → TypeId) (cs2 : Nat → Array Value) (hB : Bkf w g2 t2 cs2) :
    Calls Tryz.prog 63 #[.agg #[.int .i64 s, .slice A n c, .map (some M), .slice C n q], .agg #[.int .i8 3, .int .i64 a, .int .i64 b, .int .i64 c2, .int .i64 d2]] w (OnP s n base C q M (N + 1) (mvT T a b c2 d2) (z) (mvC s n T a b c2 d2) g2 t2 cs2 w) := by
  obtain ⟨X, hX⟩ : ∃ X, X = (w.alloc (.cells #[.int .i64 s, .slice A n c, .map (some M), .slice C n q] 106)).alloc (.cells #[.int .i8 3, .int .i64 a, .int .i64 b, .int .i64 c2, .int .i64 d2] 55) := ⟨_, rfl⟩
  have bX : Below w.heap.size w X := by rw [hX]; exact ((Below.refl _ _).alloc (Nat.le_refl _) _).alloc (by simp) _
  have W0 : Bk X w.heap.size 106 #[.int .i64 s, .slice A n c, .map (some M), .slice C n q] := by rw [hX]; exact (Bk.new _ _ _ rfl).old _
  have A0 : Bk X (w.heap.size + 1) 55 #[.int .i8 3, .int .i64 a, .int .i64 b, .int .i64 c2, .int .i64 d2] := by rw [hX]; exact Bk.new _ _ _ (by simp)
  have St0 := hSt.keep bX
  have B0 := hB.keep bX
  go_enter Tryz.func63, Tryz.ntmps63
  go_upto_region 1 with fail
  rw [← hX]
  clear hX
  have c0 := A0.cell (i := 0) rfl
  have c1 := A0.cell (i := 1) rfl
  have c2_ := A0.cell (i := 2) rfl
  have c3 := A0.cell (i := 3) rfl
  have c4 := A0.cell (i := 4) rfl
  go_wp2_with fail
  clear c0 c1 c2_ c3 c4
  refine (deed_move a b c2 d2 _).mono ?_
  rintro e w2 ⟨rfl, hb2⟩
  have b2 := step_below hb2 bX
  have W2 := W0.keep hb2
  have c0 := W2.cell (i := 0) rfl
  have c1 := W2.cell (i := 1) rfl
  have c2_ := W2.cell (i := 2) rfl
  have c3 := W2.cell (i := 3) rfl
  have KR := moving_any s A n c M q N base C T z a b c2 d2 w2 hs hn hs' (St0.keep hb2) (Nat.le_trans hbase b2.size) hN g2 t2 cs2 (B0.keep hb2)
  have hm : ∀ (k : Nat) W, (method (k + 1) 177 (.agg #[.int .i64 a, .int .i64 b, .int .i64 c2, .int .i64 d2]) "loop.example/g01311/impl.on").run Tryz.prog W = .ok (167, .agg #[.int .i64 a, .int .i64 b, .int .i64 c2, .int .i64 d2]) W := fun k W => rfl
  go_wp2_with fail
  refine KR.mono ?_
  rintro e w3 ⟨rfl, hst3, B3, hb3⟩
  go_wp2
  go_ret
  exact ⟨rfl, hst3, B3, (b2.mono hbase).trans hb3⟩
set_option maxRecDepth 20000 in
set_option maxHeartbeats 4000000 in
theorem deed_hammer (a b c2 d2 : Int) (w : World) :
    Calls Tryz.prog 87 #[.agg #[.int .i8 1, .int .i64 a, .int .i64 b, .int .i64 c2, .int .i64 d2]] w fun e w' => e = .returned (.iface 173 (.agg #[.int .i64 a])) ∧ Below w.heap.size w w' := by
  have hb0 : Below w.heap.size w (w.alloc (.cells #[.int .i8 1, .int .i64 a, .int .i64 b, .int .i64 c2, .int .i64 d2] 55)) := (Below.refl _ _).alloc (Nat.le_refl _) _
  go_enter Tryz.func87, Tryz.ntmps87
  go_wp2
  go_ret
  exact ⟨rfl, hb0⟩
set_option maxRecDepth 20000 in
set_option maxHeartbeats 4000000 in
theorem do_hammer (s : Int) (A : Option Addr) (n c M q N base : Nat) (C : Option Addr) (T : List Wp) (z : List Int) (a b c2 d2 : Int) (w : World) (hs : s ≤ 96) (hn : n ≤ 24) (hs' : -32768 ≤ s) (hSt : WSt s n base C q M N T z w) (hbase : base ≤ w.heap.size) (hN : N ≤ 1099511627776) (g2 : Nat → Nat) (t2 : Nat → TypeId) (cs2 : Nat → Array Value) (hB : Bkf w g2 t2 cs2) (ht2 : ∀ i, t2 i ≠ 2) :
    Calls Tryz.prog 63 #[.agg #[.int .i64 s, .slice A n c, .map (some M), .slice C n q], .agg #[.int .i8 1, .int .i64 a, .int .i64 b, .int .i64 c2, .int .i64 d2]] w (OnP s n base C q M (N + 1) (T) (rnZ n z a) (rnC n a) g2 t2 cs2 w) := by
  obtain ⟨X, hX⟩ : ∃ X, X = (w.alloc (.cells #[.int .i64 s, .slice A n c, .map (some M), .slice C n q] 106)).alloc (.cells #[.int .i8 1, .int .i64 a, .int .i64 b, .int .i64 c2, .int .i64 d2] 55) := ⟨_, rfl⟩
  have bX : Below w.heap.size w X := by rw [hX]; exact ((Below.refl _ _).alloc (Nat.le_refl _) _).alloc (by simp) _
  have W0 : Bk X w.heap.size 106 #[.int .i64 s, .slice A n c, .map (some M), .slice C n q] := by rw [hX]; exact (Bk.new _ _ _ rfl).old _
  have A0 : Bk X (w.heap.size + 1) 55 #[.int .i8 1, .int .i64 a, .int .i64 b, .int .i64 c2, .int .i64 d2] := by rw [hX]; exact Bk.new _ _ _ (by simp)
  have St0 := hSt.keep bX
  have B0 := hB.keep bX
  go_enter Tryz.func63, Tryz.ntmps63
  go_upto_region 1 with fail
  rw [← hX]
  clear hX
  have c0 := A0.cell (i := 0) rfl
  have c1 := A0.cell (i := 1) rfl
  have c2_ := A0.cell (i := 2) rfl
  have c3 := A0.cell (i := 3) rfl
  have c4 := A0.cell (i := 4) rfl
  go_wp2_with fail
  clear c0 c1 c2_ c3 c4
  refine (deed_hammer a b c2 d2 _).mono ?_
  rintro e w2 ⟨rfl, hb2⟩
  have b2 := step_below hb2 bX
  have W2 := W0.keep hb2
  have c0 := W2.cell (i := 0) rfl
  have c1 := W2.cell (i := 1) rfl
  have c2_ := W2.cell (i := 2) rfl
  have c3 := W2.cell (i := 3) rfl
  have KR := renewOn_any s A n c M q N base C T z a w2 hs hn hs' (St0.keep hb2) (Nat.le_trans hbase b2.size) hN g2 t2 cs2 (B0.keep hb2) ht2
  have hm : ∀ (k : Nat) W, (method (k + 1) 173 (.agg #[.int .i64 a]) "loop.example/g01311/impl.on").run Tryz.prog W = .ok (165, .agg #[.int .i64 a]) W := fun k W => rfl
  go_wp2_with fail
  refine KR.mono ?_
  rintro e w3 ⟨rfl, hst3, B3, hb3⟩
  go_wp2
  go_ret
  exact ⟨rfl, hst3, B3, (b2.mono hbase).trans hb3⟩
/-- what an act on a wear comes to -/
def waC (s : Int) (h : List (Int × Int)) (l : List Wp) (z : List Int) (code : Int) : Int := if weB s h l z then code else 1
def waT (s : Int) (h : List (Int × Int)) (l : List Wp) (z : List Int) (code : Int) (T : List Wp) : List Wp := if waC s h l z code = 0 then T else []
def waZ (s : Int) (h : List (Int × Int)) (l : List Wp) (z : List Int) (code : Int) (y : List Int) : List Int := if waC s h l z code = 0 then y else []
theorem wst_start {s : Int} {h : List (Int × Int)} {l : List Wp} {z : List Int} (hw : weB s h l z = true) (hlw : WnWF l) {base q M : Nat} {C : Option Addr} {w : World} (hM : w.ownsMap Tryz.prog 138 (plainElem (H := Unit) Tryz.prog 2) M l.length (mapW l l.length)) (hO : w.ownsRow base 2 1 (.slice C z.length q) z.length (icells z)) (hb : base ≤ M) : WSt s h.length base C q M l.length l z w := by
  obtain ⟨h1, h2, h3⟩ := weB_VT hw
  have hpb : pinsB s h.length l = true := by
    simp only [weB, Bool.and_eq_true] at hw
    exact hw.1.2
  rw [pinsB_split, Bool.and_eq_true] at hpb
  exact ⟨_, hM, readsW_map hlw (ascW_of hpb.1), mapW_isMap l _, by rw [h3] at hO; exact hO, h3, h1, h2, hb⟩
theorem weB_fr {s : Int} {h : List (Int × Int)} {l : List Wp} {z : List Int} (hw : weB s h l z = true) : s ≤ 96 ∧ h.length ≤ 24 := by
  simp only [weB, Bool.and_eq_true] at hw
  exact frB_bounds hw.1.1.1
set_option maxRecDepth 20000 in
set_option maxHeartbeats 8000000 in
theorem doWear_gen (s : Int) (A : Option Addr) (c : Nat) (h : List (Int × Int)) (P : Option Addr) (d : Nat) (l : List Wp) (U : Option Addr) (v : Nat) (z : List Int) (k a b c2 d2 code : Int) (T' : List Wp) (z' : List Int) (w : World)
    (hA : HA w A h) (hn : h.length ≤ 1048576) (hwf : HWF h) (hs : -32768 ≤ s ∧ s ≤ 32767) (hL : WnA w P l) (hU : SZ w U z) (hl : l.length ≤ 1048576) (hz : z.length ≤ 1048576) (hlw : WnWF l) (hzw : ZWF z)
    (KD : weB s h l z = true → ∀ (base M q : Nat) (C A' : Option Addr) (c' : Nat) (W : World), WSt s h.length base C q M l.length l z W → base ≤ W.heap.size → ∀ (g2 : Nat → Nat) (t2 : Nat → TypeId) (cs2 : Nat → Array Value), Bkf W g2 t2 cs2 → (∀ i, t2 i ≠ 2) → Calls Tryz.prog 63 #[.agg #[.int .i64 s, .slice A' h.length c', .map (some M), .slice C h.length q], .agg #[.int .i8 k, .int .i64 a, .int .i64 b, .int .i64 c2, .int .i64 d2]] W (OnP s h.length base C q M (l.length + 1) T' z' code g2 t2 cs2 W)) :
    Calls Tryz.prog 27 #[.agg #[.int .i16 s, .slice A h.length c], .agg #[.slice P l.length d, .slice U z.length v], .agg #[.int .i8 k, .int .i64 a, .int .i64 b, .int .i64 c2, .int .i64 d2]] w (WeC (waT s h l z code T') (waZ s h l z code z') (waC s h l z code) w) := by
  obtain ⟨X, hX⟩ : ∃ X, X = (((w.alloc (.cells #[.int .i16 s, .slice A h.length c] 39)).alloc (.cells #[.slice P l.length d, .slice U z.length v] 34)).alloc (.cells #[.int .i8 k, .int .i64 a, .int .i64 b, .int .i64 c2, .int .i64 d2] 55)).alloc (.cells #[.slice none 0 0, .slice none 0 0] 34) := ⟨_, rfl⟩
  have hb0 : Below w.heap.size w X := by rw [hX]; exact ((((Below.refl _ _).alloc (Nat.le_refl _) _).alloc (by simp) _).alloc (by simp; omega) _).alloc (by simp; omega) _
  have P0 : Bk X w.heap.size 39 #[.int .i16 s, .slice A h.length c] := by rw [hX]; exact (((Bk.new _ _ _ rfl).old _).old _).old _
  have P1 : Bk X (w.heap.size + 1) 34 #[.slice P l.length d, .slice U z.length v] := by rw [hX]; exact ((Bk.new _ _ _ (by simp)).old _).old _
  have P2 : Bk X (w.heap.size + 1 + 1) 55 #[.int .i8 k, .int .i64 a, .int .i64 b, .int .i64 c2, .int .i64 d2] := by rw [hX]; exact (Bk.new _ _ _ (by simp)).old _
  have P3 : Bk X (w.heap.size + 1 + 1 + 1) 34 #[.slice none 0 0, .slice none 0 0] := by rw [hX]; exact Bk.new _ _ _ (by simp)
  have hX3 := P3.lt
  have KW := wearingFor_any s A c h P d l U v z (.slice none 0 0) true X (hA.below hb0) hn hwf hs (hL.below hb0) (hU.below hb0) hl hz hlw hzw (fun W _ => areLives_nil W)
  rw [Bool.and_true] at KW
  go_enter Tryz.func27, Tryz.ntmps27
  go_upto_region 1 with fail
  rw [← hX]
  clear hX
  have c0 := P0.cell (i := 0) rfl
  have c1 := P0.cell (i := 1) rfl
  have c2_ := P1.cell (i := 0) rfl
  have c3 := P1.cell (i := 1) rfl
  go_wp2_with fail
  refine KW.mono ?_
  rintro e w2 ⟨he, hb2⟩
  have b2 := step_below hb2 hb0
  have Q2 := P2.keep hb2
  have Q3 := P3.keep hb2
  have hs2 := hb2.size
  clear KW c0 c1 c2_ c3
  rcases he with ⟨h1, rfl⟩ | ⟨h1, M, C, q, rfl, hMw, own, ownz⟩
  · have HX := hide (show waC s h l z code = 1 by simp [waC, h1])
    have HT := hide (show waT s h l z code T' = [] by rw [waT, if_neg (by rw [HX.out]; decide)])
    have HZZ := hide (show waZ s h l z code z' = [] by rw [waZ, if_neg (by rw [HX.out]; decide)])
    obtain ⟨Y, hY⟩ : ∃ Y, Y = w2.alloc (.cells #[.int .i64 0, .slice none 0 0, .map none, .slice none 0 0] 106) := ⟨_, rfl⟩
    have hbY : Below w2.heap.size w2 Y := by rw [hY]; exact (Below.refl _ _).alloc (Nat.le_refl _) _
    have bY := step_below hbY b2
    have HZ := hide (show Y.heap[w.heap.size + 1 + 1 + 1]? = some (.cells #[.slice none 0 0, .slice none 0 0] 34 (0, 0)) from Q3.keep hbY)
    clear h1
    go_upto_region 2 with fail
    rw [← hY]
    clear hY
    go_wp2_with (first | (with_reducible refine wpList_build0 rfl rfl ?_) | (with_reducible refine wpList_store_row rfl 34 (.tmp 6) (.tmp 19) rfl (w.heap.size + 1 + 1 + 1) #[.slice none 0 0, .slice none 0 0] rfl rfl 34 _ HZ.out (infoWear _ _) (szWear _ _ _ _) (oneWear _ _ _ _ _ _) ?_))
    exact bodyPost_ret (v := .tuple #[.agg #[.slice none 0 0, .slice none 0 0], .int .i64 1]) (results_we Tryz.results27 _ _ (w.heap.size + 1 + 1 + 1) 34 #[.slice none 0 0, .slice none 0 0] _ rfl (by simp [Act.put]) (by simp [Act.put]) (setRow_heap _ _ _ _ _ _ HZ.out)) rfl ⟨none, 0, none, 0, by rw [HX.out, HT.out, HZZ.out]; rfl, by rw [HT.out]; exact World.ownsRow_nil _ _ _ _, by rw [HZZ.out]; exact World.ownsRow_nil _ _ _ _, below_setRow bY (by omega)⟩
  · have hzn : z.length = h.length := (weB_VT h1).2.2
    obtain ⟨hs96, hn24⟩ := weB_fr h1
    have st2 := wst_start h1 hlw own ownz hMw
    rw [hzn]
    rw [hzn] at ownz
    obtain ⟨Y, hY⟩ : ∃ Y, Y = w2.alloc (.cells #[.int .i64 s, .slice A h.length c, .map (some M), .slice C h.length q] 106) := ⟨_, rfl⟩
    have hbY : Below w2.heap.size w2 Y := by rw [hY]; exact (Below.refl _ _).alloc (Nat.le_refl _) _
    have bY := step_below hbY b2
    have G0 : Bk Y w2.heap.size 106 #[.int .i64 s, .slice A h.length c, .map (some M), .slice C h.length q] := by rw [hY]; exact Bk.new _ _ _ rfl
    go_upto_region 2 with fail
    rw [← hY]
    clear hY
    have hXY : X.heap.size ≤ Y.heap.size := Nat.le_trans hs2 hbY.size
    have KDo := KD h1 X.heap.size M q C A c Y (st2.keep hbY) hXY _ _ _ G0.fam (fun _ => by decide)
    have HWE := hide h1
    have Q4 := (Q2.keep hbY)
    have Z4 := (Q3.keep hbY)
    have e0 := G0.cell (i := 0) rfl
    have e1 := G0.cell (i := 1) rfl
    have e2 := G0.cell (i := 2) rfl
    have e3 := G0.cell (i := 3) rfl
    have a0 := Q4.cell (i := 0) rfl
    have a1 := Q4.cell (i := 1) rfl
    have a2 := Q4.cell (i := 2) rfl
    have a3 := Q4.cell (i := 3) rfl
    have a4 := Q4.cell (i := 4) rfl
    clear h1 hzn own ownz st2
    go_wp2_with fail
    refine KDo.mono ?_
    rintro e w5 ⟨rfl, hst5, G5f, hb5⟩
    have G5 : Bk w5 w2.heap.size 106 #[.int .i64 s, .slice A h.length c, .map (some M), .slice C h.length q] := G5f 0
    clear G5f
    have b5 : Below w.heap.size w w5 := bY.trans (hb5.mono (by have := hb0.size; omega))
    have Z5 : Bk w5 (w.heap.size + 1 + 1 + 1) 34 #[.slice none 0 0, .slice none 0 0] := (hb5.block _ (by omega)).trans Z4
    clear e0 e1 e2 e3 a0 a1 a2 a3 a4 KDo
    by_cases hc0 : code = 0
    · subst hc0
      have HX := hide (show waC s h l z 0 = 0 by simp [waC, HWE.out])
      have HT := hide (show waT s h l z 0 T' = T' by rw [waT, if_pos HX.out])
      have HZZ := hide (show waZ s h l z 0 z' = z' by rw [waZ, if_pos HX.out])
      obtain ⟨D, hM5, hD5, hI5, hO5, hz5, hv5, hvz5, hbM5⟩ := hst5 rfl
      have KM := madeWear_any M C z' q (l.length + 1) D T' w5 hM5 hD5 (Nat.le_trans hM5.size_le (by have := (weB_VT HWE.out).1.length hs96 hn24; omega)) hv5.1 (hv5.in8 hs96 hn24) (SZ.of_own (c := q) (by rw [hz5]; exact hO5)) (by omega)
      rw [hz5] at KM
      have e2 := G5.cell (i := 2) rfl
      have e3 := G5.cell (i := 3) rfl
      have hs5 : X.heap.size ≤ w5.heap.size := Nat.le_trans hXY (by have := hb5.size; omega)
      have HZ5 := hide hz5
      clear Z4 Q3 P3 hM5 hD5 hO5 hst5 hv5 hvz5 hz5
      go_wp2_with fail
      refine KM.mono ?_
      rintro e w6 ⟨P1, q1, P2, q2, rfl, ownP, ownC, hb6⟩
      have b6 := step_below hb6 b5
      rw [HZ5.out] at ownC ⊢
      have HZ := hide (show w6.heap[w.heap.size + 1 + 1 + 1]? = some (.cells #[.slice none 0 0, .slice none 0 0] 34 (0, 0)) from Z5.keep hb6)
      have owP := own_base (own_keepW ownP (show w.heap.size + 1 + 1 + 1 < w5.heap.size by omega) #[.slice P1 T'.length q1, .slice P2 h.length q2]) (show w.heap.size ≤ w5.heap.size by omega)
      have owC := own_base (own_keepW ownC (show w.heap.size + 1 + 1 + 1 < w5.heap.size by omega) #[.slice P1 T'.length q1, .slice P2 h.length q2]) (show w.heap.size ≤ w5.heap.size by omega)
      clear Z5 e2 e3 KM
      go_wp2_with (with_reducible refine wpList_store_row rfl 34 (.tmp 6) (.tmp 29) rfl (w.heap.size + 1 + 1 + 1) #[.slice P1 T'.length q1, .slice P2 h.length q2] rfl rfl 34 _ HZ.out (infoWear _ _) (szWear _ _ _ _) (oneWear _ _ _ _ _ _) ?_)
      exact bodyPost_ret (v := .tuple #[.agg #[.slice P1 T'.length q1, .slice P2 h.length q2], .int .i64 0]) (results_we Tryz.results27 _ _ (w.heap.size + 1 + 1 + 1) 34 #[.slice P1 T'.length q1, .slice P2 h.length q2] _ rfl (by simp [Act.put]) (by simp [Act.put]) (setRow_heap _ _ _ _ _ _ HZ.out)) rfl ⟨P1, q1, P2, q2, by rw [HX.out, HT.out, HZZ.out, HZ5.out], by rw [HT.out]; exact owP, by rw [HZZ.out, HZ5.out]; exact owC, below_setRow b6 (by omega)⟩
    · have HX := hide (show waC s h l z code = code by simp [waC, HWE.out])
      have HT := hide (show waT s h l z code T' = [] by rw [waT, if_neg (by rw [HX.out]; exact hc0)])
      have HZZ := hide (show waZ s h l z code z' = [] by rw [waZ, if_neg (by rw [HX.out]; exact hc0)])
      have HZ := hide (show w5.heap[w.heap.size + 1 + 1 + 1]? = some (.cells #[.slice none 0 0, .slice none 0 0] 34 (0, 0)) from Z5)
      have hne : (code != 0) = true := by simp [hc0]
      clear Z5 Z4 Q3 P3 hst5
      go_wp2_with (first | (with_reducible refine wpList_build0 rfl rfl ?_) | (with_reducible refine wpList_store_row rfl 34 (.tmp 6) (.tmp 25) rfl (w.heap.size + 1 + 1 + 1) #[.slice none 0 0, .slice none 0 0] rfl rfl 34 _ HZ.out (infoWear _ _) (szWear _ _ _ _) (oneWear _ _ _ _ _ _) ?_))
      exact bodyPost_ret (v := .tuple #[.agg #[.slice none 0 0, .slice none 0 0], .int .i64 code]) (results_we Tryz.results27 _ _ (w.heap.size + 1 + 1 + 1) 34 #[.slice none 0 0, .slice none 0 0] _ rfl (by simp [Act.put]) (by simp [Act.put]) (setRow_heap _ _ _ _ _ _ HZ.out)) rfl ⟨none, 0, none, 0, by rw [HX.out, HT.out, HZZ.out]; rfl, by rw [HT.out]; exact World.ownsRow_nil _ _ _ _, by rw [HZZ.out]; exact World.ownsRow_nil _ _ _ _, below_setRow b5 (by omega)⟩
end Go.Proofs.YtcocfnjbgceidaaGreat
