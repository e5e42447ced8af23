import Derived.Test.YtcocfnjbgceidaaGreatGbk
import Derived.Test.YtcocfnjbgceidaaGreatSmv
import Derived.Test.YtcocfnjbgceidaaGreatGay
import Derived.Test.YtcocfnjbgceidaaGreatGbf
namespace Go.Proofs.YtcocfnjbgceidaaGreat
open Go.RowKit Go.Maps
def AvWF (k a b c d : Int) : Prop := (-128 ≤ k ∧ k ≤ 127) ∧ (-9223372036854775808 ≤ a ∧ a ≤ 9223372036854775807) ∧ (-9223372036854775808 ≤ b ∧ b ≤ 9223372036854775807) ∧ (-9223372036854775808 ≤ c ∧ c ≤ 9223372036854775807) ∧ (-9223372036854775808 ≤ d ∧ d ≤ 9223372036854775807)
/-- what an act comes to -/
def acC (s : Int) (n : Nat) (T : List Wp) (z : List Int) (k a b c d : Int) : Int := if k = 0 then trC T z a else if k = 1 then rnC n a else if k = 2 then plC s n a b else if k = 3 then mvC s n T a b c d else 2
def acT (T : List Wp) (k a b c d : Int) : List Wp := if k = 0 then turT T a else if k = 1 then T else if k = 2 then plT T a b else if k = 3 then mvT T a b c d else []
def acZ (n : Nat) (T : List Wp) (z : List Int) (k a _b _c _d : Int) : List Int := if k = 0 then turZ T z a else if k = 1 then rnZ n z a else if k = 2 then z else if k = 3 then z else []
set_option maxRecDepth 20000 in
set_option maxHeartbeats 4000000 in
theorem do_none (s : Int) (A : Option Addr) (n c M q N base : Nat) (C : Option Addr) (T : List Wp) (z : List Int) (k a b c2 d2 : Int) (w : World) (hs : s ≤ 96) (hn : n ≤ 24) (hs' : -32768 ≤ s) (hSt : WSt s n base C q M N T z w) (hbase : base ≤ w.heap.size) (hN : N ≤ 1099511627776) (g2 : Nat → Nat) (t2 : Nat → TypeId) (cs2 : Nat → Array Value) (hB : Bkf w g2 t2 cs2) (hk : -128 ≤ k ∧ k ≤ 127) (hk2 : k < 0 ∨ 3 < k) :
    Calls Tryz.prog 63 #[.agg #[.int .i64 s, .slice A n c, .map (some M), .slice C n q], .agg #[.int .i8 k, .int .i64 a, .int .i64 b, .int .i64 c2, .int .i64 d2]] w (OnP s n base C q M (N + 1) [] [] 2 g2 t2 cs2 w) := by
  obtain ⟨X, hX⟩ : ∃ X, X = (w.alloc (.cells #[.int .i64 s, .slice A n c, .map (some M), .slice C n q] 106)).alloc (.cells #[.int .i8 k, .int .i64 a, .int .i64 b, .int .i64 c2, .int .i64 d2] 55) := ⟨_, rfl⟩
  have bX : Below w.heap.size w X := by rw [hX]; exact ((Below.refl _ _).alloc (Nat.le_refl _) _).alloc (by simp) _
  have A0 : Bk X (w.heap.size + 1) 55 #[.int .i8 k, .int .i64 a, .int .i64 b, .int .i64 c2, .int .i64 d2] := by rw [hX]; exact Bk.new _ _ _ (by simp)
  have B0 := hB.keep bX
  go_enter Tryz.func63, Tryz.ntmps63
  go_upto_region 1 with fail
  rw [← hX]
  clear hX
  have c0 := A0.cell (i := 0) rfl
  have c1 := A0.cell (i := 1) rfl
  have c2_ := A0.cell (i := 2) rfl
  have c3 := A0.cell (i := 3) rfl
  have c4 := A0.cell (i := 4) rfl
  go_wp2_with fail
  clear c0 c1 c2_ c3 c4
  refine (deed_none k a b c2 d2 _ hk hk2).mono ?_
  rintro e w2 ⟨rfl, hb2⟩
  have b2 := step_below hb2 bX
  go_wp2
  go_ret
  exact ⟨rfl, fun h => absurd h (by decide), B0.keep hb2, b2.mono hbase⟩
theorem do_any (s : Int) (A : Option Addr) (n c M q N base : Nat) (C : Option Addr) (T : List Wp) (z : List Int) (k a b c2 d2 : Int) (w : World) (hs : s ≤ 96) (hn : n ≤ 24) (hs' : -32768 ≤ s) (hSt : WSt s n base C q M N T z w) (hbase : base ≤ w.heap.size) (hN : N ≤ 1099511627776) (g2 : Nat → Nat) (t2 : Nat → TypeId) (cs2 : Nat → Array Value) (hB : Bkf w g2 t2 cs2) (ht2 : ∀ i, t2 i ≠ 2) (hk : -128 ≤ k ∧ k ≤ 127) :
    Calls Tryz.prog 63 #[.agg #[.int .i64 s, .slice A n c, .map (some M), .slice C n q], .agg #[.int .i8 k, .int .i64 a, .int .i64 b, .int .i64 c2, .int .i64 d2]] w (OnP s n base C q M (N + 1) (acT T k a b c2 d2) (acZ n T z k a b c2 d2) (acC s n T z k a b c2 d2) g2 t2 cs2 w) := by
  by_cases h0 : k = 0
  · subst h0
    exact do_turn s A n c M q N base C T z a b c2 d2 w hs hn hs' hSt hbase hN g2 t2 cs2 hB ht2
  by_cases h1 : k = 1
  · subst h1
    exact do_hammer s A n c M q N base C T z a b c2 d2 w hs hn hs' hSt hbase hN g2 t2 cs2 hB ht2
  by_cases h2 : k = 2
  · subst h2
    exact do_pin s A n c M q N base C T z a b c2 d2 w hs hn hs' hSt hbase hN g2 t2 cs2 hB
  by_cases h3 : k = 3
  · subst h3
    exact do_move s A n c M q N base C T z a b c2 d2 w hs hn hs' hSt hbase hN g2 t2 cs2 hB
  have e1 : acT T k a b c2 d2 = [] := by simp [acT, h0, h1, h2, h3]
  have e2 : acZ n T z k a b c2 d2 = [] := by simp [acZ, h0, h1, h2, h3]
  have e3 : acC s n T z k a b c2 d2 = 2 := by simp [acC, h0, h1, h2, h3]
  rw [e1, e2, e3]
  exact do_none s A n c M q N base C T z k a b c2 d2 w hs hn hs' hSt hbase hN g2 t2 cs2 hB hk (by omega)
theorem implDoWearAct_any (s : Int) (A : Option Addr) (c : Nat) (h : List (Int × Int)) (P : Option Addr) (d : Nat) (l : List Wp) (U : Option Addr) (v : Nat) (z : List Int) (k a b c2 d2 : Int) (w : World)
    (hA : HA w A h) (hn : h.length ≤ 1048576) (hwf : HWF h) (hs : -32768 ≤ s ∧ s ≤ 32767) (hL : WnA w P l) (hU : SZ w U z) (hl : l.length ≤ 1048576) (hz : z.length ≤ 1048576) (hlw : WnWF l) (hzw : ZWF z) (hv : AvWF k a b c2 d2) :
    Calls Tryz.prog 27 #[.agg #[.int .i16 s, .slice A h.length c], .agg #[.slice P l.length d, .slice U z.length v], .agg #[.int .i8 k, .int .i64 a, .int .i64 b, .int .i64 c2, .int .i64 d2]] w (WeC (waT s h l z (acC s h.length l z k a b c2 d2) (acT l k a b c2 d2)) (waZ s h l z (acC s h.length l z k a b c2 d2) (acZ h.length l z k a b c2 d2)) (waC s h l z (acC s h.length l z k a b c2 d2)) w) :=
  doWear_gen s A c h P d l U v z k a b c2 d2 _ _ _ w hA hn hwf hs hL hU hl hz hlw hzw (fun hw base M q C A' c' W hst hbase g2 t2 cs2 hB ht2 => do_any s A' h.length c' M q l.length base C l z k a b c2 d2 W (weB_fr hw).1 (weB_fr hw).2 hs.1 hst hbase (by omega) g2 t2 cs2 hB ht2 hv.1)
end Go.Proofs.YtcocfnjbgceidaaGreat
namespace Go.Proofs.YtcocfnjbgceidaaGreat
theorem setP_len (T : List Wp) (a b c : Int) : (setP T a b c).length = T.length := by simp [setP]
theorem plT_len (T : List Wp) (a b : Int) : (plT T a b).length ≤ T.length + 1 := by
  unfold plT
  split
  · rw [setP_len]; omega
  · rw [insP_len]; omega
theorem mvT_len0 (T : List Wp) (a b c d : Int) : (mvT T a b c d).length ≤ T.length + 1 := by
  unfold mvT
  rw [insP_len]
  have h2 : (delP T a b).length ≤ T.length := List.length_filter_le _ _
  omega
theorem rnZ_len0 (n : Nat) (z : List Int) (x : Int) : (rnZ n z x).length = z.length := by
  unfold rnZ
  split
  · simp
  · rfl
theorem acT_len (T : List Wp) (k a b c d : Int) : (acT T k a b c d).length ≤ T.length + 1 := by
  have h1 := plT_len T a b
  have h2 := mvT_len0 T a b c d
  have h3 := turT_len T a
  unfold acT
  repeat' split
  all_goals first | omega | simp
theorem acZ_len (n : Nat) (T : List Wp) (z : List Int) (k a b c d : Int) : (acZ n T z k a b c d).length ≤ z.length := by
  have h1 := rnZ_len0 n z a
  have h2 := turZ_len T z a
  unfold acZ
  repeat' split
  all_goals first | omega | simp
theorem waT_len0 (s : Int) (h : List (Int × Int)) (l : List Wp) (z : List Int) (c : Int) (T : List Wp) (hT : T.length ≤ l.length + 1) : (waT s h l z c T).length ≤ 1048576 := by
  unfold waT
  split
  · rename_i hc
    have := wa_small hc
    omega
  · simp
theorem waZ_len0 (s : Int) (h : List (Int × Int)) (l : List Wp) (z : List Int) (c : Int) (z' : List Int) (hz : z.length ≤ 1048576) (hT : z'.length ≤ z.length) : (waZ s h l z c z').length ≤ 1048576 := by
  unfold waZ
  split
  · omega
  · simp
theorem tuT_len (s : Int) (h : List (Int × Int)) (l : List Wp) (z : List Int) (t : Int) (_hl : l.length ≤ 1048576) : (waT s h l z (trC l z t) (turT l t)).length ≤ 1048576 := waT_len0 _ _ _ _ _ _ (by rw [turT_len]; omega)
theorem tuZ_len (s : Int) (h : List (Int × Int)) (l : List Wp) (z : List Int) (t : Int) (hz : z.length ≤ 1048576) : (waZ s h l z (trC l z t) (turZ l z t)).length ≤ 1048576 := waZ_len0 _ _ _ _ _ _ hz (by rw [turZ_len]; omega)
theorem daT_len (s : Int) (h : List (Int × Int)) (l : List Wp) (z : List Int) (k a b c d : Int) (_hl : l.length ≤ 1048576) : (waT s h l z (acC s h.length l z k a b c d) (acT l k a b c d)).length ≤ 1048576 := waT_len0 _ _ _ _ _ _ (acT_len _ _ _ _ _ _)
theorem daZ_len (s : Int) (h : List (Int × Int)) (l : List Wp) (z : List Int) (k a b c d : Int) (hz : z.length ≤ 1048576) : (waZ s h l z (acC s h.length l z k a b c d) (acZ h.length l z k a b c d)).length ≤ 1048576 := waZ_len0 _ _ _ _ _ _ hz (acZ_len _ _ _ _ _ _ _ _)
end Go.Proofs.YtcocfnjbgceidaaGreat
