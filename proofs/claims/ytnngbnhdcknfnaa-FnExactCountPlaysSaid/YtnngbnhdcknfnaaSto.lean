import Derived.Test.YtnngbnhdcknfnaaSca
namespace Go.Proofs.Ytnngbnhdcknfnaa
open Go.RowKit

theorem quiet_load_v {P : Program} {o : Oper} {a : Act} {C : World → Prop} {K : Act → Prop} (ty : TypeId) (x : Operand) (ho : o.op = .load ty x) (p : Value) (hx : a.eval x = p) (v : Value)
    (hl : ∀ w, C w → (Instr.loadAt ty p).run P w = .ok v w) (h : K (a.put o.dst v)) : o.quiet P a C K :=
  ⟨v, fun w hw => by
    unfold Oper.quietAt execOp
    simp only [ho, hx, Sem.run_bind, hl w hw, Result.andThen_ok, Sem.run_pure]
    exact ⟨rfl, rfl⟩, h⟩
theorem Bk.plLater {w : World} {g : Nat} {t : TypeId} {s : Int} {A : Option Addr} {n c : Nat} {B : Option Addr} {m d : Nat} {o : Nat → Int} (h : Bk w g t (plA s A n c B m d o)) (p : Later w) :
    (Instr.loadAt 84 (.pointer (some ⟨g, 0, none⟩))).run Try.prog p.w = .ok (.agg (plA s A n c B m d o)) p.w :=
  run_loadAt_mid p.w g 0 _ (plL s A n c B m d o) _ (h.keep p.h).plRange Try.underlying84 rfl (by rw [plInfo (s := s) (A := A) (n := n) (c := c) (B := B) (m := m) (d := d) (o := o), plA_size, plL_length])
def stC (s : Int) (l m : List (Int × Int)) (o : Nat → Int) (a x : Int) : Int := if prgB s l m o then (if inB a 0 (s - 1) && inB x 0 ((m.length : Int) - 1) then 0 else 2) else 1
def stV (s : Int) (l m : List (Int × Int)) (o : Nat → Int) (a x : Int) : Int := if stC s l m o a x = 0 then arI s (secF m x.toNat - a) else 0
theorem l04To_any (b : Nat) (s : Int) (A : Option Addr) (n c : Nat) (F S a : Int) (w : World) (hF : FP w b s A n c) (hs : 2 ≤ s ∧ s ≤ 96) (hFb : -32768 ≤ F ∧ F ≤ 32767) (ha : 0 ≤ a ∧ a ≤ 100000) (hx : 0 ≤ F - a + s) :
    Calls Try.prog 70 #[.pointer (some ⟨b, 0, none⟩), .agg #[.int .i16 F, .int .i16 S], .int .i64 a] w (SaysI' (arI s (F - a)) w) := by
  have hb0 : Below w.heap.size w (w.alloc (.cells #[.int .i16 F, .int .i16 S] 90)) := (Below.refl _ _).alloc (Nat.le_refl _) _
  obtain ⟨h1, h2⟩ := hs
  obtain ⟨h3, h4⟩ := hFb
  obtain ⟨h5, h6⟩ := ha
  have e0 := (hF.keep hb0).1
  have hne : (s == 0) = false := by simp; omega
  have hti : (F - a + s).tmod s = (F - a) % s := by rw [Int.tmod_eq_emod_of_nonneg hx, Int.add_emod_right]
  have hin := arI_in (s := s) (x := F - a) h1
  have hw0 : IntKind.i64.wrap (F - a) = F - a := IntWalk.i64_in _ (by omega)
  have hw1 : IntKind.i64.wrap (F - a + s) = F - a + s := IntWalk.i64_in _ (by omega)
  have hw2 : IntKind.i64.wrap ((F - a) % s) = (F - a) % s := IntWalk.i64_in _ (by unfold arI at hin; omega)
  clear hin
  go_enter Try.func70, Try.ntmps70
  go_wp2
  go_ret
  exact ⟨rfl, hb0⟩
theorem stepsTo_any (s : Int) (A : Option Addr) (n c : Nat) (B : Option Addr) (m d : Nat) (o : Nat → Int) (F S a : Int) (w : World) (hs : 2 ≤ s ∧ s ≤ 96) (hFb : -32768 ≤ F ∧ F ≤ 32767) (ha : 0 ≤ a ∧ a ≤ 100000) (hx : 0 ≤ F - a + s) :
    Calls Try.prog 72 #[.agg (plA s A n c B m d o), .int .i64 a, .agg #[.int .i16 F, .int .i16 S]] w (SaysI' (arI s (F - a)) w) := by
  obtain ⟨X, hX⟩ : ∃ X, X = (w.alloc (.cells (plA s A n c B m d o) 84)).alloc (.cells #[.int .i16 F, .int .i16 S] 90) := ⟨_, rfl⟩
  have hb0 : Below w.heap.size w X := by rw [hX]; exact ((Below.refl _ _).alloc (Nat.le_refl _) _).alloc (by simp) _
  have P0 : Bk X w.heap.size 84 (plA s A n c B m d o) := by rw [hX]; exact (Bk.new _ _ _ rfl).old _
  have S0 : Bk X (w.heap.size + 1) 90 #[.int .i16 F, .int .i16 S] := by rw [hX]; exact Bk.new _ _ _ (by simp)
  obtain ⟨h3, h4⟩ := hFb
  obtain ⟨h5, h6⟩ := ha
  go_enter Try.func72, Try.ntmps72
  go_upto_region 1 with fail
  rw [← hX]
  clear hX
  have e0 := P0.plSteps
  have e1 := P0.plHams
  have e2 := S0.cell (i := 0) rfl
  have hw0 : IntKind.i64.wrap (F - a) = F - a := IntWalk.i64_in _ (by omega)
  go_wp2_with fail
  refine (aroundP_any s (F - a) A n c _ hs ⟨hx, by omega⟩).mono ?_
  rintro e w2 ⟨rfl, hb2⟩
  go_wp2
  go_ret
  exact ⟨rfl, step_below hb2 hb0⟩

set_option maxRecDepth 20000 in
set_option maxHeartbeats 2000000 in
theorem specStepsTo_any (s : Int) (A : Option Addr) (c : Nat) (l : List (Int × Int)) (B : Option Addr) (d : Nat) (m : List (Int × Int)) (o : Nat → Int) (a x : Int) (w : World) (hA : HA w A l) (hn : l.length ≤ 1048576) (hwf : HWF l) (hs : -32768 ≤ s ∧ s ≤ 32767) (hB : SecA w B m) (hm : m.length ≤ 1048576) (hswf : SWF m) (howf : OWF o) :
    Calls Try.prog 39 #[.agg #[.int .i16 s, .slice A l.length c], .agg (prA B m.length d o), .int .i64 a, .int .i64 x] w (Two (stV s l m o a x) (stC s l m o a x) w) := by
  go_enter Try.func39, Try.ntmps39
  go_upto_region 1 with fail
  obtain ⟨X, hX⟩ : ∃ X, X = (w.alloc (.cells #[.int .i16 s, .slice A l.length c] 36)).alloc (.cells (prA B m.length d o) 40) := ⟨_, rfl⟩
  have hb0 : Below w.heap.size w X := by rw [hX]; exact ((Below.refl _ _).alloc (Nat.le_refl _) _).alloc (by simp) _
  have F0 : FP X w.heap.size s A l.length c := by
    have h : Bk X w.heap.size 36 #[.int .i16 s, .slice A l.length c] := by rw [hX]; exact (Bk.new _ _ _ rfl).old _
    exact ⟨h.cell rfl, h.cell rfl⟩
  have P0 : Bk X (w.heap.size + 1) 40 (prA B m.length d o) := by rw [hX]; exact Bk.new _ _ _ (by simp)
  rw [← hX]
  clear hX
  go_wp2_with fail
  refine (l04Ok_any w.heap.size (w.heap.size + 1) s A c l B d m o X F0 (hA.below hb0) hn hwf hs P0 (hB.below hb0) hm hswf howf).mono ?_
  rintro e w1 ⟨rfl, hb1⟩
  have b1 := step_below hb1 hb0
  have F1 := F0.keep hb1
  have P1 := P0.keep hb1
  have A1 := hA.below b1
  have B1 := hB.below b1
  obtain ⟨hs1, hs2⟩ := id hs
  cases hp : prgB s l m o
  · have hcc : stC s l m o a x = 1 := by simp [stC, hp]
    have HX := hide hcc
    have HY := hide (show stV s l m o a x = 0 by simp [stV, hcc])
    clear hcc hp
    go_wp2
    go_ret2
    exact ⟨by rw [HX.out, HY.out]; rfl, b1⟩
  have hpa := prgB_all hp
  have e0 := F1.1
  have c0 := P1.slice
  cases h1 : inB a 0 (s - 1)
  · have K1 : ∀ W, Calls Try.prog 61 #[.int .i64 a, .int .i64 0, .int .i64 (s - 1)] W fun e w' => e = .returned (.bool false) ∧ W = w' := fun W => by rw [← h1]; exact l00In_any _ _ _ W
    have hcc : stC s l m o a x = 2 := by simp [stC, hp, h1]
    have HX := hide hcc
    have HY := hide (show stV s l m o a x = 0 by simp [stV, hcc])
    clear hcc hp h1 hpa
    go_wp2_with (go_at_call 61; with_reducible refine (K1 _).mono ?_; rintro e w' ⟨rfl, rfl⟩)
    go_ret2
    exact ⟨by rw [HX.out, HY.out]; rfl, b1⟩
  have K1 : ∀ W, Calls Try.prog 61 #[.int .i64 a, .int .i64 0, .int .i64 (s - 1)] W fun e w' => e = .returned (.bool true) ∧ W = w' := fun W => by rw [← h1]; exact l00In_any _ _ _ W
  cases h2 : inB x 0 ((m.length : Int) - 1)
  · have K2 : ∀ W, Calls Try.prog 61 #[.int .i64 x, .int .i64 0, .int .i64 ((m.length : Int) - 1)] W fun e w' => e = .returned (.bool false) ∧ W = w' := fun W => by rw [← h2]; exact l00In_any _ _ _ W
    have hcc : stC s l m o a x = 2 := by simp [stC, hp, h1, h2]
    have HX := hide hcc
    have HY := hide (show stV s l m o a x = 0 by simp [stV, hcc])
    clear hcc hp h1 h2 hpa
    go_wp2_with (first | (go_at_call 61; with_reducible refine (K1 _).mono ?_; rintro e w' ⟨rfl, rfl⟩) | (go_at_call 61; with_reducible refine (K2 _).mono ?_; rintro e w' ⟨rfl, rfl⟩))
    go_ret2
    exact ⟨by rw [HX.out, HY.out]; rfl, b1⟩
  have K2 : ∀ W, Calls Try.prog 61 #[.int .i64 x, .int .i64 0, .int .i64 ((m.length : Int) - 1)] W fun e w' => e = .returned (.bool true) ∧ W = w' := fun W => by rw [← h2]; exact l00In_any _ _ _ W
  obtain ⟨k, hk⟩ : ∃ k : Nat, x = (k : Int) := ⟨x.toNat, by simp [inB] at h2; omega⟩
  subst hk
  have hlt : k < m.length := by simp [inB] at h2; omega
  have hab : 0 ≤ a ∧ a ≤ s - 1 := by simpa [inB] using h1
  have hcc : stC s l m o a k = 0 := by simp [stC, hp, h1, h2]
  have HX := hide hcc
  have HY := hide (show stV s l m o a k = arI s (secF m k - a) by simp [stV, hcc])
  have hin := sec_in hpa.2.2.1 k hlt
  have hs96 := hpa.1
  have hm12 := hpa.2.1
  obtain ⟨b', p, rfl, hbb, d1, d2⟩ := B1 k hlt
  clear hcc hp h1 h2 hpa
  go_wp2_with (first | (go_at_call 61; with_reducible refine (K1 _).mono ?_; rintro e w' ⟨rfl, rfl⟩) | (go_at_call 61; with_reducible refine (K2 _).mono ?_; rintro e w' ⟨rfl, rfl⟩))
  refine (l04To_any w.heap.size s A l.length c (secF m k) (secS m k) a _ F1 hs96 (hswf k hlt).1 ⟨hab.1, by omega⟩ (by omega)).mono ?_
  rintro e w3 ⟨rfl, hb3⟩
  go_wp2
  go_ret2
  exact ⟨by rw [HX.out, HY.out]; rfl, step_below hb3 b1⟩

set_option maxRecDepth 20000 in
set_option maxHeartbeats 2000000 in
theorem implStepsTo_any (s : Int) (A : Option Addr) (c : Nat) (l : List (Int × Int)) (B : Option Addr) (d : Nat) (m : List (Int × Int)) (o : Nat → Int) (a x : Int) (w : World) (hA : HA w A l) (hn : l.length ≤ 1048576) (hwf : HWF l) (hs : -32768 ≤ s ∧ s ≤ 32767) (hB : SecA w B m) (hm : m.length ≤ 1048576) (hswf : SWF m) (howf : OWF o) :
    Calls Try.prog 40 #[.agg #[.int .i16 s, .slice A l.length c], .agg (prA B m.length d o), .int .i64 a, .int .i64 x] w (Two (stV s l m o a x) (stC s l m o a x) w) := by
  have hz := zeroPln
  go_enter Try.func40, Try.ntmps40
  go_upto_region 1 with fail
  obtain ⟨X, hX⟩ : ∃ X, X = (w.alloc (.cells #[.int .i16 s, .slice A l.length c] 36)).alloc (.cells (prA B m.length d o) 40) := ⟨_, rfl⟩
  have hb0 : Below w.heap.size w X := by rw [hX]; exact ((Below.refl _ _).alloc (Nat.le_refl _) _).alloc (by simp) _
  have F0 : FP X w.heap.size s A l.length c := by
    have h : Bk X w.heap.size 36 #[.int .i16 s, .slice A l.length c] := by rw [hX]; exact (Bk.new _ _ _ rfl).old _
    exact ⟨h.cell rfl, h.cell rfl⟩
  have P0 : Bk X (w.heap.size + 1) 40 (prA B m.length d o) := by rw [hX]; exact Bk.new _ _ _ (by simp)
  rw [← hX]
  clear hX
  have f0 := F0.1
  have f1 := F0.2
  have HP := hide P0.range49
  obtain ⟨b, hb⟩ : ∃ b, prgB s l m o = b := ⟨_, rfl⟩
  go_wp2_with (first | (with_reducible refine wpList_load_pr rfl 40 (.tmp 5) rfl (w.heap.size + 1) 0 rfl _ _ _ _ _ HP.out Try.underlying40 rfl (pInfo _ _ _ _) ?_))
  refine (planFor0_any s A c l B d m o _ (hA.below hb0) hn hwf hs (hB.below hb0) hm hswf howf b hb).mono ?_
  rintro e w1 ⟨rfl, hb1⟩
  have b1 := step_below hb1 hb0
  clear f0 f1 HP
  have hzi : (Try.prog.info? 84).map (·.size) = some zpl.size := by rw [zpl_eq]; exact plInfo
  have hzo : zpl.all (·.oneCell') = true := by rw [zpl_eq]; exact plA_one
  cases b
  · simp only [Bool.false_eq_true, if_false]
    have hcc : stC s l m o a x = 1 := by simp [stC, hb]
    have HX := hide hcc
    have HY := hide (show stV s l m o a x = 0 by simp [stV, hcc])
    clear hcc hb
    go_wp2_with (with_reducible refine wpList_store_newG rfl 84 (.tmp 10) (.tmp 16) rfl zpl rfl rfl 84 _ hzi rfl hzo ?_)
    go_ret2
    exact ⟨by rw [HX.out, HY.out]; rfl, b1.alloc b1.size _⟩
  simp only [if_true]
  have hal : Below w1.heap.size w1 (w1.alloc (.cells (plA s A l.length c B m.length d o) 84)) := (Below.refl _ _).alloc (Nat.le_refl _) _
  have Q0 : Bk (w1.alloc (.cells (plA s A l.length c B m.length d o) 84)) w1.heap.size 84 (plA s A l.length c B m.length d o) := Bk.new _ _ _ rfl
  have b2 := step_below hal b1
  go_upto_region 2 with (with_reducible refine wpList_store_newG rfl 84 (.tmp 10) (.tmp 16) rfl (plA s A l.length c B m.length d o) rfl rfl 84 _ plInfo (by rw [zpl_eq, plA_size, plA_size]) plA_one ?_)
  obtain ⟨Y, hY⟩ : ∃ Y, Y = w1.alloc (.cells (plA s A l.length c B m.length d o) 84) := ⟨_, rfl⟩
  rw [← hY] at hal Q0 b2 ⊢
  clear hY hz hzi hzo hb1 b1
  have A2 := hA.below b2
  have B2 := hB.below b2
  have hpa := prgB_all hb
  have e0 := Q0.plSteps
  have e1 := Q0.plHams
  cases h1 : inB a 0 (s - 1)
  · have K1 : ∀ W, Calls Try.prog 71 #[.agg #[.int .i64 s, .slice A l.length c], .int .i64 a] W (Says false W) := fun W => by rw [← h1]; exact hasStepP_any s a A _ c W hs
    have hcc : stC s l m o a x = 2 := by simp [stC, hb, h1]
    have HX := hide hcc
    have HY := hide (show stV s l m o a x = 0 by simp [stV, hcc])
    clear hcc hb h1
    go_wp2_with (go_at_call 71; refine (K1 _).mono ?_; rintro e w3 ⟨rfl, hb3⟩)
    go_ret2
    exact ⟨by rw [HX.out, HY.out]; rfl, step_below hb3 b2⟩
  have K1 : ∀ W, Calls Try.prog 71 #[.agg #[.int .i64 s, .slice A l.length c], .int .i64 a] W (Says true W) := fun W => by rw [← h1]; exact hasStepP_any s a A _ c W hs
  go_wp2_with fail
  refine (K1 _).mono ?_
  rintro e w3 ⟨rfl, hb3⟩
  have Q3 := Q0.keep hb3
  have b3 := step_below hb3 b2
  have HQ3 := hide Q3.plRange
  cases h2 : inB x 0 ((m.length : Int) - 1)
  · have K2 : ∀ W, Calls Try.prog 68 #[.agg (plA s A l.length c B m.length d o), .int .i64 x] W (Says false W) := fun W => by rw [← h2]; exact hasSection_any s A _ c B _ d o x hm W
    have hcc : stC s l m o a x = 2 := by simp [stC, hb, h1, h2]
    have HX := hide hcc
    have HY := hide (show stV s l m o a x = 0 by simp [stV, hcc])
    clear hcc hb h1 h2
    go_wp2_with (first | (with_reducible refine wpList_want_pl rfl (.tmp 10) rfl w1.heap.size 0 rfl _ _ _ _ _ _ _ _ HQ3.out ?_) | (go_at_call 68; refine (K2 _).mono ?_; rintro e w4 ⟨rfl, hb4⟩))
    go_ret2
    exact ⟨by rw [HX.out, HY.out]; rfl, step_below hb4 b3⟩
  have K2 : ∀ W, Calls Try.prog 68 #[.agg (plA s A l.length c B m.length d o), .int .i64 x] W (Says true W) := fun W => by rw [← h2]; exact hasSection_any s A _ c B _ d o x hm W
  obtain ⟨k, hk⟩ : ∃ k : Nat, x = (k : Int) := ⟨x.toNat, by simp [inB] at h2; omega⟩
  subst hk
  have hlt : k < m.length := by simp [inB] at h2; omega
  have hab : 0 ≤ a ∧ a ≤ s - 1 := by simpa [inB] using h1
  have hcc : stC s l m o a k = 0 := by simp [stC, hb, h1, h2]
  have HX := hide hcc
  have HY := hide (show stV s l m o a k = arI s (secF m k - a) by simp [stV, hcc])
  have hin := sec_in hpa.2.2.1 k hlt
  have hs96 := hpa.1
  have hm12 := hpa.2.1
  clear hcc hb h1 h2 hpa e0 e1
  go_wp2_with (first | (with_reducible refine wpList_want_pl rfl (.tmp 10) rfl w1.heap.size 0 rfl _ _ _ _ _ _ _ _ HQ3.out ?_) | (go_at_call 68; refine (K2 _).mono ?_; rintro e w4 ⟨rfl, hb4⟩))
  have b4 := step_below hb4 b3
  have Q4 := Q3.keep hb4
  obtain ⟨b', p, rfl, hbb, d1, d2⟩ := ((B2.below hb3).below hb4) k hlt
  have HL := hide (fun p => Q4.plLater p)
  have g2 := Later.cell Q4.plSecs
  have g3 := Later.cell d1
  have g4 := Later.cell d2
  have KS : ∀ W, Calls Try.prog 72 #[.agg (plA s A l.length c (some ⟨b', p, none⟩) m.length d o), .int .i64 a, .agg #[.int .i16 (secF m k), .int .i16 (secS m k)]] W (SaysI' (arI s (secF m k - a)) W) := fun W => stepsTo_any s A _ c _ _ d o _ _ a W hs96 (hswf k hlt).1 ⟨hab.1, by omega⟩ (by omega)
  refine wp_region_later (by kernel_rfl) (by kernel_rfl) ?_
  repeat (first | (go_big_quiet_want; with_reducible refine quiet_load_v 84 (.tmp 10) rfl (.pointer (some ⟨w1.heap.size, 0, none⟩)) rfl (.agg (plA s A l.length c (some ⟨b', p, none⟩) m.length d o)) (by rintro _ ⟨p, rfl⟩; exact HL.out p) ?_; go_simp; go_big_quiet_on) | go_big_quiet_step ((go_at_call 72; exact Later.call (KS _))))
  refine wpQuiet_nil ?_
  rintro _ ⟨⟨wq, hq⟩, rfl⟩
  go_wp2
  go_ret2
  exact ⟨by rw [HX.out, HY.out]; rfl, step_below hq b4⟩
end Go.Proofs.Ytnngbnhdcknfnaa
