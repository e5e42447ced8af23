import Derived.Test.YtlbjakmfalhliaaWp
namespace Go.Proofs.Ytlbjakmfalhliaa
open Go.RowKit

set_option maxRecDepth 100000 in
set_option maxRecDepth 100000 in
theorem built0 : Try.prog.built 37 [] = some za := by kernel_rfl
set_option maxRecDepth 100000 in
set_option maxRecDepth 100000 in
theorem wpList_build0 {ops : Array Oper} {rest : List Oper} {o : Oper} {a : Act} {w : World} {Q : Exit → Act → World → Prop} (hg : o.guard = none) (ho : o.op = .build 37 #[])
    (h : wpList Try.prog ops Q rest (a.put o.dst (.agg (da fun _ => 0))) w) : wpList Try.prog ops Q (o :: rest) a w := by
  have e : (Try.prog.built 37 ((#[] : Array (Nat × Operand)).map fun (i, x) => (i, a.eval x)).toList) = some za := by simpa using built0
  refine wpList_build hg 37 #[] ho (by rw [e]; rfl) ?_
  rw [e, ← za_eq] at *
  exact h
theorem results_dr {fn : Func} {p q : Tmp} (h : fn.results = #[.cell p 37, .tmp q]) (tmps : Array Value) (w : World) (g : Nat) (t : TypeId) (r : Nat → Int) (c : Value)
    (hp : tmps.getD p undef = .pointer (some ⟨g, 0, none⟩)) (hq : tmps.getD q undef = c) (hg : w.heap[g]? = some (.cells (da r) t (0, 0))) :
    (results fn tmps).run Try.prog w = .ok (.tuple #[.agg (da r), c]) w := by
  have hp' : tmps[p]?.getD undef = .pointer (some ⟨g, 0, none⟩) := by simpa using hp
  have hq' : tmps[q]?.getD undef = c := by simpa using hq
  simp [results, h, hp', hq', asAddr, run_loadVar_row w g t 37 (da r) (0, 0) _ hg Try.underlying37 rfl (by rw [da_size]; exact info37)]
/-- a drum and a code come back; what there was is as it was -/
def DrC (r : Nat → Int) (c : Int) (w : World) (e : Ending) (w' : World) : Prop := e = .returned (.tuple #[.agg (da r), .int .i64 c]) ∧ Below w.heap.size w w'
/-- the code: as HasPin's, and ErrState where the pin is what it must not be -/
def wpC (s : Int) (l : List (Int × Int)) (d : Nat → Int) (x y : Int) (bad : Bool) : Int := if askB s l d then (if plB s l.length x y then (if pinB d x.toNat y.toNat = bad then 4 else 0) else 2) else 1
def wpD (s : Int) (l : List (Int × Int)) (d : Nat → Int) (x y : Int) (bad : Bool) : Nat → Int := if wpC s l d x y bad = 0 then togD d x.toNat y.toNat else fun _ => 0

set_option maxRecDepth 20000 in
set_option maxHeartbeats 2000000 in
theorem specWithPin_any (s : Int) (A : Option Addr) (c : Nat) (l : List (Int × Int)) (d : Nat → Int) (x y : Int) (w : World) (hA : HA w A l) (hn : l.length ≤ 1048576) (hwf : HWF l) (hs : -32768 ≤ s ∧ s ≤ 32767) (hd : DWF d) :
    Calls Try.prog 31 #[.agg #[.int .i16 s, .slice A l.length c], .agg (da d), .int .i64 x, .int .i64 y] w (DrC (wpD s l d x y true) (wpC s l d x y true) w) := by
  have hz := zeroDrum
  have hb0 : Below w.heap.size w (((w.alloc (.cells #[.int .i16 s, .slice A l.length c] 30)).alloc (.cells (da d) 37)).alloc (.cells za 37)) := (((Below.refl _ _).alloc (Nat.le_refl _) _).alloc (by simp) _).alloc (by simp; omega) _
  have hF : FP (((w.alloc (.cells #[.int .i16 s, .slice A l.length c] 30)).alloc (.cells (da d) 37)).alloc (.cells za 37)) w.heap.size s A l.length c := ⟨by simp [go_sem], by simp [go_sem]⟩
  have hD : Dr (((w.alloc (.cells #[.int .i16 s, .slice A l.length c] 30)).alloc (.cells (da d) 37)).alloc (.cells za 37)) (w.heap.size + 1) 37 d := heap_old' (heap_new' _ _ _ (by simp))
  have hZ : Dr (((w.alloc (.cells #[.int .i16 s, .slice A l.length c] 30)).alloc (.cells (da d) 37)).alloc (.cells za 37)) (w.heap.size + 1 + 1) 37 (fun _ => 0) := by rw [za_eq]; exact heap_new' _ _ _ (by simp)
  go_enter Try.func31, Try.ntmps31
  go_wp2_with fail
  clear hz
  refine (l02Place_any _ _ s A c l d x y _ hF hD (hA.below hb0) hn hwf hs hd).mono ?_
  rintro e w1 ⟨rfl, hb1⟩
  have b1 := step_below hb1 hb0
  have D1 := hD.keep hb1
  have Z1 := hZ.keep hb1
  have R1 : w1.heap[w.heap.size + 1 + 1]? = some (.cells (da fun _ => 0) 37 (0, 0)) := Z1
  have HZ := hide R1
  clear R1 hZ
  cases ha : askB s l d
  · simp only [cod3]
    have hcc : wpC s l d x y true = 1 := by simp [wpC, ha]
    have HX := hide hcc
    have HY := hide (show wpD s l d x y true = fun _ => 0 by simp [wpD, hcc])
    clear hcc
    clear ha
    go_wp2_with (first | (with_reducible refine wpList_build0 rfl rfl ?_) | (with_reducible refine wpList_store_row rfl 37 (.tmp 8) (.tmp 23) rfl (w.heap.size + 1 + 1) (da fun _ => 0) rfl rfl 37 _ HZ.out (by rw [da_size]; exact info37) (by simp only [da_size]) (da_one _) ?_))
    exact bodyPost_ret (v := .tuple #[.agg (da fun _ => 0), .int .i64 1]) (results_dr Try.results31 _ _ (w.heap.size + 1 + 1) 37 _ _ (by simp [Act.put]) (by simp [Act.put]) (setRow_heap _ _ _ _ _ _ HZ.out)) rfl ⟨by rw [HY.out, HX.out], below_setRow b1 (by omega)⟩
  cases hp : plB s l.length x y
  · simp only [cod3]
    have hcc : wpC s l d x y true = 2 := by simp [wpC, ha, hp]
    have HX := hide hcc
    have HY := hide (show wpD s l d x y true = fun _ => 0 by simp [wpD, hcc])
    clear hcc
    clear ha hp
    go_wp2_with (first | (with_reducible refine wpList_build0 rfl rfl ?_) | (with_reducible refine wpList_store_row rfl 37 (.tmp 8) (.tmp 23) rfl (w.heap.size + 1 + 1) (da fun _ => 0) rfl rfl 37 _ HZ.out (by rw [da_size]; exact info37) (by simp only [da_size]) (da_one _) ?_))
    exact bodyPost_ret (v := .tuple #[.agg (da fun _ => 0), .int .i64 2]) (results_dr Try.results31 _ _ (w.heap.size + 1 + 1) 37 _ _ (by simp [Act.put]) (by simp [Act.put]) (setRow_heap _ _ _ _ _ _ HZ.out)) rfl ⟨by rw [HY.out, HX.out], below_setRow b1 (by omega)⟩
  have hfa := ask_all ha
  obtain ⟨k, t, hxk, hyt, hk, ht⟩ := plB_nat hp
  have hk96 : k < 96 := by omega
  have ht32 : t < 32 := by omega
  have ht24 : t < 24 := by omega
  obtain ⟨q1, q2⟩ := hd k hk96
  have hkx : x.toNat = k := by omega
  have hty : y.toNat = t := by omega
  cases hpin : pinB d k t
  · simp only [cod3]
    have hcc : wpC s l d x y true = 0 := by simp [wpC, ha, hp, hkx, hty, hpin]
    have HX := hide hcc
    have HY := hide (show wpD s l d x y true = togD d k t by simp [wpD, hcc, hkx, hty])
    clear hcc
    have KP : ∀ W, Dr W (w.heap.size + 1) 37 d → Calls Try.prog 59 #[.pointer (some ⟨w.heap.size + 1, 0, none⟩), .int .i64 k, .int .i64 t] W fun e w' => e = .returned (.bool false) ∧ W = w' := fun W hW => by rw [← hpin]; exact l02Pin_any _ k t d W hW hk96 ht32 hd
    have hbit := or_xor q1 ht32 hpin
    have c1 := D1.cell hk96
    have f1 := D1.frozen k
    have D2 : Dr (w1.setCell ⟨w.heap.size + 1, k, none⟩ (.int .u32 (bits .xor .u32 (d k) (2 ^ t % 4294967296)))) (w.heap.size + 1) 37 (togD d k t) := D1.set k _
    have b2 : Below w.heap.size w (w1.setCell ⟨w.heap.size + 1, k, none⟩ (.int .u32 (bits .xor .u32 (d k) (2 ^ t % 4294967296)))) := b1.setCell (p := ⟨_, _, none⟩) (by dsimp only; omega) _
    have R2 : (w1.setCell ⟨w.heap.size + 1, k, none⟩ (.int .u32 (bits .xor .u32 (d k) (2 ^ t % 4294967296)))).heap[w.heap.size + 1 + 1]? = some (.cells (da fun _ => 0) 37 (0, 0)) := Z1.other (by omega) _
    have HZ := hide R2
    have HR2 := hide D2.range
    clear ha hp hpin R2 D2
    subst hxk hyt
    go_wp2_with (first | (go_at_call 59; refine (KP _ D1).mono ?_; rintro e w2 ⟨rfl, rfl⟩) | (with_reducible refine wpList_load_da rfl 37 (.tmp 5) rfl (w.heap.size + 1) 0 rfl (togD d k t) _ HR2.out Try.underlying37 rfl (dInfo (togD d k t)) ?_) | (with_reducible refine wpList_store_row rfl 37 (.tmp 8) (.tmp 34) rfl (w.heap.size + 1 + 1) (da (togD d k t)) rfl rfl 37 _ HZ.out (by rw [da_size]; exact info37) (by simp only [da_size]) (da_one _) ?_))
    exact bodyPost_ret (v := .tuple #[.agg (da (togD d k t)), .int .i64 0]) (results_dr Try.results31 _ _ (w.heap.size + 1 + 1) 37 _ _ (by simp [Act.put]) (by simp [Act.put]) (setRow_heap _ _ _ _ _ _ HZ.out)) rfl ⟨by rw [HY.out, HX.out], below_setRow b2 (by omega)⟩
  · simp only [cod3]
    have hcc : wpC s l d x y true = 4 := by simp [wpC, ha, hp, hkx, hty, hpin]
    have HX := hide hcc
    have HY := hide (show wpD s l d x y true = fun _ => 0 by simp [wpD, hcc])
    clear hcc
    have KP : ∀ W, Dr W (w.heap.size + 1) 37 d → Calls Try.prog 59 #[.pointer (some ⟨w.heap.size + 1, 0, none⟩), .int .i64 k, .int .i64 t] W fun e w' => e = .returned (.bool true) ∧ W = w' := fun W hW => by rw [← hpin]; exact l02Pin_any _ k t d W hW hk96 ht32 hd
    clear ha hp hpin
    subst hxk hyt
    go_wp2_with (first | (go_at_call 59; refine (KP _ D1).mono ?_; rintro e w2 ⟨rfl, rfl⟩) | (with_reducible refine wpList_build0 rfl rfl ?_) | (with_reducible refine wpList_store_row rfl 37 (.tmp 8) (.tmp 23) rfl (w.heap.size + 1 + 1) (da fun _ => 0) rfl rfl 37 _ HZ.out (by rw [da_size]; exact info37) (by simp only [da_size]) (da_one _) ?_))
    exact bodyPost_ret (v := .tuple #[.agg (da fun _ => 0), .int .i64 4]) (results_dr Try.results31 _ _ (w.heap.size + 1 + 1) 37 _ _ (by simp [Act.put]) (by simp [Act.put]) (setRow_heap _ _ _ _ _ _ HZ.out)) rfl ⟨by rw [HY.out, HX.out], below_setRow b1 (by omega)⟩
set_option maxRecDepth 20000 in
set_option maxHeartbeats 2000000 in
theorem specWithoutPin_any (s : Int) (A : Option Addr) (c : Nat) (l : List (Int × Int)) (d : Nat → Int) (x y : Int) (w : World) (hA : HA w A l) (hn : l.length ≤ 1048576) (hwf : HWF l) (hs : -32768 ≤ s ∧ s ≤ 32767) (hd : DWF d) :
    Calls Try.prog 34 #[.agg #[.int .i16 s, .slice A l.length c], .agg (da d), .int .i64 x, .int .i64 y] w (DrC (wpD s l d x y false) (wpC s l d x y false) w) := by
  have hz := zeroDrum
  have hb0 : Below w.heap.size w (((w.alloc (.cells #[.int .i16 s, .slice A l.length c] 30)).alloc (.cells (da d) 37)).alloc (.cells za 37)) := (((Below.refl _ _).alloc (Nat.le_refl _) _).alloc (by simp) _).alloc (by simp; omega) _
  have hF : FP (((w.alloc (.cells #[.int .i16 s, .slice A l.length c] 30)).alloc (.cells (da d) 37)).alloc (.cells za 37)) w.heap.size s A l.length c := ⟨by simp [go_sem], by simp [go_sem]⟩
  have hD : Dr (((w.alloc (.cells #[.int .i16 s, .slice A l.length c] 30)).alloc (.cells (da d) 37)).alloc (.cells za 37)) (w.heap.size + 1) 37 d := heap_old' (heap_new' _ _ _ (by simp))
  have hZ : Dr (((w.alloc (.cells #[.int .i16 s, .slice A l.length c] 30)).alloc (.cells (da d) 37)).alloc (.cells za 37)) (w.heap.size + 1 + 1) 37 (fun _ => 0) := by rw [za_eq]; exact heap_new' _ _ _ (by simp)
  go_enter Try.func34, Try.ntmps34
  go_wp2_with fail
  clear hz
  refine (l02Place_any _ _ s A c l d x y _ hF hD (hA.below hb0) hn hwf hs hd).mono ?_
  rintro e w1 ⟨rfl, hb1⟩
  have b1 := step_below hb1 hb0
  have D1 := hD.keep hb1
  have Z1 := hZ.keep hb1
  have R1 : w1.heap[w.heap.size + 1 + 1]? = some (.cells (da fun _ => 0) 37 (0, 0)) := Z1
  have HZ := hide R1
  clear R1 hZ
  cases ha : askB s l d
  · simp only [cod3]
    have hcc : wpC s l d x y false = 1 := by simp [wpC, ha]
    have HX := hide hcc
    have HY := hide (show wpD s l d x y false = fun _ => 0 by simp [wpD, hcc])
    clear hcc
    clear ha
    go_wp2_with (first | (with_reducible refine wpList_build0 rfl rfl ?_) | (with_reducible refine wpList_store_row rfl 37 (.tmp 8) (.tmp 24) rfl (w.heap.size + 1 + 1) (da fun _ => 0) rfl rfl 37 _ HZ.out (by rw [da_size]; exact info37) (by simp only [da_size]) (da_one _) ?_))
    exact bodyPost_ret (v := .tuple #[.agg (da fun _ => 0), .int .i64 1]) (results_dr Try.results34 _ _ (w.heap.size + 1 + 1) 37 _ _ (by simp [Act.put]) (by simp [Act.put]) (setRow_heap _ _ _ _ _ _ HZ.out)) rfl ⟨by rw [HY.out, HX.out], below_setRow b1 (by omega)⟩
  cases hp : plB s l.length x y
  · simp only [cod3]
    have hcc : wpC s l d x y false = 2 := by simp [wpC, ha, hp]
    have HX := hide hcc
    have HY := hide (show wpD s l d x y false = fun _ => 0 by simp [wpD, hcc])
    clear hcc
    clear ha hp
    go_wp2_with (first | (with_reducible refine wpList_build0 rfl rfl ?_) | (with_reducible refine wpList_store_row rfl 37 (.tmp 8) (.tmp 24) rfl (w.heap.size + 1 + 1) (da fun _ => 0) rfl rfl 37 _ HZ.out (by rw [da_size]; exact info37) (by simp only [da_size]) (da_one _) ?_))
    exact bodyPost_ret (v := .tuple #[.agg (da fun _ => 0), .int .i64 2]) (results_dr Try.results34 _ _ (w.heap.size + 1 + 1) 37 _ _ (by simp [Act.put]) (by simp [Act.put]) (setRow_heap _ _ _ _ _ _ HZ.out)) rfl ⟨by rw [HY.out, HX.out], below_setRow b1 (by omega)⟩
  have hfa := ask_all ha
  obtain ⟨k, t, hxk, hyt, hk, ht⟩ := plB_nat hp
  have hk96 : k < 96 := by omega
  have ht32 : t < 32 := by omega
  have ht24 : t < 24 := by omega
  obtain ⟨q1, q2⟩ := hd k hk96
  have hkx : x.toNat = k := by omega
  have hty : y.toNat = t := by omega
  cases hpin : pinB d k t
  · simp only [cod3]
    have hcc : wpC s l d x y false = 4 := by simp [wpC, ha, hp, hkx, hty, hpin]
    have HX := hide hcc
    have HY := hide (show wpD s l d x y false = fun _ => 0 by simp [wpD, hcc])
    clear hcc
    have KP : ∀ W, Dr W (w.heap.size + 1) 37 d → Calls Try.prog 59 #[.pointer (some ⟨w.heap.size + 1, 0, none⟩), .int .i64 k, .int .i64 t] W fun e w' => e = .returned (.bool false) ∧ W = w' := fun W hW => by rw [← hpin]; exact l02Pin_any _ k t d W hW hk96 ht32 hd
    clear ha hp hpin
    subst hxk hyt
    go_wp2_with (first | (go_at_call 59; refine (KP _ D1).mono ?_; rintro e w2 ⟨rfl, rfl⟩) | (with_reducible refine wpList_build0 rfl rfl ?_) | (with_reducible refine wpList_store_row rfl 37 (.tmp 8) (.tmp 24) rfl (w.heap.size + 1 + 1) (da fun _ => 0) rfl rfl 37 _ HZ.out (by rw [da_size]; exact info37) (by simp only [da_size]) (da_one _) ?_))
    exact bodyPost_ret (v := .tuple #[.agg (da fun _ => 0), .int .i64 4]) (results_dr Try.results34 _ _ (w.heap.size + 1 + 1) 37 _ _ (by simp [Act.put]) (by simp [Act.put]) (setRow_heap _ _ _ _ _ _ HZ.out)) rfl ⟨by rw [HY.out, HX.out], below_setRow b1 (by omega)⟩
  · simp only [cod3]
    have hcc : wpC s l d x y false = 0 := by simp [wpC, ha, hp, hkx, hty, hpin]
    have HX := hide hcc
    have HY := hide (show wpD s l d x y false = togD d k t by simp [wpD, hcc, hkx, hty])
    clear hcc
    have KP : ∀ W, Dr W (w.heap.size + 1) 37 d → Calls Try.prog 59 #[.pointer (some ⟨w.heap.size + 1, 0, none⟩), .int .i64 k, .int .i64 t] W fun e w' => e = .returned (.bool true) ∧ W = w' := fun W hW => by rw [← hpin]; exact l02Pin_any _ k t d W hW hk96 ht32 hd
    have hbit := not_xor q1 ht32 hpin
    have c1 := D1.cell hk96
    have f1 := D1.frozen k
    have D2 : Dr (w1.setCell ⟨w.heap.size + 1, k, none⟩ (.int .u32 (bits .xor .u32 (d k) (2 ^ t % 4294967296)))) (w.heap.size + 1) 37 (togD d k t) := D1.set k _
    have b2 : Below w.heap.size w (w1.setCell ⟨w.heap.size + 1, k, none⟩ (.int .u32 (bits .xor .u32 (d k) (2 ^ t % 4294967296)))) := b1.setCell (p := ⟨_, _, none⟩) (by dsimp only; omega) _
    have R2 : (w1.setCell ⟨w.heap.size + 1, k, none⟩ (.int .u32 (bits .xor .u32 (d k) (2 ^ t % 4294967296)))).heap[w.heap.size + 1 + 1]? = some (.cells (da fun _ => 0) 37 (0, 0)) := Z1.other (by omega) _
    have HZ := hide R2
    have HR2 := hide D2.range
    clear ha hp hpin R2 D2
    subst hxk hyt
    go_wp2_with (first | (go_at_call 59; refine (KP _ D1).mono ?_; rintro e w2 ⟨rfl, rfl⟩) | (with_reducible refine wpList_load_da rfl 37 (.tmp 5) rfl (w.heap.size + 1) 0 rfl (togD d k t) _ HR2.out Try.underlying37 rfl (dInfo (togD d k t)) ?_) | (with_reducible refine wpList_store_row rfl 37 (.tmp 8) (.tmp 35) rfl (w.heap.size + 1 + 1) (da (togD d k t)) rfl rfl 37 _ HZ.out (by rw [da_size]; exact info37) (by simp only [da_size]) (da_one _) ?_))
    exact bodyPost_ret (v := .tuple #[.agg (da (togD d k t)), .int .i64 0]) (results_dr Try.results34 _ _ (w.heap.size + 1 + 1) 37 _ _ (by simp [Act.put]) (by simp [Act.put]) (setRow_heap _ _ _ _ _ _ HZ.out)) rfl ⟨by rw [HY.out, HX.out], below_setRow b2 (by omega)⟩
end Go.Proofs.Ytlbjakmfalhliaa
