import Derived.Test.YtheoopbgbglmdaaDoorNno
import Derived.Test.YtheoopbgbglmdaaDoorNby
import Derived.Test.YtheoopbgbglmdaaDoorChv
import Derived.Test.YtheoopbgbglmdaaDoorGbf
import Derived.Test.YtheoopbgbglmdaaDoorGbi
import Derived.Test.YtheoopbgbglmdaaDoorGbj
import Derived.StillTailTactics
namespace Go.Proofs.YtheoopbgbglmdaaDoor
open Go.RowKit Go.Extern.Stop Go.Stop Go.Extern
/-- a note's fields lie in their types -/
def NoWF (a q : Int) : Prop := (-32768 ≤ a ∧ a ≤ 32767) ∧ (-128 ≤ q ∧ q ≤ 127)
/-- the code of a note and a choice, and the note that comes of them -/
def noC (a q : Int) (xa : Bool) (xl xo xt : Int) : Int := if noteB a q = true ∧ xcB xa xl xo xt = true then (if xa then 4 else 0) else 1
def noA (a q : Int) (xa : Bool) (xl xo xt : Int) : Int := if noC a q xa xl xo xt = 0 then a + xl else 0
def noP (a q : Int) (xa : Bool) (xl xo xt : Int) : Int := if noC a q xa xl xo xt = 0 then q + 12 * xo else 0
theorem no_one {a q : Int} {xa : Bool} {xl xo xt : Int} (h : ¬ (noteB a q = true ∧ xcB xa xl xo xt = true)) : noC a q xa xl xo xt = 1 ∧ noA a q xa xl xo xt = 0 ∧ noP a q xa xl xo xt = 0 := by
  have h1 : noC a q xa xl xo xt = 1 := if_neg h
  exact ⟨h1, by rw [noA, h1]; rfl, by rw [noP, h1]; rfl⟩
theorem no_four {a q : Int} {xl xo xt : Int} (h : noteB a q = true ∧ xcB true xl xo xt = true) : noC a q true xl xo xt = 4 ∧ noA a q true xl xo xt = 0 ∧ noP a q true xl xo xt = 0 := by
  have h1 : noC a q true xl xo xt = 4 := if_pos h
  exact ⟨h1, by rw [noA, h1]; rfl, by rw [noP, h1]; rfl⟩
theorem no_ok {a q : Int} {xl xo xt : Int} (h : noteB a q = true ∧ xcB false xl xo xt = true) : noC a q false xl xo xt = 0 ∧ noA a q false xl xo xt = a + xl ∧ noP a q false xl xo xt = q + 12 * xo := by
  have h1 : noC a q false xl xo xt = 0 := if_pos h
  exact ⟨h1, by rw [noA, if_pos h1], by rw [noP, if_pos h1]⟩
theorem noteB_in {a q : Int} (h : noteB a q = true) : (0 ≤ a ∧ a ≤ 199) ∧ (0 ≤ q ∧ q ≤ 47) := by simpa [noteB] using h
theorem xcB_in {l o t : Int} (h : xcB false l o t = true) : (-3 ≤ l ∧ l ≤ 3) ∧ (-1 ≤ o ∧ o ≤ 1) := by simp [xcB, inB] at h; omega
theorem results_n2 {fn : Func} {p q : Tmp} (h : fn.results = #[.cell p 28, .tmp q]) (tmps : Array Value) (w : World) (g : Nat) (t : TypeId) (cs : Array Value) (v : Value) (hi : cs.size = 2)
    (hp : tmps.getD p undef = .pointer (some ⟨g, 0, none⟩)) (hq : tmps.getD q undef = v) (hg : w.heap[g]? = some (.cells cs t (0, 0))) :
    (results fn tmps).run Tryd.prog w = .ok (.tuple #[.agg cs, v]) w := by
  have hp' : tmps[p]?.getD undef = .pointer (some ⟨g, 0, none⟩) := by simpa using hp
  have hq' : tmps[q]?.getD undef = v := by simpa using hq
  have h1 := run_loadVar_row w g t 28 cs (0, 0) _ hg Tryd.underlying28 rfl (by rw [hi]; exact infoNt)
  simp [results, h, hp', hq', asAddr, h1]
set_option maxRecDepth 20000 in
set_option maxHeartbeats 4000000 in
theorem specNoteOf_any (a q : Int) (xa : Bool) (xl xo xt : Int) (w : World) (hn : (-32768 ≤ a ∧ a ≤ 32767) ∧ (-128 ≤ q ∧ q ≤ 127)) (hx : XcWF xa xl xo xt) :
    Calls Tryd.prog 5 #[.agg #[.int .i16 a, .int .i8 q], .agg #[.bool xa, .int .i8 xl, .int .i8 xo, .int .i8 xt]] w fun e w' => e = .returned (.tuple #[.agg #[.int .i16 (noA a q xa xl xo xt), .int .i8 (noP a q xa xl xo xt)], .int .i64 (noC a q xa xl xo xt)]) ∧ Below w.heap.size w w' := by
  have KN := fun W => l01Note_any a q hn.1 hn.2 W
  have KX := fun W => l07Choice_any xa xl xo xt W hx
  obtain ⟨X, hX⟩ : ∃ X, X = ((w.alloc (.cells #[.int .i16 a, .int .i8 q] 28)).alloc (.cells #[.bool xa, .int .i8 xl, .int .i8 xo, .int .i8 xt] 32)).alloc (.cells #[.int .i16 0, .int .i8 0] 28) := ⟨_, rfl⟩
  have b0 : Below w.heap.size w X := by rw [hX]; exact (((Below.refl _ _).alloc (Nat.le_refl _) _).alloc (by simp) _).alloc (by simp; omega) _
  have R1 : Bk X w.heap.size 28 #[.int .i16 a, .int .i8 q] := by rw [hX]; exact heap_old' (heap_old' (heap_new' _ _ _ rfl))
  have R2 : Bk X (w.heap.size + 1) 32 #[.bool xa, .int .i8 xl, .int .i8 xo, .int .i8 xt] := by rw [hX]; exact heap_old' (heap_new' _ _ _ (by simp))
  have R3 : Bk X (w.heap.size + 1 + 1) 28 #[.int .i16 0, .int .i8 0] := by rw [hX]; exact heap_new' _ _ _ (by simp)
  have HB0 := hide b0
  cases hno : noteB a q
  · have HR := hide (no_one (a := a) (q := q) (xa := xa) (xl := xl) (xo := xo) (xt := xt) (by simp [hno]))
    rw [hno] at KN
    have r0 := R1.cell (i := 0) rfl
    have r1 := R1.cell (i := 1) rfl
    clear hno KX b0
    go_enter Tryd.func5, Tryd.ntmps5
    go_upto_region 1 with fail
    rw [← hX]
    clear hX
    go_wp2_with fail
    refine (KN X).mono ?_
    rintro e w1 ⟨rfl, hb1⟩
    have b1 := step_below hb1 HB0.out
    have HN := hide (show w1.heap[w.heap.size + 1 + 1]? = some (.cells #[.int .i16 0, .int .i8 0] 28 (0, 0)) from R3.keep hb1)
    clear KN R1 R2 R3 r0 r1
    go_wp2_with (with_reducible refine wpList_store_row rfl 28 (.tmp 4) (.tmp 14) rfl (w.heap.size + 1 + 1) #[.int .i16 0, .int .i8 0] rfl rfl 28 _ HN.out (infoNote2 _ _) (szNote2 _ _ _ _) (oneNote2 _ _) ?_)
    exact bodyPost_ret (v := .tuple #[.agg #[.int .i16 0, .int .i8 0], .int .i64 1]) (results_n2 Tryd.results5 _ _ (w.heap.size + 1 + 1) 28 _ _ rfl (by simp [Act.put]) (by simp [Act.put]) (setRow_heap _ _ _ _ _ _ HN.out)) rfl ⟨by rw [HR.out.1, HR.out.2.1, HR.out.2.2], below_setRow b1 (by omega)⟩
  rw [hno] at KN
  cases hxx : xcB xa xl xo xt
  · have HR := hide (no_one (a := a) (q := q) (xa := xa) (xl := xl) (xo := xo) (xt := xt) (by simp [hxx]))
    rw [hxx] at KX
    have r0 := R1.cell (i := 0) rfl
    have r1 := R1.cell (i := 1) rfl
    clear hno hxx b0
    go_enter Tryd.func5, Tryd.ntmps5
    go_upto_region 1 with fail
    rw [← hX]
    clear hX
    go_wp2_with fail
    refine (KN X).mono ?_
    rintro e w1 ⟨rfl, hb1⟩
    have b1 := step_below hb1 HB0.out
    have R21 := R2.keep hb1
    have R31 := R3.keep hb1
    have s0 := R21.cell (i := 0) rfl
    have s1 := R21.cell (i := 1) rfl
    have s2 := R21.cell (i := 2) rfl
    have s3 := R21.cell (i := 3) rfl
    clear KN R1 R2 R3 r0 r1
    go_wp2_with fail
    refine (KX w1).mono ?_
    rintro e w2 ⟨rfl, hb2⟩
    have b2 := step_below hb2 b1
    have HN := hide (show w2.heap[w.heap.size + 1 + 1]? = some (.cells #[.int .i16 0, .int .i8 0] 28 (0, 0)) from R31.keep hb2)
    clear KX R21 R31 s0 s1 s2 s3
    go_wp2_with (with_reducible refine wpList_store_row rfl 28 (.tmp 4) (.tmp 14) rfl (w.heap.size + 1 + 1) #[.int .i16 0, .int .i8 0] rfl rfl 28 _ HN.out (infoNote2 _ _) (szNote2 _ _ _ _) (oneNote2 _ _) ?_)
    exact bodyPost_ret (v := .tuple #[.agg #[.int .i16 0, .int .i8 0], .int .i64 1]) (results_n2 Tryd.results5 _ _ (w.heap.size + 1 + 1) 28 _ _ rfl (by simp [Act.put]) (by simp [Act.put]) (setRow_heap _ _ _ _ _ _ HN.out)) rfl ⟨by rw [HR.out.1, HR.out.2.1, HR.out.2.2], below_setRow b2 (by omega)⟩
  rw [hxx] at KX
  have hab := noteB_in hno
  cases xa
  · have HR := hide (no_ok (a := a) (q := q) (xl := xl) (xo := xo) (xt := xt) ⟨hno, hxx⟩)
    have hli := xcB_in hxx
    have w1 : IntKind.i16.wrap xl = xl := IntWalk.i16_in _ (by omega)
    have w2 : IntKind.i16.wrap (a + xl) = a + xl := IntWalk.i16_in _ (by omega)
    have w3 : IntKind.i8.wrap (12 * xo) = 12 * xo := by simp [IntKind.wrap, IntKind.signed, IntKind.bits]; omega
    have w4 : IntKind.i8.wrap (q + 12 * xo) = q + 12 * xo := by simp [IntKind.wrap, IntKind.signed, IntKind.bits]; omega
    have r0 := R1.cell (i := 0) rfl
    have r1 := R1.cell (i := 1) rfl
    clear hno hxx b0 hab hli
    go_enter Tryd.func5, Tryd.ntmps5
    go_upto_region 1 with fail
    rw [← hX]
    clear hX
    go_wp2_with fail
    refine (KN X).mono ?_
    rintro e w5 ⟨rfl, hb1⟩
    have b1 := step_below hb1 HB0.out
    have R11 := R1.keep hb1
    have R21 := R2.keep hb1
    have R31 := R3.keep hb1
    have s0 := R21.cell (i := 0) rfl
    have s1 := R21.cell (i := 1) rfl
    have s2 := R21.cell (i := 2) rfl
    have s3 := R21.cell (i := 3) rfl
    clear KN R1 R2 R3 r0 r1
    go_wp2_with fail
    refine (KX w5).mono ?_
    rintro e w6 ⟨rfl, hb2⟩
    have b2 := step_below hb2 b1
    have HN := hide (show w6.heap[w.heap.size + 1 + 1]? = some (.cells #[.int .i16 0, .int .i8 0] 28 (0, 0)) from R31.keep hb2)
    have R12 := R11.keep hb2
    have R22 := R21.keep hb2
    clear KX R31 s0 s1 s2 s3 R11 R21
    have r0 := R12.cell (i := 0) rfl
    have r1 := R12.cell (i := 1) rfl
    have s0 := R22.cell (i := 0) rfl
    have s1 := R22.cell (i := 1) rfl
    have s2 := R22.cell (i := 2) rfl
    go_wp2_with (with_reducible refine wpList_store_row rfl 28 (.tmp 4) (.tmp 30) rfl (w.heap.size + 1 + 1) #[.int .i16 (a + xl), .int .i8 (q + 12 * xo)] rfl rfl 28 _ HN.out (infoNote2 _ _) (szNote2 _ _ _ _) (oneNote2 _ _) ?_)
    exact bodyPost_ret (v := .tuple #[.agg #[.int .i16 (a + xl), .int .i8 (q + 12 * xo)], .int .i64 0]) (results_n2 Tryd.results5 _ _ (w.heap.size + 1 + 1) 28 _ _ rfl (by simp [Act.put]) (by simp [Act.put]) (setRow_heap _ _ _ _ _ _ HN.out)) rfl ⟨by rw [HR.out.1, HR.out.2.1, HR.out.2.2], below_setRow b2 (by omega)⟩
  · have HR := hide (no_four (a := a) (q := q) (xl := xl) (xo := xo) (xt := xt) ⟨hno, hxx⟩)
    have r0 := R1.cell (i := 0) rfl
    have r1 := R1.cell (i := 1) rfl
    clear hno hxx b0 hab
    go_enter Tryd.func5, Tryd.ntmps5
    go_upto_region 1 with fail
    rw [← hX]
    clear hX
    go_wp2_with fail
    refine (KN X).mono ?_
    rintro e w5 ⟨rfl, hb1⟩
    have b1 := step_below hb1 HB0.out
    have R21 := R2.keep hb1
    have R31 := R3.keep hb1
    have s0 := R21.cell (i := 0) rfl
    have s1 := R21.cell (i := 1) rfl
    have s2 := R21.cell (i := 2) rfl
    have s3 := R21.cell (i := 3) rfl
    clear KN R1 R2 R3 r0 r1
    go_wp2_with fail
    refine (KX w5).mono ?_
    rintro e w6 ⟨rfl, hb2⟩
    have b2 := step_below hb2 b1
    have HN := hide (show w6.heap[w.heap.size + 1 + 1]? = some (.cells #[.int .i16 0, .int .i8 0] 28 (0, 0)) from R31.keep hb2)
    have R22 := R21.keep hb2
    clear KX R31 s0 s1 s2 s3 R21
    have s0 := R22.cell (i := 0) rfl
    go_wp2_with (with_reducible refine wpList_store_row rfl 28 (.tmp 4) (.tmp 17) rfl (w.heap.size + 1 + 1) #[.int .i16 0, .int .i8 0] rfl rfl 28 _ HN.out (infoNote2 _ _) (szNote2 _ _ _ _) (oneNote2 _ _) ?_)
    exact bodyPost_ret (v := .tuple #[.agg #[.int .i16 0, .int .i8 0], .int .i64 4]) (results_n2 Tryd.results5 _ _ (w.heap.size + 1 + 1) 28 _ _ rfl (by simp [Act.put]) (by simp [Act.put]) (setRow_heap _ _ _ _ _ _ HN.out)) rfl ⟨by rw [HR.out.1, HR.out.2.1, HR.out.2.2], below_setRow b2 (by omega)⟩
end Go.Proofs.YtheoopbgbglmdaaDoor
