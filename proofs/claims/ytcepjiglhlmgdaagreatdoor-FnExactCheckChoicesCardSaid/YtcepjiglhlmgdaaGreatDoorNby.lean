import Derived.Test.YtcepjiglhlmgdaaGreatDoorMvs
import Derived.Test.YtcepjiglhlmgdaaGreatDoorGag
import Derived.Test.YtcepjiglhlmgdaaGreatDoorGan
import Derived.Test.YtcepjiglhlmgdaaGreatDoorCho
import Derived.Test.YtcepjiglhlmgdaaGreatDoorGaq
import Derived.IntWalk
import Derived.Deep.RegionHeld3
import Derived.Deep.CutRange
namespace Go.Proofs.YtcepjiglhlmgdaaGreatDoor
open Go.RowKit
theorem info_nb : (Tryz.prog.info? 59).map (·.size) = some 2 := by kernel_rfl
theorem info_nb2 (a b : Value) : (Tryz.prog.info? 59).map (·.size) = some (#[a, b] : Array Value).size := by kernel_rfl
theorem sz_nb2 (a b c d : Value) : (#[a, b] : Array Value).size = (#[c, d] : Array Value).size := rfl
theorem one_nb2 (a b : Int) : (#[.int .i16 a, .int .i8 b] : Array Value).all (·.oneCell') = true := by simp [Value.oneCell']
theorem results_nb {fn : Func} {p : Tmp} (h : fn.results = #[.cell p 59]) (tmps : Array Value) (w : World) (g : Nat) (t : TypeId) (cs : Array Value) (hi : cs.size = 2)
    (hp : tmps.getD p undef = .pointer (some ⟨g, 0, none⟩)) (hg : w.heap[g]? = some (.cells cs t (0, 0))) :
    (results fn tmps).run Tryz.prog w = .ok (.agg cs) w := by
  have hp' : tmps[p]?.getD undef = .pointer (some ⟨g, 0, none⟩) := by simpa using hp
  simp [results, h, hp', asAddr, run_loadVar_row w g t 59 cs (0, 0) _ hg Tryz.underlying59 rfl (by rw [hi]; exact info_nb)]
set_option maxHeartbeats 1000000 in
/-- the note that comes of a note by a choice -/
theorem noteBy_any (a p : Int) (xa : Bool) (xl xo xt : Int) (w : World) (ha : 0 ≤ a ∧ a ≤ 199) (hp : 0 ≤ p ∧ p ≤ 47) (hl : -3 ≤ xl ∧ xl ≤ 3) (ho : -1 ≤ xo ∧ xo ≤ 1) :
    Calls Tryz.prog 65 #[.agg #[.int .i16 a, .int .i8 p], .agg #[.bool xa, .int .i8 xl, .int .i8 xo, .int .i8 xt]] w fun e w' => e = .returned (.agg #[.int .i16 (a + xl), .int .i8 (p + 12 * xo)]) ∧ Below w.heap.size w w' := by
  have w1 : IntKind.i16.wrap xl = xl := IntWalk.i16_in _ (by omega)
  have w2 : IntKind.i16.wrap (a + xl) = a + xl := IntWalk.i16_in _ (by omega)
  have w3 : IntKind.i8.wrap (12 * xo) = 12 * xo := by simp [IntKind.wrap, IntKind.signed, IntKind.bits]; omega
  have w4 : IntKind.i8.wrap (p + 12 * xo) = p + 12 * xo := by simp [IntKind.wrap, IntKind.signed, IntKind.bits]; omega
  obtain ⟨X, hX⟩ : ∃ X, X = ((w.alloc (.cells #[.int .i16 a, .int .i8 p] 59)).alloc (.cells #[.bool xa, .int .i8 xl, .int .i8 xo, .int .i8 xt] 63)).alloc (.cells #[.int .i16 0, .int .i8 0] 59) := ⟨_, rfl⟩
  have b0 : Below w.heap.size w X := by rw [hX]; exact (((Below.refl _ _).alloc (Nat.le_refl _) _).alloc (by simp) _).alloc (by simp; omega) _
  have R1 : X.heap[w.heap.size]? = some (.cells #[.int .i16 a, .int .i8 p] 59 (0, 0)) := by rw [hX]; exact heap_old' (heap_old' (heap_new' _ _ _ rfl))
  have R2 : X.heap[w.heap.size + 1]? = some (.cells #[.bool xa, .int .i8 xl, .int .i8 xo, .int .i8 xt] 63 (0, 0)) := by rw [hX]; exact heap_old' (heap_new' _ _ _ (by simp))
  have c0 := cell_of_row _ _ 0 _ _ _ R1
  have c1 := cell_of_row _ _ 1 _ _ _ R1
  have d1 := cell_of_row _ _ 1 _ _ _ R2
  have d2 := cell_of_row _ _ 2 _ _ _ R2
  simp at c0 c1 d1 d2
  have HN := hide (show X.heap[w.heap.size + 1 + 1]? = some (.cells #[.int .i16 0, .int .i8 0] 59 (0, 0)) by rw [hX]; exact heap_new' _ _ _ (by simp))
  clear R1 R2
  go_enter Tryz.func65, Tryz.ntmps65
  go_upto_region 1 with fail
  rw [← hX]
  clear hX
  go_wp2_with (with_reducible refine wpList_store_row rfl 59 (.tmp 4) (.tmp 17) rfl (w.heap.size + 1 + 1) #[.int .i16 (a + xl), .int .i8 (p + 12 * xo)] rfl rfl 59 _ HN.out (info_nb2 _ _) (sz_nb2 _ _ _ _) (one_nb2 _ _) ?_)
  exact bodyPost_ret (v := .agg #[.int .i16 (a + xl), .int .i8 (p + 12 * xo)]) (results_nb Tryz.results65 _ _ (w.heap.size + 1 + 1) 59 _ rfl (by simp [Act.put]) (setRow_heap _ _ _ _ _ _ HN.out)) rfl ⟨rfl, below_setRow b0 (by omega)⟩
set_option maxHeartbeats 1000000 in
theorem needPlace_any (a p : Int) (w : World) (ha : 0 ≤ a ∧ a ≤ 199) (hp : 0 ≤ p ∧ p ≤ 47) :
    Calls Tryz.prog 77 #[.agg #[.int .i16 a, .int .i8 p]] w fun e w' => e = .returned (.tuple #[]) ∧ Below w.heap.size w w' := by
  have b0 : Below w.heap.size w (w.alloc (.cells #[.int .i16 a, .int .i8 p] 59)) := (Below.refl _ _).alloc (Nat.le_refl _) _
  have w1 : IntKind.i64.wrap a = a := IntWalk.i64_in _ (by omega)
  have w2 : IntKind.i64.wrap p = p := IntWalk.i64_in _ (by omega)
  have hN : noteB a p = true := by simp [noteB]; omega
  have K := fun W => isPlace_any a p W
  rw [hN] at K
  go_enter Tryz.func77, Tryz.ntmps77
  go_wp2_with (go_at_call 74; refine (K _).mono ?_; rintro e w' ⟨rfl, rfl⟩)
  go_end0
  exact ⟨rfl, b0⟩
/-- the choices of a note, in their order -/
def chR (s : Int) (l : List (Int × Int)) (a p : Int) (mv : Int × Int) : List (Bool × Int × Int × Int) := if inB (a + mv.1) 0 (s - 1) = true then (trk l (p + 12 * mv.2) l.length).map fun t : Nat => (false, mv.1, mv.2, (t : Int)) else []
def chF (s : Int) (l : List (Int × Int)) (a p : Int) (ms : List (Int × Int)) : List (Bool × Int × Int × Int) := ms.flatMap (chR s l a p)
def chS (s : Int) (l : List (Int × Int)) (a p : Int) : List (Bool × Int × Int × Int) := chF s l a p mvS ++ [(true, 0, 0, 0)]
def chE (x : Bool × Int × Int × Int) : Array Value := #[.agg #[.bool x.1, .int .i8 x.2.1, .int .i8 x.2.2.1, .int .i8 x.2.2.2]]
theorem chF_snoc (s : Int) (l : List (Int × Int)) (a p : Int) (ms : List (Int × Int)) (m : Int × Int) : chF s l a p (ms ++ [m]) = chF s l a p ms ++ chR s l a p m := by simp [chF]
theorem chF_pre {s : Int} {l : List (Int × Int)} {a p : Int} {ms : List (Int × Int)} {m : Int × Int} (h : ms ++ [m] <+: mvS) : chF s l a p ms ++ chR s l a p m <+: chS s l a p := by
  obtain ⟨r, hr⟩ := h
  refine ⟨chF s l a p r ++ [(true, 0, 0, 0)], ?_⟩
  rw [← chF_snoc, chS, ← hr]
  simp [chF, List.flatMap_append]
theorem mvS_in {m : Int × Int} (h : m ∈ mvS) : (-3 ≤ m.1 ∧ m.1 ≤ 3) ∧ (-1 ≤ m.2 ∧ m.2 ≤ 1) := by
  have : ∀ x ∈ mvS, (-3 ≤ x.1 ∧ x.1 ≤ 3) ∧ (-1 ≤ x.2 ∧ x.2 ≤ 1) := by decide
  exact this m h
theorem trk_lt {l : List (Int × Int)} {p : Int} {n t : Nat} (h : t ∈ trk l p n) : t < n := by
  simp [trk] at h; exact h.1
set_option maxHeartbeats 1000000 in
theorem choices_make (s a p : Int) (A : Option Addr) (n c : Nat) (w : World) (ha : 0 ≤ a ∧ a ≤ 199) (hp : 0 ≤ p ∧ p ≤ 47) :
    Calls Tryz.prog 64 #[.agg #[.int .i64 s, .slice A n c], .agg #[.int .i16 a, .int .i8 p]] w fun e w' => ∃ Bn Bm : Nat, e = .returned (.func (.func 78) #[] #[.pointer (some ⟨Bn, 0, none⟩), .pointer (some ⟨Bm, 0, none⟩)]) ∧ w'.heap[Bn]? = some (.cells #[.int .i16 a, .int .i8 p] 59 (0, 0)) ∧ w'.heap[Bm]? = some (.cells #[.int .i64 s, .slice A n c] 93 (0, 0)) ∧ Below w.heap.size w w' := by
  obtain ⟨X, hX⟩ : ∃ X, X = (w.alloc (.cells #[.int .i64 s, .slice A n c] 93)).alloc (.cells #[.int .i16 a, .int .i8 p] 59) := ⟨_, rfl⟩
  have b0 : Below w.heap.size w X := by rw [hX]; exact ((Below.refl _ _).alloc (Nat.le_refl _) _).alloc (by simp) _
  have R1 : X.heap[w.heap.size]? = some (.cells #[.int .i64 s, .slice A n c] 93 (0, 0)) := by rw [hX]; exact heap_old' (heap_new' _ _ _ rfl)
  have R2 : X.heap[w.heap.size + 1]? = some (.cells #[.int .i16 a, .int .i8 p] 59 (0, 0)) := by rw [hX]; exact heap_new' _ _ _ (by simp)
  have c0 := cell_of_row _ _ 0 _ _ _ R2
  have c1 := cell_of_row _ _ 1 _ _ _ R2
  simp at c0 c1
  have K := needPlace_any a p X ha hp
  have H1 := hide R1
  have H2 := hide R2
  clear R1 R2
  go_enter Tryz.func64, Tryz.ntmps64
  go_upto_region 1 with fail
  rw [← hX]
  clear hX
  go_wp2_with fail
  refine K.mono ?_
  rintro e w' ⟨rfl, hb⟩
  go_wp2
  go_ret
  exact ⟨_, _, rfl, (hb.block _ (Array.getElem?_eq_some_iff.1 H2.out).1).trans H2.out, (hb.block _ (Array.getElem?_eq_some_iff.1 H1.out).1).trans H1.out, step_below hb b0⟩
end Go.Proofs.YtcepjiglhlmgdaaGreatDoor
