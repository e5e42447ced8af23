import Derived.Test.YtmmninlnpnhboaaGreatDoorGan
import Derived.Test.YtmmninlnpnhboaaGreatDoorGaj
import Derived.Test.YtmmninlnpnhboaaGreatDoorGae
import Derived.Test.YtmmninlnpnhboaaGreatDoorGam
import Derived.Test.YtmmninlnpnhboaaGreatDoorCho
import Derived.IntWalk
import Derived.Deep.RegionHeld3
import Derived.Deep.CutRange
namespace Go.Proofs.YtmmninlnpnhboaaGreatDoor
open Go.RowKit

theorem isPlace_any (a p : Int) (w : World) :
    Calls Tryz.prog 99 #[.int .i64 a, .int .i64 p] w fun e w' => e = .returned (.bool (noteB a p)) ∧ w = w' := by
  go_enter Tryz.func99, Tryz.ntmps99
  go_wp2_with (go_at_call 69; refine (within_any _ _ _ _).mono ?_; rintro e w' ⟨rfl, rfl⟩)
  all_goals go_ret
  all_goals exact ⟨ret_bool (by simp_all [inB, noteB] <;> omega), rfl⟩
theorem isShort_any (A : Option Addr) (n c : Nat) (hn : n ≤ 1048576) (w : World) :
    Calls Tryz.prog 73 #[.slice A n c] w fun e w' => e = .returned (.bool (decide (n ≤ 120))) ∧ w = w' := by
  go_enter Tryz.func73, Tryz.ntmps73
  go_wp2
  go_ret
  exact ⟨ret_bool (decide_eq_decide.2 (by omega)), rfl⟩

def rangeB (l : List (Int × Int)) : Bool := (List.range l.length).all fun j => noteB (nAt l j) (nPi l j)
def InRange (l : List (Int × Int)) (k : Nat) : Prop := ∀ j, j < k → noteB (nAt l j) (nPi l j) = true
theorem rangeB_yes (l : List (Int × Int)) (h : InRange l l.length) : rangeB l = true := by
  simp only [rangeB, List.all_eq_true, List.mem_range]; exact h
theorem rangeB_no (l : List (Int × Int)) (k : Nat) (hk : k < l.length) (h : noteB (nAt l k) (nPi l k) = false) : rangeB l = false := by
  unfold rangeB
  rw [List.all_eq_false]
  exact ⟨k, List.mem_range.2 hk, by simp [h]⟩
theorem InRange_succ (l : List (Int × Int)) (k : Nat) (h : InRange l k) (h' : noteB (nAt l k) (nPi l k) = true) : InRange l (k + 1) := fun j hj => by
  rcases Nat.lt_or_ge j k with h1 | h1
  · exact h j h1
  · rw [show j = k by omega]; exact h'

set_option maxHeartbeats 400000 in
theorem isInRange_any (A : Option Addr) (c : Nat) (l : List (Int × Int)) (w : World) (hA : NA w A l) (hn : l.length ≤ 1048576) (hwf : WF l) :
    Calls Tryz.prog 74 #[.slice A l.length c] w (Says (rangeB l) w) := by
  go_enter Tryz.func74, Tryz.ntmps74
  go_wp2_with fail
  go_loopw [7] (fun i wr => ∃ k : Nat, k ≤ l.length ∧ i = .int .i64 k ∧ InRange l k ∧ Below w.heap.size w wr)
    (fun i _ => l.length - (intOf i).toNat)
  case atStart =>
    exact ⟨0, Nat.zero_le _, rfl, fun j hj => absurd hj (Nat.not_lt_zero _), Below.refl _ _⟩
  case round =>
    obtain ⟨k, hk, rfl, hG, hb⟩ := hrel
    have HG := hide hG
    clear hG
    by_cases hlt : k < l.length
    · obtain ⟨b, o, rfl, hbb, c1, c2⟩ := hA k hlt
      have d1 := (hb.cell (p := ⟨b, o + k * 2, none⟩) hbb).trans c1
      have d2 := (hb.cell (p := ⟨b, o + k * 2 + 1, none⟩) hbb).trans c2
      have hs := hb.size
      obtain ⟨⟨e1, e2⟩, e3, e4⟩ := hwf k hlt
      clear c1 c2 hA hwf
      have hb2 := (hb.alloc hs (.cells #[.int .i16 (nAt l k), .int .i8 (nPi l k)] 65))
      go_wp2_with (go_at_call 99; refine (isPlace_any _ _ _).mono ?_; rintro e w' ⟨rfl, rfl⟩)
      · go_ret
        exact ⟨ret_bool (rangeB_no l k hlt (by simpa using ‹(!noteB (nAt l k) (nPi l k)) = true›)).symm, hb2⟩
      · go_roundw
        case rel => exact ⟨k + 1, hlt, by go_num, InRange_succ l k HG.out (by simpa using ‹(!noteB (nAt l k) (nPi l k)) = false›), hb2⟩
        case measure => simp [intOf]; omega
    · obtain rfl : k = l.length := by omega
      go_wp2
      go_ret
      exact ⟨ret_bool (by rw [rangeB_yes l HG.out]), hb⟩

def ascB (l : List (Int × Int)) : Bool := (List.range l.length).all fun j => decide (j = 0) || befB (nAt l (j - 1)) (nPi l (j - 1)) (nAt l j) (nPi l j)
def Asc (l : List (Int × Int)) (k : Nat) : Prop := ∀ j, j < k → 0 < j → befB (nAt l (j - 1)) (nPi l (j - 1)) (nAt l j) (nPi l j) = true
theorem ascB_yes (l : List (Int × Int)) (h : Asc l l.length) : ascB l = true := by
  simp only [ascB, List.all_eq_true, List.mem_range]
  intro j hj
  rcases Nat.eq_zero_or_pos j with h0 | h0
  · simp [h0]
  · simp [h j hj h0]
theorem ascB_no (l : List (Int × Int)) (k : Nat) (hk : k < l.length) (h0 : 0 < k) (h : befB (nAt l (k - 1)) (nPi l (k - 1)) (nAt l k) (nPi l k) = false) : ascB l = false := by
  unfold ascB
  rw [List.all_eq_false]
  exact ⟨k, List.mem_range.2 hk, by simp [h]; omega⟩
theorem Asc_succ (l : List (Int × Int)) (k : Nat) (h : Asc l k) (h' : befB (nAt l (k - 1)) (nPi l (k - 1)) (nAt l k) (nPi l k) = true) : Asc l (k + 1) := fun j hj h0 => by
  rcases Nat.lt_or_ge j k with h1 | h1
  · exact h j h1 h0
  · rw [show j = k by omega]; exact h'

set_option maxHeartbeats 400000 in
theorem ascends_any (A : Option Addr) (c : Nat) (l : List (Int × Int)) (w : World) (hA : NA w A l) (hn : l.length ≤ 1048576) :
    Calls Tryz.prog 75 #[.slice A l.length c] w (Says (ascB l) w) := by
  go_enter Tryz.func75, Tryz.ntmps75
  go_wp2_with fail
  go_loopw [3] (fun i wr => ∃ k : Nat, 0 < k ∧ k ≤ l.length + 1 ∧ i = .int .i64 k ∧ Asc l k ∧ Below w.heap.size w wr)
    (fun i _ => l.length + 1 - (intOf i).toNat)
  case atStart =>
    exact ⟨1, by omega, by omega, rfl, fun j hj h0 => absurd hj (by omega), Below.refl _ _⟩
  case round =>
    obtain ⟨k, hk0, hk, rfl, hG, hb⟩ := hrel
    have HG := hide hG
    clear hG
    by_cases hlt : k < l.length
    · obtain ⟨b, o, rfl, hbb, c1, c2⟩ := hA k hlt
      have d1 := Later.cell ((hb.cell (p := ⟨b, o + k * 2, none⟩) hbb).trans c1)
      have d2 := Later.cell ((hb.cell (p := ⟨b, o + k * 2 + 1, none⟩) hbb).trans c2)
      obtain ⟨b', o', e', hbb', c3, c4⟩ := hA (k - 1) (by omega)
      obtain ⟨rfl, rfl⟩ : b' = b ∧ o' = o := by simpa [eq_comm] using e'
      have d3 := Later.cell ((hb.cell (p := ⟨b', o' + (k - 1) * 2, none⟩) hbb').trans c3)
      have d4 := Later.cell ((hb.cell (p := ⟨b', o' + (k - 1) * 2 + 1, none⟩) hbb').trans c4)
      have hs := hb.size
      clear c1 c2 c3 c4 e' hA
      go_wp2_with fail
      refine wp_region_later (by kernel_rfl) (by kernel_rfl) ?_
      repeat (go_big_quiet_step ((go_at_call 95; exact Later.call (compareNotes_any _ _ _ _ _))))
      refine wpQuiet_nil ?_
      rintro _ ⟨⟨wq, hq⟩, rfl⟩
      have ho := ordI_neg (nAt l (k - 1)) (nPi l (k - 1)) (nAt l k) (nPi l k)
      have Ho := hide ho
      clear ho
      go_wp2
      · go_ret
        have h1 : 0 ≤ ordI (nAt l (k - 1)) (nPi l (k - 1)) (nAt l k) (nPi l k) := by assumption
        refine ⟨ret_bool (ascB_no l k hlt hk0 ?_).symm, hb.trans (hq.mono hs)⟩
        cases hh : befB (nAt l (k - 1)) (nPi l (k - 1)) (nAt l k) (nPi l k)
        · rfl
        · have := Ho.out.2 hh; omega
      · have h1 : ordI (nAt l (k - 1)) (nPi l (k - 1)) (nAt l k) (nPi l k) < 0 := by omega
        go_roundw
        case rel => exact ⟨k + 1, by omega, by omega, by go_num, Asc_succ l k HG.out (Ho.out.1 h1), hb.trans (hq.mono hs)⟩
        case measure => simp [intOf]; omega
    · go_wp2
      go_ret
      exact ⟨ret_bool (by rw [ascB_yes l (fun j hj => HG.out j (by omega))]), hb⟩
end Go.Proofs.YtmmninlnpnhboaaGreatDoor
namespace Go.Proofs.YtmmninlnpnhboaaGreatDoor
open Go.RowKit
theorem info_nb : (Tryz.prog.info? 65).map (·.size) = some 2 := by kernel_rfl
theorem info_nb2 (a b : Value) : (Tryz.prog.info? 65).map (·.size) = some (#[a, b] : Array Value).size := by kernel_rfl
theorem sz_nb2 (a b c d : Value) : (#[a, b] : Array Value).size = (#[c, d] : Array Value).size := rfl
theorem one_nb2 (a b : Int) : (#[.int .i16 a, .int .i8 b] : Array Value).all (·.oneCell') = true := by simp [Value.oneCell']
theorem results_nb {fn : Func} {p : Tmp} (h : fn.results = #[.cell p 65]) (tmps : Array Value) (w : World) (g : Nat) (t : TypeId) (cs : Array Value) (hi : cs.size = 2)
    (hp : tmps.getD p undef = .pointer (some ⟨g, 0, none⟩)) (hg : w.heap[g]? = some (.cells cs t (0, 0))) :
    (results fn tmps).run Tryz.prog w = .ok (.agg cs) w := by
  have hp' : tmps[p]?.getD undef = .pointer (some ⟨g, 0, none⟩) := by simpa using hp
  simp [results, h, hp', asAddr, run_loadVar_row w g t 65 cs (0, 0) _ hg Tryz.underlying65 rfl (by rw [hi]; exact info_nb)]
set_option maxHeartbeats 1000000 in
/-- the note that comes of a note by a choice -/
theorem noteBy_any (a p : Int) (xa : Bool) (xl xo xt : Int) (w : World) (ha : 0 ≤ a ∧ a ≤ 199) (hp : 0 ≤ p ∧ p ≤ 47) (hl : -3 ≤ xl ∧ xl ≤ 3) (ho : -1 ≤ xo ∧ xo ≤ 1) :
    Calls Tryz.prog 80 #[.agg #[.int .i16 a, .int .i8 p], .agg #[.bool xa, .int .i8 xl, .int .i8 xo, .int .i8 xt]] w fun e w' => e = .returned (.agg #[.int .i16 (a + xl), .int .i8 (p + 12 * xo)]) ∧ Below w.heap.size w w' := by
  have w1 : IntKind.i16.wrap xl = xl := IntWalk.i16_in _ (by omega)
  have w2 : IntKind.i16.wrap (a + xl) = a + xl := IntWalk.i16_in _ (by omega)
  have w3 : IntKind.i8.wrap (12 * xo) = 12 * xo := by simp [IntKind.wrap, IntKind.signed, IntKind.bits]; omega
  have w4 : IntKind.i8.wrap (p + 12 * xo) = p + 12 * xo := by simp [IntKind.wrap, IntKind.signed, IntKind.bits]; omega
  obtain ⟨X, hX⟩ : ∃ X, X = ((w.alloc (.cells #[.int .i16 a, .int .i8 p] 65)).alloc (.cells #[.bool xa, .int .i8 xl, .int .i8 xo, .int .i8 xt] 69)).alloc (.cells #[.int .i16 0, .int .i8 0] 65) := ⟨_, rfl⟩
  have b0 : Below w.heap.size w X := by rw [hX]; exact (((Below.refl _ _).alloc (Nat.le_refl _) _).alloc (by simp) _).alloc (by simp; omega) _
  have R1 : X.heap[w.heap.size]? = some (.cells #[.int .i16 a, .int .i8 p] 65 (0, 0)) := by rw [hX]; exact heap_old' (heap_old' (heap_new' _ _ _ rfl))
  have R2 : X.heap[w.heap.size + 1]? = some (.cells #[.bool xa, .int .i8 xl, .int .i8 xo, .int .i8 xt] 69 (0, 0)) := by rw [hX]; exact heap_old' (heap_new' _ _ _ (by simp))
  have c0 := cell_of_row _ _ 0 _ _ _ R1
  have c1 := cell_of_row _ _ 1 _ _ _ R1
  have d1 := cell_of_row _ _ 1 _ _ _ R2
  have d2 := cell_of_row _ _ 2 _ _ _ R2
  simp at c0 c1 d1 d2
  have HN := hide (show X.heap[w.heap.size + 1 + 1]? = some (.cells #[.int .i16 0, .int .i8 0] 65 (0, 0)) by rw [hX]; exact heap_new' _ _ _ (by simp))
  clear R1 R2
  go_enter Tryz.func80, Tryz.ntmps80
  go_upto_region 1 with fail
  rw [← hX]
  clear hX
  go_wp2_with (with_reducible refine wpList_store_row rfl 65 (.tmp 4) (.tmp 17) rfl (w.heap.size + 1 + 1) #[.int .i16 (a + xl), .int .i8 (p + 12 * xo)] rfl rfl 65 _ HN.out (info_nb2 _ _) (sz_nb2 _ _ _ _) (one_nb2 _ _) ?_)
  exact bodyPost_ret (v := .agg #[.int .i16 (a + xl), .int .i8 (p + 12 * xo)]) (results_nb Tryz.results80 _ _ (w.heap.size + 1 + 1) 65 _ rfl (by simp [Act.put]) (setRow_heap _ _ _ _ _ _ HN.out)) rfl ⟨rfl, below_setRow b0 (by omega)⟩
set_option maxHeartbeats 1000000 in
theorem needPlace_any (a p : Int) (w : World) (ha : 0 ≤ a ∧ a ≤ 199) (hp : 0 ≤ p ∧ p ≤ 47) :
    Calls Tryz.prog 101 #[.agg #[.int .i16 a, .int .i8 p]] w fun e w' => e = .returned (.tuple #[]) ∧ Below w.heap.size w w' := by
  have b0 : Below w.heap.size w (w.alloc (.cells #[.int .i16 a, .int .i8 p] 65)) := (Below.refl _ _).alloc (Nat.le_refl _) _
  have w1 : IntKind.i64.wrap a = a := IntWalk.i64_in _ (by omega)
  have w2 : IntKind.i64.wrap p = p := IntWalk.i64_in _ (by omega)
  have hN : noteB a p = true := by simp [noteB]; omega
  have K := fun W => isPlace_any a p W
  rw [hN] at K
  go_enter Tryz.func101, Tryz.ntmps101
  go_wp2_with (go_at_call 99; refine (K _).mono ?_; rintro e w' ⟨rfl, rfl⟩)
  go_end0
  exact ⟨rfl, b0⟩
/-- the choices of a note, in their order -/
def chR (s : Int) (l : List (Int × Int)) (a p : Int) (mv : Int × Int) : List (Bool × Int × Int × Int) := if inB (a + mv.1) 0 (s - 1) = true then (trk l (p + 12 * mv.2) l.length).map fun t : Nat => (false, mv.1, mv.2, (t : Int)) else []
def chF (s : Int) (l : List (Int × Int)) (a p : Int) (ms : List (Int × Int)) : List (Bool × Int × Int × Int) := ms.flatMap (chR s l a p)
def chS (s : Int) (l : List (Int × Int)) (a p : Int) : List (Bool × Int × Int × Int) := chF s l a p mvS ++ [(true, 0, 0, 0)]
def chE (x : Bool × Int × Int × Int) : Array Value := #[.agg #[.bool x.1, .int .i8 x.2.1, .int .i8 x.2.2.1, .int .i8 x.2.2.2]]
theorem chF_snoc (s : Int) (l : List (Int × Int)) (a p : Int) (ms : List (Int × Int)) (m : Int × Int) : chF s l a p (ms ++ [m]) = chF s l a p ms ++ chR s l a p m := by simp [chF]
theorem chF_pre {s : Int} {l : List (Int × Int)} {a p : Int} {ms : List (Int × Int)} {m : Int × Int} (h : ms ++ [m] <+: mvS) : chF s l a p ms ++ chR s l a p m <+: chS s l a p := by
  obtain ⟨r, hr⟩ := h
  refine ⟨chF s l a p r ++ [(true, 0, 0, 0)], ?_⟩
  rw [← chF_snoc, chS, ← hr]
  simp [chF, List.flatMap_append]
theorem mvS_in {m : Int × Int} (h : m ∈ mvS) : (-3 ≤ m.1 ∧ m.1 ≤ 3) ∧ (-1 ≤ m.2 ∧ m.2 ≤ 1) := by
  have : ∀ x ∈ mvS, (-3 ≤ x.1 ∧ x.1 ≤ 3) ∧ (-1 ≤ x.2 ∧ x.2 ≤ 1) := by decide
  exact this m h
theorem trk_lt {l : List (Int × Int)} {p : Int} {n t : Nat} (h : t ∈ trk l p n) : t < n := by
  simp [trk] at h; exact h.1
set_option maxHeartbeats 1000000 in
theorem choices_make (s a p : Int) (A : Option Addr) (n c : Nat) (w : World) (ha : 0 ≤ a ∧ a ≤ 199) (hp : 0 ≤ p ∧ p ≤ 47) :
    Calls Tryz.prog 79 #[.agg #[.int .i64 s, .slice A n c], .agg #[.int .i16 a, .int .i8 p]] w fun e w' => ∃ Bn Bm : Nat, e = .returned (.func (.func 102) #[] #[.pointer (some ⟨Bn, 0, none⟩), .pointer (some ⟨Bm, 0, none⟩)]) ∧ w'.heap[Bn]? = some (.cells #[.int .i16 a, .int .i8 p] 65 (0, 0)) ∧ w'.heap[Bm]? = some (.cells #[.int .i64 s, .slice A n c] 100 (0, 0)) ∧ Below w.heap.size w w' := by
  obtain ⟨X, hX⟩ : ∃ X, X = (w.alloc (.cells #[.int .i64 s, .slice A n c] 100)).alloc (.cells #[.int .i16 a, .int .i8 p] 65) := ⟨_, rfl⟩
  have b0 : Below w.heap.size w X := by rw [hX]; exact ((Below.refl _ _).alloc (Nat.le_refl _) _).alloc (by simp) _
  have R1 : X.heap[w.heap.size]? = some (.cells #[.int .i64 s, .slice A n c] 100 (0, 0)) := by rw [hX]; exact heap_old' (heap_new' _ _ _ rfl)
  have R2 : X.heap[w.heap.size + 1]? = some (.cells #[.int .i16 a, .int .i8 p] 65 (0, 0)) := by rw [hX]; exact heap_new' _ _ _ (by simp)
  have c0 := cell_of_row _ _ 0 _ _ _ R2
  have c1 := cell_of_row _ _ 1 _ _ _ R2
  simp at c0 c1
  have K := needPlace_any a p X ha hp
  have H1 := hide R1
  have H2 := hide R2
  clear R1 R2
  go_enter Tryz.func79, Tryz.ntmps79
  go_upto_region 1 with fail
  rw [← hX]
  clear hX
  go_wp2_with fail
  refine K.mono ?_
  rintro e w' ⟨rfl, hb⟩
  go_wp2
  go_ret
  exact ⟨_, _, rfl, (hb.block _ (Array.getElem?_eq_some_iff.1 H2.out).1).trans H2.out, (hb.block _ (Array.getElem?_eq_some_iff.1 H1.out).1).trans H1.out, step_below hb b0⟩
end Go.Proofs.YtmmninlnpnhboaaGreatDoor
