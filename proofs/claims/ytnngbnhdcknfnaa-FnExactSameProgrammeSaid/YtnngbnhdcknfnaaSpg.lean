import Derived.Test.YtnngbnhdcknfnaaPrg
import Derived.Test.YtnngbnhdcknfnaaPok
import Derived.Maps.Own
import Derived.Maps.OwnOps
import Derived.ProofKit
namespace Go.Proofs.Ytnngbnhdcknfnaa
open Go.RowKit Go.Maps
theorem Try.laidO : laidOutB Try.prog = true := by kernel_rfl
theorem keyTypeO : Try.prog.keyType 28 = true := by kernel_rfl
theorem rowO : (28 : TypeId) < Try.prog.types.size := of_decide_eq_true (by kernel_rfl)
theorem lawO : Keyed Try.prog 28 := Keyed.of_law (deep_law_laid Try.laidO (m := 2) (by omega) rowO (by kernel_rfl) (by kernel_rfl))
theorem cellsO : Try.prog.cellsOf 28 = 48 := by kernel_rfl
theorem cellsI8 : Try.prog.cellsOf 27 = 1 := by kernel_rfl
theorem o48_take (d : Nat → Int) (i : Nat) (h : i < 48) : ((o48 d).drop (i * 1)).take 1 = [.int .i8 (d i)] := by
  rw [Nat.mul_one]
  apply List.ext_getElem?
  intro j
  cases j with
  | zero => simp [o48_get d i h]
  | succ j => simp [o48_length]; omega
theorem typesO : ∃ d, Try.prog.types.size + 1 = d + 1 + 1 := ⟨Try.prog.types.size - 1, by have h : (28 : Nat) < Try.prog.types.size := rowO; omega⟩
theorem keyLits_ord (q : Nat → Int) (hq : OWF q) (d : Nat) : ∃ L, Try.prog.keyLits (d + 1 + 1) 28 (o48 q) = some L := by
  have h1 : ∀ i ∈ List.range 48, Try.prog.keyLits (d + 1) 27 (((o48 q).drop (i * Try.prog.cellsOf 27)).take (Try.prog.cellsOf 27)) = some [.int .i8 (q i)] := by
    intro i hi
    have hi' : i < 48 := List.mem_range.1 hi
    obtain ⟨a, b⟩ := hq i hi'
    rw [cellsI8, o48_take q i hi']
    have hw : (Lit.int .i8 (q i)).wf = true := by simp [Lit.wf, IntKind.min, IntKind.max, IntKind.signed, IntKind.bits]; omega
    simp [Program.keyLits, Try.underlying27, hw]
  refine ⟨((List.range 48).map fun i => [.int .i8 (q i)]).flatten, ?_⟩
  unfold Program.keyLits
  rw [Try.underlying28]
  simp only [o48_length, cellsO, if_true]
  rw [mapM_all _ (fun i => [Lit.int .i8 (q i)]) _ h1]
  rfl
theorem key_ord (q : Nat → Int) (hq : OWF q) : ∃ s, keyOf Try.prog 28 (.agg (oa q)) = some (.string s) := by
  obtain ⟨d, hd⟩ := typesO
  have hf : (Value.agg (oa q)).formed Try.prog 28 = true := by simp [Value.formed, Try.underlying28, cellsO, oa_size]
  obtain ⟨L, hL⟩ := keyLits_ord q hq d
  refine ⟨keyBytes L, ?_⟩
  unfold keyOf
  rw [hd, Try.underlying28]
  simp only [keyTypeO, hf, Bool.and_self, if_true, Value.cells]
  rw [show (oa q).toList = o48 q from rfl, hL]
  rfl
theorem oa_inj {p q : Nat → Int} (h : oa p = oa q) (i : Nat) (hi : i < 48) : p i = q i := by
  have h1 := o48_get p i hi
  have h2 := o48_get q i hi
  rw [show o48 p = o48 q from congrArg Array.toList h] at h1
  rw [h1] at h2
  simpa using h2
def sameO (p q : Nat → Int) : Bool := (List.range 48).all fun i => decide (p i = q i)
theorem sameO_iff (p q : Nat → Int) : sameO p q = true ↔ oa p = oa q := by
  simp only [sameO, List.all_eq_true, List.mem_range, decide_eq_true_eq]
  exact ⟨fun h => by unfold oa; rw [o48_congr h], fun h i hi => oa_inj h i hi⟩
theorem eqOrd (p q : Nat → Int) (hp : OWF p) (hq : OWF q) (w : World) : (Op.equalIn 10000 28 (.agg (oa p)) (.agg (oa q))).run Try.prog w = .ok (sameO p q) w := by
  obtain ⟨s, hs⟩ := key_ord p hp
  obtain ⟨t, ht⟩ := key_ord q hq
  obtain ⟨r, hr, hiff⟩ := run_equal_deep (P := Try.prog) w (m := 2) (by omega) (k := 28) (by kernel_rfl) (by kernel_rfl) hs ht
  have e : r = sameO p q := by
    rw [Bool.eq_iff_iff, hiff, sameO_iff]
    constructor
    · intro h
      rw [h] at hs
      have := lawO.inj hs ht
      simp only [Value.agg.injEq] at this
      exact this
    · intro h
      rw [h, ht] at hs
      exact (Option.some.inj hs).symm
  rw [← e]
  exact hr
theorem run_neq_sec (a p b q : Int) (w : World) : (Go.binOp .neq 90 (.agg #[.int .i16 a, .int .i16 p]) (.agg #[.int .i16 b, .int .i16 q])).run Try.prog w = .ok (.bool (!decide (a = b ∧ p = q))) w := by
  simp [go_sem]
  by_cases h : a = b <;> by_cases h' : p = q <;> simp [h, h']
set_option maxHeartbeats 400000 in
theorem slicesEqualSec_any (A B : Option Addr) (c d : Nat) (l m : List (Int × Int)) (w : World) (hA : SecA w A l) (hB : SecA w B m) (hn : l.length ≤ 1048576) (_hm : m.length ≤ 1048576) :
    Calls Try.prog 60 #[.slice A l.length c, .slice B m.length d] w (Says (sameB l m) w) := by
  by_cases hlm : l.length = m.length
  · have HL := hide hlm
    have H1 : ((l.length : Int) != (m.length : Int)) = false := by simp [hlm]
    have H2 : (l.length != m.length) = false := by simp [hlm]
    clear hlm
    go_enter Try.func60, Try.ntmps60
    go_wp2_with fail
    go_loopw [13] (fun i wr => ∃ k : Nat, k ≤ l.length ∧ i = .int .i64 k ∧ (∀ j, j < k → secF l j = secF m j ∧ secS l j = secS m j) ∧ Below w.heap.size w wr)
      (fun i _ => l.length - (intOf i).toNat)
    case atStart =>
      exact ⟨0, Nat.zero_le _, rfl, fun j hj => absurd hj (Nat.not_lt_zero _), Below.refl _ _⟩
    case round =>
      obtain ⟨k, hk, rfl, hG, hb⟩ := hrel
      have HG := hide hG
      clear hG
      by_cases hlt : k < l.length
      · have hlt2 : k < m.length := by rw [← HL.out]; exact hlt
        obtain ⟨b, o, rfl, hbb, c1, c2⟩ := hA k hlt
        obtain ⟨b', o', rfl, hbb', c3, c4⟩ := hB k hlt2
        have d1 := Later.cell ((hb.cell (p := ⟨b, o + k * 2, none⟩) hbb).trans c1)
        have d2 := Later.cell ((hb.cell (p := ⟨b, o + k * 2 + 1, none⟩) hbb).trans c2)
        have d3 := Later.cell ((hb.cell (p := ⟨b', o' + k * 2, none⟩) hbb').trans c3)
        have d4 := Later.cell ((hb.cell (p := ⟨b', o' + k * 2 + 1, none⟩) hbb').trans c4)
        have hs := hb.size
        have hne := fun v => run_neq_sec (secF l k) (secS l k) (secF m k) (secS m k) v
        clear c1 c2 c3 c4 hA hB
        by_cases he : secF l k = secF m k ∧ secS l k = secS m k
        · have HE := hide he
          rw [decide_eq_true he, Bool.not_true] at hne
          clear he
          go_wp2_with fail
          refine wp_region_later (by kernel_rfl) (by kernel_rfl) ?_
          repeat (go_big_quiet_step (fail))
          refine wpQuiet_nil ?_
          rintro _ ⟨⟨wq, hq⟩, rfl⟩
          go_wp2
          go_roundw
          case rel => exact ⟨k + 1, by omega, by go_num, fun j hj => by
            rcases Nat.lt_or_ge j k with h1 | h1
            · exact HG.out j h1
            · rw [show j = k by omega]; exact HE.out, hb.trans (hq.mono hs)⟩
          case measure => simp [intOf]; omega
        · have HE := hide he
          rw [decide_eq_false he, Bool.not_false] at hne
          clear he
          go_wp2_with fail
          refine wp_region_later (by kernel_rfl) (by kernel_rfl) ?_
          repeat (go_big_quiet_step (fail))
          refine wpQuiet_nil ?_
          rintro _ ⟨⟨wq, hq⟩, rfl⟩
          go_wp2
          go_ret
          exact ⟨ret_bool (secsame_not l m k HE.out).symm, hb.trans (hq.mono hs)⟩
      · obtain rfl : k = l.length := by omega
        go_wp2
        go_ret
        exact ⟨ret_bool (secsame_of l m HL.out HG.out).symm, hb⟩
  · have H1 : ((l.length : Int) != (m.length : Int)) = true := by simp; omega
    have H2 : (l.length != m.length) = true := by simpa using hlm
    have HL := hide hlm
    clear hlm
    go_enter Try.func60, Try.ntmps60
    go_wp2
    go_ret
    exact ⟨ret_bool (decide_eq_false fun e => HL.out (by rw [e])).symm, Below.refl _ _⟩


/-- two programmes are deeply equal -/
def sameP (l m : List (Int × Int)) (o q : Nat → Int) : Bool := sameO o q && sameB l m
set_option maxRecDepth 20000 in
set_option maxHeartbeats 2000000 in
theorem implSameProgramme_any (A : Option Addr) (c : Nat) (l : List (Int × Int)) (o : Nat → Int) (B : Option Addr) (d : Nat) (m : List (Int × Int)) (q : Nat → Int) (w : World) (hA : SecA w A l) (hn : l.length ≤ 1048576) (hswf : SWF l) (howf : OWF o) (hB : SecA w B m) (hm : m.length ≤ 1048576) (hswf2 : SWF m) (howf2 : OWF q) :
    Calls Try.prog 22 #[.agg (prA A l.length c o), .agg (prA B m.length d q)] w (Says (sameP l m o q) w) := by
  obtain ⟨X, hX⟩ : ∃ X, X = (w.alloc (.cells (prA A l.length c o) 40)).alloc (.cells (prA B m.length d q) 40) := ⟨_, rfl⟩
  have hb0 : Below w.heap.size w X := by rw [hX]; exact ((Below.refl _ _).alloc (Nat.le_refl _) _).alloc (by simp) _
  have P0 : Bk X w.heap.size 40 (prA A l.length c o) := by rw [hX]; exact (Bk.new _ _ _ rfl).old _
  have P1 : Bk X (w.heap.size + 1) 40 (prA B m.length d q) := by rw [hX]; exact Bk.new _ _ _ (by simp)
  have HR0 := hide P0.order
  have HR1 := hide P1.order
  have HE := hide (fun W => eqOrd o q howf howf2 W)
  have c0 := P0.slice
  have c1 := P1.slice
  go_enter Try.func22, Try.ntmps22
  go_upto_region 1 with fail
  rw [← hX]
  clear hX
  cases ho : sameO o q
  · have HS := hide (show sameP l m o q = false by simp [sameP, ho])
    have hEQ := HE.out
    simp only [ho] at hEQ
    clear ho
    go_wp2_with (first | (with_reducible refine wpList_load_oa rfl (.tmp 5) rfl w.heap.size 1 rfl o HR0.out ?_) | (with_reducible refine wpList_load_oa rfl (.tmp 7) rfl (w.heap.size + 1) 1 rfl q HR1.out ?_))
    go_ret
    rw [HS.out]
    exact ⟨rfl, hb0⟩
  · have HS := hide (show sameP l m o q = sameB l m by simp [sameP, ho])
    have hEQ := HE.out
    simp only [ho] at hEQ
    clear ho
    go_wp2_with (first | (with_reducible refine wpList_load_oa rfl (.tmp 5) rfl w.heap.size 1 rfl o HR0.out ?_) | (with_reducible refine wpList_load_oa rfl (.tmp 7) rfl (w.heap.size + 1) 1 rfl q HR1.out ?_))
    refine (slicesEqualSec_any A B c d l m _ (hA.below hb0) (hB.below hb0) hn hm).mono ?_
    rintro e w1 ⟨rfl, hb1⟩
    go_wp2
    go_ret
    rw [HS.out]
    exact ⟨rfl, step_below hb1 hb0⟩
set_option maxRecDepth 20000 in
set_option maxHeartbeats 2000000 in
theorem specSameProgramme_any (A : Option Addr) (c : Nat) (l : List (Int × Int)) (o : Nat → Int) (B : Option Addr) (d : Nat) (m : List (Int × Int)) (q : Nat → Int) (w : World) (hA : SecA w A l) (hn : l.length ≤ 1048576) (hswf : SWF l) (howf : OWF o) (hB : SecA w B m) (hm : m.length ≤ 1048576) (hswf2 : SWF m) (howf2 : OWF q) :
    Calls Try.prog 21 #[.agg (prA A l.length c o), .agg (prA B m.length d q)] w (Says (sameP l m o q) w) := by
  obtain ⟨X, hX⟩ : ∃ X, X = (w.alloc (.cells (prA A l.length c o) 40)).alloc (.cells (prA B m.length d q) 40) := ⟨_, rfl⟩
  have hb0 : Below w.heap.size w X := by rw [hX]; exact ((Below.refl _ _).alloc (Nat.le_refl _) _).alloc (by simp) _
  have P0 : Bk X w.heap.size 40 (prA A l.length c o) := by rw [hX]; exact (Bk.new _ _ _ rfl).old _
  have P1 : Bk X (w.heap.size + 1) 40 (prA B m.length d q) := by rw [hX]; exact Bk.new _ _ _ (by simp)
  have HR0 := hide P0.order
  have HR1 := hide P1.order
  have HE := hide (fun W => eqOrd o q howf howf2 W)
  have c0 := P0.slice
  have c1 := P1.slice
  go_enter Try.func21, Try.ntmps21
  go_upto_region 1 with fail
  rw [← hX]
  clear hX
  cases ho : sameO o q
  · have HS := hide (show sameP l m o q = false by simp [sameP, ho])
    have hEQ := HE.out
    simp only [ho] at hEQ
    clear ho
    go_wp2_with (first | (with_reducible refine wpList_load_oa rfl (.tmp 6) rfl w.heap.size 1 rfl o HR0.out ?_) | (with_reducible refine wpList_load_oa rfl (.tmp 8) rfl (w.heap.size + 1) 1 rfl q HR1.out ?_))
    go_ret
    rw [HS.out]
    exact ⟨rfl, hb0⟩
  have HS := hide (show sameP l m o q = sameB l m by simp [sameP, ho])
  have hEQ := HE.out
  simp only [ho] at hEQ
  clear ho
  by_cases hlm : l.length = m.length
  · have HL := hide hlm
    have H1 : ((l.length : Int) != (m.length : Int)) = false := by simp [hlm]
    have H2 : (l.length != m.length) = false := by simp [hlm]
    clear hlm
    go_wp2_with (first | (with_reducible refine wpList_load_oa rfl (.tmp 6) rfl w.heap.size 1 rfl o HR0.out ?_) | (with_reducible refine wpList_load_oa rfl (.tmp 8) rfl (w.heap.size + 1) 1 rfl q HR1.out ?_))
    clear hEQ c0 c1 H1 H2
    go_loopw [5] (fun i wr => ∃ k : Nat, k ≤ l.length ∧ i = .int .i64 k ∧ (∀ j, j < k → secF l j = secF m j ∧ secS l j = secS m j) ∧ Below X.heap.size X wr)
      (fun i _ => l.length - (intOf i).toNat)
    case atStart =>
      exact ⟨0, Nat.zero_le _, rfl, fun j hj => absurd hj (Nat.not_lt_zero _), Below.refl _ _⟩
    case round =>
      obtain ⟨k, hk, rfl, hG, hb⟩ := hrel
      have HG := hide hG
      clear hG
      have c0 := (P0.keep hb).slice
      by_cases hlt : k < l.length
      · have hlt2 : k < m.length := by rw [← HL.out]; exact hlt
        obtain ⟨b, o', rfl, hbb, c1, c2⟩ := (hA.below hb0) k hlt
        obtain ⟨b', o'', rfl, hbb', c3, c4⟩ := (hB.below hb0) k hlt2
        have d0 := Later.cell c0
        have d5 := Later.cell (P1.keep hb).slice
        have d1 := Later.cell ((hb.cell (p := ⟨b, o' + k * 2, none⟩) hbb).trans c1)
        have d2 := Later.cell ((hb.cell (p := ⟨b, o' + k * 2 + 1, none⟩) hbb).trans c2)
        have d3 := Later.cell ((hb.cell (p := ⟨b', o'' + k * 2, none⟩) hbb').trans c3)
        have d4 := Later.cell ((hb.cell (p := ⟨b', o'' + k * 2 + 1, none⟩) hbb').trans c4)
        have hs := hb.size
        have hne := fun v => run_neq_sec (secF l k) (secS l k) (secF m k) (secS m k) v
        clear c1 c2 c3 c4 hA hB
        by_cases he : secF l k = secF m k ∧ secS l k = secS m k
        · have HE2 := hide he
          rw [decide_eq_true he, Bool.not_true] at hne
          clear he
          go_wp2_with fail
          refine wp_region_later (by kernel_rfl) (by kernel_rfl) ?_
          repeat (go_big_quiet_step (fail))
          refine wpQuiet_nil ?_
          rintro _ ⟨⟨wq, hq⟩, rfl⟩
          go_wp2
          go_roundw
          case rel => exact ⟨k + 1, by omega, by go_num, fun j hj => by
            rcases Nat.lt_or_ge j k with h1 | h1
            · exact HG.out j h1
            · rw [show j = k by omega]; exact HE2.out, hb.trans (hq.mono hs)⟩
          case measure => simp [intOf]; omega
        · have HE2 := hide he
          rw [decide_eq_false he, Bool.not_false] at hne
          clear he
          go_wp2_with fail
          refine wp_region_later (by kernel_rfl) (by kernel_rfl) ?_
          repeat (go_big_quiet_step (fail))
          refine wpQuiet_nil ?_
          rintro _ ⟨⟨wq, hq⟩, rfl⟩
          go_wp2
          go_ret
          rw [HS.out, secsame_not l m k HE2.out]
          exact ⟨rfl, hb0.trans ((hb.trans (hq.mono hs)).mono hb0.size)⟩
      · obtain rfl : k = l.length := by omega
        go_wp2
        go_ret
        rw [HS.out, secsame_of l m HL.out HG.out]
        exact ⟨rfl, hb0.trans (hb.mono hb0.size)⟩
  · have H1 : ((l.length : Int) != (m.length : Int)) = true := by simp; omega
    have H2 : (l.length != m.length) = true := by simpa using hlm
    have HL := hide hlm
    clear hlm
    go_wp2_with (first | (with_reducible refine wpList_load_oa rfl (.tmp 6) rfl w.heap.size 1 rfl o HR0.out ?_) | (with_reducible refine wpList_load_oa rfl (.tmp 8) rfl (w.heap.size + 1) 1 rfl q HR1.out ?_))
    go_ret
    rw [HS.out, show sameB l m = false from decide_eq_false fun e => HL.out (by rw [e])]
    exact ⟨rfl, hb0⟩
end Go.Proofs.Ytnngbnhdcknfnaa
