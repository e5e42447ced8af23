import Derived.Test.YtheoopbgbglmdaaDoorCod
import Derived.Stop.IfaceNil
namespace Go.Proofs.YtheoopbgbglmdaaDoor
open Go.RowKit Go.Extern.Stop Go.Stop Go.Extern
abbrev noNoteV (na np : Int) : Value := .iface 86 (.agg #[.int .i16 na, .int .i8 np])
theorem noNoteNoIs (na np : Int) (x : TypeId) (w : World) : (Instr.typeAssert (noNoteV na np) x 121 true).run Tryd.prog w = .ok (.tuple #[.nilIface, .bool false]) w := run_typeAssert_lacksB Tryd.underlying121 (by kernel_rfl) (by kernel_rfl) _ x w
theorem noNoteHasUn (na np : Int) (x : TypeId) (w : World) : (Instr.typeAssert (noNoteV na np) x 124 true).run Tryd.prog w = .ok (.tuple #[noNoteV na np, .bool true]) w := run_typeAssert_hasB Tryd.underlying124 (by kernel_rfl) _ x w
theorem noNoteMeth (na np : Int) (k : Nat) (W : World) : (Go.method (k + 1) 86 (.agg #[.int .i16 na, .int .i8 np]) "Unwrap").run Tryd.prog W = .ok (82, .agg #[.int .i16 na, .int .i8 np]) W := by kernel_rfl
theorem noNoteUn_any {p : Nat → Addr} (na np : Int) (w : World) (h : ErrP p w) : Calls Tryd.prog 82 #[.agg #[.int .i16 na, .int .i8 np]] w fun e w' => e = .returned (erV (p 0)) ∧ Below w.heap.size w w' := by
  have c1 : w.cell? ⟨gE 0, 0, none⟩ = some (erV (p 0)) := h.1 0 (by omega)
  simp only [gE] at c1
  have hb0 : Below w.heap.size w (w.alloc (.cells #[.int .i16 na, .int .i8 np] 86)) := (Below.refl _ _).alloc (Nat.le_refl _) _
  have c2 := (hb0.cell (p := ⟨_, 0, none⟩) (World.block_lt_of_cell? _ _ c1)).trans c1
  clear h
  go_enter Tryd.func82, Tryd.ntmps82
  go_wp2
  go_ret
  exact ⟨rfl, by first | exact Below.refl _ _ | exact hb0⟩
set_option maxRecDepth 20000 in
set_option maxHeartbeats 2000000 in
theorem noNoteIs_any {p : Nat → Addr} (na np : Int) (w : World) (h : ErrP p w) (j : Nat) (hj : j < 7) (b : Bool) (hb : decide (0 = j) = b) :
    Calls Tryd.prog 56 #[noNoteV na np, erV (p j)] w fun e w' => e = .returned (.bool b) ∧ Below w.heap.size w w' := by
  have tT := erTypeOf
  have cT := erComparable
  have mR := erMethod 269
  have nE := noNoteNoIs na np
  have uE := noNoteHasUn na np
  have mU := noNoteMeth na np
  have hne1 := fun W => run_eql_iface_types (P := Tryd.prog) 86 129 (.agg #[.int .i16 na, .int .i8 np]) (.pointer (some (p j))) Tryd.underlying56 (by decide) W
  have KI : Calls Tryd.prog 61 #[noNoteV na np, erV (p j), .bool true] w fun e w' => e = .returned (.bool b) ∧ Below w.heap.size w w' := by
    obtain ⟨i, hi, hcmp⟩ := Option.map_eq_some_iff.1 erComp
    obtain ⟨q, hq, hqs⟩ := Option.map_eq_some_iff.1 erSize
    have nE2 := erNoIs
    have uE2 := erNoUn
    have vE2 := erNoUs
    go_enter Tryd.func61, Tryd.ntmps61
    go_wp2
    refine wp_loop_rounds 2 ?_
    rw [rounds_succ]
    go_wp2_with fail
    refine (noNoteUn_any na np w h).mono ?_
    rintro e w2 ⟨rfl, hb2⟩
    have h2 := h.keep hb2
    by_cases he : 0 = j
    · subst he
      obtain rfl : b = true := by rw [← hb]; simp
      have heq := run_eql_iface_ptr_same (P := Tryd.prog) w2 (p 0) Tryd.underlying56 Tryd.underlying129 hi hcmp hq
      have hnn := fun W => run_eql_iface_nil (P := Tryd.prog) (w := W) 56 (by kernel_rfl) 129 (.pointer (some (p 0)))
      go_wp2
      rw [rounds_succ]
      go_wp2
      go_ret
      exact ⟨rfl, hb2⟩
    · obtain rfl : b = false := by rw [← hb]; simp [he]
      obtain ⟨c1, t1, hc1⟩ := h2.2.1 0 (by omega)
      obtain ⟨c2, t2, hc2⟩ := h2.2.1 j hj
      have heq := run_eql_iface_ptr_other (P := Tryd.prog) w2 Tryd.underlying56 Tryd.underlying129 hi hcmp hq (by rw [hqs]; decide) (h2.2.2 0 j (by omega) hj he) hc1 hc2
      have hnn := fun W => run_eql_iface_nil (P := Tryd.prog) (w := W) 56 (by kernel_rfl) 129 (.pointer (some (p 0)))
      go_wp2
      rw [rounds_succ]
      go_wp2
      go_ret
      exact ⟨rfl, hb2⟩
  go_enter Tryd.func56, Tryd.ntmps56
  go_wp2_with (go_at_call 61; refine KI.mono ?_; rintro e w' ⟨rfl, hb⟩)
  go_ret
  exact ⟨rfl, hb⟩
set_option maxRecDepth 20000 in
set_option maxHeartbeats 4000000 in
theorem codeOf_noNote {p : Nat → Addr} (na np : Int) {w : World} (h : ErrP p w) :
    Calls Tryd.prog 40 #[noNoteV na np] w fun e w' => e = .returned (.int .i64 1) ∧ Below w.heap.size w w' := by
  have cs : ∀ W, Below w.heap.size w W → W.cell? ⟨0, 0, none⟩ = some (erV (p 0)) ∧ W.cell? ⟨2, 0, none⟩ = some (erV (p 1)) ∧ W.cell? ⟨3, 0, none⟩ = some (erV (p 2)) ∧ W.cell? ⟨1, 0, none⟩ = some (erV (p 3)) := fun W hW => ⟨(h.keep hW).1 0 (by omega), (h.keep hW).1 1 (by omega), (h.keep hW).1 2 (by omega), (h.keep hW).1 3 (by omega)⟩
  obtain ⟨c0, c1, c2, c3⟩ := cs w (Below.refl _ _)
  go_enter Tryd.func40, Tryd.ntmps40
  go_wp2_with fail
  refine (noNoteIs_any na np w (h.keep (Below.refl _ _)) 0 (by omega) true (by decide)).mono ?_
  rintro e w1 ⟨rfl, hb1⟩
  have b1 : Below w.heap.size w w1 := hb1
  obtain ⟨c0, c1, c2, c3⟩ := cs w1 b1
  go_wp2_with fail
  go_ret
  exact ⟨rfl, b1⟩
end Go.Proofs.YtheoopbgbglmdaaDoor
