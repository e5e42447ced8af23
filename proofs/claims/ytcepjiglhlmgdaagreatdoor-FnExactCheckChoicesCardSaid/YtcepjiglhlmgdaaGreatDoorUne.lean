import Derived.Test.YtcepjiglhlmgdaaGreatDoorCod
import Derived.Stop.IfaceNil
namespace Go.Proofs.YtcepjiglhlmgdaaGreatDoor
open Go.RowKit Go.Extern.Stop Go.Stop Go.Extern
abbrev unevenV : Value := .iface 97 (.agg #[])
theorem unevenNoIs (x : TypeId) (w : World) : (Instr.typeAssert (unevenV) x 161 true).run Tryz.prog w = .ok (.tuple #[.nilIface, .bool false]) w := run_typeAssert_lacksB Tryz.underlying161 (by kernel_rfl) (by kernel_rfl) _ x w
theorem unevenHasUn (x : TypeId) (w : World) : (Instr.typeAssert (unevenV) x 145 true).run Tryz.prog w = .ok (.tuple #[unevenV, .bool true]) w := run_typeAssert_hasB Tryz.underlying145 (by kernel_rfl) _ x w
theorem unevenMeth (k : Nat) (W : World) : (Go.method (k + 1) 97 (.agg #[]) "Unwrap").run Tryz.prog W = .ok (117, .agg #[]) W := by kernel_rfl
theorem unevenUn_any {p : Nat → Addr} (w : World) (h : ErrP p w) : Calls Tryz.prog 117 #[.agg #[]] w fun e w' => e = .returned (erV (p 1)) ∧ Below w.heap.size w w' := by
  have c1 : w.cell? ⟨gE 1, 0, none⟩ = some (erV (p 1)) := h.1 1 (by omega)
  simp only [gE] at c1
  have hb0 : Below w.heap.size w (w.alloc (.cells #[] 97)) := (Below.refl _ _).alloc (Nat.le_refl _) _
  have c2 := (hb0.cell (p := ⟨_, 0, none⟩) (World.block_lt_of_cell? _ _ c1)).trans c1
  clear h
  go_enter Tryz.func117, Tryz.ntmps117
  go_wp2
  go_ret
  exact ⟨rfl, by first | exact Below.refl _ _ | exact hb0⟩
set_option maxRecDepth 20000 in
set_option maxHeartbeats 2000000 in
theorem unevenIs_any {p : Nat → Addr} (w : World) (h : ErrP p w) (j : Nat) (hj : j < 7) (b : Bool) (hb : decide (1 = j) = b) :
    Calls Tryz.prog 45 #[unevenV, erV (p j)] w fun e w' => e = .returned (.bool b) ∧ Below w.heap.size w w' := by
  have tT := erTypeOf
  have cT := erComparable
  have mR := erMethod 311
  have nE := unevenNoIs
  have uE := unevenHasUn
  have mU := unevenMeth
  have hne1 := fun W => run_eql_iface_types (P := Tryz.prog) 97 175 (.agg #[]) (.pointer (some (p j))) Tryz.underlying67 (by decide) W
  have KI : Calls Tryz.prog 71 #[unevenV, erV (p j), .bool true] w fun e w' => e = .returned (.bool b) ∧ Below w.heap.size w w' := by
    obtain ⟨i, hi, hcmp⟩ := Option.map_eq_some_iff.1 erComp
    obtain ⟨q, hq, hqs⟩ := Option.map_eq_some_iff.1 erSize
    have nE2 := erNoIs
    have uE2 := erNoUn
    have vE2 := erNoUs
    go_enter Tryz.func71, Tryz.ntmps71
    go_wp2
    refine wp_loop_rounds 2 ?_
    rw [rounds_succ]
    go_wp2_with fail
    refine (unevenUn_any w h).mono ?_
    rintro e w2 ⟨rfl, hb2⟩
    have h2 := h.keep hb2
    by_cases he : 1 = j
    · subst he
      obtain rfl : b = true := by rw [← hb]; simp
      have heq := run_eql_iface_ptr_same (P := Tryz.prog) w2 (p 1) Tryz.underlying67 Tryz.underlying175 hi hcmp hq
      have hnn := fun W => run_eql_iface_nil (P := Tryz.prog) (w := W) 67 (by kernel_rfl) 175 (.pointer (some (p 1)))
      go_wp2
      rw [rounds_succ]
      go_wp2
      go_ret
      exact ⟨rfl, hb2⟩
    · obtain rfl : b = false := by rw [← hb]; simp [he]
      obtain ⟨c1, t1, hc1⟩ := h2.2.1 1 (by omega)
      obtain ⟨c2, t2, hc2⟩ := h2.2.1 j hj
      have heq := run_eql_iface_ptr_other (P := Tryz.prog) w2 Tryz.underlying67 Tryz.underlying175 hi hcmp hq (by rw [hqs]; decide) (h2.2.2 1 j (by omega) hj he) hc1 hc2
      have hnn := fun W => run_eql_iface_nil (P := Tryz.prog) (w := W) 67 (by kernel_rfl) 175 (.pointer (some (p 1)))
      go_wp2
      rw [rounds_succ]
      go_wp2
      go_ret
      exact ⟨rfl, hb2⟩
  go_enter Tryz.func45, Tryz.ntmps45
  go_wp2_with (go_at_call 71; refine KI.mono ?_; rintro e w' ⟨rfl, hb⟩)
  go_ret
  exact ⟨rfl, hb⟩
set_option maxRecDepth 20000 in
set_option maxHeartbeats 4000000 in
theorem codeOf_uneven {p : Nat → Addr} {w : World} (h : ErrP p w) :
    Calls Tryz.prog 26 #[unevenV] w fun e w' => e = .returned (.int .i64 2) ∧ Below w.heap.size w w' := by
  have cs : ∀ W, Below w.heap.size w W → W.cell? ⟨0, 0, none⟩ = some (erV (p 0)) ∧ W.cell? ⟨2, 0, none⟩ = some (erV (p 1)) ∧ W.cell? ⟨3, 0, none⟩ = some (erV (p 2)) ∧ W.cell? ⟨4, 0, none⟩ = some (erV (p 3)) := fun W hW => ⟨(h.keep hW).1 0 (by omega), (h.keep hW).1 1 (by omega), (h.keep hW).1 2 (by omega), (h.keep hW).1 3 (by omega)⟩
  obtain ⟨c0, c1, c2, c3⟩ := cs w (Below.refl _ _)
  go_enter Tryz.func26, Tryz.ntmps26
  go_wp2_with fail
  refine (unevenIs_any w (h.keep (Below.refl _ _)) 0 (by omega) false (by decide)).mono ?_
  rintro e w1 ⟨rfl, hb1⟩
  have b1 : Below w.heap.size w w1 := hb1
  obtain ⟨c0, c1, c2, c3⟩ := cs w1 b1
  go_wp2_with fail
  refine (unevenIs_any w1 (h.keep b1) 1 (by omega) true (by decide)).mono ?_
  rintro e w2 ⟨rfl, hb2⟩
  have b2 : Below w.heap.size w w2 := b1.trans (hb2.mono b1.size)
  obtain ⟨c0, c1, c2, c3⟩ := cs w2 b2
  go_wp2_with fail
  go_ret
  exact ⟨rfl, b2⟩
abbrev unfitV (ix : Int) : Value := .iface 71 (.agg #[.int .i64 ix])
theorem unfitNoIs (ix : Int) (x : TypeId) (w : World) : (Instr.typeAssert (unfitV ix) x 161 true).run Tryz.prog w = .ok (.tuple #[.nilIface, .bool false]) w := run_typeAssert_lacksB Tryz.underlying161 (by kernel_rfl) (by kernel_rfl) _ x w
theorem unfitHasUn (ix : Int) (x : TypeId) (w : World) : (Instr.typeAssert (unfitV ix) x 145 true).run Tryz.prog w = .ok (.tuple #[unfitV ix, .bool true]) w := run_typeAssert_hasB Tryz.underlying145 (by kernel_rfl) _ x w
theorem unfitMeth (ix : Int) (k : Nat) (W : World) : (Go.method (k + 1) 71 (.agg #[.int .i64 ix]) "Unwrap").run Tryz.prog W = .ok (113, .agg #[.int .i64 ix]) W := by kernel_rfl
theorem unfitUn_any {p : Nat → Addr} (ix : Int) (w : World) (h : ErrP p w) : Calls Tryz.prog 113 #[.agg #[.int .i64 ix]] w fun e w' => e = .returned (erV (p 3)) ∧ Below w.heap.size w w' := by
  have c1 : w.cell? ⟨gE 3, 0, none⟩ = some (erV (p 3)) := h.1 3 (by omega)
  simp only [gE] at c1
  have hb0 : Below w.heap.size w (w.alloc (.cells #[.int .i64 ix] 71)) := (Below.refl _ _).alloc (Nat.le_refl _) _
  have c2 := (hb0.cell (p := ⟨_, 0, none⟩) (World.block_lt_of_cell? _ _ c1)).trans c1
  clear h
  go_enter Tryz.func113, Tryz.ntmps113
  go_wp2
  go_ret
  exact ⟨rfl, by first | exact Below.refl _ _ | exact hb0⟩
set_option maxRecDepth 20000 in
set_option maxHeartbeats 2000000 in
theorem unfitIs_any {p : Nat → Addr} (ix : Int) (w : World) (h : ErrP p w) (j : Nat) (hj : j < 7) (b : Bool) (hb : decide (3 = j) = b) :
    Calls Tryz.prog 45 #[unfitV ix, erV (p j)] w fun e w' => e = .returned (.bool b) ∧ Below w.heap.size w w' := by
  have tT := erTypeOf
  have cT := erComparable
  have mR := erMethod 311
  have nE := unfitNoIs ix
  have uE := unfitHasUn ix
  have mU := unfitMeth ix
  have hne1 := fun W => run_eql_iface_types (P := Tryz.prog) 71 175 (.agg #[.int .i64 ix]) (.pointer (some (p j))) Tryz.underlying67 (by decide) W
  have KI : Calls Tryz.prog 71 #[unfitV ix, erV (p j), .bool true] w fun e w' => e = .returned (.bool b) ∧ Below w.heap.size w w' := by
    obtain ⟨i, hi, hcmp⟩ := Option.map_eq_some_iff.1 erComp
    obtain ⟨q, hq, hqs⟩ := Option.map_eq_some_iff.1 erSize
    have nE2 := erNoIs
    have uE2 := erNoUn
    have vE2 := erNoUs
    go_enter Tryz.func71, Tryz.ntmps71
    go_wp2
    refine wp_loop_rounds 2 ?_
    rw [rounds_succ]
    go_wp2_with fail
    refine (unfitUn_any ix w h).mono ?_
    rintro e w2 ⟨rfl, hb2⟩
    have h2 := h.keep hb2
    by_cases he : 3 = j
    · subst he
      obtain rfl : b = true := by rw [← hb]; simp
      have heq := run_eql_iface_ptr_same (P := Tryz.prog) w2 (p 3) Tryz.underlying67 Tryz.underlying175 hi hcmp hq
      have hnn := fun W => run_eql_iface_nil (P := Tryz.prog) (w := W) 67 (by kernel_rfl) 175 (.pointer (some (p 3)))
      go_wp2
      rw [rounds_succ]
      go_wp2
      go_ret
      exact ⟨rfl, hb2⟩
    · obtain rfl : b = false := by rw [← hb]; simp [he]
      obtain ⟨c1, t1, hc1⟩ := h2.2.1 3 (by omega)
      obtain ⟨c2, t2, hc2⟩ := h2.2.1 j hj
      have heq := run_eql_iface_ptr_other (P := Tryz.prog) w2 Tryz.underlying67 Tryz.underlying175 hi hcmp hq (by rw [hqs]; decide) (h2.2.2 3 j (by omega) hj he) hc1 hc2
      have hnn := fun W => run_eql_iface_nil (P := Tryz.prog) (w := W) 67 (by kernel_rfl) 175 (.pointer (some (p 3)))
      go_wp2
      rw [rounds_succ]
      go_wp2
      go_ret
      exact ⟨rfl, hb2⟩
  go_enter Tryz.func45, Tryz.ntmps45
  go_wp2_with (go_at_call 71; refine KI.mono ?_; rintro e w' ⟨rfl, hb⟩)
  go_ret
  exact ⟨rfl, hb⟩
set_option maxRecDepth 20000 in
set_option maxHeartbeats 4000000 in
theorem codeOf_unfit {p : Nat → Addr} (ix : Int) {w : World} (h : ErrP p w) :
    Calls Tryz.prog 26 #[unfitV ix] w fun e w' => e = .returned (.int .i64 4) ∧ Below w.heap.size w w' := by
  have cs : ∀ W, Below w.heap.size w W → W.cell? ⟨0, 0, none⟩ = some (erV (p 0)) ∧ W.cell? ⟨2, 0, none⟩ = some (erV (p 1)) ∧ W.cell? ⟨3, 0, none⟩ = some (erV (p 2)) ∧ W.cell? ⟨4, 0, none⟩ = some (erV (p 3)) := fun W hW => ⟨(h.keep hW).1 0 (by omega), (h.keep hW).1 1 (by omega), (h.keep hW).1 2 (by omega), (h.keep hW).1 3 (by omega)⟩
  obtain ⟨c0, c1, c2, c3⟩ := cs w (Below.refl _ _)
  go_enter Tryz.func26, Tryz.ntmps26
  go_wp2_with fail
  refine (unfitIs_any ix w (h.keep (Below.refl _ _)) 0 (by omega) false (by decide)).mono ?_
  rintro e w1 ⟨rfl, hb1⟩
  have b1 : Below w.heap.size w w1 := hb1
  obtain ⟨c0, c1, c2, c3⟩ := cs w1 b1
  go_wp2_with fail
  refine (unfitIs_any ix w1 (h.keep b1) 1 (by omega) false (by decide)).mono ?_
  rintro e w2 ⟨rfl, hb2⟩
  have b2 : Below w.heap.size w w2 := b1.trans (hb2.mono b1.size)
  obtain ⟨c0, c1, c2, c3⟩ := cs w2 b2
  go_wp2_with fail
  refine (unfitIs_any ix w2 (h.keep b2) 2 (by omega) false (by decide)).mono ?_
  rintro e w3 ⟨rfl, hb3⟩
  have b3 : Below w.heap.size w w3 := b2.trans (hb3.mono b2.size)
  obtain ⟨c0, c1, c2, c3⟩ := cs w3 b3
  go_wp2_with fail
  refine (unfitIs_any ix w3 (h.keep b3) 3 (by omega) true (by decide)).mono ?_
  rintro e w4 ⟨rfl, hb4⟩
  have b4 : Below w.heap.size w w4 := b3.trans (hb4.mono b3.size)
  obtain ⟨c0, c1, c2, c3⟩ := cs w4 b4
  go_wp2_with fail
  go_ret
  exact ⟨rfl, b4⟩
end Go.Proofs.YtcepjiglhlmgdaaGreatDoor
