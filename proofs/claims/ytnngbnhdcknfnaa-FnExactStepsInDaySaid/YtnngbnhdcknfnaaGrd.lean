import Derived.Test.YtnngbnhdcknfnaaPln
namespace Go.Proofs.Ytnngbnhdcknfnaa
open Go.RowKit

theorem refuses_yes (x : Int) (w : World) : (Instr.typeAssert (.iface 128 (.agg #[.int .i64 x])) 20 125 true).run Try.prog w = .ok (.tuple #[.iface 128 (.agg #[.int .i64 x]), .bool true]) w := by kernel_rfl
theorem refuses_no (w : World) : (Instr.typeAssert .nilIface 20 125 true).run Try.prog w = .ok (.tuple #[.nilIface, .bool false]) w := by kernel_rfl
theorem code_any (x : Int) (w : World) : Calls Try.prog 117 #[.agg #[.int .i64 x]] w fun e w' => e = .returned (.int .i64 x) ∧ w' = w.alloc (.cells #[.int .i64 x] 128) := by
  go_enter Try.func117, Try.ntmps117
  go_wp2
  go_ret
  exact ⟨rfl, rfl⟩
theorem code_met (x : Int) (w : World) : (callMethod (.iface 128 (.agg #[.int .i64 x])) "loop.example/g01311/impl.code" #[]).run Try.prog w = .ok (.enter 117 #[.agg #[.int .i64 x]]) w := by kernel_rfl
theorem wpList_invoke {P : Program} {ops : Array Oper} {rest : List Oper} {o : Oper} {a : Act} {w : World} {Q : Exit → Act → World → Prop} (hg : o.guard = none) (r : Operand) (name : String) (ho : o.op = .call { callee := .invoke r name, args := #[], argTypes := #[] }) (v : Value) (hr : a.eval r = v)
    (f : FuncId) (fa : Array Value) (hm : (callMethod v name #[]).run P w = .ok (.enter f fa) w)
    (h : Calls P f fa w fun e w' => ∃ u, e = .returned u ∧ wpList P ops Q rest (a.put o.dst u) w') : wpList P ops Q (o :: rest) a w :=
  wpList_plain hg fun K hK => by
    have he : (execOp a.eval o).run P w = .ok (.enter f fa) w := by
      unfold execOp
      have e1 : (#[v] ++ Array.map a.eval #[])[0]? = some v := by simp
      have e2 : (#[v] ++ Array.map a.eval #[]).extract 1 (#[v] ++ Array.map a.eval #[]).size = #[] := by simp
      simp only [ho, resolve, invoke, hr, Sem.run_bind, Sem.run_pure, Result.andThen_ok, e1, e2]
      exact hm
    unfold Oper.wp
    rw [he, Oper.upon_enter]
    exact h.mono fun e w' ⟨u, e1, e2⟩ => by subst e1; exact hK _ _ e2
theorem catch_given (b : Nat) (y x : Int) (older : List PanicEntry) (w : World) (hc : w.cell? ⟨b, 0, none⟩ = some (.int .i64 y)) (hz : w.frozen? ⟨b, 0, none⟩ = false) :
    CallsD Try.prog 96 #[.pointer (some ⟨b, 0, none⟩)] (.panicking ({ v := .iface 128 (.agg #[.int .i64 x]), recovered := false } :: older)) w fun e u' w' =>
      e = .returned (.tuple #[]) ∧ u' = .panicking ({ v := .iface 128 (.agg #[.int .i64 x]), recovered := true } :: older) ∧ w' = (w.alloc (.cells #[.int .i64 x] 128)).setCell ⟨b, 0, none⟩ (.int .i64 x) := by
  have hl := World.block_lt_of_cell? w _ hc
  have hbw : Below w.heap.size w (w.alloc (.cells #[.int .i64 x] 128)) := (Below.refl _ _).alloc (Nat.le_refl _) _
  have hc' := (hbw.cell hl).trans hc
  have hz' := (hbw.frozen hl).trans hz
  refine callsD_of_wpS Try.func96 rfl fun c₀ cs hu => ?_
  apply wpS_seq
  apply wpS_region
  simp [wpOpsS, go_sem, recoverD, hu, Try.ntmps96, Exit.thenS, refuses_yes]
  refine wpS_seq (wpS_of_wp ?_)
  go_wp2
  simp only [Exit.thenS]
  refine wpS_cond (t := true) (by simp [Act.eval, Array.replicate]) ?_
  simp only [if_true]
  refine wpS_of_wp ?_
  simp only [Array.replicate, List.replicate, List.setIfInBounds_toArray, List.set_cons_succ, List.set_cons_zero, List.append_toArray, List.cons_append, List.nil_append]
  go_wp2_with (with_reducible refine wpList_invoke rfl (.tmp 9) "loop.example/g01311/impl.code" rfl (.iface 128 (.agg #[.int .i64 x])) rfl 117 #[.agg #[.int .i64 x]] (code_met x _) ?_; refine (code_any x _).mono ?_; rintro e w' ⟨rfl, rfl⟩; refine ⟨_, rfl, ?_⟩)
  cases c₀
  simp_all [bodyPostS, results, Try.results96]
theorem catch_none (p : Addr) (w : World) :
    CallsD Try.prog 96 #[.pointer (some p)] .returning w fun e u' w' => e = .returned (.tuple #[]) ∧ u' = .returning ∧ w' = w := by
  refine callsD_of_wpS Try.func96 rfl fun c₀ cs hu => ?_
  apply wpS_seq
  apply wpS_region
  simp [wpOpsS, go_sem, recoverD, hu, Try.ntmps96, Exit.thenS, refuses_no]
  refine wpS_seq (wpS_of_wp ?_)
  go_wp2
  simp only [Exit.thenS]
  refine wpS_cond (t := false) (by simp [Act.eval, Array.replicate]) ?_
  simp only [Bool.false_eq_true, if_false]
  refine wpS_of_wp (wp_skip ?_)
  cases c₀
  simp_all [bodyPostS, results, Try.results96]
end Go.Proofs.Ytnngbnhdcknfnaa
