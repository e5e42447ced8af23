import Derived.Test.YtcepjiglhlmgdaaDoorTz
namespace Go.Proofs.YtcepjiglhlmgdaaDoor
open Go.RowKit Go.Shelf

theorem about_none {P : Program} {w : World} {ρ : Operand → Value} {o : Oper} (hnc : ∀ c, o.op ≠ .call c) : o.about P w ρ = none := by
  unfold Oper.about
  cases h : o.op <;> first | rfl | exact absurd h (hnc _)
theorem wpListIn_val {F : Fence} {n : Nat} {P : Program} {ops : Array Oper} {rest : List Oper} {op : Oper} {a : Act} {w w' : World} {Q : Exit → Act → World → Prop} (hgd : op.guard = none) (hnd : ∀ c, op.op ≠ .defer c) (hnc : ∀ c, op.op ≠ .call c) (v : Value)
    (hr : (execOp a.eval op).run P w = .ok (.value v) w') (h : wpListIn F n P ops Q rest (a.put op.dst v) w') : wpListIn F n P ops Q (op :: rest) a w :=
  wpListIn_plain hgd fun K hK => by
    refine ⟨fun f hf => ?_, ?_⟩
    · rw [about_none hnc] at hf; cases hf
    · rw [Oper.semAt_eq _ _ _ hnd, hr]
      exact hK _ _ h
theorem wpListIn_skp {F : Fence} {n : Nat} {P : Program} {ops : Array Oper} {rest : List Oper} {op : Oper} {a : Act} {w w' : World} {Q : Exit → Act → World → Prop} (hgd : op.guard = none) (hnd : ∀ c, op.op ≠ .defer c) (hnc : ∀ c, op.op ≠ .call c)
    (hr : (execOp a.eval op).run P w = .ok .skip w') (h : wpListIn F n P ops Q rest (a.put op.dst undef) w') : wpListIn F n P ops Q (op :: rest) a w :=
  wpListIn_plain hgd fun K hK => by
    refine ⟨fun f hf => ?_, ?_⟩
    · rw [about_none hnc] at hf; cases hf
    · rw [Oper.semAt_eq _ _ _ hnd, hr]
      exact hK _ _ h
theorem wpListIn_load_da {F : Fence} {n : Nat} {P : Program} {ops : Array Oper} {rest : List Oper} {op : Oper} {a : Act} {w : World} {Q : Exit → Act → World → Prop} (hgd : op.guard = none) (ty : TypeId) (x : Operand) (ho : op.op = .load ty x)
    (b o : Nat) (hx : a.eval x = .pointer (some ⟨b, o, none⟩)) (q : Nat → Int) (d : TypeDesc) (hc : w.rangeAt b o (dv q))
    (hu : P.underlying ty = some d) (hd : d.isRow = true) (hi : (P.info? ty).map (·.size) = some (dv q).length)
    (h : wpListIn F n P ops Q rest (a.put op.dst (.agg (da q))) w) : wpListIn F n P ops Q (op :: rest) a w :=
  wpListIn_val hgd (by intro c h; rw [ho] at h; cases h) (by intro c h; rw [ho] at h; cases h) (.agg (da q)) (by
    unfold execOp
    simp only [ho, hx, Instr.loadAt, Instr.sureAddr, Sem.run_bind, Sem.run_pure, Result.andThen_ok, run_loadVar_mid w b o ty (dv q) d hc hu hd hi]
    rfl) h
theorem wpListIn_store_dr {F : Fence} {n : Nat} {P : Program} {ops : Array Oper} {rest : List Oper} {op : Oper} {a : Act} {w : World} {Q : Exit → Act → World → Prop} (hgd : op.guard = none) (ty : TypeId) (x y : Operand) (ho : op.op = .store ty x y) (hdst : op.dst = none)
    (g : Nat) (r q : Nat → Int) (hx : a.eval x = .pointer (some ⟨g, 0, none⟩)) (hy : a.eval y = .agg (da q)) (t : TypeId) (hg : Dr w g t r) (hi : (P.info? ty).map (·.size) = some 96)
    (h : wpListIn F n P ops Q rest a (w.setRow g (da q))) : wpListIn F n P ops Q (op :: rest) a w :=
  wpListIn_skp hgd (by intro c h; rw [ho] at h; cases h) (by intro c h; rw [ho] at h; cases h) (by
    unfold execOp
    simp only [ho, hx, hy, Instr.storeAt, Instr.sureAddr, Sem.run_bind, Sem.run_pure, Result.andThen_ok, run_storeVar_row w g t ty (da r) (da q) hg (by rw [da_size]; exact hi) (by rw [da_size, da_size]) (da_one q)]
    rfl) (by rw [hdst]; exact h)
theorem Dr.row {w : World} {g : Nat} {t : TypeId} {r : Nat → Int} (h : Dr w g t r) (q : Nat → Int) : Dr (w.setRow g (da q)) g t q := setRow_heap _ _ _ _ _ _ h
theorem keeps_row {w : World} {g : Nat} {t : TypeId} {r : Nat → Int} (h : Dr w g t r) (q : Nat → Int) : KeepsOthers w (w.setRow g (da q)) :=
  ⟨(below_setRow (B := 0) (Below.refl _ w) (Nat.zero_le _)).size, fun k o hk ho => by
    by_cases e : k = g
    · subst e
      unfold Dr at h
      rw [h] at hk
      cases hk
      cases ho
    · rw [setRow_other _ _ _ _ e]; exact hk⟩
theorem bodyM_ret {F : Fence} {n : Nat} {P : Program} {fn : Func} {R : Ending → World → Prop} {a : Act} {w : World} {v : Value} (hr : (results fn a.tmps).run P w = .ok v w) (hd : a.defers = []) (hR : R (.returned v) w) : bodyPostM F n P fn R .ret a w := by
  show LeavesInM F n P fn a.tmps R a.defers .returning w
  rw [hd]
  exact ⟨v, hr, hR⟩
end Go.Proofs.YtcepjiglhlmgdaaDoor
