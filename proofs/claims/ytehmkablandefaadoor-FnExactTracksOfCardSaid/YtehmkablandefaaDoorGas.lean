import Derived.Test.YtehmkablandefaaDoorGar
namespace Go.Proofs.YtehmkablandefaaDoor
open Go.RowKit Go.Shelf

theorem about_none {P : Program} {w : World} {ρ : Operand → Value} {o : Oper} (hnc : ∀ c, o.op ≠ .call c) : o.about P w ρ = none := by
  unfold Oper.about
  cases h : o.op <;> first | rfl | exact absurd h (hnc _)
theorem wpListIn_val {F : Fence} {n : Nat} {P : Program} {ops : Array Oper} {rest : List Oper} {op : Oper} {a : Act} {w w' : World} {Q : Exit → Act → World → Prop} (hgd : op.guard = none) (hnd : ∀ c, op.op ≠ .defer c) (hnc : ∀ c, op.op ≠ .call c) (v : Value)
    (hr : (execOp a.eval op).run P w = .ok (.value v) w') (h : wpListIn F n P ops Q rest (a.put op.dst v) w') : wpListIn F n P ops Q (op :: rest) a w :=
  wpListIn_plain hgd fun K hK => by
    refine ⟨fun f hf => ?_, ?_⟩
    · rw [about_none hnc] at hf; cases hf
    · rw [Oper.semAt_eq _ _ _ hnd, hr]
      exact hK _ _ h
theorem wpListIn_skp {F : Fence} {n : Nat} {P : Program} {ops : Array Oper} {rest : List Oper} {op : Oper} {a : Act} {w w' : World} {Q : Exit → Act → World → Prop} (hgd : op.guard = none) (hnd : ∀ c, op.op ≠ .defer c) (hnc : ∀ c, op.op ≠ .call c)
    (hr : (execOp a.eval op).run P w = .ok .skip w') (h : wpListIn F n P ops Q rest (a.put op.dst undef) w') : wpListIn F n P ops Q (op :: rest) a w :=
  wpListIn_plain hgd fun K hK => by
    refine ⟨fun f hf => ?_, ?_⟩
    · rw [about_none hnc] at hf; cases hf
    · rw [Oper.semAt_eq _ _ _ hnd, hr]
      exact hK _ _ h
theorem wpListIn_load_da {F : Fence} {n : Nat} {P : Program} {ops : Array Oper} {rest : List Oper} {op : Oper} {a : Act} {w : World} {Q : Exit → Act → World → Prop} (hgd : op.guard = none) (ty : TypeId) (x : Operand) (ho : op.op = .load ty x)
    (b o : Nat) (hx : a.eval x = .pointer (some ⟨b, o, none⟩)) (q : Nat → Int) (d : TypeDesc) (hc : w.rangeAt b o (dv q))
    (hu : P.underlying ty = some d) (hd : d.isRow = true) (hi : (P.info? ty).map (·.size) = some (dv q).length)
    (h : wpListIn F n P ops Q rest (a.put op.dst (.agg (da q))) w) : wpListIn F n P ops Q (op :: rest) a w :=
  wpListIn_val hgd (by intro c h; rw [ho] at h; cases h) (by intro c h; rw [ho] at h; cases h) (.agg (da q)) (by
    unfold execOp
    simp only [ho, hx, Instr.loadAt, Instr.sureAddr, Sem.run_bind, Sem.run_pure, Result.andThen_ok, run_loadVar_mid w b o ty (dv q) d hc hu hd hi]
    rfl) h
theorem wpListIn_store_dr {F : Fence} {n : Nat} {P : Program} {ops : Array Oper} {rest : List Oper} {op : Oper} {a : Act} {w : World} {Q : Exit → Act → World → Prop} (hgd : op.guard = none) (ty : TypeId) (x y : Operand) (ho : op.op = .store ty x y) (hdst : op.dst = none)
    (g : Nat) (r q : Nat → Int) (hx : a.eval x = .pointer (some ⟨g, 0, none⟩)) (hy : a.eval y = .agg (da q)) (t : TypeId) (hg : Dr w g t r) (hi : (P.info? ty).map (·.size) = some 96)
    (h : wpListIn F n P ops Q rest a (w.setRow g (da q))) : wpListIn F n P ops Q (op :: rest) a w :=
  wpListIn_skp hgd (by intro c h; rw [ho] at h; cases h) (by intro c h; rw [ho] at h; cases h) (by
    unfold execOp
    simp only [ho, hx, hy, Instr.storeAt, Instr.sureAddr, Sem.run_bind, Sem.run_pure, Result.andThen_ok, run_storeVar_row w g t ty (da r) (da q) hg (by rw [da_size]; exact hi) (by rw [da_size, da_size]) (da_one q)]
    rfl) (by rw [hdst]; exact h)
theorem Dr.row {w : World} {g : Nat} {t : TypeId} {r : Nat → Int} (h : Dr w g t r) (q : Nat → Int) : Dr (w.setRow g (da q)) g t q := setRow_heap _ _ _ _ _ _ h
theorem keeps_row {w : World} {g : Nat} {t : TypeId} {r : Nat → Int} (h : Dr w g t r) (q : Nat → Int) : KeepsOthers w (w.setRow g (da q)) :=
  ⟨(below_setRow (B := 0) (Below.refl _ w) (Nat.zero_le _)).size, fun k o hk ho => by
    by_cases e : k = g
    · subst e
      unfold Dr at h
      rw [h] at hk
      cases hk
      cases ho
    · rw [setRow_other _ _ _ _ e]; exact hk⟩
theorem bodyM_ret {F : Fence} {n : Nat} {P : Program} {fn : Func} {R : Ending → World → Prop} {a : Act} {w : World} {v : Value} (hr : (results fn a.tmps).run P w = .ok v w) (hd : a.defers = []) (hR : R (.returned v) w) : bodyPostM F n P fn R .ret a w := by
  show LeavesInM F n P fn a.tmps R a.defers .returning w
  rw [hd]
  exact ⟨v, hr, hR⟩
end Go.Proofs.YtehmkablandefaaDoor
namespace Go.Proofs.YtehmkablandefaaDoor
open Go.RowKit Go.Shelf
attribute [local go_sem] Oper.semAt_some

/-- a pin of a drum -/
abbrev PinOf (d : Nat → Int) := { p : Nat × Nat // p.1 < 96 ∧ p.2 < 32 ∧ pinB d p.1 p.2 = true }
theorem bit_pin {d : Nat → Int} {k t : Nat} (hd : DWF d) (hk : k < 96) (h : (d k).toNat.testBit t = true) : pinB d k t = true := by
  rw [pin_bit (hd k hk).1]; exact h
theorem map_snoc {d : Nat → Int} (pre : List (PinOf d)) (x : PinOf d) : (pre ++ [x]).map (·.1) = pre.map (·.1) ++ [x.1] := by simp

theorem pins_call (d : Nat → Int) (w : World) : Calls Tryd.prog 53 #[.agg (da d)] w fun e w' => e = .returned (.func (.func 77) #[] #[.pointer (some ⟨w.heap.size, 0, none⟩)]) ∧ w' = w.alloc (.cells (da d) 37) := by
  go_enter Tryd.func53, Tryd.ntmps53
  go_wp2
  go_ret
  exact ⟨rfl, rfl⟩

set_option maxHeartbeats 2000000 in
set_option maxRecDepth 20000 in
theorem pins_stops (n : Nat) (hn : 2 ≤ n) (Bn : Nat) (d : Nat → Int) (hd : DWF d) (w : World) (hc : Dr w Bn 37 d) (hT : TabW w) :
    SeqStopsK Fence.wide n Tryd.prog 77 #[.pointer (some ⟨Bn, 0, none⟩)] (fun x : PinOf d => #[.int .i64 x.1.1, .int .i64 x.1.2]) (fun A B => TabW A → TabW B) (fun xs => xs.map (·.1) = pinsL d) (fun pre => pre.map (·.1) <+: pinsL d) 4000 w := by
  intro l J Jx W hW hJ hJx hY h0
  have D1 := hc.keep hW
  have T1 := hT.keep hW
  have HR1 := hide D1.range
  have HI := hide (fun k hk => indexD d k hk)
  show CallsIn Fence.wide n Tryd.prog 77 #[.func (.yield l) #[] #[], .pointer (some ⟨Bn, 0, none⟩)] W _
  refine callsIn_of_wp Tryd.func77 rfl trivial ?_ rfl
  simp only [Tryd.ntmps77, List.size_toArray, List.length_cons, List.length_nil, Nat.reduceAdd, Nat.reduceSub, Array.replicate_succ, Array.replicate_zero, List.push_toArray, List.append_toArray, List.nil_append, List.cons_append]
  gi_wp2_with (with_reducible refine wpListIn_load_da rfl 37 (.tmp 1) rfl Bn 0 rfl d _ HR1.out Tryd.underlying37 rfl (dInfo d) ?_)
  gi_loopw [6] (fun i wr => ∃ (k : Nat) (pre : List (PinOf d)), k ≤ 96 ∧ i = .int .i64 k ∧ pre.map (·.1) = pinsT d k ∧ J pre wr ∧ TabW wr) (fun i _ => 96 - (intOf i).toNat)
  case atStart => exact ⟨0, [], by omega, rfl, rfl, h0, T1⟩
  case round =>
    obtain ⟨k, pre, hk, rfl, hpre, hJs, hTs⟩ := hrel
    have HP := hide hpre
    clear hpre
    by_cases hlt : k < 96
    · have hx := HI.out k hlt
      obtain ⟨x, hxe⟩ : ∃ x : Nat, d k = (x : Int) := ⟨(d k).toNat, by have := hd k hlt; omega⟩
      have hxb : x < 4294967296 := by have := hd k hlt; omega
      have HXE := hide hxe
      rw [hxe] at hx
      clear hxe
      have hk1 : (k : Int) < 96 := by omega
      have hk2 : decide ((k : Int) < 96) = true := decide_eq_true hk1
      gi_wp2
      gi_loopw [4] (fun r wq => ∃ (y : Nat) (pre' : List (PinOf d)), r = .int .u32 y ∧ y < 4294967296 ∧ (∀ t, y.testBit t = true → x.testBit t = true) ∧ pre'.map (·.1) ++ (bitsL y).map (fun t => (k, t)) = pinsT d (k + 1) ∧ J pre' wq ∧ TabW wq) (fun r _ => (intOf r).toNat)
      case atStart => exact ⟨x, pre, rfl, hxb, fun _ h => h, by rw [HP.out, pinsT_succ, HXE.out, Int.toNat_natCast], hJs, hTs⟩
      case round =>
        obtain ⟨y, pre', rfl, hy, hsub, hmap, hJ2, hT2⟩ := hrel
        by_cases h0 : y = 0
        · subst h0
          have HM := hide (show pre'.map (·.1) = pinsT d (k + 1) by simpa [bitsL_zero] using hmap)
          clear hmap hJs hTs hsub
          gi_wp2
          go_roundw
          case rel => exact ⟨k + 1, pre', hlt, by go_num, HM.out, hJ2, hT2⟩
          case measure => simp [intOf]; omega
        · obtain ⟨l1, l2, l3, l4⟩ := low_facts hy h0
          have hbl := bitsL_low hy h0
          have hlen : pre'.length < 4000 := by
            have h1 := congrArg List.length hmap
            rw [List.length_append, List.length_map] at h1
            have h2 := pinsT_len d (k + 1)
            omega
          have HTZ := hide (fun W hW => tz_any y W hy h0 hW)
          obtain ⟨t, ht⟩ : ∃ t, Lib.ctz 32 y = t := ⟨_, rfl⟩
          obtain ⟨z, hz⟩ : ∃ z, y - 1 = z := ⟨_, rfl⟩
          obtain ⟨y', hy'⟩ : ∃ y', y &&& (y - 1) = y' := ⟨_, rfl⟩
          rw [ht] at l1 l2 hbl HTZ
          rw [hy'] at l3 l4 hbl
          have hsu : ((y : Int) - 1) % 4294967296 = (z : Int) := by omega
          have han : bits .and .u32 (y : Int) (z : Int) = (y' : Int) := by rw [and_nat y z hy (by omega), ← hz, hy']
          have hpos : 0 < y := by omega
          have hyz : (z : Int) = (y : Int) - 1 := by omega
          rw [hyz] at hsu han
          have hn1 : 1 ≤ n := by omega
          have hpin : pinB d k t = true := bit_pin hd hlt (by rw [HXE.out, Int.toNat_natCast]; exact hsub t l2)
          obtain ⟨fn, tmps, assign, body, hyy, hR⟩ := hY pre' ⟨(k, t), hlt, l1, hpin⟩ _ hJ2 hlen
          dsimp only at hyy
          have HM := hide (show (pre' ++ [(⟨(k, t), hlt, l1, hpin⟩ : PinOf d)]).map (·.1) ++ (bitsL y').map (fun t => (k, t)) = pinsT d (k + 1) by rw [map_snoc, ← hmap, hbl]; simp)
          have HL := hide l4
          have HS := hide hsub
          clear hbl hmap hsub l4 ht hz hy' h0 hJ2 hJs hTs hyz hsu
          gi_wp2_with (refine ⟨trivial, ?_⟩; gi_at_call 64; refine (callsIn_wide.2 (HTZ.out _ hT2)).mono ?_; rintro e w' ⟨rfl, rfl⟩)
          refine hR.mono ?_
          clear hyy hR
          rintro e W2 (⟨rfl, hJ3, hk3⟩ | ⟨rfl, hJx3⟩)
          · have hT3 := hk3 hT2
            gi_wp2
            go_roundw
            case rel => exact ⟨y', _, by go_num, by omega, fun t h => HS.out t (HL.out t h), HM.out, hJ3, hT3⟩
            case measure => simp [intOf]; omega
          · gi_wp2
            refine bodyPost_ret (results_none rfl _ _ _) rfl ?_
            exact ⟨⟨_, rfl⟩, .inr ⟨_, (List.prefix_append _ _).trans (HM.out ▸ pinsT_prefix d (by omega)), hJx3⟩⟩
    · obtain rfl : k = 96 := by omega
      gi_wp2
      go_end0
      exact ⟨⟨_, rfl⟩, .inl ⟨pre, HP.out, hJs⟩⟩
end Go.Proofs.YtehmkablandefaaDoor
