import Derived.Test.YtcepjiglhlmgdaaGreatDoorChq
import Derived.Test.YtcepjiglhlmgdaaGreatDoorGan
namespace Go.Proofs.YtcepjiglhlmgdaaGreatDoor
open Go.RowKit Go.Shelf
attribute [local go_sem] Oper.semAt_some
theorem results_cellB {fn : Func} {p : Tmp} (h : fn.results = #[.cell p 4]) {tmps : Array Value} {w : World} {b1 : Nat} {x : Bool}
    (hp : tmps.getD p undef = .pointer (some ⟨b1, 0, none⟩)) (c1 : Boxed w b1 4 (.bool x)) :
    (results fn tmps).run Tryz.prog w = .ok (.bool x) w := by
  have d1 := c1.cell
  rw [Array.getD_eq_getD_getElem?] at hp
  simp [results, h, hp, go_sem, d1]
theorem bx_put' {W : World} {b l : Nat} {t : TypeId} {v : Value} (o' : Obj) (h : Boxed W b t v) (hl : b ≠ l) : Boxed (W.putObj l o') b t v := (World.putObj_heap_other hl).trans h
set_option maxHeartbeats 2000000 in
set_option maxRecDepth 20000 in
theorem offers_any (s a p : Int) (A : Option Addr) (c : Nat) (hl : List (Int × Int)) (x : Bool × Int × Int × Int) (w : World) (ha : 0 ≤ a ∧ a ≤ 199) (hp : 0 ≤ p ∧ p ≤ 47) (hs : 2 ≤ s ∧ s ≤ 96) (hA : HA w A hl) (hn : hl.length ≤ 24) (hg : HG s hl hl.length) :
    Calls Tryz.prog 39 #[.agg #[.int .i64 s, .slice A hl.length c], .agg #[.int .i16 a, .int .i8 p], .agg #[.bool x.1, .int .i8 x.2.1, .int .i8 x.2.2.1, .int .i8 x.2.2.2]] w (Says (decide (x ∈ chS s hl a p)) w) := by
  obtain ⟨X, hX⟩ : ∃ X, X = (((w.alloc (.cells #[.int .i64 s, .slice A hl.length c] 93)).alloc (.cells #[.int .i16 a, .int .i8 p] 59)).alloc (.cells #[.bool x.1, .int .i8 x.2.1, .int .i8 x.2.2.1, .int .i8 x.2.2.2] 63)).alloc (.cells #[.bool false] 4) := ⟨_, rfl⟩
  have b0 : Below w.heap.size w X := by rw [hX]; exact ((((Below.refl _ _).alloc (Nat.le_refl _) _).alloc (by simp) _).alloc (by simp; omega) _).alloc (by simp; omega) _
  have R1 : X.heap[w.heap.size]? = some (.cells #[.int .i64 s, .slice A hl.length c] 93 (0, 0)) := by rw [hX]; exact heap_old' (heap_old' (heap_old' (heap_new' _ _ _ rfl)))
  have R2 : X.heap[w.heap.size + 1]? = some (.cells #[.int .i16 a, .int .i8 p] 59 (0, 0)) := by rw [hX]; exact heap_old' (heap_old' (heap_new' _ _ _ (by simp)))
  have R3 : X.heap[w.heap.size + 1 + 1]? = some (.cells #[.bool x.1, .int .i8 x.2.1, .int .i8 x.2.2.1, .int .i8 x.2.2.2] 63 (0, 0)) := by rw [hX]; exact heap_old' (heap_new' _ _ _ (by simp))
  have R4 : Boxed X (w.heap.size + 1 + 1 + 1) 4 (.bool false) := by rw [hX]; exact heap_new' _ _ _ (by simp)
  have m0 := cell_of_row _ _ 0 _ _ _ R1
  have m1 := cell_of_row _ _ 1 _ _ _ R1
  have n0 := cell_of_row _ _ 0 _ _ _ R2
  have n1 := cell_of_row _ _ 1 _ _ _ R2
  simp at m0 m1 n0 n1
  have HX := hide hX
  have hnd : ∀ q : Nat, Fence.wide.depth.isSome = true → 1 ≤ q := fun q h => by simp [Fence.wide] at h
  clear hX
  refine (callsIn_wide (n := 5)).1 ?_
  refine callsIn_of_wp_marks Tryz.func39 rfl trivial ?_ rfl
  simp only [Tryz.ntmps39, List.size_toArray, List.length_cons, List.length_nil, Nat.reduceAdd, Nat.reduceSub, Array.replicate_succ, Array.replicate_zero, List.push_toArray, List.append_toArray, List.nil_append, List.cons_append]
  refine wpIn_wide.2 ?_
  go_upto_region 1 with fail
  rw [← HX.out]
  go_wp2_with fail
  refine (choices_make s a p A hl.length c X ha hp).mono ?_
  rintro e W ⟨Bn, Bm, rfl, hN, hM, hb⟩
  go_wp2_with fail
  have bW := step_below hb b0
  have A1 := hA.below bW
  have R3' := (hb.block _ (Array.getElem?_eq_some_iff.1 R3).1).trans R3
  have R4' := bxk R4 hb
  have r4 := bxlt R4'
  have r3 := (Array.getElem?_eq_some_iff.1 R3').1
  clear HX m0 m1 n0 n1 R1 R2 R3 R4 hA hb b0
  refine (wpIn_wide (n := 5)).1 ?_
  refine wpIn_q (gf := 78) (lb := #[.pointer (some ⟨Bn, 0, none⟩), .pointer (some ⟨Bm, 0, none⟩)]) rfl (enters_of Tryz.func78 (by kernel_rfl) rfl) (choices_q s a p A c hl Bn Bm W ha hp hs A1 hn hg hN hM) (Below.refl _ _) (fun _ => rfl)
    (fun pre => ∀ y ∈ pre, y ≠ x) (fun y hy => absurd hy (by simp)) (fun c pre V => (c = .ret ∧ x ∈ pre) ∧ Boxed V (w.heap.size + 1 + 1 + 1) 4 (.bool true) ∧ Below w.heap.size w V)
    (fun c => (low_pure _ (fun pre => c = .ret ∧ x ∈ pre)).and ((low_boxed r4).and (low_below.mono bW.size)))
    (fun B1 y a' V => ∃ Bx, B1 ≤ Bx ∧ V.heap[Bx]? = some (.cells #[.bool y.1, .int .i8 y.2.1, .int .i8 y.2.2.1, .int .i8 y.2.2.2] 63 (0, 0)) ∧ a' = { tmps := #[.agg #[.int .i64 s, .slice A hl.length c], .agg #[.int .i16 a, .int .i8 p], .agg #[.bool x.1, .int .i8 x.2.1, .int .i8 x.2.2.1, .int .i8 x.2.2.2], .pointer (some ⟨w.heap.size, 0, none⟩), .pointer (some ⟨w.heap.size + 1, 0, none⟩), .pointer (some ⟨w.heap.size + 1 + 1, 0, none⟩), .pointer (some ⟨w.heap.size + 1 + 1 + 1, 0, none⟩), .pointer (some ⟨Bx, 0, none⟩), .agg #[.int .i64 s, .slice A hl.length c], .agg #[.int .i16 a, .int .i8 p], .func (.func 78) #[] #[.pointer (some ⟨Bn, 0, none⟩), .pointer (some ⟨Bm, 0, none⟩)], .agg #[.bool y.1, .int .i8 y.2.1, .int .i8 y.2.2.1, .int .i8 y.2.2.2], undef, undef, undef], defers := [] })
    (fun B1 x a' _ s V V' row hs hg hr => by
      obtain ⟨Bx, h1, h2, h3⟩ := hs
      exact ⟨Bx, h1, own_cells () V V' row h2 hg hr, h3⟩)
    ?assign ?body ?done ?stop
  case assign =>
    intro m r pre y V K hT hB hK
    dsimp only [chE]
    gi_wp2
    exact hK _ _ ((Below.refl _ V).alloc (Nat.le_refl _) _) ⟨V.heap.size, Nat.le_refl _, heap_alloc_new _ _, rfl⟩
  case body =>
    rintro m r pre y B1 a' V hlr hlB hB1 hr hpre hT hB ⟨Bx, hBx, bX, rfl⟩
    have R3V := (hB.block _ r3).trans R3'
    have R4V := bxk R4' hB
    have x0 := cell_of_row _ _ 0 _ _ _ R3V
    have x1 := cell_of_row _ _ 1 _ _ _ R3V
    have x2 := cell_of_row _ _ 2 _ _ _ R3V
    have x3 := cell_of_row _ _ 3 _ _ _ R3V
    have y0 := cell_of_row _ _ 0 _ _ _ bX
    have y1 := cell_of_row _ _ 1 _ _ _ bX
    have y2 := cell_of_row _ _ 2 _ _ _ bX
    have y3 := cell_of_row _ _ 3 _ _ _ bX
    simp at x0 x1 x2 x3 y0 y1 y2 y3
    have f4 := R4V.frozen
    have c4 := R4V.cell
    by_cases hyx : y = x
    · subst hyx
      gi_wp2
      exact ⟨(KeepsOthers.setCell V _ _).from _, ⟨rfl, by simp⟩, R4V.set _, (bW.trans (hB.mono bW.size)).setCell (p := ⟨_, 0, none⟩) (by dsimp only; omega) _⟩
    · have HT := hide (show ∀ z ∈ pre ++ [y], z ≠ x from fun z hz => by
        rcases List.mem_append.1 hz with h | h
        · exact hT z h
        · rw [List.mem_singleton] at h; rw [h]; exact hyx)
      gi_wp2
      · refine (hyx ?_).elim
        rcases y with ⟨q0, q1, q2, q3⟩
        rcases x with ⟨r0, r1, r2, r3⟩
        simp_all
      all_goals exact ⟨KeepsFrom.refl _ _, Below.refl _ _, HT.out⟩
  case done =>
    intro D U hD hT1 hU hK
    have R4U := bxk R4' hU
    have f4 := R4U.frozen
    have c4 := R4U.cell
    have hno : decide (x ∈ chS s hl a p) = false := decide_eq_false fun h => hT1 x h rfl
    have HK := hide (((Below.heap_setCell U ⟨w.heap.size + 1 + 1 + 1, 0, none⟩ (.bool false) D (by dsimp only; omega))).trans hK)
    go_wp2_with fail
    refine ⟨by simp, .inl ⟨_, _, rfl, run_takeDeferred HK.out, ?_⟩⟩
    refine ⟨_, results_cellB rfl rfl (bx_put' _ (R4U.set (.bool false)) (by omega)), by rw [hno], ?_⟩
    exact low_putObj _ ((bW.trans (hU.mono bW.size)).setCell (p := ⟨_, 0, none⟩) (by dsimp only; omega) _) (Nat.le_refl _) (by omega)
  case stop =>
    rintro D c pre U hD hpre ⟨⟨rfl, hx⟩, h1, h2⟩ hK
    have hyes : decide (x ∈ chS s hl a p) = true := decide_eq_true (hpre.subset hx)
    gi_wp2
    refine ⟨by simp, .inl ⟨_, _, rfl, run_takeDeferred hK, ?_⟩⟩
    refine ⟨_, results_cellB rfl rfl (bx_put' _ h1 (by omega)), by rw [hyes], ?_⟩
    exact low_putObj _ h2 (Nat.le_refl _) (by omega)
end Go.Proofs.YtcepjiglhlmgdaaGreatDoor
namespace Go.Proofs.YtcepjiglhlmgdaaGreatDoor
open Go.RowKit

/-- how many bits are set -/
def pc (x : Nat) : Nat := if h : x = 0 then 0 else x % 2 + pc (x / 2)
termination_by x
decreasing_by omega
theorem pc_zero : pc 0 = 0 := by unfold pc; simp
theorem pc_step (x : Nat) : pc x = x % 2 + pc (x / 2) := by
  by_cases h : x = 0
  · subst h; simp [pc_zero]
  · conv => lhs; unfold pc
    rw [dif_neg h]
theorem pc_le (x : Nat) : pc x ≤ x := by
  induction x using Nat.strongRecOn with
  | ind x ih =>
    by_cases h : x = 0
    · subst h; simp [pc_zero]
    · rw [pc_step]
      have := ih (x / 2) (by omega)
      omega
theorem pc_byte (a b : Nat) (hb : b < 256) : pc (256 * a + b) = pc a + pc b := by
  have step : ∀ (n m c : Nat), pc (2 * n * m + c) = c % 2 + pc (n * m + c / 2) := by
    intro n m c
    rw [pc_step]
    have h1 : (2 * n * m + c) % 2 = c % 2 := by rw [Nat.mul_assoc]; omega
    have h2 : (2 * n * m + c) / 2 = n * m + c / 2 := by rw [Nat.mul_assoc]; omega
    rw [h1, h2]
  have e : ∀ n c, pc (256 * n + c) = c % 2 + (c / 2 % 2 + (c / 2 / 2 % 2 + (c / 2 / 2 / 2 % 2 + (c / 2 / 2 / 2 / 2 % 2 + (c / 2 / 2 / 2 / 2 / 2 % 2 + (c / 2 / 2 / 2 / 2 / 2 / 2 % 2 + (c / 2 / 2 / 2 / 2 / 2 / 2 / 2 % 2 + pc (n + c / 2 / 2 / 2 / 2 / 2 / 2 / 2 / 2)))))))) := by
    intro n c
    rw [step 128 n c, step 64 n, step 32 n, step 16 n, step 8 n, step 4 n, step 2 n, step 1 n, Nat.one_mul]
  have e0 := e a b
  have e1 := e 0 b
  have hz : b / 2 / 2 / 2 / 2 / 2 / 2 / 2 / 2 = 0 := by omega
  rw [hz] at e0 e1
  rw [Nat.mul_zero, Nat.zero_add, Nat.zero_add, pc_zero] at e1
  rw [Nat.add_zero] at e0
  omega

/-- the bits of a byte -/
def pb (v : Nat) : Nat := v % 2 + (v / 2 % 2 + (v / 4 % 2 + (v / 8 % 2 + (v / 16 % 2 + (v / 32 % 2 + (v / 64 % 2 + v / 128 % 2))))))
theorem pc_pb (v : Nat) (h : v < 256) : pc v = pb v := by
  rw [pc_step v, pc_step (v / 2), pc_step (v / 2 / 2), pc_step (v / 2 / 2 / 2), pc_step (v / 2 / 2 / 2 / 2), pc_step (v / 2 / 2 / 2 / 2 / 2), pc_step (v / 2 / 2 / 2 / 2 / 2 / 2), pc_step (v / 2 / 2 / 2 / 2 / 2 / 2 / 2), show v / 2 / 2 / 2 / 2 / 2 / 2 / 2 / 2 = 0 by omega, pc_zero]
  unfold pb
  omega
theorem pb_le (v : Nat) : pb v ≤ 8 := by unfold pb; omega
def tabL : List Nat := (List.range 256).map pb
theorem tab_get (S : ByteArray) (hS : S.data.toList.map UInt8.toNat = tabL) (v : Nat) (hv : v < 256) : ∃ b, S[v]? = some b ∧ b.toNat = pc v := by
  have hl : S.data.toList.length = 256 := by have := congrArg List.length hS; simpa [tabL] using this
  have h1 : v < S.data.toList.length := by omega
  have h2 : v < S.size := by simpa using h1
  refine ⟨S[v], getElem?_pos S v h2, ?_⟩
  have h3 : (S.data.toList.map UInt8.toNat)[v]? = some (pb v) := by rw [hS]; simp [tabL, hv]
  rw [pc_pb v hv]
  rw [List.getElem?_map, List.getElem?_eq_getElem h1] at h3
  show S.data[v].toNat = pb v
  simpa using h3
theorem quiet_index {P : Program} {o : Oper} {a : Act} {C : World → Prop} {K : Act → Prop} (ty : TypeId) (x y : Operand) (ho : o.op = .index ty x y) (ht : P.underlying ty = some .string)
    (S : ByteArray) (hx : a.eval x = .string S) (v' : Int) (hy : a.eval y = .int .u32 v') (hS : S.data.toList.map UInt8.toNat = tabL) (v : Nat) (hv : v < 256) (hvv : v' = (v : Int))
    (h : K (a.put o.dst (.int .u8 (pc v : Nat)))) : o.quiet P a C K := by
  obtain ⟨b, hb, hbb⟩ := tab_get S hS v hv
  refine ⟨.int .u8 (pc v : Nat), fun w hw => ?_, h⟩
  subst hvv
  unfold Oper.quietAt execOp
  have hrun : (Instr.index ty (.string S) (.int .u32 v)).run P w = .ok (.int .u8 (pc v : Nat)) w := by
    simp [Instr.index, asIntOf, run_underlying ht, hb, hbb]
  simp only [ho, hx, hy, Sem.run_bind, hrun, Result.andThen_ok, Sem.run_pure]
  exact ⟨rfl, rfl⟩

end Go.Proofs.YtcepjiglhlmgdaaGreatDoor
namespace Go.Proofs.YtcepjiglhlmgdaaGreatDoor
open Go.RowKit

/-- the pins of the first k steps -/
def cntT (d : Nat → Int) : Nat → Nat
  | 0 => 0
  | k + 1 => cntT d k + pc (d k).toNat
theorem cntT_le (d : Nat → Int) (hd : DWF d) : ∀ k, k ≤ 96 → cntT d k ≤ k * 4294967295
  | 0, _ => by simp [cntT]
  | k + 1, h => by
    have h1 := cntT_le d hd k (by omega)
    have h2 := pc_le (d k).toNat
    have h3 := hd k (by omega)
    simp only [cntT]
    omega
def cntI (d : Nat → Int) : Int := (cntT d 96 : Nat)
theorem indexD (d : Nat → Int) (k : Nat) (hk : k < 96) (w : World) : (Instr.index 53 (.agg (da d)) (.int .i64 k)).run Tryz.prog w = .ok (.int .u32 (d k)) w := by
  have h := dv_get d k hk
  simp [Instr.index, asIntOf, run_underlying Tryz.underlying53, go_sem, hk, da, h]
end Go.Proofs.YtcepjiglhlmgdaaGreatDoor
