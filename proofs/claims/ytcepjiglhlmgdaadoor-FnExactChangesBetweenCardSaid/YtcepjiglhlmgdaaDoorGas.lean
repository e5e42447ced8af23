import Derived.Test.YtcepjiglhlmgdaaDoorGar
namespace Go.Proofs.YtcepjiglhlmgdaaDoor
open Go.RowKit

/-- how many bits are set -/
def pc (x : Nat) : Nat := if h : x = 0 then 0 else x % 2 + pc (x / 2)
termination_by x
decreasing_by omega
theorem pc_zero : pc 0 = 0 := by unfold pc; simp
theorem pc_step (x : Nat) : pc x = x % 2 + pc (x / 2) := by
  by_cases h : x = 0
  · subst h; simp [pc_zero]
  · conv => lhs; unfold pc
    rw [dif_neg h]
theorem pc_le (x : Nat) : pc x ≤ x := by
  induction x using Nat.strongRecOn with
  | ind x ih =>
    by_cases h : x = 0
    · subst h; simp [pc_zero]
    · rw [pc_step]
      have := ih (x / 2) (by omega)
      omega
theorem pc_byte (a b : Nat) (hb : b < 256) : pc (256 * a + b) = pc a + pc b := by
  have step : ∀ (n m c : Nat), pc (2 * n * m + c) = c % 2 + pc (n * m + c / 2) := by
    intro n m c
    rw [pc_step]
    have h1 : (2 * n * m + c) % 2 = c % 2 := by rw [Nat.mul_assoc]; omega
    have h2 : (2 * n * m + c) / 2 = n * m + c / 2 := by rw [Nat.mul_assoc]; omega
    rw [h1, h2]
  have e : ∀ n c, pc (256 * n + c) = c % 2 + (c / 2 % 2 + (c / 2 / 2 % 2 + (c / 2 / 2 / 2 % 2 + (c / 2 / 2 / 2 / 2 % 2 + (c / 2 / 2 / 2 / 2 / 2 % 2 + (c / 2 / 2 / 2 / 2 / 2 / 2 % 2 + (c / 2 / 2 / 2 / 2 / 2 / 2 / 2 % 2 + pc (n + c / 2 / 2 / 2 / 2 / 2 / 2 / 2 / 2)))))))) := by
    intro n c
    rw [step 128 n c, step 64 n, step 32 n, step 16 n, step 8 n, step 4 n, step 2 n, step 1 n, Nat.one_mul]
  have e0 := e a b
  have e1 := e 0 b
  have hz : b / 2 / 2 / 2 / 2 / 2 / 2 / 2 / 2 = 0 := by omega
  rw [hz] at e0 e1
  rw [Nat.mul_zero, Nat.zero_add, Nat.zero_add, pc_zero] at e1
  rw [Nat.add_zero] at e0
  omega

/-- the bits of a byte -/
def pb (v : Nat) : Nat := v % 2 + (v / 2 % 2 + (v / 4 % 2 + (v / 8 % 2 + (v / 16 % 2 + (v / 32 % 2 + (v / 64 % 2 + v / 128 % 2))))))
theorem pc_pb (v : Nat) (h : v < 256) : pc v = pb v := by
  rw [pc_step v, pc_step (v / 2), pc_step (v / 2 / 2), pc_step (v / 2 / 2 / 2), pc_step (v / 2 / 2 / 2 / 2), pc_step (v / 2 / 2 / 2 / 2 / 2), pc_step (v / 2 / 2 / 2 / 2 / 2 / 2), pc_step (v / 2 / 2 / 2 / 2 / 2 / 2 / 2), show v / 2 / 2 / 2 / 2 / 2 / 2 / 2 / 2 = 0 by omega, pc_zero]
  unfold pb
  omega
theorem pb_le (v : Nat) : pb v ≤ 8 := by unfold pb; omega
def tabL : List Nat := (List.range 256).map pb
theorem tab_get (S : ByteArray) (hS : S.data.toList.map UInt8.toNat = tabL) (v : Nat) (hv : v < 256) : ∃ b, S[v]? = some b ∧ b.toNat = pc v := by
  have hl : S.data.toList.length = 256 := by have := congrArg List.length hS; simpa [tabL] using this
  have h1 : v < S.data.toList.length := by omega
  have h2 : v < S.size := by simpa using h1
  refine ⟨S[v], getElem?_pos S v h2, ?_⟩
  have h3 : (S.data.toList.map UInt8.toNat)[v]? = some (pb v) := by rw [hS]; simp [tabL, hv]
  rw [pc_pb v hv]
  rw [List.getElem?_map, List.getElem?_eq_getElem h1] at h3
  show S.data[v].toNat = pb v
  simpa using h3
theorem quiet_index {P : Program} {o : Oper} {a : Act} {C : World → Prop} {K : Act → Prop} (ty : TypeId) (x y : Operand) (ho : o.op = .index ty x y) (ht : P.underlying ty = some .string)
    (S : ByteArray) (hx : a.eval x = .string S) (v' : Int) (hy : a.eval y = .int .u32 v') (hS : S.data.toList.map UInt8.toNat = tabL) (v : Nat) (hv : v < 256) (hvv : v' = (v : Int))
    (h : K (a.put o.dst (.int .u8 (pc v : Nat)))) : o.quiet P a C K := by
  obtain ⟨b, hb, hbb⟩ := tab_get S hS v hv
  refine ⟨.int .u8 (pc v : Nat), fun w hw => ?_, h⟩
  subst hvv
  unfold Oper.quietAt execOp
  have hrun : (Instr.index ty (.string S) (.int .u32 v)).run P w = .ok (.int .u8 (pc v : Nat)) w := by
    simp [Instr.index, asIntOf, run_underlying ht, hb, hbb]
  simp only [ho, hx, hy, Sem.run_bind, hrun, Result.andThen_ok, Sem.run_pure]
  exact ⟨rfl, rfl⟩

end Go.Proofs.YtcepjiglhlmgdaaDoor
namespace Go.Proofs.YtcepjiglhlmgdaaDoor
open Go.RowKit

/-- the pins of the first k steps -/
def cntT (d : Nat → Int) : Nat → Nat
  | 0 => 0
  | k + 1 => cntT d k + pc (d k).toNat
theorem cntT_le (d : Nat → Int) (hd : DWF d) : ∀ k, k ≤ 96 → cntT d k ≤ k * 4294967295
  | 0, _ => by simp [cntT]
  | k + 1, h => by
    have h1 := cntT_le d hd k (by omega)
    have h2 := pc_le (d k).toNat
    have h3 := hd k (by omega)
    simp only [cntT]
    omega
def cntI (d : Nat → Int) : Int := (cntT d 96 : Nat)
theorem indexD (d : Nat → Int) (k : Nat) (hk : k < 96) (w : World) : (Instr.index 49 (.agg (da d)) (.int .i64 k)).run Tryd.prog w = .ok (.int .u32 (d k)) w := by
  have h := dv_get d k hk
  simp [Instr.index, asIntOf, run_underlying Tryd.underlying49, go_sem, hk, da, h]
end Go.Proofs.YtcepjiglhlmgdaaDoor
namespace Go.Proofs.YtcepjiglhlmgdaaDoor
open Go.RowKit

/-- three values come back; what there was is as it was -/
def Trip (x y z : Value) (w : World) (e : Ending) (w' : World) : Prop := e = .returned (.tuple #[x, y, z]) ∧ Below w.heap.size w w'
/-- the pins of p that q has not -/
def mvD (p q : Nat → Int) (i : Nat) : Int := bits .andNot .u32 (p i) (q i)
theorem mv_wf (p q : Nat → Int) : DWF (mvD p q) := fun _ _ => bounds_u32 (wf_bits .andNot .u32 _ _)
def mvI (p q : Nat → Int) : Int := cntI (mvD p q)
def ask2B (s : Int) (l : List (Int × Int)) (a b : Nat → Int) : Bool := frB s l && (drB s l.length a && drB s l.length b)

set_option maxRecDepth 20000 in
set_option maxHeartbeats 1000000 in
theorem minus_any (p q : Nat → Int) (w : World) :
    Calls Tryd.prog 36 #[.agg (da p), .agg (da q)] w fun e w' => e = .returned (.agg (da (mvD p q))) ∧ Below w.heap.size w w' := by
  have hz := zeroDrum
  have hb0 : Below w.heap.size w (((w.alloc (.cells (da p) 49)).alloc (.cells (da q) 49)).alloc (.cells za 49)) := (((Below.refl _ _).alloc (Nat.le_refl _) _).alloc (by simp) _).alloc (by simp; omega) _
  have P0 : Dr (((w.alloc (.cells (da p) 49)).alloc (.cells (da q) 49)).alloc (.cells za 49)) w.heap.size 49 p := heap_old' (heap_old' (heap_new' _ _ _ rfl))
  have Q0 : Dr (((w.alloc (.cells (da p) 49)).alloc (.cells (da q) 49)).alloc (.cells za 49)) (w.heap.size + 1) 49 q := heap_old' (heap_new' _ _ _ (by simp))
  have Z0 : Dr (((w.alloc (.cells (da p) 49)).alloc (.cells (da q) 49)).alloc (.cells za 49)) (w.heap.size + 1 + 1) 49 (fun _ => 0) := by rw [za_eq]; exact heap_new' _ _ _ (by simp)
  have HR0 := hide Q0.range
  have HI := hide (fun k hk => indexD q k hk)
  go_enter Tryd.func36, Tryd.ntmps36
  go_wp2_with (with_reducible refine wpList_load_da rfl 49 (.tmp 3) rfl (w.heap.size + 1) 0 rfl q _ HR0.out Tryd.underlying49 rfl (dInfo q) ?_)
  clear hz
  go_loopw [5, 6, 8] (fun _ _ i wr => ∃ k : Nat, k ≤ 96 ∧ i = .int .i64 k ∧ Dr wr w.heap.size 49 (fun i => if i < k then mvD p q i else p i) ∧ Dr wr (w.heap.size + 1 + 1) 49 (fun _ => 0) ∧ Below w.heap.size w wr)
    (fun _ _ i _ => 96 - (intOf i).toNat)
  case atStart => exact ⟨0, Nat.zero_le _, rfl, P0, Z0, hb0⟩
  case round =>
    obtain ⟨k, hk, rfl, D1, D2, hb⟩ := hrel
    by_cases hlt : k < 96
    · have hx := HI.out k hlt
      have c1 : wr.cell? ⟨w.heap.size, k, none⟩ = some (.int .u32 (p k)) := by rw [D1.cell hlt, if_neg (Nat.lt_irrefl k)]
      have f1 := D1.frozen k
      go_wp2
      go_roundw
      case rel =>
        refine ⟨k + 1, hlt, by go_num, (D1.set k _).congr fun i hi => ?_, D2.other (by omega) _, hb.setCell (p := ⟨_, _, none⟩) (by dsimp only; omega) _⟩
        change (if i = k then mvD p q k else _) = _
        by_cases e : i = k
        · subst e; rw [if_pos rfl, if_pos (by omega)]
        · rw [if_neg e]
          by_cases h2 : i < k
          · rw [if_pos h2, if_pos (by omega)]
          · rw [if_neg h2, if_neg (by omega)]
      case measure => simp [intOf]; omega
    · obtain rfl : k = 96 := by omega
      have R3 : Dr wr w.heap.size 49 (mvD p q) := D1.congr fun i hi => by rw [if_pos hi]
      have HR3 := hide R3.range
      have R2 : wr.heap[w.heap.size + 1 + 1]? = some (.cells (da fun _ => 0) 49 (0, 0)) := D2
      have HR2 := hide R2
      clear R3 R2
      go_wp2_with (first | (with_reducible refine wpList_load_da rfl 49 (.tmp 2) rfl w.heap.size 0 rfl (mvD p q) _ HR3.out Tryd.underlying49 rfl (dInfo (mvD p q)) ?_) | (with_reducible refine wpList_store_row rfl 49 (.tmp 4) (.tmp 19) rfl (w.heap.size + 1 + 1) (da (mvD p q)) rfl rfl 49 _ HR2.out (by rw [da_size]; exact info49) (by rw [da_size, da_size]) (da_one _) ?_))
      exact bodyPost_ret (v := .agg (da (mvD p q))) (results_cell_row Tryd.results36 _ _ (w.heap.size + 1 + 1) 49 (da (mvD p q)) (0, 0) _ (by simp [Act.put]) (setRow_heap _ _ _ _ _ _ HR2.out) Tryd.underlying49 rfl (by rw [da_size]; exact info49)) rfl ⟨rfl, below_setRow hb (by omega)⟩

def mvP (s : Int) (l : List (Int × Int)) (a b p q : Nat → Int) : Int := onlyI (ask2B s l a b) (mvI p q)
theorem machine2_any (s : Int) (A : Option Addr) (c : Nat) (l : List (Int × Int)) (a b : Nat → Int) (w : World) (hA : HA w A l) (hn : l.length ≤ 1048576) (hwf : HWF l) (hs : -32768 ≤ s ∧ s ≤ 32767) (ha : DWF a) (hb : DWF b) (g : Nat) (hg : g = w.heap.size) :
    Calls Tryd.prog 28 #[.agg #[.int .i16 s, .slice A l.length c], .slice (some ⟨g, 0, none⟩) 2 2] (w.alloc (.cells (da a ++ da b) 49)) (Mach s A l.length c (ask2B s l a b) (w.alloc (.cells (da a ++ da b) 49))) := by
  subst hg
  have hb0 : Below w.heap.size w (w.alloc (.cells (da a ++ da b) 49)) := (Below.refl _ _).alloc (Nat.le_refl _) _
  have hd1 : ∀ j, j < [a, b].length → DWF ([a, b].getD j (fun _ => 0)) := by
    intro j hj
    have hj2 : j < 2 := hj
    match j, hj2 with
    | 0, _ => exact ha
    | 1, _ => exact hb
  have h := machineD_any s A c l w.heap.size 2 [a, b] _ (hA.below hb0) hn hwf hs (LD2 w a b) hd1 (by simp)
  have e : (frB s l && drsB s l.length [a, b]) = ask2B s l a b := by simp [drsB, ask2B]
  rw [e] at h
  exact h
end Go.Proofs.YtcepjiglhlmgdaaDoor
