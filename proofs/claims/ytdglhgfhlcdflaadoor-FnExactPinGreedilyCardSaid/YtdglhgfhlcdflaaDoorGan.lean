import Derived.Test.YtdglhgfhlcdflaaDoorGam
namespace Go.Proofs.YtdglhgfhlcdflaaDoor
open Go.RowKit

/-- how many bits are set -/
def pc (x : Nat) : Nat := if h : x = 0 then 0 else x % 2 + pc (x / 2)
termination_by x
decreasing_by omega
theorem pc_zero : pc 0 = 0 := by unfold pc; simp
theorem pc_step (x : Nat) : pc x = x % 2 + pc (x / 2) := by
  by_cases h : x = 0
  · subst h; simp [pc_zero]
  · conv => lhs; unfold pc
    rw [dif_neg h]
theorem pc_le (x : Nat) : pc x ≤ x := by
  induction x using Nat.strongRecOn with
  | ind x ih =>
    by_cases h : x = 0
    · subst h; simp [pc_zero]
    · rw [pc_step]
      have := ih (x / 2) (by omega)
      omega
theorem pc_byte (a b : Nat) (hb : b < 256) : pc (256 * a + b) = pc a + pc b := by
  have step : ∀ (n m c : Nat), pc (2 * n * m + c) = c % 2 + pc (n * m + c / 2) := by
    intro n m c
    rw [pc_step]
    have h1 : (2 * n * m + c) % 2 = c % 2 := by rw [Nat.mul_assoc]; omega
    have h2 : (2 * n * m + c) / 2 = n * m + c / 2 := by rw [Nat.mul_assoc]; omega
    rw [h1, h2]
  have e : ∀ n c, pc (256 * n + c) = c % 2 + (c / 2 % 2 + (c / 2 / 2 % 2 + (c / 2 / 2 / 2 % 2 + (c / 2 / 2 / 2 / 2 % 2 + (c / 2 / 2 / 2 / 2 / 2 % 2 + (c / 2 / 2 / 2 / 2 / 2 / 2 % 2 + (c / 2 / 2 / 2 / 2 / 2 / 2 / 2 % 2 + pc (n + c / 2 / 2 / 2 / 2 / 2 / 2 / 2 / 2)))))))) := by
    intro n c
    rw [step 128 n c, step 64 n, step 32 n, step 16 n, step 8 n, step 4 n, step 2 n, step 1 n, Nat.one_mul]
  have e0 := e a b
  have e1 := e 0 b
  have hz : b / 2 / 2 / 2 / 2 / 2 / 2 / 2 / 2 = 0 := by omega
  rw [hz] at e0 e1
  rw [Nat.mul_zero, Nat.zero_add, Nat.zero_add, pc_zero] at e1
  rw [Nat.add_zero] at e0
  omega

/-- the bits of a byte -/
def pb (v : Nat) : Nat := v % 2 + (v / 2 % 2 + (v / 4 % 2 + (v / 8 % 2 + (v / 16 % 2 + (v / 32 % 2 + (v / 64 % 2 + v / 128 % 2))))))
theorem pc_pb (v : Nat) (h : v < 256) : pc v = pb v := by
  rw [pc_step v, pc_step (v / 2), pc_step (v / 2 / 2), pc_step (v / 2 / 2 / 2), pc_step (v / 2 / 2 / 2 / 2), pc_step (v / 2 / 2 / 2 / 2 / 2), pc_step (v / 2 / 2 / 2 / 2 / 2 / 2), pc_step (v / 2 / 2 / 2 / 2 / 2 / 2 / 2), show v / 2 / 2 / 2 / 2 / 2 / 2 / 2 / 2 = 0 by omega, pc_zero]
  unfold pb
  omega
theorem pb_le (v : Nat) : pb v ≤ 8 := by unfold pb; omega
def tabL : List Nat := (List.range 256).map pb
theorem tab_get (S : ByteArray) (hS : S.data.toList.map UInt8.toNat = tabL) (v : Nat) (hv : v < 256) : ∃ b, S[v]? = some b ∧ b.toNat = pc v := by
  have hl : S.data.toList.length = 256 := by have := congrArg List.length hS; simpa [tabL] using this
  have h1 : v < S.data.toList.length := by omega
  have h2 : v < S.size := by simpa using h1
  refine ⟨S[v], getElem?_pos S v h2, ?_⟩
  have h3 : (S.data.toList.map UInt8.toNat)[v]? = some (pb v) := by rw [hS]; simp [tabL, hv]
  rw [pc_pb v hv]
  rw [List.getElem?_map, List.getElem?_eq_getElem h1] at h3
  show S.data[v].toNat = pb v
  simpa using h3
theorem quiet_index {P : Program} {o : Oper} {a : Act} {C : World → Prop} {K : Act → Prop} (ty : TypeId) (x y : Operand) (ho : o.op = .index ty x y) (ht : P.underlying ty = some .string)
    (S : ByteArray) (hx : a.eval x = .string S) (v' : Int) (hy : a.eval y = .int .u32 v') (hS : S.data.toList.map UInt8.toNat = tabL) (v : Nat) (hv : v < 256) (hvv : v' = (v : Int))
    (h : K (a.put o.dst (.int .u8 (pc v : Nat)))) : o.quiet P a C K := by
  obtain ⟨b, hb, hbb⟩ := tab_get S hS v hv
  refine ⟨.int .u8 (pc v : Nat), fun w hw => ?_, h⟩
  subst hvv
  unfold Oper.quietAt execOp
  have hrun : (Instr.index ty (.string S) (.int .u32 v)).run P w = .ok (.int .u8 (pc v : Nat)) w := by
    simp [Instr.index, asIntOf, run_underlying ht, hb, hbb]
  simp only [ho, hx, hy, Sem.run_bind, hrun, Result.andThen_ok, Sem.run_pure]
  exact ⟨rfl, rfl⟩

set_option maxRecDepth 20000 in
set_option maxHeartbeats 2000000 in
theorem ones_any (x : Nat) (w : World) (hx : x ≤ 4294967295) :
    Calls Tryd.prog 62 #[.int .u32 x] w fun e w' => e = .returned (.int .i64 (pc x)) ∧ Below w.heap.size w w' := by
  go_enter Tryd.func62, Tryd.ntmps62
  go_wp2_with fail
  refine wp_region_later (by kernel_rfl) (by kernel_rfl) ?_
  have m1 : ∀ y : Nat, y ≤ 4294967295 → bits .and .u32 (y : Int) 255 = ((y % 256 : Nat) : Int) := fun y hy => by
    have h := bits_mask .u32 32 (by decide) wraps_u32 8 (by decide) (y : Int) (by omega) (by omega)
    have e : ((2 : Int) ^ 8 - 1) = 255 := by decide
    have e2 : ((2 : Int) ^ 8) = 256 := by decide
    rw [e, e2] at h
    rw [h]
    omega
  have e16 : bits .and .u32 ((x : Int) / 65536) 255 = ((x / 65536 % 256 : Nat) : Int) := by have := m1 (x / 65536) (by omega); simpa using this
  have e8 : bits .and .u32 ((x : Int) / 256) 255 = ((x / 256 % 256 : Nat) : Int) := by have := m1 (x / 256) (by omega); simpa using this
  have e0 : bits .and .u32 (x : Int) 255 = ((x % 256 : Nat) : Int) := m1 x hx
  have l1 : pc (x / 16777216) ≤ 8 := by rw [pc_pb _ (by omega)]; exact pb_le _
  have l2 : pc (x / 65536 % 256) ≤ 8 := by rw [pc_pb _ (by omega)]; exact pb_le _
  have l3 : pc (x / 256 % 256) ≤ 8 := by rw [pc_pb _ (by omega)]; exact pb_le _
  have l4 : pc (x % 256) ≤ 8 := by rw [pc_pb _ (by omega)]; exact pb_le _
  have hsum : pc x = pc (x / 16777216) + pc (x / 65536 % 256) + pc (x / 256 % 256) + pc (x % 256) := by
    have h1 := pc_byte (x / 256) (x % 256) (by omega)
    have h2 := pc_byte (x / 65536) (x / 256 % 256) (by omega)
    have h3 := pc_byte (x / 16777216) (x / 65536 % 256) (by omega)
    rw [show 256 * (x / 256) + x % 256 = x by omega] at h1
    rw [show 256 * (x / 65536) + x / 256 % 256 = x / 256 by omega] at h2
    rw [show 256 * (x / 16777216) + x / 65536 % 256 = x / 65536 by omega] at h3
    omega
  have HS := hide hsum
  clear hsum m1
  go_big_quiet_step (fail)
  go_big_quiet_step (fail)
  go_big_quiet_want
  refine quiet_index 9 _ (.tmp 4) rfl Tryd.underlying9 _ rfl _ rfl (by decide +kernel) (x / 16777216) (by omega) (by omega) ?_
  go_simp
  go_big_quiet_on
  go_big_quiet_step (fail)
  go_big_quiet_step (fail)
  go_big_quiet_step (fail)
  go_big_quiet_want
  refine quiet_index 9 _ (.tmp 8) rfl Tryd.underlying9 _ rfl _ rfl (by decide +kernel) (x / 65536 % 256) (by omega) (by omega) ?_
  go_simp
  go_big_quiet_on
  go_big_quiet_step (fail)
  go_big_quiet_step (fail)
  go_big_quiet_step (fail)
  go_big_quiet_step (fail)
  go_big_quiet_want
  refine quiet_index 9 _ (.tmp 13) rfl Tryd.underlying9 _ rfl _ rfl (by decide +kernel) (x / 256 % 256) (by omega) (by omega) ?_
  go_simp
  go_big_quiet_on
  go_big_quiet_step (fail)
  go_big_quiet_step (fail)
  go_big_quiet_step (fail)
  go_big_quiet_want
  refine quiet_index 9 _ (.tmp 17) rfl Tryd.underlying9 _ rfl _ rfl (by decide +kernel) (x % 256) (by omega) (by omega) ?_
  go_simp
  go_big_quiet_on
  go_big_quiet_step (fail)
  go_big_quiet_step (fail)
  go_big_quiet_step (fail)
  refine wpQuiet_nil ?_
  rintro _ ⟨⟨wq, hq⟩, rfl⟩
  go_wp2
  go_ret
  refine ⟨ret_int ?_, hq⟩
  rw [HS.out]
  omega
end Go.Proofs.YtdglhgfhlcdflaaDoor
namespace Go.Proofs.YtdglhgfhlcdflaaDoor
open Go.RowKit

/-- the pins of the first k steps -/
def cntT (d : Nat → Int) : Nat → Nat
  | 0 => 0
  | k + 1 => cntT d k + pc (d k).toNat
theorem cntT_le (d : Nat → Int) (hd : DWF d) : ∀ k, k ≤ 96 → cntT d k ≤ k * 4294967295
  | 0, _ => by simp [cntT]
  | k + 1, h => by
    have h1 := cntT_le d hd k (by omega)
    have h2 := pc_le (d k).toNat
    have h3 := hd k (by omega)
    simp only [cntT]
    omega
def cntI (d : Nat → Int) : Int := (cntT d 96 : Nat)
theorem indexD (d : Nat → Int) (k : Nat) (hk : k < 96) (w : World) : (Instr.index 43 (.agg (da d)) (.int .i64 k)).run Tryd.prog w = .ok (.int .u32 (d k)) w := by
  have h := dv_get d k hk
  simp [Instr.index, asIntOf, run_underlying Tryd.underlying43, go_sem, hk, da, h]
set_option maxRecDepth 20000 in
set_option maxHeartbeats 1000000 in
theorem count_any (d : Nat → Int) (w : World) (hd : DWF d) :
    Calls Tryd.prog 60 #[.agg (da d)] w fun e w' => e = .returned (.int .i64 (cntI d)) ∧ Below w.heap.size w w' := by
  have hb0 : Below w.heap.size w (w.alloc (.cells (da d) 43)) := (Below.refl _ _).alloc (Nat.le_refl _) _
  have D0 : Dr (w.alloc (.cells (da d) 43)) w.heap.size 43 d := heap_new' _ _ _ rfl
  have HR0 := hide D0.range
  have HI := hide (fun k hk => indexD d k hk)
  go_enter Tryd.func60, Tryd.ntmps60
  go_wp2_with (with_reducible refine wpList_load_da rfl 43 (.tmp 1) rfl w.heap.size 0 rfl d _ HR0.out Tryd.underlying43 rfl (dInfo d) ?_)
  go_loopw [3, 7] (fun n i wr => ∃ k : Nat, k ≤ 96 ∧ i = .int .i64 k ∧ n = .int .i64 (cntT d k : Nat) ∧ Below w.heap.size w wr)
    (fun _ i _ => 96 - (intOf i).toNat)
  case atStart => exact ⟨0, Nat.zero_le _, rfl, rfl, hb0⟩
  case round =>
    obtain ⟨k, hk, rfl, rfl, hb⟩ := hrel
    by_cases hlt : k < 96
    · have hx := HI.out k hlt
      obtain ⟨x, hxe⟩ : ∃ x : Nat, d k = (x : Int) := ⟨(d k).toNat, by have := hd k hlt; omega⟩
      have hxb : x ≤ 4294967295 := by have := hd k hlt; omega
      have HS := hide (show cntT d (k + 1) = cntT d k + pc x by simp [cntT, hxe])
      have h1 := cntT_le d hd k (by omega)
      have h2 := pc_le x
      rw [hxe] at hx
      clear hxe
      have hw1 : IntKind.i64.wrap ((cntT d k : Int) + (pc x : Int)) = (cntT d k : Int) + (pc x : Int) := IntWalk.i64_in _ (by omega)
      go_wp2_with (go_at_call 62; refine (ones_any x _ hxb).mono ?_; rintro e w2 ⟨rfl, hb2⟩; have hb3 := step_below hb2 hb)
      go_roundw
      case rel => exact ⟨k + 1, hlt, by go_num, by rw [HS.out]; rfl, hb3⟩
      case measure => simp [intOf]; omega
    · obtain rfl : k = 96 := by omega
      go_wp2
      go_ret
      exact ⟨rfl, hb⟩

end Go.Proofs.YtdglhgfhlcdflaaDoor
namespace Go.Proofs.YtdglhgfhlcdflaaDoor
open Go.RowKit

/-- three values come back; what there was is as it was -/
def Trip (x y z : Value) (w : World) (e : Ending) (w' : World) : Prop := e = .returned (.tuple #[x, y, z]) ∧ Below w.heap.size w w'
/-- the pins of p that q has not -/
def mvD (p q : Nat → Int) (i : Nat) : Int := bits .andNot .u32 (p i) (q i)
theorem mv_wf (p q : Nat → Int) : DWF (mvD p q) := fun _ _ => bounds_u32 (wf_bits .andNot .u32 _ _)
def mvI (p q : Nat → Int) : Int := cntI (mvD p q)
def ask2B (s : Int) (l : List (Int × Int)) (a b : Nat → Int) : Bool := frB s l && (drB s l.length a && drB s l.length b)

def mvP (s : Int) (l : List (Int × Int)) (a b p q : Nat → Int) : Int := onlyI (ask2B s l a b) (mvI p q)
theorem machine2_any (s : Int) (A : Option Addr) (c : Nat) (l : List (Int × Int)) (a b : Nat → Int) (w : World) (hA : HA w A l) (hn : l.length ≤ 1048576) (hwf : HWF l) (hs : -32768 ≤ s ∧ s ≤ 32767) (ha : DWF a) (hb : DWF b) (g : Nat) (hg : g = w.heap.size) :
    Calls Tryd.prog 50 #[.agg #[.int .i16 s, .slice A l.length c], .slice (some ⟨g, 0, none⟩) 2 2] (w.alloc (.cells (da a ++ da b) 43)) (Mach s A l.length c (ask2B s l a b) (w.alloc (.cells (da a ++ da b) 43))) := by
  subst hg
  have hb0 : Below w.heap.size w (w.alloc (.cells (da a ++ da b) 43)) := (Below.refl _ _).alloc (Nat.le_refl _) _
  have hd1 : ∀ j, j < [a, b].length → DWF ([a, b].getD j (fun _ => 0)) := by
    intro j hj
    have hj2 : j < 2 := hj
    match j, hj2 with
    | 0, _ => exact ha
    | 1, _ => exact hb
  have h := machineD_any s A c l w.heap.size 2 [a, b] _ (hA.below hb0) hn hwf hs (LD2 w a b) hd1 (by simp)
  have e : (frB s l && drsB s l.length [a, b]) = ask2B s l a b := by simp [drsB, ask2B]
  rw [e] at h
  exact h
end Go.Proofs.YtdglhgfhlcdflaaDoor
