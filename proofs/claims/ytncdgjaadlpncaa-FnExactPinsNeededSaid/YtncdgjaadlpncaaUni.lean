import Derived.Test.YtncdgjaadlpncaaLst
import Derived.Test.YtncdgjaadlpncaaBit
import Derived.StillTailTactics
namespace Go.Proofs.Ytncdgjaadlpncaa
open Go.RowKit

/-- the pins that one of two drums has, and those that both have -/
def orD (p q : Nat → Int) (i : Nat) : Int := bits .or .u32 (p i) (q i)
def andD (p q : Nat → Int) (i : Nat) : Int := bits .and .u32 (p i) (q i)
theorem or_wf (p q : Nat → Int) : DWF (orD p q) := fun _ _ => bounds_u32 (wf_bits .or .u32 _ _)
theorem and_wf (p q : Nat → Int) : DWF (andD p q) := fun _ _ => bounds_u32 (wf_bits .and .u32 _ _)
set_option maxRecDepth 20000 in
set_option maxHeartbeats 1000000 in
theorem plus_any (p q : Nat → Int) (w : World) :
    Calls Try.prog 83 #[.agg (da p), .agg (da q)] w fun e w' => e = .returned (.agg (da (orD p q))) ∧ Below w.heap.size w w' := by
  have hz := zeroDrum
  have hb0 : Below w.heap.size w (((w.alloc (.cells (da p) 29)).alloc (.cells (da q) 29)).alloc (.cells za 29)) := (((Below.refl _ _).alloc (Nat.le_refl _) _).alloc (by simp) _).alloc (by simp; omega) _
  have P0 : Dr (((w.alloc (.cells (da p) 29)).alloc (.cells (da q) 29)).alloc (.cells za 29)) w.heap.size 29 p := heap_old' (heap_old' (heap_new' _ _ _ rfl))
  have Q0 : Dr (((w.alloc (.cells (da p) 29)).alloc (.cells (da q) 29)).alloc (.cells za 29)) (w.heap.size + 1) 29 q := heap_old' (heap_new' _ _ _ (by simp))
  have Z0 : Dr (((w.alloc (.cells (da p) 29)).alloc (.cells (da q) 29)).alloc (.cells za 29)) (w.heap.size + 1 + 1) 29 (fun _ => 0) := by rw [za_eq]; exact heap_new' _ _ _ (by simp)
  have HR0 := hide Q0.range
  have HI := hide (fun k hk => indexD q k hk)
  go_enter Try.func83, Try.ntmps83
  go_wp2_with (with_reducible refine wpList_load_da rfl 29 (.tmp 3) rfl (w.heap.size + 1) 0 rfl q _ HR0.out Try.underlying29 rfl (dInfo q) ?_)
  clear hz
  go_loopw [5, 6, 8] (fun _ _ i wr => ∃ k : Nat, k ≤ 96 ∧ i = .int .i64 k ∧ Dr wr w.heap.size 29 (fun i => if i < k then orD p q i else p i) ∧ Dr wr (w.heap.size + 1 + 1) 29 (fun _ => 0) ∧ Below w.heap.size w wr)
    (fun _ _ i _ => 96 - (intOf i).toNat)
  case atStart => exact ⟨0, Nat.zero_le _, rfl, P0, Z0, hb0⟩
  case round =>
    obtain ⟨k, hk, rfl, D1, D2, hb⟩ := hrel
    by_cases hlt : k < 96
    · have hx := HI.out k hlt
      have c1 : wr.cell? ⟨w.heap.size, k, none⟩ = some (.int .u32 (p k)) := by rw [D1.cell hlt, if_neg (Nat.lt_irrefl k)]
      have f1 := D1.frozen k
      go_wp2
      go_roundw
      case rel =>
        refine ⟨k + 1, hlt, by go_num, (D1.set k _).congr fun i hi => ?_, D2.other (by omega) _, hb.setCell (p := ⟨_, _, none⟩) (by dsimp only; omega) _⟩
        change (if i = k then orD p q k else _) = _
        by_cases e : i = k
        · subst e; rw [if_pos rfl, if_pos (by omega)]
        · rw [if_neg e]
          by_cases h2 : i < k
          · rw [if_pos h2, if_pos (by omega)]
          · rw [if_neg h2, if_neg (by omega)]
      case measure => simp [intOf]; omega
    · obtain rfl : k = 96 := by omega
      have R3 : Dr wr w.heap.size 29 (orD p q) := D1.congr fun i hi => by rw [if_pos hi]
      have HR3 := hide R3.range
      have R2 : wr.heap[w.heap.size + 1 + 1]? = some (.cells (da fun _ => 0) 29 (0, 0)) := D2
      have HR2 := hide R2
      clear R3 R2
      go_wp2_with (first | (with_reducible refine wpList_load_da rfl 29 (.tmp 2) rfl w.heap.size 0 rfl (orD p q) _ HR3.out Try.underlying29 rfl (dInfo (orD p q)) ?_) | (with_reducible refine wpList_store_row rfl 29 (.tmp 4) (.tmp 19) rfl (w.heap.size + 1 + 1) (da (orD p q)) rfl rfl 29 _ HR2.out (by rw [da_size]; exact info29) (by rw [da_size, da_size]) (da_one _) ?_))
      exact bodyPost_ret (v := .agg (da (orD p q))) (results_cell_row Try.results83 _ _ (w.heap.size + 1 + 1) 29 (da (orD p q)) (0, 0) _ (by simp [Act.put]) (setRow_heap _ _ _ _ _ _ HR2.out) Try.underlying29 rfl (by rw [da_size]; exact info29)) rfl ⟨rfl, below_setRow hb (by omega)⟩
set_option maxRecDepth 20000 in
set_option maxHeartbeats 1000000 in
theorem common_any (p q : Nat → Int) (w : World) :
    Calls Try.prog 80 #[.agg (da p), .agg (da q)] w fun e w' => e = .returned (.agg (da (andD p q))) ∧ Below w.heap.size w w' := by
  have hz := zeroDrum
  have hb0 : Below w.heap.size w (((w.alloc (.cells (da p) 29)).alloc (.cells (da q) 29)).alloc (.cells za 29)) := (((Below.refl _ _).alloc (Nat.le_refl _) _).alloc (by simp) _).alloc (by simp; omega) _
  have P0 : Dr (((w.alloc (.cells (da p) 29)).alloc (.cells (da q) 29)).alloc (.cells za 29)) w.heap.size 29 p := heap_old' (heap_old' (heap_new' _ _ _ rfl))
  have Q0 : Dr (((w.alloc (.cells (da p) 29)).alloc (.cells (da q) 29)).alloc (.cells za 29)) (w.heap.size + 1) 29 q := heap_old' (heap_new' _ _ _ (by simp))
  have Z0 : Dr (((w.alloc (.cells (da p) 29)).alloc (.cells (da q) 29)).alloc (.cells za 29)) (w.heap.size + 1 + 1) 29 (fun _ => 0) := by rw [za_eq]; exact heap_new' _ _ _ (by simp)
  have HR0 := hide Q0.range
  have HI := hide (fun k hk => indexD q k hk)
  go_enter Try.func80, Try.ntmps80
  go_wp2_with (with_reducible refine wpList_load_da rfl 29 (.tmp 3) rfl (w.heap.size + 1) 0 rfl q _ HR0.out Try.underlying29 rfl (dInfo q) ?_)
  clear hz
  go_loopw [5, 6, 8] (fun _ _ i wr => ∃ k : Nat, k ≤ 96 ∧ i = .int .i64 k ∧ Dr wr w.heap.size 29 (fun i => if i < k then andD p q i else p i) ∧ Dr wr (w.heap.size + 1 + 1) 29 (fun _ => 0) ∧ Below w.heap.size w wr)
    (fun _ _ i _ => 96 - (intOf i).toNat)
  case atStart => exact ⟨0, Nat.zero_le _, rfl, P0, Z0, hb0⟩
  case round =>
    obtain ⟨k, hk, rfl, D1, D2, hb⟩ := hrel
    by_cases hlt : k < 96
    · have hx := HI.out k hlt
      have c1 : wr.cell? ⟨w.heap.size, k, none⟩ = some (.int .u32 (p k)) := by rw [D1.cell hlt, if_neg (Nat.lt_irrefl k)]
      have f1 := D1.frozen k
      go_wp2
      go_roundw
      case rel =>
        refine ⟨k + 1, hlt, by go_num, (D1.set k _).congr fun i hi => ?_, D2.other (by omega) _, hb.setCell (p := ⟨_, _, none⟩) (by dsimp only; omega) _⟩
        change (if i = k then andD p q k else _) = _
        by_cases e : i = k
        · subst e; rw [if_pos rfl, if_pos (by omega)]
        · rw [if_neg e]
          by_cases h2 : i < k
          · rw [if_pos h2, if_pos (by omega)]
          · rw [if_neg h2, if_neg (by omega)]
      case measure => simp [intOf]; omega
    · obtain rfl : k = 96 := by omega
      have R3 : Dr wr w.heap.size 29 (andD p q) := D1.congr fun i hi => by rw [if_pos hi]
      have HR3 := hide R3.range
      have R2 : wr.heap[w.heap.size + 1 + 1]? = some (.cells (da fun _ => 0) 29 (0, 0)) := D2
      have HR2 := hide R2
      clear R3 R2
      go_wp2_with (first | (with_reducible refine wpList_load_da rfl 29 (.tmp 2) rfl w.heap.size 0 rfl (andD p q) _ HR3.out Try.underlying29 rfl (dInfo (andD p q)) ?_) | (with_reducible refine wpList_store_row rfl 29 (.tmp 4) (.tmp 19) rfl (w.heap.size + 1 + 1) (da (andD p q)) rfl rfl 29 _ HR2.out (by rw [da_size]; exact info29) (by rw [da_size, da_size]) (da_one _) ?_))
      exact bodyPost_ret (v := .agg (da (andD p q))) (results_cell_row Try.results80 _ _ (w.heap.size + 1 + 1) 29 (da (andD p q)) (0, 0) _ (by simp [Act.put]) (setRow_heap _ _ _ _ _ _ HR2.out) Try.underlying29 rfl (by rw [da_size]; exact info29)) rfl ⟨rfl, below_setRow hb (by omega)⟩

/-- the pins that some of the first k drums has -/
def unT (ds : List (Nat → Int)) : Nat → Nat → Int
  | 0 => fun _ => 0
  | k + 1 => orD (unT ds k) (ds.getD k fun _ => 0)
theorem unT_wf (ds : List (Nat → Int)) (k : Nat) : DWF (unT ds k) := by
  cases k with
  | zero => intro i hi; simp [unT]
  | succ k => exact or_wf _ _
/-- the pins that the first drum and the first k ones have -/
def shT (ds : List (Nat → Int)) : Nat → Nat → Int
  | 0 => ds.getD 0 fun _ => 0
  | k + 1 => andD (shT ds k) (ds.getD k fun _ => 0)
theorem shT_wf {ds : List (Nat → Int)} (h : DsWF ds) (h0 : 0 < ds.length) (k : Nat) : DWF (shT ds k) := by
  cases k with
  | zero => exact h 0 h0
  | succ k => exact and_wf _ _
theorem and_self_u32 {x : Int} (h0 : 0 ≤ x) (h1 : x ≤ 4294967295) : bits .and .u32 x x = x := by
  obtain ⟨n, rfl⟩ : ∃ n : Nat, x = (n : Int) := ⟨x.toNat, by omega⟩
  rw [and_nat n n (by omega) (by omega), Nat.and_self]
theorem shT_one {ds : List (Nat → Int)} (h : DsWF ds) (h0 : 0 < ds.length) (i : Nat) (hi : i < 96) : shT ds 1 i = ds.getD 0 (fun _ => 0) i := by
  obtain ⟨a, b⟩ := h 0 h0 i hi
  exact and_self_u32 a b
/-- the greatest number of pins of the first k drums -/
def mxT (ds : List (Nat → Int)) : Nat → Nat
  | 0 => 0
  | k + 1 => max (mxT ds k) (cntT (ds.getD k fun _ => 0) 96)
theorem infoMa : (Try.prog.info? 77).map (·.size) = some 2 := by kernel_rfl
theorem results_cs {fn : Func} {p q : Tmp} (h : fn.results = #[.cell p 77, .tmp q]) (tmps : Array Value) (w : World) (g : Nat) (t : TypeId) (cs : Array Value) (c : Value)
    (hi : cs.size = 2) (hp : tmps.getD p undef = .pointer (some ⟨g, 0, none⟩)) (hq : tmps.getD q undef = c) (hg : w.heap[g]? = some (.cells cs t (0, 0))) :
    (results fn tmps).run Try.prog w = .ok (.tuple #[.agg cs, c]) w := by
  have hp' : tmps[p]?.getD undef = .pointer (some ⟨g, 0, none⟩) := by simpa using hp
  have hq' : tmps[q]?.getD undef = c := by simpa using hq
  simp [results, h, hp', hq', asAddr, run_loadVar_row w g t 77 cs (0, 0) _ hg Try.underlying77 rfl (by rw [hi]; exact infoMa)]

set_option maxRecDepth 20000 in
set_option maxHeartbeats 1000000 in
theorem machineForList_any (s : Int) (A : Option Addr) (c : Nat) (l : List (Int × Int)) (g e : Nat) (ds : List (Nat → Int)) (w : World) (hA : HA w A l) (hn : l.length ≤ 1048576) (hwf : HWF l) (hs : -32768 ≤ s ∧ s ≤ 32767)
    (hL : LD w g ds) (hd : DsWF ds) (hds : ds.length ≤ 1048576) :
    Calls Try.prog 79 #[.agg #[.int .i16 s, .slice A l.length c], .slice (some ⟨g, 0, none⟩) ds.length e] w fun e' w' => ∃ t B n c', e' = .returned (.tuple #[.agg #[.int .i64 t, .slice B n c'], .int .i64 (lstC s l ds)]) ∧ (lstC s l ds = 0 → t = s ∧ B = A ∧ n = l.length ∧ c' = c) ∧ Below w.heap.size w w' := by
  obtain ⟨X0, hX⟩ : ∃ X, X = ((w.alloc (.cells #[.int .i16 s, .slice A l.length c] 34)).alloc (.cells #[.int .i64 0, .slice none 0 0] 77)) := ⟨_, rfl⟩
  have hb0 : Below w.heap.size w X0 := by rw [hX]; exact ((Below.refl _ _).alloc (Nat.le_refl _) _).alloc (by simp) _
  have Z0 : X0.heap[w.heap.size + 1]? = some (.cells #[.int .i64 0, .slice none 0 0] 77 (0, 0)) := by rw [hX]; exact heap_new' _ _ _ (by simp)
  have c00 : X0.cell? ⟨w.heap.size, 0, none⟩ = some (.int .i16 s) := by rw [hX]; simp [go_sem]
  have c01 : X0.cell? ⟨w.heap.size, 1, none⟩ = some (.slice A l.length c) := by rw [hX]; simp [go_sem]
  go_enter Try.func79, Try.ntmps79
  go_upto_region 1 with fail
  rw [← hX]
  clear hX
  go_wp2_with fail
  refine (machineD_any s A c l g e ds _ (hA.below hb0) hn hwf hs (hL.keep hb0) hd hds).mono ?_
  rintro e' w1 ⟨rfl, hb1⟩
  have b1 := step_below hb1 hb0
  have hz0 : w.heap.size + 1 < X0.heap.size := (Array.getElem?_eq_some_iff.1 Z0).1
  have Z1 := (hb1.block _ hz0).trans Z0
  have hz1 := hb1.size
  obtain ⟨X2, hX2⟩ : ∃ X, X = w1.alloc (.cells #[.int .i64 s, .slice A l.length c] 77) := ⟨_, rfl⟩
  have hb2 : Below w1.heap.size w1 X2 := by rw [hX2]; exact (Below.refl _ _).alloc (Nat.le_refl _) _
  have b2 := step_below hb2 b1
  have Z2 := (hb2.block _ (by omega)).trans Z1
  have e0 : X2.cell? ⟨w1.heap.size, 0, none⟩ = some (.int .i64 s) := by rw [hX2]; simp [go_sem]
  have e1 : X2.cell? ⟨w1.heap.size, 1, none⟩ = some (.slice A l.length c) := by rw [hX2]; simp [go_sem]
  have z0 : X2.cell? ⟨w.heap.size + 1, 0, none⟩ = some (.int .i64 0) := by rw [cell_of_row _ _ _ _ _ _ Z2]; rfl
  have z1 : X2.cell? ⟨w.heap.size + 1, 1, none⟩ = some (.slice none 0 0) := by rw [cell_of_row _ _ _ _ _ _ Z2]; rfl
  have f0 := frozen_of_row _ _ 0 _ _ Z2
  have f1 := frozen_of_row _ _ 1 _ _ Z2
  have HZ := hide Z2
  clear Z0 Z1 Z2
  go_upto_region 2 with fail
  rw [← hX2]
  clear hX2
  have KB : ∀ u v, Below w.heap.size w ((X2.setCell ⟨w.heap.size + 1, 0, none⟩ u).setCell ⟨w.heap.size + 1, 1, none⟩ v) := fun u v => (b2.setCell (p := ⟨_, _, none⟩) (by dsimp only; omega) _).setCell (p := ⟨_, _, none⟩) (by dsimp only; omega) _
  have KH : Hid (∀ u v, ((X2.setCell ⟨w.heap.size + 1, 0, none⟩ u).setCell ⟨w.heap.size + 1, 1, none⟩ v).heap[w.heap.size + 1]? = some (.cells #[u, v] 77 (0, 0))) := hide fun u v => by
    have := HZ.out
    simp [World.setCell, Array.getElem?_modify, this]
  cases hf : (frB s l && drsB s l.length ds)
  · have HC := hide (lstC_inv hf)
    clear hf
    go_wp2
    exact bodyPost_ret (v := .tuple #[.agg #[.int .i64 0, .slice none 0 0], .int .i64 1]) (results_cs Try.results79 _ _ _ _ _ _ rfl (by simp [Act.put]) (by simp [Act.put]) (KH.out _ _)) rfl ⟨_, _, _, _, by rw [HC.out], fun h => (by rw [HC.out] at h; cases h), KB _ _⟩
  · by_cases h8 : ds.length ≤ 8
    · have HC := hide (lstC_ok hf h8)
      clear hf
      go_wp2
      exact bodyPost_ret (v := .tuple #[.agg #[.int .i64 s, .slice A l.length c], .int .i64 0]) (results_cs Try.results79 _ _ _ _ _ _ rfl (by simp [Act.put]) (by simp [Act.put]) (KH.out _ _)) rfl ⟨_, _, _, _, by rw [HC.out], fun _ => ⟨rfl, rfl, rfl, rfl⟩, KB _ _⟩
    · have HC := hide (lstC_lim hf (by omega))
      clear hf
      go_wp2
      exact bodyPost_ret (v := .tuple #[.agg #[.int .i64 0, .slice none 0 0], .int .i64 3]) (results_cs Try.results79 _ _ _ _ _ _ rfl (by simp [Act.put]) (by simp [Act.put]) (KH.out _ _)) rfl ⟨_, _, _, _, by rw [HC.out], fun h => (by rw [HC.out] at h; cases h), KB _ _⟩
end Go.Proofs.Ytncdgjaadlpncaa
