import Derived.Test.YtncdgjaadlpncaaDoorLst
import Derived.Test.YtncdgjaadlpncaaDoorBit
import Derived.StillTailTactics
namespace Go.Proofs.YtncdgjaadlpncaaDoor
open Go.RowKit

/-- the pins that one of two drums has, and those that both have -/
def orD (p q : Nat → Int) (i : Nat) : Int := bits .or .u32 (p i) (q i)
def andD (p q : Nat → Int) (i : Nat) : Int := bits .and .u32 (p i) (q i)
theorem or_wf (p q : Nat → Int) : DWF (orD p q) := fun _ _ => bounds_u32 (wf_bits .or .u32 _ _)
theorem and_wf (p q : Nat → Int) : DWF (andD p q) := fun _ _ => bounds_u32 (wf_bits .and .u32 _ _)
set_option maxRecDepth 20000 in
set_option maxHeartbeats 1000000 in
theorem plus_any (p q : Nat → Int) (w : World) :
    Calls Tryd.prog 63 #[.agg (da p), .agg (da q)] w fun e w' => e = .returned (.agg (da (orD p q))) ∧ Below w.heap.size w w' := by
  have hz := zeroDrum
  have hb0 : Below w.heap.size w (((w.alloc (.cells (da p) 31)).alloc (.cells (da q) 31)).alloc (.cells za 31)) := (((Below.refl _ _).alloc (Nat.le_refl _) _).alloc (by simp) _).alloc (by simp; omega) _
  have P0 : Dr (((w.alloc (.cells (da p) 31)).alloc (.cells (da q) 31)).alloc (.cells za 31)) w.heap.size 31 p := heap_old' (heap_old' (heap_new' _ _ _ rfl))
  have Q0 : Dr (((w.alloc (.cells (da p) 31)).alloc (.cells (da q) 31)).alloc (.cells za 31)) (w.heap.size + 1) 31 q := heap_old' (heap_new' _ _ _ (by simp))
  have Z0 : Dr (((w.alloc (.cells (da p) 31)).alloc (.cells (da q) 31)).alloc (.cells za 31)) (w.heap.size + 1 + 1) 31 (fun _ => 0) := by rw [za_eq]; exact heap_new' _ _ _ (by simp)
  have HR0 := hide Q0.range
  have HI := hide (fun k hk => indexD q k hk)
  go_enter Tryd.func63, Tryd.ntmps63
  go_wp2_with (with_reducible refine wpList_load_da rfl 31 (.tmp 3) rfl (w.heap.size + 1) 0 rfl q _ HR0.out Tryd.underlying31 rfl (dInfo q) ?_)
  clear hz
  go_loopw [5, 6, 8] (fun _ _ i wr => ∃ k : Nat, k ≤ 96 ∧ i = .int .i64 k ∧ Dr wr w.heap.size 31 (fun i => if i < k then orD p q i else p i) ∧ Dr wr (w.heap.size + 1 + 1) 31 (fun _ => 0) ∧ Below w.heap.size w wr)
    (fun _ _ i _ => 96 - (intOf i).toNat)
  case atStart => exact ⟨0, Nat.zero_le _, rfl, P0, Z0, hb0⟩
  case round =>
    obtain ⟨k, hk, rfl, D1, D2, hb⟩ := hrel
    by_cases hlt : k < 96
    · have hx := HI.out k hlt
      have c1 : wr.cell? ⟨w.heap.size, k, none⟩ = some (.int .u32 (p k)) := by rw [D1.cell hlt, if_neg (Nat.lt_irrefl k)]
      have f1 := D1.frozen k
      go_wp2
      go_roundw
      case rel =>
        refine ⟨k + 1, hlt, by go_num, (D1.set k _).congr fun i hi => ?_, D2.other (by omega) _, hb.setCell (p := ⟨_, _, none⟩) (by dsimp only; omega) _⟩
        change (if i = k then orD p q k else _) = _
        by_cases e : i = k
        · subst e; rw [if_pos rfl, if_pos (by omega)]
        · rw [if_neg e]
          by_cases h2 : i < k
          · rw [if_pos h2, if_pos (by omega)]
          · rw [if_neg h2, if_neg (by omega)]
      case measure => simp [intOf]; omega
    · obtain rfl : k = 96 := by omega
      have R3 : Dr wr w.heap.size 31 (orD p q) := D1.congr fun i hi => by rw [if_pos hi]
      have HR3 := hide R3.range
      have R2 : wr.heap[w.heap.size + 1 + 1]? = some (.cells (da fun _ => 0) 31 (0, 0)) := D2
      have HR2 := hide R2
      clear R3 R2
      go_wp2_with (first | (with_reducible refine wpList_load_da rfl 31 (.tmp 2) rfl w.heap.size 0 rfl (orD p q) _ HR3.out Tryd.underlying31 rfl (dInfo (orD p q)) ?_) | (with_reducible refine wpList_store_row rfl 31 (.tmp 4) (.tmp 19) rfl (w.heap.size + 1 + 1) (da (orD p q)) rfl rfl 31 _ HR2.out (by rw [da_size]; exact info31) (by rw [da_size, da_size]) (da_one _) ?_))
      exact bodyPost_ret (v := .agg (da (orD p q))) (results_cell_row Tryd.results63 _ _ (w.heap.size + 1 + 1) 31 (da (orD p q)) (0, 0) _ (by simp [Act.put]) (setRow_heap _ _ _ _ _ _ HR2.out) Tryd.underlying31 rfl (by rw [da_size]; exact info31)) rfl ⟨rfl, below_setRow hb (by omega)⟩
/-- the pins that some of the first k drums has -/
def unT (ds : List (Nat → Int)) : Nat → Nat → Int
  | 0 => fun _ => 0
  | k + 1 => orD (unT ds k) (ds.getD k fun _ => 0)
theorem unT_wf (ds : List (Nat → Int)) (k : Nat) : DWF (unT ds k) := by
  cases k with
  | zero => intro i hi; simp [unT]
  | succ k => exact or_wf _ _
/-- the pins that the first drum and the first k ones have -/
def shT (ds : List (Nat → Int)) : Nat → Nat → Int
  | 0 => ds.getD 0 fun _ => 0
  | k + 1 => andD (shT ds k) (ds.getD k fun _ => 0)
theorem shT_wf {ds : List (Nat → Int)} (h : DsWF ds) (h0 : 0 < ds.length) (k : Nat) : DWF (shT ds k) := by
  cases k with
  | zero => exact h 0 h0
  | succ k => exact and_wf _ _
theorem and_self_u32 {x : Int} (h0 : 0 ≤ x) (h1 : x ≤ 4294967295) : bits .and .u32 x x = x := by
  obtain ⟨n, rfl⟩ : ∃ n : Nat, x = (n : Int) := ⟨x.toNat, by omega⟩
  rw [and_nat n n (by omega) (by omega), Nat.and_self]
theorem shT_one {ds : List (Nat → Int)} (h : DsWF ds) (h0 : 0 < ds.length) (i : Nat) (hi : i < 96) : shT ds 1 i = ds.getD 0 (fun _ => 0) i := by
  obtain ⟨a, b⟩ := h 0 h0 i hi
  exact and_self_u32 a b
/-- the greatest number of pins of the first k drums -/
def mxT (ds : List (Nat → Int)) : Nat → Nat
  | 0 => 0
  | k + 1 => max (mxT ds k) (cntT (ds.getD k fun _ => 0) 96)
theorem infoMa : (Tryd.prog.info? 64).map (·.size) = some 2 := by kernel_rfl
theorem results_cs {fn : Func} {p q : Tmp} (h : fn.results = #[.cell p 64, .tmp q]) (tmps : Array Value) (w : World) (g : Nat) (t : TypeId) (cs : Array Value) (c : Value)
    (hi : cs.size = 2) (hp : tmps.getD p undef = .pointer (some ⟨g, 0, none⟩)) (hq : tmps.getD q undef = c) (hg : w.heap[g]? = some (.cells cs t (0, 0))) :
    (results fn tmps).run Tryd.prog w = .ok (.tuple #[.agg cs, c]) w := by
  have hp' : tmps[p]?.getD undef = .pointer (some ⟨g, 0, none⟩) := by simpa using hp
  have hq' : tmps[q]?.getD undef = c := by simpa using hq
  simp [results, h, hp', hq', asAddr, run_loadVar_row w g t 64 cs (0, 0) _ hg Tryd.underlying64 rfl (by rw [hi]; exact infoMa)]

end Go.Proofs.YtncdgjaadlpncaaDoor
