import Derived.Test.YtcepjiglhlmgdaaDoorCgs
import Derived.Test.YtcepjiglhlmgdaaDoorGat
import Derived.Test.YtcepjiglhlmgdaaDoorGau
import Derived.Test.YtcepjiglhlmgdaaDoorGbg
import Derived.StillTailTactics
namespace Go.Proofs.YtcepjiglhlmgdaaDoor
open Go.RowKit

theorem tog_wf' {d : Nat → Int} (hd : DWF d) (k t : Nat) : DWF (togD d k t) := by
  intro i hi
  unfold togD
  split
  · exact bounds_u32 (wf_bits .xor .u32 _ _)
  · exact hd i hi
theorem drB_tog {s : Int} {n : Nat} {d : Nat → Int} (hd : DWF d) (h : drB s n d = true) {k t : Nat} (hk : (k : Int) < s) (hs : s ≤ 96) (ht : t < n) (hn : n ≤ 24) : drB s n (togD d k t) = true := by
  have h' := drB_all h
  refine drB_yes fun i hi => ?_
  by_cases e : i = k
  · subst e
    have h1 := h' i hi
    have h2 := hd i hi
    simp only [stepB, Bool.and_eq_true, decide_eq_true_eq, Bool.or_eq_true] at h1 ⊢
    refine ⟨?_, Or.inl hk⟩
    obtain ⟨m, hm⟩ : ∃ m : Nat, d i = (m : Int) := ⟨(d i).toNat, by omega⟩
    have hm1 : m < 2 ^ n := by
      have := h1.1
      rw [hm] at this
      have h3 : ((m / 2 ^ n : Nat) : Int) = 0 := by rw [← this]; push_cast; rfl
      have h4 : m / 2 ^ n = 0 := by omega
      have hp : 0 < 2 ^ n := Nat.pow_pos (by omega)
      have h5 := Nat.lt_mul_div_succ m hp
      rw [h4] at h5
      omega
    have hp1 : 2 ^ t < 2 ^ n := Nat.pow_lt_pow_right (by omega) ht
    have hp3 : 2 ^ n ≤ 2 ^ 24 := Nat.pow_le_pow_right (by omega) hn
    have hp2 : 2 ^ t < 4294967296 := by omega
    have hx := Nat.xor_lt_two_pow hm1 hp1
    rw [togD, if_pos rfl, hm, pow_nat t (by omega), xor_nat m (2 ^ t) (by omega) hp2]
    have h0 : (m ^^^ 2 ^ t) / 2 ^ n = 0 := Nat.div_eq_of_lt hx
    have : (((m ^^^ 2 ^ t) / 2 ^ n : Nat) : Int) = 0 := by rw [h0]; rfl
    rw [← this]; push_cast; rfl
  · have h1 := h' i hi
    unfold stepB at h1 ⊢
    rw [togD, if_neg e]
    exact h1
/-- the drum behind the first k changes -/
def mcD (d : Nat → Int) (cl : List (Int × Int × Bool)) : Nat → Nat → Int
  | 0 => d
  | k + 1 => togD (mcD d cl k) (cgS cl k).toNat (cgT cl k).toNat
theorem mcD_wf {d : Nat → Int} (hd : DWF d) (cl : List (Int × Int × Bool)) : ∀ k, DWF (mcD d cl k)
  | 0 => hd
  | k + 1 => tog_wf' (mcD_wf hd cl k) _ _
/-- the code of the change k -/
def mcB (s : Int) (n : Nat) (d : Nat → Int) (cl : List (Int × Int × Bool)) (k : Nat) : Int := if plB s n (cgS cl k) (cgT cl k) then (if pinB (mcD d cl k) (cgS cl k).toNat (cgT cl k).toNat = cgP cl k then 4 else 0) else 2
def McG (s : Int) (n : Nat) (d : Nat → Int) (cl : List (Int × Int × Bool)) (k : Nat) : Prop := ∀ j, j < k → mcB s n d cl j = 0
theorem McG_succ {s : Int} {n : Nat} {d : Nat → Int} {cl : List (Int × Int × Bool)} {k : Nat} (h : McG s n d cl k) (h' : mcB s n d cl k = 0) : McG s n d cl (k + 1) := fun j hj => by
  rcases Nat.lt_or_ge j k with h1 | h1
  · exact h j h1
  · rw [show j = k by omega]; exact h'
/-- the first change that has an error, or how many there are -/
def mcI (s : Int) (n : Nat) (d : Nat → Int) (cl : List (Int × Int × Bool)) : Nat := ((List.range cl.length).find? fun k => mcB s n d cl k != 0).getD cl.length
theorem mcI_all {s : Int} {n : Nat} {d : Nat → Int} {cl : List (Int × Int × Bool)} (h : McG s n d cl cl.length) : mcI s n d cl = cl.length := by
  have : (List.range cl.length).find? (fun k => mcB s n d cl k != 0) = none := by
    rw [List.find?_eq_none]
    intro k hk
    simp [h k (List.mem_range.1 hk)]
  rw [mcI, this]; rfl
theorem mcI_bad {s : Int} {n : Nat} {d : Nat → Int} {cl : List (Int × Int × Bool)} {k : Nat} (hk : k < cl.length) (h : McG s n d cl k) (hb : mcB s n d cl k ≠ 0) : mcI s n d cl = k := by
  have e : (List.range cl.length).find? (fun k => mcB s n d cl k != 0) = some k := by
    rw [List.find?_range_eq_some]
    refine ⟨by simpa using hb, List.mem_range.2 hk, fun j hj => ?_⟩
    simp [h j hj]
  rw [mcI, e]; rfl
def mcC (s : Int) (n : Nat) (d : Nat → Int) (cl : List (Int × Int × Bool)) : Int := if mcI s n d cl = cl.length then 0 else mcB s n d cl (mcI s n d cl)
theorem mcC_all {s : Int} {n : Nat} {d : Nat → Int} {cl : List (Int × Int × Bool)} (h : McG s n d cl cl.length) : mcC s n d cl = 0 := by rw [mcC, if_pos (mcI_all h)]
theorem mcC_bad {s : Int} {n : Nat} {d : Nat → Int} {cl : List (Int × Int × Bool)} {k : Nat} (hk : k < cl.length) (h : McG s n d cl k) (hb : mcB s n d cl k ≠ 0) : mcC s n d cl = mcB s n d cl k := by
  rw [mcC, mcI_bad hk h hb, if_neg (by omega)]
theorem mcD_dr {s : Int} {n : Nat} {d : Nat → Int} {cl : List (Int × Int × Bool)} (hd : DWF d) (hdr : drB s n d = true) (hs : s ≤ 96) (hn : n ≤ 24) : ∀ k, McG s n d cl k → drB s n (mcD d cl k) = true
  | 0, _ => hdr
  | k + 1, h => by
    have h1 := mcD_dr hd hdr hs hn k fun j hj => h j (by omega)
    have h2 := h k (by omega)
    unfold mcB at h2
    by_cases hp : plB s n (cgS cl k) (cgT cl k) = true
    · obtain ⟨a, t, e1, e2, e3, e4⟩ := plB_nat hp
      rw [mcD, e1, e2]
      exact drB_tog (mcD_wf hd cl k) h1 e3 hs e4 hn
    · rw [if_neg hp] at h2; cases h2
def maC (s : Int) (l : List (Int × Int)) (d : Nat → Int) (cl : List (Int × Int × Bool)) : Int := if askB s l d then (if cl.length ≤ 2400 then mcC s l.length d cl else 3) else 1
def maN (s : Int) (l : List (Int × Int)) (d : Nat → Int) (cl : List (Int × Int × Bool)) : Int := if askB s l d then (if cl.length ≤ 2400 then (mcI s l.length d cl : Nat) else 0) else 0
def maD (s : Int) (l : List (Int × Int)) (d : Nat → Int) (cl : List (Int × Int × Bool)) : Nat → Int := if maC s l d cl = 0 then mcD d cl cl.length else fun _ => 0
theorem results_dr3 {fn : Func} {p q r : Tmp} (h : fn.results = #[.cell p 49, .tmp q, .tmp r]) (tmps : Array Value) (w : World) (g : Nat) (t : TypeId) (z : Nat → Int) (c c2 : Value)
    (hp : tmps.getD p undef = .pointer (some ⟨g, 0, none⟩)) (hq : tmps.getD q undef = c) (hr : tmps.getD r undef = c2) (hg : w.heap[g]? = some (.cells (da z) t (0, 0))) :
    (results fn tmps).run Tryd.prog w = .ok (.tuple #[.agg (da z), c, c2]) w := by
  have hp' : tmps[p]?.getD undef = .pointer (some ⟨g, 0, none⟩) := by simpa using hp
  have hq' : tmps[q]?.getD undef = c := by simpa using hq
  have hr' : tmps[r]?.getD undef = c2 := by simpa using hr
  simp [results, h, hp', hq', hr', asAddr, run_loadVar_row w g t 49 (da z) (0, 0) _ hg Tryd.underlying49 rfl (by rw [da_size]; exact info49)]
/-- a drum, a number and a code come back -/
def DrN (r : Nat → Int) (x c : Int) (w : World) (e : Ending) (w' : World) : Prop := e = .returned (.tuple #[.agg (da r), .int .i64 x, .int .i64 c]) ∧ Below w.heap.size w w'

end Go.Proofs.YtcepjiglhlmgdaaDoor
namespace Go.Proofs.YtcepjiglhlmgdaaDoor
open Go.RowKit

set_option maxRecDepth 20000 in
set_option maxHeartbeats 1000000 in
theorem changeAt_at (k t : Nat) (d : Nat → Int) (w : World) (hk : k < 96) (ht : t < 24) (hd : DWF d) :
    Calls Tryd.prog 38 #[.agg (da d), .int .i64 k, .int .i64 t] w fun e w' => e = .returned (.agg #[.int .i16 k, .int .i8 t, .bool (!pinB d k t)]) ∧ Below w.heap.size w w' := by
  obtain ⟨X0, hX⟩ : ∃ X, X = (w.alloc (.cells (da d) 49)).alloc (.cells #[.int .i16 0, .int .i8 0, .bool false] 87) := ⟨_, rfl⟩
  have b0 : Below w.heap.size w X0 := by rw [hX]; exact ((Below.refl _ _).alloc (Nat.le_refl _) _).alloc (by simp) _
  have D0 : Dr X0 w.heap.size 49 d := by rw [hX]; exact heap_old' (heap_new' _ _ _ rfl)
  have Z0 : X0.heap[w.heap.size + 1]? = some (.cells #[.int .i16 0, .int .i8 0, .bool false] 87 (0, 0)) := by rw [hX]; exact heap_new' _ _ _ (by simp)
  have HR := hide D0.range
  have hw1 : IntKind.i16.wrap (k : Int) = (k : Int) := by simp [IntKind.wrap, IntKind.signed, IntKind.bits]; omega
  have hw2 : IntKind.i8.wrap (t : Int) = (t : Int) := by simp [IntKind.wrap, IntKind.signed, IntKind.bits]; omega
  go_enter Tryd.func38, Tryd.ntmps38
  go_upto_region 1 with fail
  rw [← hX]
  clear hX
  go_wp2_with (with_reducible refine wpList_load_da rfl 49 (.tmp 3) rfl w.heap.size 0 rfl d _ HR.out Tryd.underlying49 rfl (dInfo d) ?_)
  refine (has_any k t d _ hk (by omega) hd).mono ?_
  rintro e w1 ⟨rfl, hb1⟩
  have b1 := step_below hb1 b0
  have Z1 := (hb1.block _ (Array.getElem?_eq_some_iff.1 Z0).1).trans Z0
  have z0 : w1.cell? ⟨w.heap.size + 1, 0, none⟩ = some (.int .i16 0) := by rw [cell_of_row _ _ _ _ _ _ Z1]; rfl
  have z1 : w1.cell? ⟨w.heap.size + 1, 1, none⟩ = some (.int .i8 0) := by rw [cell_of_row _ _ _ _ _ _ Z1]; rfl
  have z2 : w1.cell? ⟨w.heap.size + 1, 2, none⟩ = some (.bool false) := by rw [cell_of_row _ _ _ _ _ _ Z1]; rfl
  have f0 := frozen_of_row _ _ 0 _ _ Z1
  have f1 := frozen_of_row _ _ 1 _ _ Z1
  have f2 := frozen_of_row _ _ 2 _ _ Z1
  have HZ := hide Z1
  clear Z0 Z1
  have KB : ∀ u v z, Below w.heap.size w (((w1.setCell ⟨w.heap.size + 1, 0, none⟩ u).setCell ⟨w.heap.size + 1, 1, none⟩ v).setCell ⟨w.heap.size + 1, 2, none⟩ z) := fun u v z => ((b1.setCell (p := ⟨_, _, none⟩) (by dsimp only; omega) _).setCell (p := ⟨_, _, none⟩) (by dsimp only; omega) _).setCell (p := ⟨_, _, none⟩) (by dsimp only; omega) _
  have KH : Hid (∀ u v z, (((w1.setCell ⟨w.heap.size + 1, 0, none⟩ u).setCell ⟨w.heap.size + 1, 1, none⟩ v).setCell ⟨w.heap.size + 1, 2, none⟩ z).heap[w.heap.size + 1]? = some (.cells #[u, v, z] 87 (0, 0))) := hide fun u v z => by
    have := HZ.out
    simp [World.setCell, Array.getElem?_modify, this]
  have hi3 : (Tryd.prog.info? 87).map (·.size) = some 3 := by kernel_rfl
  have HI := hide hi3
  clear hi3
  go_wp2_with fail
  exact bodyPost_ret (v := .agg #[.int .i16 k, .int .i8 t, .bool (!pinB d k t)]) (results_cell_row Tryd.results38 _ _ (w.heap.size + 1) 87 #[.int .i16 k, .int .i8 t, .bool (!pinB d k t)] (0, 0) _ (by simp) (KH.out _ _ _) Tryd.underlying87 rfl HI.out) rfl ⟨rfl, KB _ _ _⟩

end Go.Proofs.YtcepjiglhlmgdaaDoor
