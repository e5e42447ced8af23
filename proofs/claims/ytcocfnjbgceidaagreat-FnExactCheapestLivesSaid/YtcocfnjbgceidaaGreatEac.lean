import Derived.Test.YtcocfnjbgceidaaGreatGav
import Derived.Test.YtcocfnjbgceidaaGreatCpw
import Derived.Test.YtcocfnjbgceidaaGreatGat
import Derived.IntWalk
import Derived.StillTail
import Derived.StillTailTactics
import Derived.Deep.RegionHeld3
import Derived.Deep.CutRange
namespace Go.Proofs.YtcocfnjbgceidaaGreat
open Go.RowKit Go.Maps
/-- how many strokes each hammer makes in a turn, of the first pins -/
def eachL (T : List Wp) (n k : Nat) : List Int := (List.range n).map fun (t : Nat) => ((cntP (T.take k) (t : Int) : Nat) : Int)
theorem eachL_len (T : List Wp) (n k : Nat) : (eachL T n k).length = n := by simp [eachL]
theorem eachL_at (T : List Wp) (n k t : Nat) (h : t < n) : zAt (eachL T n k) t = ((cntP (T.take k) (t : Int) : Nat) : Int) := by simp [eachL, zAt, List.getD, h]
theorem eachL_zero (T : List Wp) (n : Nat) : eachL T n 0 = List.replicate n 0 := by
  apply List.ext_getElem
  · simp [eachL]
  · intro i h1 h2
    simp [eachL, cntP]
theorem eachL_step (T : List Wp) (n k : Nat) (hk : k < T.length) (t : Nat) (ht : t < n) (he : wnT T k = (t : Int)) : eachL T n (k + 1) = (eachL T n k).set t (zAt (eachL T n k) t + 1) := by
  apply List.ext_getElem
  · simp [eachL]
  · intro j h1 h2
    have hj : j < n := by simpa [eachL] using h1
    have e : ∀ m, (eachL T n m)[j]'(by simpa [eachL] using hj) = ((cntP (T.take m) (j : Int) : Nat) : Int) := fun m => by simp [eachL]
    have hT : ((T)[k]).2.1 = (t : Int) := by rw [← he]; simp [wnT, List.getD, hk]
    have e2 : cntP (T.take (k + 1)) (j : Int) = cntP (T.take k) (j : Int) + if t = j then 1 else 0 := by
      unfold cntP
      rw [List.take_succ_eq_append_getElem hk, List.countP_append, List.countP_singleton]
      congr 1
      by_cases hj2 : t = j
      · subst hj2
        simp [hT]
      · rw [if_neg hj2]
        simp [hT]
        omega
    rw [List.getElem_set, e, e2]
    by_cases htj : t = j
    · subst htj
      rw [if_pos rfl, if_pos rfl, eachL_at T n k t ht]
      simp
    · rw [if_neg htj, if_neg htj, e]
      simp
theorem cntP_le (T : List Wp) (k : Int) : cntP T k ≤ T.length := List.countP_le_length
set_option maxRecDepth 20000 in
set_option maxHeartbeats 2000000 in
theorem l06Each_any (g : Nat) (P : Option Addr) (d : Nat) (T : List Wp) (U : Option Addr) (v : Nat) (z : List Int) (w : World) (h1 : w.cell? ⟨g, 0, none⟩ = some (.slice P T.length d)) (h2 : w.cell? ⟨g, 1, none⟩ = some (.slice U z.length v)) (hL : WnA w P T) (hl : T.length ≤ 1048576) (hz : z.length ≤ 1048576) (hT : ∀ k, k < T.length → 0 ≤ wnT T k ∧ wnT T k < z.length) (hlw : WnWF T) :
    Calls Tryz.prog 92 #[.pointer (some ⟨g, 0, none⟩)] w (OwnI w (eachL T z.length T.length)) := by
  obtain ⟨i0, hi, hz0, hz1, hz2⟩ := info_parts info2
  have hgw : g < w.heap.size := World.block_lt_of_cell? w _ h1
  go_enter Tryz.func92, Tryz.ntmps92
  go_wp2_with (at_make; refine wpList_make_full _ rfl _ _ 27 rfl w.heap.size 2 i0 _ 1 Tryz.underlying27 hi hz0 hz1 _ _ _ _ z.length rfl rfl (by omega) (by omega) (by rw [hz2]; omega) (by unfold maxLen; omega) (by simp) ?_; intro w1 hown1 hgrow1)
  have hb0 : Below w.heap.size w w1 := (Below.refl _ _).grown hgrow1 (Nat.le_refl _) (fun j e => by cases e)
  clear hgrow1
  go_loopw [4] (fun i wr => ∃ k : Nat, k ≤ T.length ∧ i = .int .i64 k ∧ wr.ownsRow w.heap.size 2 1 (.slice (some ⟨w.heap.size, 0, none⟩) z.length z.length) z.length (icells (eachL T z.length k)) ∧ Below w.heap.size w wr)
    (fun i _ => T.length - (intOf i).toNat)
  case atStart =>
    refine ⟨0, Nat.zero_le _, rfl, ?_, hb0⟩
    rw [Nat.mul_one] at hown1
    rw [eachL_zero, icells_replicate]
    exact hown1
  case round =>
    obtain ⟨k, hk, rfl, hown, hb⟩ := hrel
    have q1 := (hb.cell (p := ⟨g, 0, none⟩) hgw).trans h1
    by_cases hlt : k < T.length
    · obtain ⟨b, o, rfl, hbb, c1, c2, c3⟩ := hL k hlt
      obtain ⟨_, ⟨m1, m2⟩, _⟩ := hlw k hlt
      obtain ⟨t1, t2⟩ := hT k hlt
      have d2 := (hb.cell (p := ⟨b, o + k * 3 + 1, none⟩) hbb).trans c2
      obtain ⟨t, ht⟩ : ∃ t : Nat, wnT T k = (t : Int) := ⟨(wnT T k).toNat, by omega⟩
      have htz : t < z.length := by omega
      have HS := hide (eachL_step T z.length k hlt t htz ht)
      have hle := eachL_len T z.length k
      have ck := (hown.cellAt t (by omega)).trans (icells_get (eachL T z.length k) t (by omega))
      have fk := hown.frozenAt t
      have hcv := eachL_at T z.length k t htz
      have hcb := cntP_le (T.take k) (t : Int)
      rw [List.length_take] at hcb
      obtain ⟨u, hu⟩ : ∃ u, u = zAt (eachL T z.length k) t := ⟨_, rfl⟩
      rw [← hu] at ck HS hcv
      have hub : 0 ≤ u ∧ u ≤ 1048576 := by omega
      have hwu : IntKind.i64.wrap (u + 1) = u + 1 := IntWalk.i64_in _ (by omega)
      rw [ht] at d2
      have hki : (k : Int) < (T.length : Int) := by omega
      have hti : (t : Int) < (z.length : Int) := by omega
      have row2 := (hown.stored t (.int .i64 (u + 1))).1
      rw [icells_set, ← HS.out] at row2
      have HR := hide row2
      have hb2 := hb.setCell (p := ⟨w.heap.size, t, none⟩) (Nat.le_refl _) (.int .i64 (u + 1))
      clear c1 c2 c3 hL hlw hT hown1 hb0 hcv hcb hu row2 ht t1 t2 m1 m2
      go_wp2
      go_roundw
      case rel => exact ⟨k + 1, hlt, by go_num, HR.out, hb2⟩
      case measure => simp [intOf]; omega
    · have HK := hide (show k = T.length by omega)
      have hni : ¬ (k : Int) < (T.length : Int) := by omega
      clear hk hlt hT hL hlw hown1 hb0
      go_wp2
      go_ret
      have hke := HK.out
      subst hke
      have hle := eachL_len T z.length T.length
      exact ⟨some ⟨w.heap.size, 0, none⟩, z.length, by rw [hle]; rfl, by rw [hle]; exact hown, hb⟩
end Go.Proofs.YtcocfnjbgceidaaGreat
