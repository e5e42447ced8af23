import Derived.Test.YtncdgjaadlpncaaDoorApm
import Derived.Test.YtncdgjaadlpncaaDoorErl
namespace Go.Proofs.YtncdgjaadlpncaaDoor
open Go.RowKit

/-- the drum behind the first k places, each of which must have (b) or not have a pin -/
def amF (zs : List Int) (b : Bool) (d : Nat → Int) : Nat → Option (Nat → Int)
  | 0 => some d
  | k + 1 => match amF zs b d k with
    | none => none
    | some q => if pinB q (zAt zs (k * 2)).toNat (zAt zs (k * 2 + 1)).toNat = b then some (togD q (zAt zs (k * 2)).toNat (zAt zs (k * 2 + 1)).toNat) else none
theorem amF_succ {zs : List Int} {b : Bool} {d q : Nat → Int} {k : Nat} (h : amF zs b d k = some q) : amF zs b d (k + 1) = if pinB q (zAt zs (k * 2)).toNat (zAt zs (k * 2 + 1)).toNat = b then some (togD q (zAt zs (k * 2)).toNat (zAt zs (k * 2 + 1)).toNat) else none := by
  simp only [amF, h]
theorem amF_none {zs : List Int} {b : Bool} {d : Nat → Int} {k : Nat} (h : amF zs b d k = none) : ∀ n, k ≤ n → amF zs b d n = none
  | 0, hn => by
    obtain rfl : k = 0 := by omega
    exact h
  | n + 1, hn => by
    by_cases e : k = n + 1
    · rw [← e]; exact h
    · have := amF_none h n (by omega)
      simp only [amF, this]
theorem amF_wf {zs : List Int} {b : Bool} {d : Nat → Int} (hd : DWF d) : ∀ {k : Nat} {q : Nat → Int}, amF zs b d k = some q → DWF q
  | 0, q, h => by
    simp only [amF, Option.some.injEq] at h
    rw [← h]; exact hd
  | k + 1, q, h => by
    cases hk : amF zs b d k with
    | none => simp only [amF, hk] at h; cases h
    | some q' =>
      rw [amF_succ hk] at h
      split at h
      · simp only [Option.some.injEq] at h
        rw [← h]
        exact tog_wf (amF_wf hd hk) _ _
      · cases h
/-- what toggledAll hands back -/
def TgA (p : Nat → Addr) (r : Option (Nat → Int)) (w : World) (e : Ending) (w' : World) : Prop := (match r with | some q => e = .returned (.tuple #[.agg (da q), .nilIface]) | none => e = .returned (.tuple #[.agg (da fun _ => 0), erV (p 3)])) ∧ Below w.heap.size w w'

set_option maxRecDepth 20000 in
set_option maxHeartbeats 4000000 in
theorem toggledAll_any (p : Nat → Addr) (d : Nat → Int) (b : Bool) (S m : Nat) (A : Option Addr) (n c : Nat) (zs : List Int) (B : Nat) (w : World) (hE : ErrP p w) (hA : SA w B A n zs) (hB : B ≤ w.heap.size) (hn : n ≤ 1048576) (hS : S ≤ 96) (hm : m ≤ 24) (hd : DWF d) (hv : ∀ k, k < n → plB (S : Int) m (zAt zs (k * 2)) (zAt zs (k * 2 + 1)) = true) :
    Calls Tryd.prog 32 #[.agg (da d), .slice A n c, .bool b] w (TgA p (amF zs b d n) w) := by
  have hz := zeroDrum
  have hb0 : Below w.heap.size w ((w.alloc (.cells (da d) 31)).alloc (.cells za 31)) := ((Below.refl _ _).alloc (Nat.le_refl _) _).alloc (by simp) _
  have D0 : Dr ((w.alloc (.cells (da d) 31)).alloc (.cells za 31)) w.heap.size 31 d := heap_old' (heap_new' _ _ _ rfl)
  have Z0 : Dr ((w.alloc (.cells (da d) 31)).alloc (.cells za 31)) (w.heap.size + 1) 31 (fun _ => 0) := by rw [za_eq]; exact heap_new' _ _ _ (by simp)
  go_enter Tryd.func32, Tryd.ntmps32
  go_wp2_with fail
  clear hz
  go_loopw [12] (fun i wr => ∃ (k : Nat) (q : Nat → Int), k ≤ n ∧ i = .int .i64 k ∧ amF zs b d k = some q ∧ Dr wr w.heap.size 31 q ∧ Dr wr (w.heap.size + 1) 31 (fun _ => 0) ∧ Below w.heap.size w wr)
    (fun i _ => n - (intOf i).toNat)
  case atStart => exact ⟨0, d, Nat.zero_le _, rfl, rfl, D0, Z0, hb0⟩
  case round =>
    obtain ⟨k, q, hk, rfl, hq, Dq, Zq, hb⟩ := hrel
    have hqw := amF_wf hd hq
    by_cases hlt : k < n
    · obtain ⟨g, rfl, hg, c1, c2⟩ := hA k hlt
      obtain ⟨a, t, ha, ht, ha2, ht2⟩ := plB_nat (hv k hlt)
      have hA96 : a < 96 := by omega
      have ht24 : t < 24 := by omega
      rw [ha] at c1
      rw [ht] at c2
      have hsuc := amF_succ hq
      rw [ha, ht, Int.toNat_natCast, Int.toNat_natCast] at hsuc
      have d1 := (hb.cell (p := ⟨g, _, none⟩) (by dsimp only; omega)).trans c1
      have d2 := (hb.cell (p := ⟨g, _, none⟩) (by dsimp only; omega)).trans c2
      have hki : (k : Int) < (n : Int) := by omega
      have hsz := hb.size
      have hy1 : Below wr.heap.size wr (wr.alloc (.cells #[.int .i64 a, .int .i64 t] 59)) := (Below.refl _ _).alloc (Nat.le_refl _) _
      have hb4 := hb.alloc hb.size (.cells #[.int .i64 a, .int .i64 t] 59)
      have f1 : (wr.alloc (.cells #[.int .i64 a, .int .i64 t] 59)).cell? ⟨wr.heap.size, 0, none⟩ = some (.int .i64 a) := by simp [go_sem]
      have f2 : (wr.alloc (.cells #[.int .i64 a, .int .i64 t] 59)).cell? ⟨wr.heap.size, 1, none⟩ = some (.int .i64 t) := by simp [go_sem]
      have D4 := Dq.keep hy1
      have Z4 := Zq.keep hy1
      have HR4 := hide D4.range
      have HSU := hide hsuc
      have HQ := hide hq
      clear c1 c2 ha ht hsuc hq hA hv
      go_wp2_with (with_reducible refine wpList_load_da rfl 31 (.tmp 3) rfl w.heap.size 0 rfl q _ HR4.out Tryd.underlying31 rfl (dInfo q) ?_)
      refine (has_any a t q _ hA96 (by omega) hqw).mono ?_
      rintro e w5 ⟨rfl, hb5⟩
      have hb6 := step_below hb5 hb4
      have D5 := D4.keep hb5
      have Z5 := Z4.keep hb5
      have g1 := (hb5.cell (p := ⟨wr.heap.size, 0, none⟩) (by simp)).trans f1
      have g2 := (hb5.cell (p := ⟨wr.heap.size, 1, none⟩) (by simp)).trans f2
      obtain ⟨v, hvv⟩ : ∃ v, pinB q a t = v := ⟨_, rfl⟩
      rw [hvv] at HSU ⊢
      clear hvv
      by_cases e : v = b
      · have HX := hide (show amF zs b d (k + 1) = some (togD q a t) by rw [HSU.out, if_pos e])
        have HR5 := hide D5.range
        clear HSU f1 f2
        subst e
        go_wp2_with (first | (with_reducible refine wpList_load_da rfl 31 (.tmp 3) rfl w.heap.size 0 rfl q _ HR5.out Tryd.underlying31 rfl (dInfo q) ?_) | (go_at_call 56; refine (toggled_any a t q _ hA96 ht24 hqw).mono ?_; rintro e w7 ⟨rfl, hb7⟩; have hb8 := step_below hb7 hb6; have HP := hide (show w7.heap[w.heap.size]? = some (.cells (da q) 31 (0, 0)) from D5.keep hb7); have HZ := hide (show w7.heap[w.heap.size + 1]? = some (.cells (da fun _ => 0) 31 (0, 0)) from Z5.keep hb7)) | (with_reducible refine wpList_store_row rfl 31 (.tmp 3) (.tmp 31) rfl w.heap.size (da (togD q a t)) rfl rfl 31 _ HP.out (by rw [da_size]; exact info31) (by simp only [da_size]) (da_one _) ?_))
        go_roundw
        case rel => exact ⟨k + 1, togD q a t, hlt, by go_num, HX.out, setRow_heap _ _ _ _ _ _ HP.out, (setRow_other _ _ _ _ (by omega)).trans HZ.out, below_setRow hb8 (Nat.le_refl _)⟩
        case measure => simp [intOf]; omega
      · have HX := hide (amF_none (k := k + 1) (show amF zs b d (k + 1) = none by rw [HSU.out, if_neg e]) n hlt)
        have ev : v = !b := by cases v <;> cases b <;> simp_all
        have hne : ((!b) == b) = false := by cases b <;> rfl
        clear HSU e f1 f2
        subst ev
        go_wp2_with fail
        have hd1 : Below w5.heap.size w5 w5.drew := (Below.refl _ _).drew
        have hbw := step_below hd1 hb6
        have hE3 : w5.drew.cell? ⟨0, 0, none⟩ = some (erV (p 3)) := (hE.keep hbw).1 3 (by omega)
        have Zd : w5.drew.heap[w.heap.size + 1]? = some (.cells (da fun _ => 0) 31 (0, 0)) := Z5.keep hd1
        have hbl : Tryd.prog.built 31 [] = some (da fun _ => 0) := by rw [built0, za_eq]
        clear D5 Z5 g1 g2 hd1
        refine wp_region_held_drew (S := fun w' => w'.cell? ⟨0, 0, none⟩ = some (erV (p 3))) (by kernel_rfl) hE3 fun hS5 => ?_
        refine wpAnyH_take (i := 0) (v := .agg (da fun _ => 0)) rfl (by kernel_rfl) (by kernel_rfl) (by kernel_rfl) (fun _ _ _ h => h) (Or.inl ⟨by rfl, fun w' h => ?_⟩) hS5 ?_
        · clear h
          go_simp
          exact za_eq
        change wpAnyH _ _ _ _ _ _ _ (Act.put _ (some 24) _) _
        simp only [Act.put, List.setIfInBounds_toArray, List.set_cons_zero, List.set_cons_succ]
        refine wpAnyH_take (i := 1) (v := erV (p 3)) rfl (by kernel_rfl) (by kernel_rfl) (by kernel_rfl) (fun _ _ _ h => h) (Or.inl ⟨by rfl, fun w' h => ?_⟩) hS5 ?_
        · go_simp
        change wpAnyH _ _ _ _ _ _ _ (Act.put _ (some 25) _) _
        simp only [Act.put, List.setIfInBounds_toArray, List.set_cons_zero, List.set_cons_succ]
        refine wpAnyH_ready (rs := [2]) (by kernel_rfl) (by simp) (AllReadyH.cons rfl ?_ AllReadyH.nil)
        intro K hK
        rw [if_pos (by rfl)]
        refine wp_store_row 31 (.tmp 6) (.tmp 24) rfl (w.heap.size + 1) (da fun _ => 0) rfl rfl 31 _ Zd (by rw [da_size]; exact info31) (by simp only [da_size]) (da_one _) ?_
        have hb9 : Below w.heap.size w (w5.drew.setRow (w.heap.size + 1) (da fun _ => 0)) := below_setRow hbw (by omega)
        have hE9 := (hE.keep hb9).1 3 (by omega)
        refine hK.out _ _ hE9 (fun hS9 => ?_)
        clear hK K
        refine wpAnyH_take (i := 3) (v := erV (p 3)) rfl (by kernel_rfl) (by kernel_rfl) (by kernel_rfl) (fun _ _ _ h => h) (Or.inl ⟨by rfl, fun w' _ => by go_simp⟩) hS9 ?_
        change wpAnyH _ _ _ _ _ _ _ (Act.put _ (some 7) _) _
        simp only [Act.put, List.setIfInBounds_toArray, List.set_cons_zero, List.set_cons_succ]
        refine wpAnyH_done (by kernel_rfl) ?_ _
        have HZ9 := hide (setRow_heap _ _ _ _ _ _ Zd : (w5.drew.setRow (w.heap.size + 1) (da fun _ => 0)).heap[w.heap.size + 1]? = some (.cells (da fun _ => 0) 31 (0, 0)))
        have HB9 := hide hb9
        clear hS5 hS9 hE9 hb9 Zd hE3
        go_wp2_with fail
        exact bodyPost_ret (v := .tuple #[.agg (da fun _ => 0), erV (p 3)]) (results_dr Tryd.results32 _ _ (w.heap.size + 1) 31 _ _ (by simp) (by simp) HZ9.out) rfl ⟨by rw [HX.out], HB9.out⟩
    · obtain rfl : k = n := by omega
      have HQ := hide hq
      have HR4 := hide Dq.range
      have R2 : wr.heap[w.heap.size + 1]? = some (.cells (da fun _ => 0) 31 (0, 0)) := Zq
      have HZ := hide R2
      clear hq R2
      go_wp2_with (first | (with_reducible refine wpList_load_da rfl 31 (.tmp 3) rfl w.heap.size 0 rfl q _ HR4.out Tryd.underlying31 rfl (dInfo q) ?_) | (with_reducible refine wpList_store_row rfl 31 (.tmp 6) (.tmp 33) rfl (w.heap.size + 1) (da q) rfl rfl 31 _ HZ.out (by rw [da_size]; exact info31) (by simp only [da_size]) (da_one _) ?_))
      exact bodyPost_ret (v := .tuple #[.agg (da q), .nilIface]) (results_dr Tryd.results32 _ _ (w.heap.size + 1) 31 _ _ (by simp [Act.put]) (by simp [Act.put]) (setRow_heap _ _ _ _ _ _ HZ.out)) rfl ⟨by rw [HQ.out], below_setRow hb (by omega)⟩
end Go.Proofs.YtncdgjaadlpncaaDoor
