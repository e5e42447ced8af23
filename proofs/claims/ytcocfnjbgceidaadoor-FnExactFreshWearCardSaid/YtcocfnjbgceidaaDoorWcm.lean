import Derived.Test.YtcocfnjbgceidaaDoorGam
import Derived.Deep.RegionHeld3
import Derived.Sort.Grow
namespace Go.Proofs.YtcocfnjbgceidaaDoor
open Go.RowKit
theorem isNaN8W_any (a : Int) (w : World) :
    Calls Tryd.prog 50 #[.int .i8 a] w fun e w' => e = .returned (.bool false) ∧ w = w' := by
  go_enter Tryd.func50, Tryd.ntmps50
  go_wp2
  all_goals go_ret
  all_goals exact ⟨ret_bool (by simp), rfl⟩
def cmpJ (a b : Int) : Int := if a < b then -1 else if b < a then 1 else 0
theorem cmp8W_any (a b : Int) (w : World) :
    Calls Tryd.prog 48 #[.int .i8 a, .int .i8 b] w fun e w' => e = .returned (.int .i64 (cmpJ a b)) ∧ w = w' := by
  go_enter Tryd.func48, Tryd.ntmps48
  go_wp2_with (go_at_call 50; refine (isNaN8W_any _ _).mono ?_; rintro e w' ⟨rfl, rfl⟩)
  all_goals go_ret
  all_goals exact ⟨ret_int (by unfold cmpJ; (repeat' split) <;> omega), rfl⟩
def orJ (x y : Int) : Int := if x = 0 then y else x
theorem cmpOrW_any (g : Nat) (x y : Int) (w : World) (h1 : w.cell? ⟨g, 0, none⟩ = some (.int .i64 x)) (h2 : w.cell? ⟨g, 1, none⟩ = some (.int .i64 y)) :
    Calls Tryd.prog 47 #[.slice (some ⟨g, 0, none⟩) 2 2] w fun e w' => e = .returned (.int .i64 (orJ x y)) ∧ w = w' := by
  go_enter Tryd.func47, Tryd.ntmps47
  go_wp2_with fail
  go_loop [8] (fun i => ∃ k : Nat, k ≤ 2 ∧ i = .int .i64 k ∧ (0 < k → x = 0) ∧ (1 < k → y = 0)) (fun i => 3 - (intOf i).toNat)
  case atStart => exact ⟨0, by omega, rfl, fun h => absurd h (by omega), fun h => absurd h (by omega)⟩
  case round =>
    obtain ⟨k, hk, rfl, e1, e2⟩ := hrel
    have E1 := hide e1
    have E2 := hide e2
    clear e1 e2
    match k, hk with
    | 0, _ =>
      go_wp2
      · go_ret
        exact ⟨ret_int (by rw [orJ, if_neg (by simpa using ‹(x != 0) = true›)]), rfl⟩
      · go_round
        case rel => exact ⟨1, by omega, by go_num, fun _ => by simpa using ‹(x != 0) = false›, fun h => absurd h (by omega)⟩
        case measure => simp [intOf]
    | 1, _ =>
      go_wp2
      · go_ret
        exact ⟨ret_int (by rw [orJ, if_pos (E1.out (by omega))]), rfl⟩
      · go_round
        case rel => exact ⟨2, by omega, by go_num, fun _ => E1.out (by omega), fun _ => by simpa using ‹(y != 0) = false›⟩
        case measure => simp [intOf]
    | 2, _ =>
      go_wp2
      go_ret
      exact ⟨ret_int (by rw [orJ, if_pos (E1.out (by omega)), E2.out (by omega)]), rfl⟩
def ordJ (a p b q : Int) : Int := orJ (cmpJ a b) (cmpJ p q)
theorem ordJ_neg (a p b q : Int) : ordJ a p b q < 0 ↔ befW a p b q = true := by
  simp only [ordJ, orJ, cmpJ, befW, decide_eq_true_eq]
  (repeat' split) <;> omega
set_option maxHeartbeats 1000000 in
theorem compareWornPins_any (a p r b q t : Int) (w : World) :
    Calls Tryd.prog 45 #[.agg #[.int .i8 a, .int .i8 p, .int .i64 r], .agg #[.int .i8 b, .int .i8 q, .int .i64 t]] w fun e w' => e = .returned (.int .i64 (ordJ a p b q)) ∧ Below w.heap.size w w' := by
  go_enter Tryd.func45, Tryd.ntmps45
  go_wp2_with fail
  have k1 : ((w.alloc (.cells #[.int .i8 a, .int .i8 p, .int .i64 r] 53)).alloc (.cells #[.int .i8 b, .int .i8 q, .int .i64 t] 53)).cell? ⟨w.heap.size, 0, none⟩ = some (.int .i8 a) := by simp [go_sem, World.cell?_alloc_past]
  have k2 : ((w.alloc (.cells #[.int .i8 a, .int .i8 p, .int .i64 r] 53)).alloc (.cells #[.int .i8 b, .int .i8 q, .int .i64 t] 53)).cell? ⟨w.heap.size, 1, none⟩ = some (.int .i8 p) := by simp [go_sem, World.cell?_alloc_past]
  have k3 : ((w.alloc (.cells #[.int .i8 a, .int .i8 p, .int .i64 r] 53)).alloc (.cells #[.int .i8 b, .int .i8 q, .int .i64 t] 53)).cell? ⟨w.heap.size + 1, 0, none⟩ = some (.int .i8 b) := by simp [go_sem]
  have k4 : ((w.alloc (.cells #[.int .i8 a, .int .i8 p, .int .i64 r] 53)).alloc (.cells #[.int .i8 b, .int .i8 q, .int .i64 t] 53)).cell? ⟨w.heap.size + 1, 1, none⟩ = some (.int .i8 q) := by simp [go_sem]
  have k5 : Below w.heap.size w ((w.alloc (.cells #[.int .i8 a, .int .i8 p, .int .i64 r] 53)).alloc (.cells #[.int .i8 b, .int .i8 q, .int .i64 t] 53)) := ((Below.refl _ _).alloc (Nat.le_refl _) _).alloc (by simp) _
  obtain ⟨W, hW⟩ : ∃ W, W = ((w.alloc (.cells #[.int .i8 a, .int .i8 p, .int .i64 r] 53)).alloc (.cells #[.int .i8 b, .int .i8 q, .int .i64 t] 53)) := ⟨_, rfl⟩
  rw [← hW] at k1 k2 k3 k4 k5 ⊢
  clear hW
  go_region_held3 (fun w' => w'.cell? ⟨w.heap.size, 0, none⟩ = some (.int .i8 a) ∧ w'.cell? ⟨w.heap.size, 1, none⟩ = some (.int .i8 p) ∧ w'.cell? ⟨w.heap.size + 1, 0, none⟩ = some (.int .i8 b) ∧ w'.cell? ⟨w.heap.size + 1, 1, none⟩ = some (.int .i8 q) ∧ Below w.heap.size w w')
    (first | exact ⟨k1, k2, k3, k4, k5.drew⟩ | (go_split_ands; refine ⟨?_, ?_, ?_, ?_, ?_⟩ <;> first | assumption | simp [*, World.cell?_alloc_some] | exact Below.alloc (by assumption) (Below.size (by assumption)) _))
    (first | (go_at_call 48; refine (cmp8W_any _ _ _).mono ?_; rintro e w2 ⟨rfl, rfl⟩) | (go_at_call 47; refine (cmpOrW_any _ (cmpJ a b) (cmpJ p q) _ ?_ ?_).mono ?_; (simp [go_sem]); (simp [go_sem]); rintro e w2 ⟨rfl, rfl⟩))
  go_wp2
  go_ret
  exact ⟨rfl, (k5.alloc k5.size _).drew⟩
set_option maxHeartbeats 1000000 in
theorem compareWornPins_grow (a p r b q t : Int) (w : World) :
    Calls Tryd.prog 45 #[.agg #[.int .i8 a, .int .i8 p, .int .i64 r], .agg #[.int .i8 b, .int .i8 q, .int .i64 t]] w fun e w' => e = .returned (.int .i64 (ordJ a p b q)) ∧ ∃ (q : Nat) (os : Array Obj), w' = Go.Sort.grow (w.drewN q) os := by
  go_enter Tryd.func45, Tryd.ntmps45
  go_wp2_with fail
  have k1 : ((w.alloc (.cells #[.int .i8 a, .int .i8 p, .int .i64 r] 53)).alloc (.cells #[.int .i8 b, .int .i8 q, .int .i64 t] 53)).cell? ⟨w.heap.size, 0, none⟩ = some (.int .i8 a) := by simp [go_sem, World.cell?_alloc_past]
  have k2 : ((w.alloc (.cells #[.int .i8 a, .int .i8 p, .int .i64 r] 53)).alloc (.cells #[.int .i8 b, .int .i8 q, .int .i64 t] 53)).cell? ⟨w.heap.size, 1, none⟩ = some (.int .i8 p) := by simp [go_sem, World.cell?_alloc_past]
  have k3 : ((w.alloc (.cells #[.int .i8 a, .int .i8 p, .int .i64 r] 53)).alloc (.cells #[.int .i8 b, .int .i8 q, .int .i64 t] 53)).cell? ⟨w.heap.size + 1, 0, none⟩ = some (.int .i8 b) := by simp [go_sem]
  have k4 : ((w.alloc (.cells #[.int .i8 a, .int .i8 p, .int .i64 r] 53)).alloc (.cells #[.int .i8 b, .int .i8 q, .int .i64 t] 53)).cell? ⟨w.heap.size + 1, 1, none⟩ = some (.int .i8 q) := by simp [go_sem]
  have k5 : Below w.heap.size w ((w.alloc (.cells #[.int .i8 a, .int .i8 p, .int .i64 r] 53)).alloc (.cells #[.int .i8 b, .int .i8 q, .int .i64 t] 53)) := ((Below.refl _ _).alloc (Nat.le_refl _) _).alloc (by simp) _
  obtain ⟨W, hW⟩ : ∃ W, W = ((w.alloc (.cells #[.int .i8 a, .int .i8 p, .int .i64 r] 53)).alloc (.cells #[.int .i8 b, .int .i8 q, .int .i64 t] 53)) := ⟨_, rfl⟩
  rw [← hW] at k1 k2 k3 k4 k5 ⊢
  have HW := hide hW
  clear hW
  go_region_held3 (fun w' => w'.cell? ⟨w.heap.size, 0, none⟩ = some (.int .i8 a) ∧ w'.cell? ⟨w.heap.size, 1, none⟩ = some (.int .i8 p) ∧ w'.cell? ⟨w.heap.size + 1, 0, none⟩ = some (.int .i8 b) ∧ w'.cell? ⟨w.heap.size + 1, 1, none⟩ = some (.int .i8 q) ∧ Below w.heap.size w w')
    (first | exact ⟨k1, k2, k3, k4, k5.drew⟩ | (go_split_ands; refine ⟨?_, ?_, ?_, ?_, ?_⟩ <;> first | assumption | simp [*, World.cell?_alloc_some] | exact Below.alloc (by assumption) (Below.size (by assumption)) _))
    (first | (go_at_call 48; refine (cmp8W_any _ _ _).mono ?_; rintro e w2 ⟨rfl, rfl⟩) | (go_at_call 47; refine (cmpOrW_any _ (cmpJ a b) (cmpJ p q) _ ?_ ?_).mono ?_; (simp [go_sem]); (simp [go_sem]); rintro e w2 ⟨rfl, rfl⟩))
  go_wp2
  go_ret
  exact ⟨rfl, 1, #[_, _, _], by rw [HW.out, Go.Sort.alloc_eq_grow, Go.Sort.alloc_eq_grow, Go.Sort.alloc_eq_grow, Go.Sort.grow_grow, Go.Sort.grow_grow]; rfl⟩
end Go.Proofs.YtcocfnjbgceidaaDoor
