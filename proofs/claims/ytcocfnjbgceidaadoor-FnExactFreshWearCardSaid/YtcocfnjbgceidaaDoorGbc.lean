import Derived.Test.YtcocfnjbgceidaaDoorWpn
import Derived.Test.YtcocfnjbgceidaaDoorGam
import Derived.Test.YtcocfnjbgceidaaDoorMkf
import Derived.Test.YtcocfnjbgceidaaDoorWpc
import Derived.Deep.RegionHeld3
import Derived.Deep.CutRange
import Derived.IntWalk
import Derived.Test.YtcocfnjbgceidaaDoorBit
import Derived.Test.YtcocfnjbgceidaaDoorGba
import Derived.Test.YtcocfnjbgceidaaDoorGav
namespace Go.Proofs.YtcocfnjbgceidaaDoor
open Go.RowKit
theorem mkWn_at (K : Int) (n k : Nat) (h : k < n) : wnS (mkWn K n) k = IntKind.i8.wrap (K + 3 * (k : Int)) ∧ wnT (mkWn K n) k = IntKind.i8.wrap (K + 3 * (k : Int) + 1) ∧ wnP (mkWn K n) k = IntKind.i64.wrap (K + 3 * (k : Int) + 1 + 1) := by simp [wnS, wnT, wnP, mkWn, h]
set_option maxHeartbeats 1000000 in
theorem markWornPinS_from (A : Option Addr) (c : Nat) (l : List (Int × Int × Int)) (base : Nat) (K : Int) (w : World) (h : w.ownsRow base 53 3 (.slice A l.length c) l.length (wnC l)) (hn : l.length ≤ 1048576) (hK : 0 ≤ K ∧ K ≤ 1099511627776) :
    Calls Tryd.prog 26 #[.slice A l.length c, .int .i64 K] w fun e w' => e = .returned (.int .i64 (K + 3 * (l.length : Int))) ∧ w'.ownsRow base 53 3 (.slice A l.length c) l.length (wnC (mkWn K l.length)) ∧ w.grownBy w' (Value.slice A l.length c).ownBlock := by
  obtain ⟨hK1, hK2⟩ := hK
  go_enter Tryd.func26, Tryd.ntmps26
  go_wp2_with fail
  go_loopw [1, 5] (fun m i wr => ∃ k : Nat, k ≤ l.length ∧ i = .int .i64 k ∧ m = .int .i64 (K + 3 * (k : Int)) ∧ wr.ownsRow base 53 3 (.slice A l.length c) l.length (wnC (mkWnT K l k)) ∧ w.grownBy wr (Value.slice A l.length c).ownBlock)
    (fun _ i _ => l.length - (intOf i).toNat)
  case atStart => exact ⟨0, Nat.zero_le _, rfl, ret_int' (by omega), by rw [mkWnT_zero]; exact h, grown_refl _ _⟩
  case round =>
    obtain ⟨k, hk, rfl, rfl, hown, hb⟩ := hrel
    by_cases hlt : k < l.length
    · rcases hown.2 with ⟨h', h0⟩ | ⟨g, cap, cur, h', hgb, hg, _⟩
      · omega
      · simp only [Value.slice.injEq, true_and] at h'
        obtain ⟨rfl, rfl⟩ := h'
        have hl' := mkWnT_length K l k hk
        obtain ⟨e1, e2, e3⟩ := wnC_at (mkWnT K l k) k (by omega)
        have f1 := (hown.cellAt (k * 3) (by omega)).trans e1
        have f2 := (hown.cellAt (k * 3 + 1) (by omega)).trans e2
        have f3 := (hown.cellAt (k * 3 + 2) (by omega)).trans e3
        have f4 := hown.frozenAt (k * 3)
        have f5 := hown.frozenAt (k * 3 + 1)
        have f6 := hown.frozenAt (k * 3 + 2)
        have HS := hide (mkWnT_set K l k hlt)
        obtain ⟨Q, hQ⟩ : ∃ Q, Q = K + 3 * (k : Int) := ⟨_, rfl⟩
        have HQ := hide hQ
        have hQ1 : 0 ≤ Q := by omega
        have hQ2 : Q ≤ 1099511627776 + 3145728 := by omega
        rw [← hQ] at HS ⊢
        have W1 := fun x y z => wnown_set3 hown k x y z
        have HW := hide W1
        have HB := hide hb
        have hwa : IntKind.i64.wrap (Q + 1) = Q + 1 := IntWalk.i64_in _ (by omega)
        have hwb : IntKind.i64.wrap (Q + 1 + 1) = Q + 1 + 1 := IntWalk.i64_in _ (by omega)
        have hwc : IntKind.i64.wrap (Q + 1 + 1 + 1) = Q + 1 + 1 + 1 := IntWalk.i64_in _ (by omega)
        clear hg h hQ e1 e2 e3 hown hb W1
        go_wp2
        exact ⟨⟨k + 1, hlt, ret_int' (by omega), ret_int' (by have := HQ.out; omega), by rw [← HS.out, hwb]; exact HW.out _ _ _, grown_set (grown_set (grown_set HB.out))⟩, by simp [intOf]; omega⟩
    · obtain rfl : k = l.length := by omega
      go_wp2
      go_ret
      exact ⟨rfl, by rw [← mkWnT_all]; exact hown, hb⟩
set_option maxHeartbeats 1000000 in
theorem heldWornPinS_from (A : Option Addr) (c n : Nat) (K : Int) (w : World) (hA : WnA w A (mkWn K n)) (hn : n ≤ 1048576) (hK : 0 ≤ K ∧ K ≤ 1099511627776) :
    Calls Tryd.prog 28 #[.slice A n c, .int .i64 K] w fun e w' => e = .returned (.int .i64 (K + 3 * (n : Int))) ∧ w = w' := by
  obtain ⟨hK1, hK2⟩ := hK
  go_enter Tryd.func28, Tryd.ntmps28
  go_wp2_with fail
  go_loop [1, 5] (fun m i => ∃ k : Nat, k ≤ n ∧ i = .int .i64 k ∧ m = .int .i64 (K + 3 * (k : Int)))
    (fun _ i => n - (intOf i).toNat)
  case atStart => exact ⟨0, Nat.zero_le _, rfl, ret_int' (by omega)⟩
  case round =>
    obtain ⟨k, hk, rfl, rfl⟩ := hrel
    by_cases hlt : k < n
    · obtain ⟨b, o, rfl, _, c1, c2, c3⟩ := hA k (by rw [mkWn_length]; exact hlt)
      obtain ⟨e1, e2, e3⟩ := mkWn_at K n k hlt
      rw [e1] at c1
      rw [e2] at c2
      rw [e3] at c3
      obtain ⟨Q, hQ⟩ : ∃ Q, Q = K + 3 * (k : Int) := ⟨_, rfl⟩
      have HQ := hide hQ
      have hQ1 : 0 ≤ Q := by omega
      have hQ2 : Q ≤ 1099511627776 + 3145728 := by omega
      rw [← hQ] at c1 c2 c3 ⊢
      have hwa : IntKind.i64.wrap (Q + 1) = Q + 1 := IntWalk.i64_in _ (by omega)
      have hwb : IntKind.i64.wrap (Q + 1 + 1) = Q + 1 + 1 := IntWalk.i64_in _ (by omega)
      have hwc : IntKind.i64.wrap (Q + 1 + 1 + 1) = Q + 1 + 1 + 1 := IntWalk.i64_in _ (by omega)
      have hki : (k : Int) < (n : Int) := by omega
      clear hQ e1 e2 e3
      have hwd : IntKind.i64.wrap Q = Q := IntWalk.i64_in _ (by omega)
      have hne3 : ((Q + 1 + 1) != (Q + 1 + 1)) = false := by simp
      have hne2 : (IntKind.i8.wrap (Q + 1) != IntKind.i8.wrap (Q + 1)) = false := by simp
      have hne1 : (IntKind.i8.wrap Q != IntKind.i8.wrap Q) = false := by simp
      rw [hwb] at c3
      go_wp2
      go_round
      case rel => exact ⟨k + 1, hlt, by go_num, ret_int' (by have := HQ.out; omega)⟩
      case measure => simp [intOf]; omega
    · obtain rfl : k = n := by omega
      go_wp2
      go_ret
      exact ⟨rfl, rfl⟩
theorem own_ne2 {w : World} {b b' n n' : Nat} {e e' : TypeId} {s s' : Nat} {v v' : Value} {xs xs' : List Value} (h : w.ownsRow b e s v n xs) (h' : w.ownsRow b' e' s' v' n' xs') (he : e ≠ e') : v.ownBlock = none ∨ v.ownBlock ≠ v'.ownBlock := by
  rcases h.2 with ⟨rfl, _⟩ | ⟨g, cap, cur, rfl, hb, hg, _⟩
  · exact Or.inl rfl
  · refine Or.inr fun hv => ?_
    rcases h'.2 with ⟨rfl, _⟩ | ⟨g', cap', cur', rfl, hb', hg', _⟩
    · cases hv
    · have e1 : g = g' := by simpa [Value.ownBlock] using hv
      subst e1
      rw [hg] at hg'
      simp at hg'
      exact he hg'.2
set_option maxHeartbeats 1000000 in
theorem markWear_from (A : Option Addr) (c : Nat) (l : List (Int × Int × Int)) (U : Option Addr) (v : Nat) (z : List Int) (base base' : Nat) (K : Int) (w : World) (h : w.ownsRow base 53 3 (.slice A l.length c) l.length (wnC l)) (h' : w.ownsRow base' 2 1 (.slice U z.length v) z.length (icells z)) (hn : l.length ≤ 1048576) (hz : z.length ≤ 1048576) (hK : 0 ≤ K ∧ K ≤ 1099500000000) :
    Calls Tryd.prog 12 #[.agg #[.slice A l.length c, .slice U z.length v], .int .i64 K] w fun e w' => ∃ wm, e = .returned (.int .i64 (K + 3 * (l.length : Int) + (z.length : Int))) ∧ wm.ownsRow base 53 3 (.slice A l.length c) l.length (wnC (mkWn K l.length)) ∧ w.grownBy wm (Value.slice A l.length c).ownBlock ∧ w'.ownsRow base' 2 1 (.slice U z.length v) z.length (icells (mkI (K + 3 * (l.length : Int)) z.length)) ∧ wm.grownBy w' (Value.slice U z.length v).ownBlock := by
  obtain ⟨X, hX⟩ : ∃ X, X = w.alloc (.cells #[.slice A l.length c, .slice U z.length v] 32) := ⟨_, rfl⟩
  have hgX : ∀ row, w.grownBy X row := fun row => by rw [hX]; exact World.grownBy_alloc w _ _
  have B0 : Bk X w.heap.size 32 #[.slice A l.length c, .slice U z.length v] := by rw [hX]; exact Bk.new _ _ _ rfl
  have h1 : X.ownsRow base 53 3 (.slice A l.length c) l.length (wnC l) := by rw [hX]; exact h.alloc _
  have h2 : X.ownsRow base' 2 1 (.slice U z.length v) z.length (icells z) := by rw [hX]; exact h'.alloc _
  go_enter Tryd.func12, Tryd.ntmps12
  go_upto_region 1 with fail
  rw [← hX]
  clear hX
  have c0 := B0.cell (i := 0) rfl
  go_wp2_with fail
  refine (markWornPinS_from A c l base K X h1 hn ⟨hK.1, by omega⟩).mono ?_
  rintro e w1 ⟨rfl, ho1, hg1⟩
  have B1 := B0.grown hg1 (own_neW h1 B0 (by decide))
  have h21 := h2.kept hg1 (own_ne2 h2 h1 (by decide))
  have c1 := B1.cell (i := 1) rfl
  clear c0
  go_wp2_with fail
  refine (markInt64S_from U v z base' (K + 3 * (l.length : Int)) w1 h21 hz ⟨by omega, by omega⟩).mono ?_
  rintro e w2 ⟨rfl, ho2, hg2⟩
  go_wp2
  go_ret
  exact ⟨w1, rfl, ho1, (hgX _).trans hg1, ho2, hg2⟩
theorem heldWear_from (A : Option Addr) (c n : Nat) (U : Option Addr) (v m : Nat) (K : Int) (w : World) (hA : WnA w A (mkWn K n)) (hU : SI w w.heap.size U (mkI (K + 3 * (n : Int)) m)) (hn : n ≤ 1048576) (hm : m ≤ 1048576) (hK : 0 ≤ K ∧ K ≤ 1099500000000) :
    Calls Tryd.prog 13 #[.agg #[.slice A n c, .slice U m v], .int .i64 K] w fun e w' => e = .returned (.int .i64 (K + 3 * (n : Int) + (m : Int))) ∧ Below w.heap.size w w' := by
  obtain ⟨X, hX⟩ : ∃ X, X = w.alloc (.cells #[.slice A n c, .slice U m v] 32) := ⟨_, rfl⟩
  have hb : Below w.heap.size w X := by rw [hX]; exact (Below.refl _ _).alloc (Nat.le_refl _) _
  have B0 : Bk X w.heap.size 32 #[.slice A n c, .slice U m v] := by rw [hX]; exact Bk.new _ _ _ rfl
  have hneg : decide (K + 3 * (n : Int) < 0) = false := by simp; omega
  have hneg2 : decide (K + 3 * (n : Int) + (m : Int) < 0) = false := by simp; omega
  go_enter Tryd.func13, Tryd.ntmps13
  go_upto_region 1 with fail
  rw [← hX]
  clear hX
  have c0 := B0.cell (i := 0) rfl
  go_wp2_with fail
  refine (heldWornPinS_from A c n K X (hA.below hb) hn ⟨hK.1, by omega⟩).mono ?_
  rintro e w1 ⟨rfl, rfl⟩
  have c1 := B0.cell (i := 1) rfl
  go_wp2_with fail
  refine (heldInt64S_from U v m X.heap.size (K + 3 * (n : Int)) X ((hU.below hb).up hb.size) hm ⟨by omega, by omega⟩).mono ?_
  rintro e w1 ⟨rfl, rfl⟩
  go_wp2
  go_ret
  exact ⟨rfl, hb⟩
end Go.Proofs.YtcocfnjbgceidaaDoor
namespace Go.Proofs.YtcocfnjbgceidaaDoor
open Go.RowKit

end Go.Proofs.YtcocfnjbgceidaaDoor
namespace Go.Proofs.YtcocfnjbgceidaaDoor
open Go.RowKit

end Go.Proofs.YtcocfnjbgceidaaDoor
namespace Go.Proofs.YtcocfnjbgceidaaDoor
open Go.RowKit
end Go.Proofs.YtcocfnjbgceidaaDoor
