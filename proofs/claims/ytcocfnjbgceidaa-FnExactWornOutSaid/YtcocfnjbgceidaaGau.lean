import Derived.Test.YtcocfnjbgceidaaWpn
import Derived.Test.YtcocfnjbgceidaaGah
import Derived.Test.YtcocfnjbgceidaaMkf
import Derived.Test.YtcocfnjbgceidaaWpc
import Derived.Deep.RegionHeld3
import Derived.Deep.CutRange
import Derived.IntWalk
import Derived.Test.YtcocfnjbgceidaaGaq
import Derived.Test.YtcocfnjbgceidaaGas
import Derived.Test.YtcocfnjbgceidaaGan
namespace Go.Proofs.Ytcocfnjbgceidaa
open Go.RowKit
theorem mkWn_at (K : Int) (n k : Nat) (h : k < n) : wnS (mkWn K n) k = IntKind.i8.wrap (K + 3 * (k : Int)) ∧ wnT (mkWn K n) k = IntKind.i8.wrap (K + 3 * (k : Int) + 1) ∧ wnP (mkWn K n) k = IntKind.i64.wrap (K + 3 * (k : Int) + 1 + 1) := by simp [wnS, wnT, wnP, mkWn, h]
set_option maxHeartbeats 1000000 in
theorem markWornPinS_from (A : Option Addr) (c : Nat) (l : List (Int × Int × Int)) (base : Nat) (K : Int) (w : World) (h : w.ownsRow base 136 3 (.slice A l.length c) l.length (wnC l)) (hn : l.length ≤ 1048576) (hK : 0 ≤ K ∧ K ≤ 1099511627776) :
    Calls Try.prog 40 #[.slice A l.length c, .int .i64 K] w fun e w' => e = .returned (.int .i64 (K + 3 * (l.length : Int))) ∧ w'.ownsRow base 136 3 (.slice A l.length c) l.length (wnC (mkWn K l.length)) ∧ w.grownBy w' (Value.slice A l.length c).ownBlock := by
  obtain ⟨hK1, hK2⟩ := hK
  go_enter Try.func40, Try.ntmps40
  go_wp2_with fail
  go_loopw [1, 5] (fun m i wr => ∃ k : Nat, k ≤ l.length ∧ i = .int .i64 k ∧ m = .int .i64 (K + 3 * (k : Int)) ∧ wr.ownsRow base 136 3 (.slice A l.length c) l.length (wnC (mkWnT K l k)) ∧ w.grownBy wr (Value.slice A l.length c).ownBlock)
    (fun _ i _ => l.length - (intOf i).toNat)
  case atStart => exact ⟨0, Nat.zero_le _, rfl, ret_int' (by omega), by rw [mkWnT_zero]; exact h, grown_refl _ _⟩
  case round =>
    obtain ⟨k, hk, rfl, rfl, hown, hb⟩ := hrel
    by_cases hlt : k < l.length
    · rcases hown.2 with ⟨h', h0⟩ | ⟨g, cap, cur, h', hgb, hg, _⟩
      · omega
      · simp only [Value.slice.injEq, true_and] at h'
        obtain ⟨rfl, rfl⟩ := h'
        have hl' := mkWnT_length K l k hk
        obtain ⟨e1, e2, e3⟩ := wnC_at (mkWnT K l k) k (by omega)
        have f1 := (hown.cellAt (k * 3) (by omega)).trans e1
        have f2 := (hown.cellAt (k * 3 + 1) (by omega)).trans e2
        have f3 := (hown.cellAt (k * 3 + 2) (by omega)).trans e3
        have f4 := hown.frozenAt (k * 3)
        have f5 := hown.frozenAt (k * 3 + 1)
        have f6 := hown.frozenAt (k * 3 + 2)
        have HS := hide (mkWnT_set K l k hlt)
        obtain ⟨Q, hQ⟩ : ∃ Q, Q = K + 3 * (k : Int) := ⟨_, rfl⟩
        have HQ := hide hQ
        have hQ1 : 0 ≤ Q := by omega
        have hQ2 : Q ≤ 1099511627776 + 3145728 := by omega
        rw [← hQ] at HS ⊢
        have W1 := fun x y z => wnown_set3 hown k x y z
        have HW := hide W1
        have HB := hide hb
        have hwa : IntKind.i64.wrap (Q + 1) = Q + 1 := IntWalk.i64_in _ (by omega)
        have hwb : IntKind.i64.wrap (Q + 1 + 1) = Q + 1 + 1 := IntWalk.i64_in _ (by omega)
        have hwc : IntKind.i64.wrap (Q + 1 + 1 + 1) = Q + 1 + 1 + 1 := IntWalk.i64_in _ (by omega)
        clear hg h hQ e1 e2 e3 hown hb W1
        go_wp2
        exact ⟨⟨k + 1, hlt, ret_int' (by omega), ret_int' (by have := HQ.out; omega), by rw [← HS.out, hwb]; exact HW.out _ _ _, grown_set (grown_set (grown_set HB.out))⟩, by simp [intOf]; omega⟩
    · obtain rfl : k = l.length := by omega
      go_wp2
      go_ret
      exact ⟨rfl, by rw [← mkWnT_all]; exact hown, hb⟩
set_option maxHeartbeats 1000000 in
theorem heldWornPinS_from (A : Option Addr) (c n : Nat) (K : Int) (w : World) (hA : WnA w A (mkWn K n)) (hn : n ≤ 1048576) (hK : 0 ≤ K ∧ K ≤ 1099511627776) :
    Calls Try.prog 42 #[.slice A n c, .int .i64 K] w fun e w' => e = .returned (.int .i64 (K + 3 * (n : Int))) ∧ w = w' := by
  obtain ⟨hK1, hK2⟩ := hK
  go_enter Try.func42, Try.ntmps42
  go_wp2_with fail
  go_loop [1, 5] (fun m i => ∃ k : Nat, k ≤ n ∧ i = .int .i64 k ∧ m = .int .i64 (K + 3 * (k : Int)))
    (fun _ i => n - (intOf i).toNat)
  case atStart => exact ⟨0, Nat.zero_le _, rfl, ret_int' (by omega)⟩
  case round =>
    obtain ⟨k, hk, rfl, rfl⟩ := hrel
    by_cases hlt : k < n
    · obtain ⟨b, o, rfl, _, c1, c2, c3⟩ := hA k (by rw [mkWn_length]; exact hlt)
      obtain ⟨e1, e2, e3⟩ := mkWn_at K n k hlt
      rw [e1] at c1
      rw [e2] at c2
      rw [e3] at c3
      obtain ⟨Q, hQ⟩ : ∃ Q, Q = K + 3 * (k : Int) := ⟨_, rfl⟩
      have HQ := hide hQ
      have hQ1 : 0 ≤ Q := by omega
      have hQ2 : Q ≤ 1099511627776 + 3145728 := by omega
      rw [← hQ] at c1 c2 c3 ⊢
      have hwa : IntKind.i64.wrap (Q + 1) = Q + 1 := IntWalk.i64_in _ (by omega)
      have hwb : IntKind.i64.wrap (Q + 1 + 1) = Q + 1 + 1 := IntWalk.i64_in _ (by omega)
      have hwc : IntKind.i64.wrap (Q + 1 + 1 + 1) = Q + 1 + 1 + 1 := IntWalk.i64_in _ (by omega)
      have hki : (k : Int) < (n : Int) := by omega
      clear hQ e1 e2 e3
      have hwd : IntKind.i64.wrap Q = Q := IntWalk.i64_in _ (by omega)
      have hne3 : ((Q + 1 + 1) != (Q + 1 + 1)) = false := by simp
      have hne2 : (IntKind.i8.wrap (Q + 1) != IntKind.i8.wrap (Q + 1)) = false := by simp
      have hne1 : (IntKind.i8.wrap Q != IntKind.i8.wrap Q) = false := by simp
      rw [hwb] at c3
      go_wp2
      go_round
      case rel => exact ⟨k + 1, hlt, by go_num, ret_int' (by have := HQ.out; omega)⟩
      case measure => simp [intOf]; omega
    · obtain rfl : k = n := by omega
      go_wp2
      go_ret
      exact ⟨rfl, rfl⟩
theorem own_ne2 {w : World} {b b' n n' : Nat} {e e' : TypeId} {s s' : Nat} {v v' : Value} {xs xs' : List Value} (h : w.ownsRow b e s v n xs) (h' : w.ownsRow b' e' s' v' n' xs') (he : e ≠ e') : v.ownBlock = none ∨ v.ownBlock ≠ v'.ownBlock := by
  rcases h.2 with ⟨rfl, _⟩ | ⟨g, cap, cur, rfl, hb, hg, _⟩
  · exact Or.inl rfl
  · refine Or.inr fun hv => ?_
    rcases h'.2 with ⟨rfl, _⟩ | ⟨g', cap', cur', rfl, hb', hg', _⟩
    · cases hv
    · have e1 : g = g' := by simpa [Value.ownBlock] using hv
      subst e1
      rw [hg] at hg'
      simp at hg'
      exact he hg'.2
set_option maxHeartbeats 1000000 in
theorem markWear_from (A : Option Addr) (c : Nat) (l : List (Int × Int × Int)) (U : Option Addr) (v : Nat) (z : List Int) (base base' : Nat) (K : Int) (w : World) (h : w.ownsRow base 136 3 (.slice A l.length c) l.length (wnC l)) (h' : w.ownsRow base' 2 1 (.slice U z.length v) z.length (icells z)) (hn : l.length ≤ 1048576) (hz : z.length ≤ 1048576) (hK : 0 ≤ K ∧ K ≤ 1099500000000) :
    Calls Try.prog 39 #[.agg #[.slice A l.length c, .slice U z.length v], .int .i64 K] w fun e w' => ∃ wm, e = .returned (.int .i64 (K + 3 * (l.length : Int) + (z.length : Int))) ∧ wm.ownsRow base 136 3 (.slice A l.length c) l.length (wnC (mkWn K l.length)) ∧ w.grownBy wm (Value.slice A l.length c).ownBlock ∧ w'.ownsRow base' 2 1 (.slice U z.length v) z.length (icells (mkI (K + 3 * (l.length : Int)) z.length)) ∧ wm.grownBy w' (Value.slice U z.length v).ownBlock := by
  obtain ⟨X, hX⟩ : ∃ X, X = w.alloc (.cells #[.slice A l.length c, .slice U z.length v] 64) := ⟨_, rfl⟩
  have hgX : ∀ row, w.grownBy X row := fun row => by rw [hX]; exact World.grownBy_alloc w _ _
  have B0 : Bk X w.heap.size 64 #[.slice A l.length c, .slice U z.length v] := by rw [hX]; exact Bk.new _ _ _ rfl
  have h1 : X.ownsRow base 136 3 (.slice A l.length c) l.length (wnC l) := by rw [hX]; exact h.alloc _
  have h2 : X.ownsRow base' 2 1 (.slice U z.length v) z.length (icells z) := by rw [hX]; exact h'.alloc _
  go_enter Try.func39, Try.ntmps39
  go_upto_region 1 with fail
  rw [← hX]
  clear hX
  have c0 := B0.cell (i := 0) rfl
  go_wp2_with fail
  refine (markWornPinS_from A c l base K X h1 hn ⟨hK.1, by omega⟩).mono ?_
  rintro e w1 ⟨rfl, ho1, hg1⟩
  have B1 := B0.grown hg1 (own_neW h1 B0 (by decide))
  have h21 := h2.kept hg1 (own_ne2 h2 h1 (by decide))
  have c1 := B1.cell (i := 1) rfl
  clear c0
  go_wp2_with fail
  refine (markInt64S_from U v z base' (K + 3 * (l.length : Int)) w1 h21 hz ⟨by omega, by omega⟩).mono ?_
  rintro e w2 ⟨rfl, ho2, hg2⟩
  go_wp2
  go_ret
  exact ⟨w1, rfl, ho1, (hgX _).trans hg1, ho2, hg2⟩
end Go.Proofs.Ytcocfnjbgceidaa
namespace Go.Proofs.Ytcocfnjbgceidaa
open Go.RowKit

end Go.Proofs.Ytcocfnjbgceidaa
namespace Go.Proofs.Ytcocfnjbgceidaa
open Go.RowKit

end Go.Proofs.Ytcocfnjbgceidaa
namespace Go.Proofs.Ytcocfnjbgceidaa
open Go.RowKit
end Go.Proofs.Ytcocfnjbgceidaa
namespace Go.Proofs.Ytcocfnjbgceidaa
open Go.RowKit

section
variable {w0 w1 w2 : World} {s : Int} {A : Option Addr} {n c : Nat} {d : Nat → Int}
theorem range_keep {w w' : World} {b o : Nat} {cs : List Value} (h : w.rangeAt b o cs) (hb : Below w.heap.size w w') : w'.rangeAt b o cs := fun j v hv =>
  (hb.cell (p := ⟨b, o + j, none⟩) (World.block_lt_of_cell? w _ (h j v hv))).trans (h j v hv)
theorem sl_keep (h : w1.cell? ⟨w0.heap.size, 0, none⟩ = some (.int .i16 s) ∧ w1.cell? ⟨w0.heap.size, 1, none⟩ = some (.slice A n c) ∧ w1.rangeAt (w0.heap.size + 1) 0 (dv d) ∧ Below w0.heap.size w0 w1 ∧ w0.heap.size + 2 ≤ w1.heap.size) (hb : Below w1.heap.size w1 w2) :
    w2.cell? ⟨w0.heap.size, 0, none⟩ = some (.int .i16 s) ∧ w2.cell? ⟨w0.heap.size, 1, none⟩ = some (.slice A n c) ∧ w2.rangeAt (w0.heap.size + 1) 0 (dv d) ∧ Below w0.heap.size w0 w2 ∧ w0.heap.size + 2 ≤ w2.heap.size :=
  ⟨(hb.cell (p := ⟨_, _, none⟩) (World.block_lt_of_cell? _ _ h.1)).trans h.1, (hb.cell (p := ⟨_, _, none⟩) (World.block_lt_of_cell? _ _ h.2.1)).trans h.2.1, range_keep h.2.2.1 hb, step_below hb h.2.2.2.1, Nat.le_trans h.2.2.2.2 hb.size⟩
theorem sl_keep' (hb : Below w1.heap.size w1 w2) (h : w1.cell? ⟨w0.heap.size, 0, none⟩ = some (.int .i16 s) ∧ w1.cell? ⟨w0.heap.size, 1, none⟩ = some (.slice A n c) ∧ w1.rangeAt (w0.heap.size + 1) 0 (dv d) ∧ Below w0.heap.size w0 w1 ∧ w0.heap.size + 2 ≤ w1.heap.size) :
    w2.cell? ⟨w0.heap.size, 0, none⟩ = some (.int .i16 s) ∧ w2.cell? ⟨w0.heap.size, 1, none⟩ = some (.slice A n c) ∧ w2.rangeAt (w0.heap.size + 1) 0 (dv d) ∧ Below w0.heap.size w0 w2 ∧ w0.heap.size + 2 ≤ w2.heap.size := sl_keep h hb
theorem al_below (w : World) (o : Obj) : Below w.heap.size w (w.alloc o) := (Below.refl _ _).alloc (Nat.le_refl _) _
theorem sl_alloc {o : Obj} (h : w1.cell? ⟨w0.heap.size, 0, none⟩ = some (.int .i16 s) ∧ w1.cell? ⟨w0.heap.size, 1, none⟩ = some (.slice A n c) ∧ w1.rangeAt (w0.heap.size + 1) 0 (dv d) ∧ Below w0.heap.size w0 w1 ∧ w0.heap.size + 2 ≤ w1.heap.size) :
    (w1.alloc o).cell? ⟨w0.heap.size, 0, none⟩ = some (.int .i16 s) ∧ (w1.alloc o).cell? ⟨w0.heap.size, 1, none⟩ = some (.slice A n c) ∧ (w1.alloc o).rangeAt (w0.heap.size + 1) 0 (dv d) ∧ Below w0.heap.size w0 (w1.alloc o) ∧ w0.heap.size + 2 ≤ (w1.alloc o).heap.size := sl_keep h (al_below _ _)
theorem sl_drewal {o : Obj} (h : w1.cell? ⟨w0.heap.size, 0, none⟩ = some (.int .i16 s) ∧ w1.cell? ⟨w0.heap.size, 1, none⟩ = some (.slice A n c) ∧ w1.rangeAt (w0.heap.size + 1) 0 (dv d) ∧ Below w0.heap.size w0 w1 ∧ w0.heap.size + 2 ≤ w1.heap.size) :
    (w1.alloc o).drew.cell? ⟨w0.heap.size, 0, none⟩ = some (.int .i16 s) ∧ (w1.alloc o).drew.cell? ⟨w0.heap.size, 1, none⟩ = some (.slice A n c) ∧ (w1.alloc o).drew.rangeAt (w0.heap.size + 1) 0 (dv d) ∧ Below w0.heap.size w0 (w1.alloc o).drew ∧ w0.heap.size + 2 ≤ (w1.alloc o).drew.heap.size := sl_keep (sl_alloc h) ((Below.refl _ _).drew)
theorem below_setCells {B g : Nat} {w w' : World} (h : Below B w w') (hg : B ≤ g) (o : Nat) (cs : List Value) : Below B w (w'.setCells g o cs) := by
  induction cs generalizing w' o with
  | nil => exact h
  | cons v r ih => exact ih (h.setCell (p := ⟨g, o, none⟩) hg v) (o + 1)
theorem sl_set {g : Nat} {cs : List Value} (h : w1.cell? ⟨w0.heap.size, 0, none⟩ = some (.int .i16 s) ∧ w1.cell? ⟨w0.heap.size, 1, none⟩ = some (.slice A n c) ∧ w1.rangeAt (w0.heap.size + 1) 0 (dv d) ∧ Below w0.heap.size w0 w1 ∧ w0.heap.size + 2 ≤ w1.heap.size) (hg : w0.heap.size + 2 ≤ g) :
    (w1.setCells g 0 cs).cell? ⟨w0.heap.size, 0, none⟩ = some (.int .i16 s) ∧ (w1.setCells g 0 cs).cell? ⟨w0.heap.size, 1, none⟩ = some (.slice A n c) ∧ (w1.setCells g 0 cs).rangeAt (w0.heap.size + 1) 0 (dv d) ∧ Below w0.heap.size w0 (w1.setCells g 0 cs) ∧ w0.heap.size + 2 ≤ (w1.setCells g 0 cs).heap.size := by
  have hz : w1.heap.size ≤ (w1.setCells g 0 cs).heap.size := (below_setCells (B := 0) (Below.refl _ w1) (Nat.zero_le _) 0 cs).size
  refine ⟨?_, ?_, World.rangeAt_setCells_apart h.2.2.1 g 0 cs (Or.inl (by omega)), below_setCells h.2.2.2.1 (by omega) 0 cs, by have := h.2.2.2.2; omega⟩
  · rw [World.cell?_setCells_out g cs 0 w1 _ (fun h1 _ => absurd h1 (by dsimp only; omega))]; exact h.1
  · rw [World.cell?_setCells_out g cs 0 w1 _ (fun h1 _ => absurd h1 (by dsimp only; omega))]; exact h.2.1
theorem sl_below (h : w1.cell? ⟨w0.heap.size, 0, none⟩ = some (.int .i16 s) ∧ w1.cell? ⟨w0.heap.size, 1, none⟩ = some (.slice A n c) ∧ w1.rangeAt (w0.heap.size + 1) 0 (dv d) ∧ Below w0.heap.size w0 w1 ∧ w0.heap.size + 2 ≤ w1.heap.size) : Below w0.heap.size w0 w1 := h.2.2.2.1
theorem sl_size (h : w1.cell? ⟨w0.heap.size, 0, none⟩ = some (.int .i16 s) ∧ w1.cell? ⟨w0.heap.size, 1, none⟩ = some (.slice A n c) ∧ w1.rangeAt (w0.heap.size + 1) 0 (dv d) ∧ Below w0.heap.size w0 w1 ∧ w0.heap.size + 2 ≤ w1.heap.size) : w0.heap.size + 2 ≤ w1.heap.size := h.2.2.2.2
theorem th_new (w : World) (t : TypeId) : (w.alloc (.cells za t)).there w.heap.size 0 96 := by
  have h : Dr (w.alloc (.cells za t)) w.heap.size t (fun _ => 0) := by rw [za_eq]; exact heap_new' _ _ _ rfl
  intro j hj
  rw [Nat.zero_add, h.cell hj]
  exact ⟨rfl, h.frozen j⟩
theorem th_newd (w : World) (t : TypeId) : ((w.alloc (.cells za t)).drew).there w.heap.size 0 96 := (World.there_drew _ _ _ _).2 (th_new w t)
theorem th_keep {w w' : World} {b o k : Nat} (h : w.there b o k) (hb : Below w.heap.size w w') : w'.there b o k := fun j hj => by
  obtain ⟨h1, h2⟩ := h j hj
  obtain ⟨u, hu⟩ := Option.isSome_iff_exists.1 h1
  have hl := World.block_lt_of_cell? w _ hu
  exact ⟨by rw [(hb.cell (p := ⟨b, o + j, none⟩) hl).trans hu]; rfl, (hb.frozen (p := ⟨b, o + j, none⟩) hl).trans h2⟩
theorem sx_keep {X : World} {b1 b2 : Nat} (h : w1.cell? ⟨b1, 0, none⟩ = some (.int .i16 s) ∧ w1.cell? ⟨b1, 1, none⟩ = some (.slice A n c) ∧ w1.rangeAt b2 0 (dv d) ∧ Below X.heap.size X w1 ∧ X.heap.size ≤ w1.heap.size) (hb : Below w1.heap.size w1 w2) :
    w2.cell? ⟨b1, 0, none⟩ = some (.int .i16 s) ∧ w2.cell? ⟨b1, 1, none⟩ = some (.slice A n c) ∧ w2.rangeAt b2 0 (dv d) ∧ Below X.heap.size X w2 ∧ X.heap.size ≤ w2.heap.size :=
  ⟨(hb.cell (p := ⟨_, _, none⟩) (World.block_lt_of_cell? _ _ h.1)).trans h.1, (hb.cell (p := ⟨_, _, none⟩) (World.block_lt_of_cell? _ _ h.2.1)).trans h.2.1, range_keep h.2.2.1 hb, h.2.2.2.1.trans (hb.mono h.2.2.2.2), Nat.le_trans h.2.2.2.2 hb.size⟩
theorem sx_keep' {X : World} {b1 b2 : Nat} (hb : Below w1.heap.size w1 w2) (h : w1.cell? ⟨b1, 0, none⟩ = some (.int .i16 s) ∧ w1.cell? ⟨b1, 1, none⟩ = some (.slice A n c) ∧ w1.rangeAt b2 0 (dv d) ∧ Below X.heap.size X w1 ∧ X.heap.size ≤ w1.heap.size) :
    w2.cell? ⟨b1, 0, none⟩ = some (.int .i16 s) ∧ w2.cell? ⟨b1, 1, none⟩ = some (.slice A n c) ∧ w2.rangeAt b2 0 (dv d) ∧ Below X.heap.size X w2 ∧ X.heap.size ≤ w2.heap.size := sx_keep h hb
theorem sx_alloc {X : World} {b1 b2 : Nat} {o : Obj} (h : w1.cell? ⟨b1, 0, none⟩ = some (.int .i16 s) ∧ w1.cell? ⟨b1, 1, none⟩ = some (.slice A n c) ∧ w1.rangeAt b2 0 (dv d) ∧ Below X.heap.size X w1 ∧ X.heap.size ≤ w1.heap.size) :
    (w1.alloc o).cell? ⟨b1, 0, none⟩ = some (.int .i16 s) ∧ (w1.alloc o).cell? ⟨b1, 1, none⟩ = some (.slice A n c) ∧ (w1.alloc o).rangeAt b2 0 (dv d) ∧ Below X.heap.size X (w1.alloc o) ∧ X.heap.size ≤ (w1.alloc o).heap.size := sx_keep h (al_below _ _)
theorem sx_drewal {X : World} {b1 b2 : Nat} {o : Obj} (h : w1.cell? ⟨b1, 0, none⟩ = some (.int .i16 s) ∧ w1.cell? ⟨b1, 1, none⟩ = some (.slice A n c) ∧ w1.rangeAt b2 0 (dv d) ∧ Below X.heap.size X w1 ∧ X.heap.size ≤ w1.heap.size) :
    (w1.alloc o).drew.cell? ⟨b1, 0, none⟩ = some (.int .i16 s) ∧ (w1.alloc o).drew.cell? ⟨b1, 1, none⟩ = some (.slice A n c) ∧ (w1.alloc o).drew.rangeAt b2 0 (dv d) ∧ Below X.heap.size X (w1.alloc o).drew ∧ X.heap.size ≤ (w1.alloc o).drew.heap.size := sx_keep (sx_alloc h) ((Below.refl _ _).drew)
theorem sx_set {X : World} {b1 b2 g : Nat} {cs : List Value} (h : w1.cell? ⟨b1, 0, none⟩ = some (.int .i16 s) ∧ w1.cell? ⟨b1, 1, none⟩ = some (.slice A n c) ∧ w1.rangeAt b2 0 (dv d) ∧ Below X.heap.size X w1 ∧ X.heap.size ≤ w1.heap.size) (h1 : b1 < X.heap.size) (h2 : b2 < X.heap.size) (hg : X.heap.size ≤ g) :
    (w1.setCells g 0 cs).cell? ⟨b1, 0, none⟩ = some (.int .i16 s) ∧ (w1.setCells g 0 cs).cell? ⟨b1, 1, none⟩ = some (.slice A n c) ∧ (w1.setCells g 0 cs).rangeAt b2 0 (dv d) ∧ Below X.heap.size X (w1.setCells g 0 cs) ∧ X.heap.size ≤ (w1.setCells g 0 cs).heap.size := by
  have hz : w1.heap.size ≤ (w1.setCells g 0 cs).heap.size := (below_setCells (B := 0) (Below.refl _ w1) (Nat.zero_le _) 0 cs).size
  refine ⟨?_, ?_, World.rangeAt_setCells_apart h.2.2.1 g 0 cs (Or.inl (by omega)), below_setCells h.2.2.2.1 hg 0 cs, by have := h.2.2.2.2; omega⟩
  · rw [World.cell?_setCells_out g cs 0 w1 _ (fun h1 _ => absurd h1 (by dsimp only; omega))]; exact h.1
  · rw [World.cell?_setCells_out g cs 0 w1 _ (fun h1 _ => absurd h1 (by dsimp only; omega))]; exact h.2.1
theorem sx_size {X : World} {b1 b2 : Nat} (h : w1.cell? ⟨b1, 0, none⟩ = some (.int .i16 s) ∧ w1.cell? ⟨b1, 1, none⟩ = some (.slice A n c) ∧ w1.rangeAt b2 0 (dv d) ∧ Below X.heap.size X w1 ∧ X.heap.size ≤ w1.heap.size) : X.heap.size ≤ w1.heap.size := h.2.2.2.2
theorem sx_below {X : World} {b1 b2 : Nat} (h : w1.cell? ⟨b1, 0, none⟩ = some (.int .i16 s) ∧ w1.cell? ⟨b1, 1, none⟩ = some (.slice A n c) ∧ w1.rangeAt b2 0 (dv d) ∧ Below X.heap.size X w1 ∧ X.heap.size ≤ w1.heap.size) : Below X.heap.size X w1 := h.2.2.2.1
theorem range_lt {w : World} {b o : Nat} {v : Value} {cs : List Value} (h : w.rangeAt b o (v :: cs)) : b < w.heap.size := World.block_lt_of_cell? w _ (h 0 v rfl)
theorem dv_lt {w : World} {b : Nat} (h : w.rangeAt b 0 (dv d)) : b < w.heap.size := World.block_lt_of_cell? w _ (h 0 _ (dv_get d 0 (by decide)))
theorem range_below {w w' : World} {b o : Nat} {cs : List Value} (h : w.rangeAt b o cs) (hb : Below w.heap.size w w') : w'.rangeAt b o cs := range_keep h hb
end
end Go.Proofs.Ytcocfnjbgceidaa
