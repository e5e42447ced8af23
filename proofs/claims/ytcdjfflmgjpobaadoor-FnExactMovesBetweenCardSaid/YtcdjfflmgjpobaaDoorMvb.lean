import Derived.Test.YtcdjfflmgjpobaaDoorPlc
import Derived.Deep.RegionHeld3
namespace Go.Proofs.YtcdjfflmgjpobaaDoor
open Go.RowKit Go.Shelf
attribute [local go_sem] Oper.semAt_some

/-- the places of the first k steps at which P says so, by step, then by track -/
def gK (P : Nat → Nat → Bool) (n k : Nat) : List (Nat × Nat) := (List.range k).flatMap fun j => ((List.range n).filter fun t => P j t).map fun t => (j, t)
def gI (P : Nat → Nat → Bool) (n k i : Nat) : List (Nat × Nat) := gK P n k ++ ((List.range i).filter fun t => P k t).map fun t => (k, t)
theorem gI_zero (P : Nat → Nat → Bool) (n k : Nat) : gI P n k 0 = gK P n k := by simp [gI]
theorem gI_full (P : Nat → Nat → Bool) (n k : Nat) : gI P n k n = gK P n (k + 1) := by simp [gI, gK, List.range_succ, List.flatMap_append]
theorem gI_yes {P : Nat → Nat → Bool} {n k i : Nat} (h : P k i = true) : gI P n k (i + 1) = gI P n k i ++ [(k, i)] := by
  simp [gI, List.range_succ, List.filter_append, h]
theorem gI_no {P : Nat → Nat → Bool} {n k i : Nat} (h : P k i = false) : gI P n k (i + 1) = gI P n k i := by
  simp [gI, List.range_succ, List.filter_append, h]
theorem gK_len (P : Nat → Nat → Bool) (n : Nat) : ∀ k, (gK P n k).length ≤ k * n
  | 0 => by simp [gK]
  | k + 1 => by
    have h1 := gK_len P n k
    have h2 := List.length_filter_le (fun t => P k t) (List.range n)
    rw [← gI_full, gI, List.length_append, List.length_map]
    rw [List.length_range] at h2
    rw [Nat.succ_mul]
    omega
theorem gI_len (P : Nat → Nat → Bool) (n k i : Nat) : (gI P n k i).length ≤ k * n + i := by
  have h1 := gK_len P n k
  have h2 := List.length_filter_le (fun t => P k t) (List.range i)
  rw [List.length_range] at h2
  rw [gI, List.length_append, List.length_map]
  omega
theorem g_all {P : Nat → Nat → Bool} {S n : Nat} {e : Nat → Int} (he : DWF e) (hP : ∀ k t, P k t = pinB e k t) (hin : ∀ k t, k < 96 → pinB e k t = true → k < S ∧ t < n) (hS : S ≤ 96) (hl : n ≤ 32) : gK P n S = pinsL e := by
  have hrow : ∀ k, k < 96 → bitsL (e k).toNat = (List.range n).filter fun t => P k t := by
    intro k hk
    unfold bitsL
    have e1 : (fun t => (e k).toNat.testBit t) = fun t => P k t := by
      funext t
      rw [hP, pin_bit (he k hk).1]
    rw [e1]
    refine filter_range_le hl _ fun t h1 h2 => ?_
    rw [hP]
    cases hp : pinB e k t
    · rfl
    · have := (hin k t hk hp).2
      omega
  have hz : ∀ k, S ≤ k → k < 96 → ((List.range n).filter fun t => P k t) = [] := by
    intro k h1 h2
    rw [List.filter_eq_nil_iff]
    intro t ht
    rw [hP]
    intro hp
    have := (hin k t h2 hp).1
    omega
  have hT : ∀ m, m ≤ 96 → pinsT e m = gK P n m := by
    intro m
    induction m with
    | zero => intro _; rfl
    | succ m ih =>
      intro h
      rw [pinsT_succ, ← gI_full, gI, ← ih (by omega), ← hrow m (by omega)]
  have hE : ∀ q, S + q ≤ 96 → gK P n (S + q) = gK P n S := by
    intro q
    induction q with
    | zero => intro _; rfl
    | succ q ih =>
      intro h
      rw [← Nat.add_assoc, ← gI_full, gI, hz (S + q) (by omega) (by omega), ih (by omega)]
      simp
  have := hE (96 - S) (by omega)
  rw [show S + (96 - S) = 96 by omega] at this
  rw [← this]
  exact (hT 96 (Nat.le_refl _)).symm
theorem andnot_test (a b t : Nat) (ha : a < 4294967296) (hb : b < 4294967296) : (bits .andNot .u32 (a : Int) (b : Int)).toNat.testBit t = (a.testBit t && !b.testBit t) := by
  have hx : a &&& (2 ^ 32 - (b + 1)) < 2 ^ 32 := Nat.and_lt_two_pow _ (by omega)
  have e : bits .andNot .u32 (a : Int) (b : Int) = ((a &&& (2 ^ 32 - (b + 1)) : Nat) : Int) := by
    show IntKind.u32.wrap ((BitVec.ofInt 32 (a : Int) &&& ~~~ BitVec.ofInt 32 (b : Int)).toNat : Int) = _
    rw [BitVec.toNat_and, BitVec.toNat_not, of32 a ha, of32 b hb, wrap32]
    rw [show 2 ^ 32 - 1 - b = 2 ^ 32 - (b + 1) by omega]
    omega
  rw [e, Int.toNat_natCast, Nat.testBit_and, Nat.testBit_two_pow_sub_succ (by omega)]
  rcases Nat.lt_or_ge t 32 with h | h
  · simp [h]
  · have : a.testBit t = false := Nat.testBit_lt_two_pow (Nat.lt_of_lt_of_le (show a < 2 ^ 32 by omega) (Nat.pow_le_pow_right (by omega) h))
    simp [this]
/-- a pin of a, none of b -/
def onlB (a b : Nat → Int) (k t : Nat) : Bool := pinB a k t && !pinB b k t
theorem mvD_pin {a b : Nat → Int} (ha : DWF a) (hb : DWF b) {k : Nat} (hk : k < 96) (t : Nat) : pinB (mvD a b) k t = onlB a b k t := by
  rw [onlB, pin_bit (mv_wf a b k hk).1, pin_bit (ha k hk).1, pin_bit (hb k hk).1]
  obtain ⟨x, hx⟩ := Int.eq_ofNat_of_zero_le (ha k hk).1
  obtain ⟨y, hy⟩ := Int.eq_ofNat_of_zero_le (hb k hk).1
  have h1 := (ha k hk).2
  have h2 := (hb k hk).2
  unfold mvD
  rw [hx, hy, andnot_test x y t (by omega) (by omega), Int.toNat_natCast, Int.toNat_natCast]
def onlP (a b : Nat → Int) (k t : Nat) : Bool := pinB (mvD a b) k t
theorem onl_all {S n : Nat} {a b : Nat → Int} (ha : DWF a) (hb : DWF b) (hdr : drB (S : Int) n a = true) (hS : S ≤ 96) (hl : n ≤ 24) : gK (onlP a b) n S = pinsL (mvD a b) := by
  refine g_all (mv_wf a b) (fun _ _ => rfl) ?_ hS (by omega)
  intro k t hk hp
  rw [mvD_pin ha hb hk, onlB, Bool.and_eq_true] at hp
  have := pin_in hdr ha hk hp.1
  exact ⟨by omega, this.2⟩

set_option maxRecDepth 20000 in
set_option maxHeartbeats 2000000 in
theorem l03Only_any (b g h : Nat) (S : Nat) (A : Option Addr) (c n : Nat) (p q : Nat → Int) (w : World) (hF : FP w b S A n c) (hD : Dr w g 36 p) (hE : Dr w h 36 q) (hS : S ≤ 96) (hl : n ≤ 24) (hdr : drB (S : Int) n p = true) (hp : DWF p) (hq : DWF q) :
    Calls Tryd.prog 60 #[.pointer (some ⟨b, 0, none⟩), .pointer (some ⟨g, 0, none⟩), .pointer (some ⟨h, 0, none⟩)] w (OwnA w (pinsL (mvD p q))) := by
  obtain ⟨i0, hi, hz0, hz1, hz2⟩ := info_parts info89
  have HE := hide (onl_all hp hq hdr hS hl)
  have hwS : IntKind.i64.wrap (S : Int) = (S : Int) := IntWalk.i64_in _ (by omega)
  have hal : Below w.heap.size w (w.alloc (.cells #[] 89)) := al_below _ _
  go_enter Tryd.func60, Tryd.ntmps60
  go_wp2_with fail
  go_loopw [7, 8] (fun v i wr => ∃ k : Nat, k ≤ S ∧ i = .int .i64 k ∧ wr.ownsRow w.heap.size 89 2 v (gK (onlP p q) n k).length (acells (gK (onlP p q) n k)) ∧ Below w.heap.size w wr)
    (fun _ i _ => S - (intOf i).toNat)
  case atStart => exact ⟨0, Nat.zero_le _, rfl, own_emptyA (Nat.le_refl _), hal⟩
  case round =>
    obtain ⟨k, hk, rfl, hown, hb⟩ := hrel
    obtain ⟨A1, c1, rfl⟩ := own_shape hown
    have F3 := hF.keep hb
    have e1 := F3.1
    have e2 := F3.2
    by_cases hlt : k < S
    · have hk1 : (k : Int) < (S : Int) := by omega
      have hk2 : decide ((k : Int) < (S : Int)) = true := decide_eq_true hk1
      go_wp2_with fail
      go_loopw [7, 9] (fun v i wq => ∃ t : Nat, t ≤ n ∧ i = .int .i64 t ∧ wq.ownsRow w.heap.size 89 2 v (gI (onlP p q) n k t).length (acells (gI (onlP p q) n k t)) ∧ Below w.heap.size w wq)
        (fun _ i _ => n - (intOf i).toNat)
      case atStart => exact ⟨0, Nat.zero_le _, rfl, by rw [gI_zero]; exact hown, hb⟩
      case round =>
        obtain ⟨t, ht, rfl, hown4, hb4⟩ := hrel
        obtain ⟨A2, c2, rfl⟩ := own_shape hown4
        have F4 := hF.keep hb4
        have D4 := hD.keep hb4
        have E4 := hE.keep hb4
        have f2 := F4.2
        by_cases hlt2 : t < n
        · have hlen := gI_len (onlP p q) n k t
          have hbnd : k * n + t ≤ 96 * 24 := by
            have := Nat.mul_le_mul (show k ≤ 95 by omega) hl
            omega
          have K1 : ∀ v, pinB p k t = v → ∀ W, W = wr → Calls Tryd.prog 47 #[.pointer (some ⟨g, 0, none⟩), .int .i64 k, .int .i64 t] W fun e w' => e = .returned (.bool v) ∧ W = w' := fun v hv W hW => by
            subst hW
            rw [← hv]
            exact l02Pin_any _ k t p _ D4 (by omega) (by omega) hp
          have K2 : ∀ v, pinB q k t = v → ∀ W, W = wr → Calls Tryd.prog 47 #[.pointer (some ⟨h, 0, none⟩), .int .i64 k, .int .i64 t] W fun e w' => e = .returned (.bool v) ∧ W = w' := fun v hv W hW => by
            subst hW
            rw [← hv]
            exact l02Pin_any _ k t q _ E4 (by omega) (by omega) hq
          have hX : onlP p q k t = (pinB p k t && !pinB q k t) := mvD_pin hp hq (by omega) t
          cases h1 : pinB p k t
          · have HT := hide (gI_no (n := n) (show onlP p q k t = false by rw [hX, h1]; rfl))
            have K1' := K1 false h1 _ rfl
            clear h1 K1 K2 hX
            go_wp2_with (go_at_call 47; with_reducible refine K1'.mono ?_; rintro e w' ⟨rfl, rfl⟩)
            go_roundw
            case rel => exact ⟨t + 1, hlt2, by go_num, by rw [HT.out]; exact hown4, hb4⟩
            case measure => simp [intOf]; omega
          have K1' := K1 true h1 _ rfl
          cases h2 : pinB q k t
          · have HT := hide (gI_yes (n := n) (show onlP p q k t = true by rw [hX, h1, h2]; rfl))
            have K2' := K2 false h2 _ rfl
            have hnew := cell_two_new wr (.int .i64 (k : Int)) (.int .i64 (t : Int)) 89
            have own7 := hown4.alloc (.cells #[.int .i64 (k : Int), .int .i64 (t : Int)] 89)
            clear h1 h2 K1 K2 hX
            go_wp2_with (first | (go_at_call 47; first | (with_reducible refine K1'.mono ?_; rintro e w' ⟨rfl, rfl⟩) | (with_reducible refine K2'.mono ?_; rintro e w' ⟨rfl, rfl⟩)) | (at_builtin; refine wpList_append_own _ rfl _ _ 47 rfl w.heap.size 89 i0 (.agg #[.int .i64 0, .int .i64 0]) 2 16 Tryd.underlying47 hi hz0 hz1 hz2 rfl (by decide) _ _ _ rfl own7 ⟨wr.heap.size, 0, none⟩ 1 1 [.int .i64 (k : Int), .int .i64 (t : Int)] rfl rfl hnew (fun x hx => by simp at hx; rcases hx with rfl | rfl <;> rfl) (by unfold maxLen; omega) (by omega) (by simp; have := hb4.size; omega) ?_; intro v' w8 hown8 hgrow8 hnil8))
            have hb8 := (hb4.alloc hb4.size (.cells #[.int .i64 (k : Int), .int .i64 (t : Int)] 89)).grown hgrow8 (by simp; have := hb4.size; omega) (fun j hj => (hown4.lt j hj).1)
            go_roundw
            case rel => exact ⟨t + 1, hlt2, by go_num, by rw [HT.out, List.length_append, acells_append]; exact hown8, hb8⟩
            case measure => simp [intOf]; omega
          · have HT := hide (gI_no (n := n) (show onlP p q k t = false by rw [hX, h1, h2]; rfl))
            have K2' := K2 true h2 _ rfl
            clear h1 h2 K1 K2 hX
            go_wp2_with (go_at_call 47; first | (with_reducible refine K1'.mono ?_; rintro e w' ⟨rfl, rfl⟩) | (with_reducible refine K2'.mono ?_; rintro e w' ⟨rfl, rfl⟩))
            go_roundw
            case rel => exact ⟨t + 1, hlt2, by go_num, by rw [HT.out]; exact hown4, hb4⟩
            case measure => simp [intOf]; omega
        · obtain rfl : t = n := by omega
          go_wp2
          go_roundw
          case rel => exact ⟨k + 1, hlt, by go_num, by rw [← gI_full]; exact hown4, hb4⟩
          case measure => simp [intOf]; omega
    · obtain rfl : k = S := by omega
      go_wp2
      go_ret
      exact ⟨A1, c1, by rw [← HE.out]; rfl, by rw [← HE.out]; exact hown, hb⟩
end Go.Proofs.YtcdjfflmgjpobaaDoor

namespace Go.Proofs.YtcdjfflmgjpobaaDoor
open Go.RowKit

/-- the marks from o on -/
def mkO (o n : Nat) : List Int := (List.range n).map fun (i : Nat) => (o : Int) + (i : Int)
def mkOT (o : Nat) (zs : List Int) (k : Nat) : List Int := mkO o k ++ zs.drop k
theorem mkO_length (o n : Nat) : (mkO o n).length = n := by simp [mkO]
theorem mkO_at (o n k : Nat) (h : k < n) : zAt (mkO o n) k = (o : Int) + (k : Int) := by simp [zAt, mkO, h]
theorem mkOT_zero (o : Nat) (zs : List Int) : mkOT o zs 0 = zs := by simp [mkOT, mkO]
theorem mkOT_all (o : Nat) (zs : List Int) : mkOT o zs zs.length = mkO o zs.length := by simp [mkOT]
theorem mkOT_length (o : Nat) (zs : List Int) (k : Nat) (h : k ≤ zs.length) : (mkOT o zs k).length = zs.length := by
  simp [mkOT, mkO_length]; omega
theorem mkOT_set (o : Nat) (zs : List Int) (k : Nat) (h : k < zs.length) : (mkOT o zs k).set k ((o : Int) + (k : Int)) = mkOT o zs (k + 1) := by
  unfold mkOT mkO
  rw [List.set_append_right _ _ (by simp), List.range_succ, List.map_append, List.length_map, List.length_range, Nat.sub_self, List.drop_eq_getElem_cons h, List.set_cons_zero, List.append_assoc]
  rfl

set_option maxHeartbeats 1000000 in
theorem markInt64A2S_at (A : Option Addr) (c n : Nat) (zs : List Int) (o : Nat) (x : Int) (hx : x = (o : Int)) (ho : o ≤ 4194304) (base : Nat) (w : World) (hz : zs.length = n * 2) (h : w.ownsRow base 89 2 (.slice A n c) n (icells zs)) (hn : n ≤ 1048576) (hbase : base ≤ w.heap.size) :
    Calls Tryd.prog 28 #[.slice A n c, .int .i64 x] w fun e w' => e = .returned (.int .i64 (2 * (n : Int) + x)) ∧ w'.ownsRow base 89 2 (.slice A n c) n (icells (mkO o (n * 2))) ∧ w.grownBy w' (Value.slice A n c).ownBlock := by
  subst hx
  go_enter Tryd.func28, Tryd.ntmps28
  go_wp2_with fail
  go_loopw [1, 5] (fun m i wr => ∃ k : Nat, k ≤ n ∧ i = .int .i64 k ∧ m = .int .i64 (2 * (k : Int) + (o : Int)) ∧ wr.ownsRow base 89 2 (.slice A n c) n (icells (mkOT o zs (k * 2))) ∧ w.grownBy wr (Value.slice A n c).ownBlock)
    (fun _ i _ => n - (intOf i).toNat)
  case atStart => exact ⟨0, Nat.zero_le _, rfl, by simp, by rw [Nat.zero_mul, mkOT_zero]; exact h, grown_refl _ _⟩
  case round =>
    obtain ⟨k, hk, rfl, rfl, hown, hb⟩ := hrel
    by_cases hlt : k < n
    · have hk1 : (k : Int) < (n : Int) := by omega
      have hk2 : decide ((k : Int) < (n : Int)) = true := decide_eq_true hk1
      go_wp2_with fail
      go_loopw [1, 6] (fun m i wq => ∃ j : Nat, j ≤ 2 ∧ i = .int .i64 j ∧ m = .int .i64 (2 * (k : Int) + (o : Int) + (j : Int)) ∧ wq.ownsRow base 89 2 (.slice A n c) n (icells (mkOT o zs (k * 2 + j))) ∧ w.grownBy wq (Value.slice A n c).ownBlock)
        (fun _ i _ => 2 - (intOf i).toNat)
      case atStart => exact ⟨0, Nat.zero_le _, rfl, by simp, hown, hb⟩
      case round =>
        obtain ⟨j, hj, rfl, rfl, hown2, hb2⟩ := hrel
        by_cases hlt2 : j < 2
        · rcases hown2.2 with ⟨h', h0⟩ | ⟨g, cap, cur, h', hgb, hg, _⟩
          · omega
          · simp only [Value.slice.injEq, true_and] at h'
            obtain ⟨rfl, rfl⟩ := h'
            have f1 := (hown2.cellAt (k * 2 + j) (by omega)).trans (icells_get _ (k * 2 + j) (by rw [mkOT_length _ _ _ (by omega)]; omega))
            have f2 := hown2.frozenAt (k * 2 + j)
            have hji : (j : Int) < 2 := by omega
            have hwv : IntKind.i64.wrap (2 * (k : Int) + (o : Int) + (j : Int) + 1) = 2 * (k : Int) + (o : Int) + (j : Int) + 1 := IntWalk.i64_in _ (by omega)
            have hset := mkOT_set o zs (k * 2 + j) (by omega)
            rw [show ((o : Int) + ((k * 2 + j : Nat) : Int)) = 2 * (k : Int) + (o : Int) + (j : Int) by omega] at hset
            have HS := hide hset
            clear hg h hown hset
            go_wp2
            go_roundw
            case rel => exact ⟨j + 1, hlt2, by go_num, by go_num, by rw [← Nat.add_assoc, ← HS.out, ← icells_set]; exact (hown2.stored (k * 2 + j) _).1, grown_set hb2⟩
            case measure => simp [intOf]; omega
        · obtain rfl : j = 2 := by omega
          go_wp2
          go_roundw
          case rel => exact ⟨k + 1, hlt, by go_num, by go_num, by rw [show (k + 1) * 2 = k * 2 + 2 by omega]; exact hown2, hb2⟩
          case measure => simp [intOf]; omega
    · obtain rfl : k = n := by omega
      go_wp2
      go_ret
      exact ⟨rfl, by rw [← hz, mkOT_all, hz] at hown; exact hown, hb⟩

theorem heldInt64A2S_at (A : Option Addr) (c n : Nat) (o : Nat) (x : Int) (hx : x = (o : Int)) (ho : o ≤ 4194304) (B : Nat) (w : World) (hA : SA w B A n (mkO o (n * 2))) (hn : n ≤ 1048576) :
    Calls Tryd.prog 29 #[.slice A n c, .int .i64 x] w fun e w' => e = .returned (.int .i64 (2 * (n : Int) + x)) ∧ w = w' := by
  subst hx
  go_enter Tryd.func29, Tryd.ntmps29
  go_wp2_with fail
  go_loop [1, 5] (fun m i => ∃ k : Nat, k ≤ n ∧ i = .int .i64 k ∧ m = .int .i64 (2 * (k : Int) + (o : Int)))
    (fun _ i => n - (intOf i).toNat)
  case atStart => exact ⟨0, Nat.zero_le _, rfl, by simp⟩
  case round =>
    obtain ⟨k, hk, rfl, rfl⟩ := hrel
    by_cases hlt : k < n
    · obtain ⟨b, rfl, hb1, c1, c2⟩ := hA k hlt
      rw [mkO_at o (n * 2) (k * 2) (by omega)] at c1
      rw [mkO_at o (n * 2) (k * 2 + 1) (by omega)] at c2
      have hk1 : (k : Int) < (n : Int) := by omega
      have hk2 : decide ((k : Int) < (n : Int)) = true := decide_eq_true hk1
      go_wp2_with fail
      go_loop [1, 6] (fun m i => ∃ j : Nat, j ≤ 2 ∧ i = .int .i64 j ∧ m = .int .i64 (2 * (k : Int) + (o : Int) + (j : Int)))
        (fun _ i => 2 - (intOf i).toNat)
      case atStart => exact ⟨0, Nat.zero_le _, rfl, by simp⟩
      case round =>
        obtain ⟨j, hj, rfl, rfl⟩ := hrel
        by_cases hlt2 : j < 2
        · have c3 : w.cell? ⟨b, k * 2 + j, none⟩ = some (.int .i64 (2 * (k : Int) + (o : Int) + (j : Int))) := by
            match j, hlt2 with
            | 0, _ => rw [Nat.add_zero, c1]; congr 2; omega
            | 1, _ => rw [c2]; congr 2; omega
          have hne : ((2 * (k : Int) + (o : Int) + (j : Int)) != (2 * (k : Int) + (o : Int) + (j : Int))) = false := by simp
          have hji : (j : Int) < 2 := by omega
          have hwv : IntKind.i64.wrap (2 * (k : Int) + (o : Int) + (j : Int) + 1) = 2 * (k : Int) + (o : Int) + (j : Int) + 1 := IntWalk.i64_in _ (by omega)
          go_wp2
          go_round
          case rel => exact ⟨j + 1, hlt2, by go_num, by go_num⟩
          case measure => simp [intOf]; omega
        · obtain rfl : j = 2 := by omega
          go_wp2
          go_round
          case rel => exact ⟨k + 1, hlt, by go_num, by go_num⟩
          case measure => simp [intOf]; omega
    · obtain rfl : k = n := by omega
      go_wp2
      go_ret
      exact ⟨rfl, rfl⟩
end Go.Proofs.YtcdjfflmgjpobaaDoor

namespace Go.Proofs.YtcdjfflmgjpobaaDoor
open Go.RowKit

/-- two fresh lists of places, the second behind the first, and a code -/
def OwnAA (w : World) (ps qs : List (Nat × Nat)) (cc : Int) (e : Ending) (w' : World) : Prop := ∃ (A0 : Option Addr) (c0 : Nat) (A1 : Option Addr) (c1 B : Nat), e = .returned (.tuple #[.slice A0 ps.length c0, .slice A1 qs.length c1, .int .i64 cc]) ∧ w'.ownsRow w.heap.size 89 2 (.slice A0 ps.length c0) ps.length (acells ps) ∧ w'.ownsRow B 89 2 (.slice A1 qs.length c1) qs.length (acells qs) ∧ (∀ j, (Value.slice A0 ps.length c0).ownBlock = some j → j < B) ∧ w.heap.size ≤ B ∧ B ≤ w'.heap.size ∧ Below w.heap.size w w'
def mbL (s : Int) (l : List (Int × Int)) (a b p q : Nat → Int) : List (Nat × Nat) := if ask2B s l a b then pinsL (mvD p q) else []
theorem mbL_len (s : Int) (l : List (Int × Int)) (a b p q : Nat → Int) : (mbL s l a b p q).length ≤ 4000 := by
  unfold mbL
  split
  · exact pinsL_len _
  · simp
theorem OwnAA.empty {w w1 : World} (b1 : Below w.heap.size w w1) : OwnAA w [] [] 1 (.returned (.tuple #[.slice (some ⟨w1.heap.size, 0, none⟩) 0 0, .slice (some ⟨w1.heap.size + 1, 0, none⟩) 0 0, .int .i64 1])) ((w1.alloc (.cells #[] 89)).alloc (.cells #[] 89)) := by
  have b2 := b1.alloc b1.size (.cells #[] 89)
  have hs := b1.size
  refine ⟨some ⟨w1.heap.size, 0, none⟩, 0, some ⟨w1.heap.size + 1, 0, none⟩, 0, w1.heap.size + 1, rfl, (own_emptyA b1.size).alloc _, ?_, ?_, by omega, by simp, b2.alloc b2.size _⟩
  · have := own_emptyA (w := w1.alloc (.cells #[] 89)) (base := w1.heap.size + 1) (by simp)
    simpa [acells] using this
  · intro j hj
    simp [Value.ownBlock] at hj
    omega

set_option maxRecDepth 20000 in
set_option maxHeartbeats 1000000 in
theorem specMovesBetween_any (s : Int) (A : Option Addr) (c : Nat) (l : List (Int × Int)) (a b : Nat → Int) (w : World) (hA : HA w A l) (hn : l.length ≤ 1048576) (hwf : HWF l) (hs : -32768 ≤ s ∧ s ≤ 32767) (ha : DWF a) (hb : DWF b) :
    Calls Tryd.prog 30 #[.agg #[.int .i16 s, .slice A l.length c], .agg (da a), .agg (da b)] w (OwnAA w (mbL s l a b a b) (mbL s l a b b a) (codeI (ask2B s l a b))) := by
  have hb0 : Below w.heap.size w (((w.alloc (.cells #[.int .i16 s, .slice A l.length c] 34)).alloc (.cells (da a) 36)).alloc (.cells (da b) 36)) := (((Below.refl _ _).alloc (Nat.le_refl _) _).alloc (by simp) _).alloc (by simp; omega) _
  have hF : FP (((w.alloc (.cells #[.int .i16 s, .slice A l.length c] 34)).alloc (.cells (da a) 36)).alloc (.cells (da b) 36)) w.heap.size s A l.length c := ⟨by simp [go_sem], by simp [go_sem]⟩
  have hD : Dr (((w.alloc (.cells #[.int .i16 s, .slice A l.length c] 34)).alloc (.cells (da a) 36)).alloc (.cells (da b) 36)) (w.heap.size + 1) 36 a := heap_old' (heap_new' _ _ _ (by simp))
  have hE : Dr (((w.alloc (.cells #[.int .i16 s, .slice A l.length c] 34)).alloc (.cells (da a) 36)).alloc (.cells (da b) 36)) (w.heap.size + 1 + 1) 36 b := heap_new' _ _ _ (by simp)
  go_enter Tryd.func30, Tryd.ntmps30
  go_wp2_with fail
  refine (l02Frame_any _ s A c l _ hF (hA.below hb0) hn hwf hs).mono ?_
  rintro e w1 ⟨rfl, hb1⟩
  have b1 := step_below hb1 hb0
  have F1 := hF.keep hb1
  have D1 := hD.keep hb1
  have E1 := hE.keep hb1
  cases hf : frB s l
  · have HX := hide (show ask2B s l a b = false by simp [ask2B, hf])
    clear hf
    go_wp2
    go_ret3
    rw [mbL, mbL, HX.out]
    exact OwnAA.empty b1
  have hfa := frB_all hf
  go_wp2_with fail
  refine (l02Drum_any _ _ s A l.length c a _ F1 D1 hfa.2.1.2 hfa.1 ha).mono ?_
  rintro e w2 ⟨rfl, hb2⟩
  have b2 := step_below hb2 b1
  have F2 := F1.keep hb2
  have D2 := D1.keep hb2
  have E2 := E1.keep hb2
  cases hg : drB s l.length a
  · have HX := hide (show ask2B s l a b = false by simp [ask2B, hg])
    clear hf hg hfa
    go_wp2
    go_ret3
    rw [mbL, mbL, HX.out]
    exact OwnAA.empty b2
  go_wp2_with fail
  refine (l02Drum_any _ _ s A l.length c b _ F2 E2 hfa.2.1.2 hfa.1 hb).mono ?_
  rintro e w3 ⟨rfl, hb3⟩
  have b3 := step_below hb3 b2
  have F3 := F2.keep hb3
  have D3 := D2.keep hb3
  have E3 := E2.keep hb3
  cases hh : drB s l.length b
  · have HX := hide (show ask2B s l a b = false by simp [ask2B, hh])
    clear hf hg hh hfa
    go_wp2
    go_ret3
    rw [mbL, mbL, HX.out]
    exact OwnAA.empty b3
  · have HX := hide (show ask2B s l a b = true by simp [ask2B, hf, hg, hh])
    obtain ⟨S, hSs⟩ : ∃ S : Nat, s = (S : Int) := ⟨s.toNat, by omega⟩
    subst hSs
    have hS96 : S ≤ 96 := by have := hfa.1.2; omega
    have hl24 := hfa.2.1.2
    have HG1 := hide hg
    have HG2 := hide hh
    clear hf hg hh hfa
    go_wp2_with fail
    refine (l03Only_any _ _ _ S A c l.length a b _ F3 D3 E3 hS96 hl24 HG1.out ha hb).mono ?_
    rintro e w4 ⟨A4, c4, rfl, own4, hb4⟩
    have b4 := step_below hb4 b3
    have F4 := F3.keep hb4
    have D4 := D3.keep hb4
    have E4 := E3.keep hb4
    go_wp2_with fail
    refine (l03Only_any _ _ _ S A c l.length b a _ F4 E4 D4 hS96 hl24 HG2.out hb ha).mono ?_
    rintro e w5 ⟨A5, c5, rfl, own5, hb5⟩
    have own6 := own_keep own4 hb5
    have hsz := b4.size
    have hs5 := hb5.size
    go_wp2
    go_ret3
    rw [mbL, mbL, HX.out]
    exact ⟨A4, c4, A5, c5, w4.heap.size, rfl, own_base own6 b3.size, own5, fun j hj => (own4.lt j hj).2, hsz, hs5, step_below hb5 b4⟩

set_option maxRecDepth 20000 in
set_option maxHeartbeats 2000000 in
theorem implMovesBetween_any (s : Int) (A : Option Addr) (c : Nat) (l : List (Int × Int)) (a b : Nat → Int) (w : World) (hA : HA w A l) (hn : l.length ≤ 1048576) (hwf : HWF l) (hs : -32768 ≤ s ∧ s ≤ 32767) (ha : DWF a) (hb : DWF b) (hT : TabW w) :
    Calls Tryd.prog 31 #[.agg #[.int .i16 s, .slice A l.length c], .agg (da a), .agg (da b)] w (OwnAA w (mbL s l a b a b) (mbL s l a b b a) (codeI (ask2B s l a b))) := by
  have hb0 : Below w.heap.size w (((w.alloc (.cells #[.int .i16 s, .slice A l.length c] 34)).alloc (.cells (da a) 36)).alloc (.cells (da b) 36)) := (((Below.refl _ _).alloc (Nat.le_refl _) _).alloc (by simp) _).alloc (by simp; omega) _
  have hD : Dr (((w.alloc (.cells #[.int .i16 s, .slice A l.length c] 34)).alloc (.cells (da a) 36)).alloc (.cells (da b) 36)) (w.heap.size + 1) 36 a := heap_old' (heap_new' _ _ _ (by simp))
  have hE : Dr (((w.alloc (.cells #[.int .i16 s, .slice A l.length c] 34)).alloc (.cells (da a) 36)).alloc (.cells (da b) 36)) (w.heap.size + 1 + 1) 36 b := heap_new' _ _ _ (by simp)
  have HRa := hide hD.range
  have HRb := hide hE.range
  go_enter Tryd.func31, Tryd.ntmps31
  go_wp2_with (first | (with_reducible refine wpList_load_da rfl 36 (.tmp 4) rfl (w.heap.size + 1) 0 rfl a _ HRa.out Tryd.underlying36 rfl (dInfo a) ?_) | (with_reducible refine wpList_load_da rfl 36 (.tmp 5) rfl (w.heap.size + 1 + 1) 0 rfl b _ HRb.out Tryd.underlying36 rfl (dInfo b) ?_) | (with_reducible refine wpList_build2 rfl (.tmp 13) (.tmp 14) rfl a b rfl rfl ?_))
  refine (machine2_any s A c l a b _ (hA.below hb0) hn hwf hs ha hb _ (by simp)).mono ?_
  rintro e w2 ⟨rfl, hb2⟩
  have hx0 : Below (((w.alloc (.cells #[.int .i16 s, .slice A l.length c] 34)).alloc (.cells (da a) 36)).alloc (.cells (da b) 36)).heap.size (((w.alloc (.cells #[.int .i16 s, .slice A l.length c] 34)).alloc (.cells (da a) 36)).alloc (.cells (da b) 36)) ((((w.alloc (.cells #[.int .i16 s, .slice A l.length c] 34)).alloc (.cells (da a) 36)).alloc (.cells (da b) 36)).alloc (.cells (da a ++ da b) 36)) := (Below.refl _ _).alloc (Nat.le_refl _) _
  have b2 := step_below hb2 (hb0.alloc hb0.size (.cells (da a ++ da b) 36))
  have hy : Below w2.heap.size w2 (w2.alloc (.cells #[.int .i64 s, .slice A l.length c] 78)) := (Below.refl _ _).alloc (Nat.le_refl _) _
  have b2' := b2.alloc b2.size (.cells #[.int .i64 s, .slice A l.length c] 78)
  have D2 := ((hD.keep hx0).keep hb2).keep hy
  have E2 := ((hE.keep hx0).keep hb2).keep hy
  obtain ⟨Y, hY⟩ : ∃ Y, Y = w2.alloc (.cells #[.int .i64 s, .slice A l.length c] 78) := ⟨_, rfl⟩
  have HY := hide hY
  rw [← hY] at b2' D2 E2
  clear hb2 hx0 hD hE HRa HRb hb0 hy b2 hY
  cases ha2 : ask2B s l a b
  case false =>
    have HX := hide ha2
    clear ha2
    go_wp2
    go_ret3
    rw [mbL, mbL, HX.out]
    rw [← HY.out]
    exact ⟨none, 0, none, 0, Y.heap.size, rfl, ⟨rfl, Or.inl ⟨rfl, rfl⟩⟩, ⟨rfl, Or.inl ⟨rfl, rfl⟩⟩, fun j hj => by simp [Value.ownBlock] at hj, b2'.size, Nat.le_refl _, b2'⟩
  case true =>
    have HX := hide ha2
    clear ha2
    have hU := Tryd.underlying36
    have hI1 := dInfo a
    have hI2 := dInfo b
    go_wp2_with fail
    rw [← HY.out]
    have hb3 : Below Y.heap.size Y Y.drew := (Below.refl _ _).drew
    have b3 := step_below hb3 b2'
    have D3 := D2.keep hb3
    have E3 := E2.keep hb3
    have r3 := D3.range
    have s3 := E3.range
    refine wp_region_held_drew (S := fun w' => w'.rangeAt (w.heap.size + 1) 0 (dv a) ∧ w'.rangeAt (w.heap.size + 1 + 1) 0 (dv b)) (by kernel_rfl) ⟨r3, s3⟩ fun hS3 => ?_
    refine wpAnyH_take (i := 0) rfl (by kernel_rfl) (by kernel_rfl) (by kernel_rfl) (fun _ _ _ h => h) (yieldsIf_load_mid (by rfl) _ _ rfl (w.heap.size + 1) 0 rfl (dv a) _ (fun _ h => h.1) hU rfl hI1) hS3 ?_
    simp only [Act.put, List.setIfInBounds_toArray, List.set_cons_zero, List.set_cons_succ]
    refine wpAnyH_take (i := 1) rfl (by kernel_rfl) (by kernel_rfl) (by kernel_rfl) (fun _ _ _ h => h) (yieldsIf_load_mid (by rfl) _ _ rfl (w.heap.size + 1 + 1) 0 rfl (dv b) _ (fun _ h => h.2) hU rfl hI2) hS3 ?_
    simp only [Act.put, List.setIfInBounds_toArray, List.set_cons_zero, List.set_cons_succ]
    refine wpAnyH_take (i := 4) rfl (by kernel_rfl) (by kernel_rfl) (by kernel_rfl) (fun _ _ _ h => h) (yieldsIf_load_mid (by rfl) _ _ rfl (w.heap.size + 1 + 1) 0 rfl (dv b) _ (fun _ h => h.2) hU rfl hI2) hS3 ?_
    simp only [Act.put, List.setIfInBounds_toArray, List.set_cons_zero, List.set_cons_succ]
    refine wpAnyH_take (i := 5) rfl (by kernel_rfl) (by kernel_rfl) (by kernel_rfl) (fun _ _ _ h => h) (yieldsIf_load_mid (by rfl) _ _ rfl (w.heap.size + 1) 0 rfl (dv a) _ (fun _ h => h.1) hU rfl hI1) hS3 ?_
    simp only [Act.put, List.setIfInBounds_toArray, List.set_cons_zero, List.set_cons_succ]
    refine wpAnyH_ready (rs := [2]) (by kernel_rfl) (by simp) (AllReadyH.cons rfl ?_ AllReadyH.nil)
    intro K hK
    rw [if_pos (by rfl)]
    go_simp
    refine (minus_any a b _).mono ?_
    rintro e w4 ⟨rfl, hb4⟩
    have b4 := step_below hb4 b3
    have D4 := D3.keep hb4
    have E4 := E3.keep hb4
    have T4 := hT.keep b4
    refine hK.out _ _ ⟨D4.range, E4.range⟩ (fun hS4 => ?_)
    clear hK K
    refine wpAnyH_ready (rs := [3]) (by kernel_rfl) (by simp) (AllReadyH.cons rfl ?_ AllReadyH.nil)
    intro K hK
    rw [if_pos (by rfl)]
    go_simp
    refine (places_any (mvD a b) _ (mv_wf a b) T4).mono ?_
    rintro e w5 ⟨A5, c5, rfl, own5, hb5⟩
    have b5 := step_below hb5 b4
    have D5 := D4.keep hb5
    have E5 := E4.keep hb5
    refine hK.out _ _ ⟨D5.range, E5.range⟩ (fun hS5 => ?_)
    clear hK K
    refine wpAnyH_ready (rs := [6]) (by kernel_rfl) (by simp) (AllReadyH.cons rfl ?_ AllReadyH.nil)
    intro K hK
    rw [if_pos (by rfl)]
    go_simp
    refine (minus_any b a _).mono ?_
    rintro e w6 ⟨rfl, hb6⟩
    have b6 := step_below hb6 b5
    have D6 := D5.keep hb6
    have E6 := E5.keep hb6
    have T6 := hT.keep b6
    have own6 := own_keep own5 hb6
    refine hK.out _ _ ⟨D6.range, E6.range⟩ (fun hS6 => ?_)
    clear hK K
    refine wpAnyH_ready (rs := [7]) (by kernel_rfl) (by simp) (AllReadyH.cons rfl ?_ AllReadyH.nil)
    intro K hK
    rw [if_pos (by rfl)]
    go_simp
    refine (places_any (mvD b a) _ (mv_wf b a) T6).mono ?_
    rintro e w7 ⟨A7, c7, rfl, own7, hb7⟩
    have b7 := step_below hb7 b6
    have D7 := D6.keep hb7
    have E7 := E6.keep hb7
    have own8 := own_keep own6 hb7
    refine hK.out _ _ ⟨D7.range, E7.range⟩ (fun hS7 => ?_)
    clear hK K
    refine wpAnyH_take (i := 8) (v := .slice A5 (pinsL (mvD a b)).length c5) rfl (by kernel_rfl) (by kernel_rfl) (by kernel_rfl) (fun _ _ _ h => h) (Or.inl ⟨by rfl, fun w' _ => by go_simp⟩) hS7 ?_
    change wpAnyH _ _ _ _ _ _ _ (Act.put _ (some 6) _) _
    simp only [Act.put, List.setIfInBounds_toArray, List.set_cons_zero, List.set_cons_succ]
    refine wpAnyH_take (i := 9) (v := .slice A7 (pinsL (mvD b a)).length c7) rfl (by kernel_rfl) (by kernel_rfl) (by kernel_rfl) (fun _ _ _ h => h) (Or.inl ⟨by rfl, fun w' _ => by go_simp⟩) hS7 ?_
    change wpAnyH _ _ _ _ _ _ _ (Act.put _ (some 7) _) _
    simp only [Act.put, List.setIfInBounds_toArray, List.set_cons_zero, List.set_cons_succ]
    refine wpAnyH_take (i := 10) (v := .int .i64 0) rfl (by kernel_rfl) (by kernel_rfl) (by kernel_rfl) (fun _ _ _ h => h) (Or.inl ⟨by rfl, fun w' _ => by go_simp⟩) hS7 ?_
    change wpAnyH _ _ _ _ _ _ _ (Act.put _ (some 8) _) _
    simp only [Act.put, List.setIfInBounds_toArray, List.set_cons_zero, List.set_cons_succ]
    refine wpAnyH_done (by kernel_rfl) ?_ _
    have hsz := b4.size
    have hs6 := b6.size
    have hs7 := hb7.size
    have h45 := hb5.size
    have h56 := hb6.size
    go_wp2
    go_ret3
    rw [mbL, mbL, HX.out]
    exact ⟨A5, c5, A7, c7, w6.heap.size, rfl, own_base own8 b4.size, own7, fun j hj => Nat.lt_of_lt_of_le (own5.lt j hj).2 h56, hs6, hs7, b7⟩
end Go.Proofs.YtcdjfflmgjpobaaDoor
