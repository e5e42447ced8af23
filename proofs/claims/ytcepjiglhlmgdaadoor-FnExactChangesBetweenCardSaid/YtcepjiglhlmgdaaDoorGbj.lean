import Derived.Test.YtcepjiglhlmgdaaDoorMvb
import Derived.Test.YtcepjiglhlmgdaaDoorUnd
import Derived.Test.YtcepjiglhlmgdaaDoorGbg
import Derived.Test.YtcepjiglhlmgdaaDoorGbh
import Derived.Test.YtcepjiglhlmgdaaDoorGbi
import Derived.Test.YtcepjiglhlmgdaaDoorBase
import Derived.Lib.AppendZeros
namespace Go.Proofs.YtcepjiglhlmgdaaDoor
open Go.RowKit Go.Shelf
attribute [local go_sem] Oper.semAt_some
/-- the changes that put in, or take out, some pins -/
def chgL (ps : List (Nat × Nat)) (q : Bool) : List (Int × Int × Bool) := ps.map fun p => ((p.1 : Int), (p.2 : Int), q)
theorem chgL_len (ps : List (Nat × Nat)) (q : Bool) : (chgL ps q).length = ps.length := by simp [chgL]
theorem chgL_snoc (ps : List (Nat × Nat)) (p : Nat × Nat) (q : Bool) : chgL (ps ++ [p]) q = chgL ps q ++ [((p.1 : Int), (p.2 : Int), q)] := by simp [chgL]
theorem cgC_snoc (l : List (Int × Int × Bool)) (x y : Int) (z : Bool) : cgC (l ++ [(x, y, z)]) = cgC l ++ [.int .i16 x, .int .i8 y, .bool z] := by simp [cgC]
def cbP (p q : Nat → Int) (k t : Nat) : Bool := pinB (mvD q p) k t
theorem cb_tmod {d : Nat → Int} {k t : Nat} (h0 : 0 ≤ d k) (h1 : d k ≤ 4294967295) : True := trivial
def cbL (a b : Nat → Int) : List (Int × Int × Bool) := chgL (pinsL (mvD a b)) false ++ chgL (pinsL (mvD b a)) true
theorem cbL_len (a b : Nat → Int) : (cbL a b).length ≤ 8000 := by
  have h1 := pinsL_len (mvD a b)
  have h2 := pinsL_len (mvD b a)
  rw [cbL, List.length_append, chgL_len, chgL_len]
  omega
def cbV (s : Int) (l : List (Int × Int)) (a b : Nat → Int) : List (Int × Int × Bool) := if ask2B s l a b then cbL a b else []
theorem cbV_len (s : Int) (l : List (Int × Int)) (a b : Nat → Int) : (cbV s l a b).length ≤ 1048576 := by
  unfold cbV
  split
  · have := cbL_len a b
    omega
  · simp
theorem ask2_ask {s : Int} {l : List (Int × Int)} {a b : Nat → Int} (h : ask2B s l a b = true) : askB s l a = true ∧ askB s l b = true := by
  simp only [ask2B, askB, Bool.and_eq_true] at h ⊢
  exact ⟨⟨h.1, h.2.1⟩, h.1, h.2.2⟩
theorem cb_in {s : Int} {l : List (Int × Int)} {a b : Nat → Int} (ha : DWF a) (hb : DWF b) (h : askB s l a = true) {k t : Nat} (hk : k < 96) (hp : pinB (mvD a b) k t = true) : (k : Int) < s ∧ t < l.length ∧ t < 24 := by
  obtain ⟨h1, h2, h3, h4⟩ := ask_all h
  rw [mvD_pin ha hb hk, onlB, Bool.and_eq_true] at hp
  have := pin_in h4 ha hk hp.1
  exact ⟨this.1, this.2, by omega⟩
set_option maxRecDepth 20000 in
set_option maxHeartbeats 2000000 in
theorem l05Changes_any (g h : Nat) (put : Bool) (p q : Nat → Int) (w : World) (hD : Dr w g 49 p) (hE : Dr w h 49 q) (hin : ∀ k t, k < 96 → pinB (mvD q p) k t = true → t < 24) :
    Calls Tryd.prog 35 #[.pointer (some ⟨g, 0, none⟩), .pointer (some ⟨h, 0, none⟩), .bool put] w (OwnC w (chgL (pinsL (mvD q p)) put)) := by
  obtain ⟨i0, hi, hz0, hz1, hz2⟩ := info_parts info87
  have HA := hide (show gK (cbP p q) 24 96 = pinsL (mvD q p) from g_all (S := 96) (mv_wf q p) (fun _ _ => rfl) (fun k t hk hp => ⟨hk, hin k t hk hp⟩) (by omega) (by omega))
  have hal : Below w.heap.size w (w.alloc (.cells #[] 87)) := (Below.refl _ _).alloc (Nat.le_refl _) _
  have hE0 : (w.alloc (.cells #[] 87)).ownsRow w.heap.size 87 3 (.slice (some ⟨w.heap.size, 0, none⟩) 0 0) 0 [] := own_emptyC _ _ (Nat.le_refl _)
  clear hin
  go_enter Tryd.func35, Tryd.ntmps35
  go_wp2_with fail
  go_loopw [7, 8] (fun v i wr => ∃ k : Nat, k ≤ 96 ∧ i = .int .i64 k ∧ wr.ownsRow w.heap.size 87 3 v (gK (cbP p q) 24 k).length (cgC (chgL (gK (cbP p q) 24 k) put)) ∧ Below w.heap.size w wr)
    (fun _ i _ => 96 - (intOf i).toNat)
  case atStart => exact ⟨0, Nat.zero_le _, rfl, hE0, hal⟩
  case round =>
    obtain ⟨k, hk, rfl, hown, hb⟩ := hrel
    obtain ⟨A1, c1, rfl⟩ := own_shapeC hown
    have D3 := hD.keep hb
    have E3 := hE.keep hb
    by_cases hlt : k < 96
    · have d1 := Later.cell (D3.cell hlt)
      have d2 := Later.cell (E3.cell hlt)
      obtain ⟨x, hxe⟩ : ∃ x : Int, x = mvD q p k := ⟨_, rfl⟩
      obtain ⟨x1, x2⟩ := mv_wf q p k hlt
      rw [← hxe] at x1 x2
      have hxx : bits .andNot .u32 (q k) (p k) = x := hxe.symm
      have HP := hide (show ∀ t, cbP p q k t = decide (x / 2 ^ t % 2 = 1) from fun t => by rw [hxe]; rfl)
      have hk1 : (k : Int) < 96 := by omega
      have hk2 : decide ((k : Int) < 96) = true := decide_eq_true hk1
      clear hxe hal hE0
      go_wp2_with fail
      refine wp_region_later (by kernel_rfl) (by kernel_rfl) ?_
      repeat go_big_quiet_step (fail)
      refine wpQuiet_nil ?_
      rintro wq ⟨⟨_, hq⟩, rfl⟩

      have hown2 := own_keep hown hq
      have hb2 : Below w.heap.size w wq := hb.trans (hq.mono hb.size)
      go_wp2_with fail
      go_loopw [7, 10] (fun v i wt => ∃ t : Nat, t ≤ 24 ∧ i = .int .i64 t ∧ wt.ownsRow w.heap.size 87 3 v (gI (cbP p q) 24 k t).length (cgC (chgL (gI (cbP p q) 24 k t) put)) ∧ Below w.heap.size w wt)
        (fun _ i _ => 24 - (intOf i).toNat)
      case atStart => exact ⟨0, Nat.zero_le _, rfl, by rw [gI_zero]; exact hown2, hb2⟩
      case round =>
        obtain ⟨t, ht, rfl, hown4, hb4⟩ := hrel
        obtain ⟨A2, c2, rfl⟩ := own_shapeC hown4
        by_cases hlt2 : t < 24
        · have hlen := gI_len (cbP p q) 24 k t
          have hpt := HP.out t
          have hp := pin_tmod (d := fun _ => x) (k := k) (t := t) x1 x2
          have hpb : pinB (fun _ => x) k t = cbP p q k t := hpt.symm
          rw [hpb] at hp
          have h200 : k * 24 + t ≤ 2304 := by omega
          clear hpt hpb
          cases h1 : cbP p q k t
          · have HT := hide (gI_no (n := 24) h1)
            rw [h1] at hp
            clear h1
            go_wp2
            go_roundw
            case rel => exact ⟨t + 1, hlt2, by go_num, by rw [HT.out]; exact hown4, hb4⟩
            case measure => simp [intOf]; omega
          · have HT := hide (gI_yes (n := 24) h1)
            rw [h1] at hp
            have hwk : IntKind.i16.wrap (k : Int) = (k : Int) := IntWalk.i16_in _ (by omega)
            have hwt : IntKind.i8.wrap (t : Int) = (t : Int) := IntWalk.i8_in _ (by omega)
            have hnew := cell_three_new wr (.int .i16 (k : Int)) (.int .i8 (t : Int)) (.bool put) 87
            have own7 := hown4.alloc (.cells #[.int .i16 (k : Int), .int .i8 (t : Int), .bool put] 87)
            clear h1
            go_wp2_with (at_builtin; refine wpList_append_own _ rfl _ _ 46 rfl w.heap.size 87 i0 (.agg #[.int .i16 0, .int .i8 0, .bool false]) 3 4 Tryd.underlying46 hi hz0 hz1 hz2 rfl (by decide) _ _ _ rfl own7 ⟨wr.heap.size, 0, none⟩ 1 1 [.int .i16 (k : Int), .int .i8 (t : Int), .bool put] rfl rfl hnew (fun x hx => by simp at hx; rcases hx with rfl | rfl | rfl <;> rfl) (by unfold maxLen; omega) (by omega) (by simp; have := hb4.size; omega) ?_; intro v' w8 hown8 hgrow8 hnil8)
            have hb8 := (hb4.alloc hb4.size (.cells #[.int .i16 (k : Int), .int .i8 (t : Int), .bool put] 87)).grown hgrow8 (by simp; have := hb4.size; omega) (fun j hj => (hown4.lt j hj).1)
            go_roundw
            case rel => exact ⟨t + 1, hlt2, by go_num, by rw [HT.out, List.length_append, chgL_snoc, cgC_snoc]; exact hown8, hb8⟩
            case measure => simp [intOf]; omega
        · obtain rfl : t = 24 := by omega
          go_wp2
          go_roundw
          case rel => exact ⟨k + 1, hlt, by go_num, by rw [← gI_full]; exact hown4, hb4⟩
          case measure => simp [intOf]; omega
    · obtain rfl : k = 96 := by omega
      go_wp2
      go_ret
      exact ⟨A1, c1, by rw [chgL_len, ← HA.out]; rfl, by rw [chgL_len, ← HA.out]; exact hown, hb⟩
end Go.Proofs.YtcepjiglhlmgdaaDoor
namespace Go.Proofs.YtcepjiglhlmgdaaDoor
open Go.RowKit
theorem append_second {P : Program} (w : World) (t t2 ty e e2 : TypeId) (ht : P.underlying t = some (.slice e)) (ht2 : P.underlying t2 = some (.slice e2)) (i : TypeInfo) (hi : P.info? e = some i) (B : Option Addr) (n c : Nat) (x : Value) :
    (Builtin.append_ #[t, t2] ty #[.slice B n c, x]).run P w = (Builtin.append_ #[t, t] ty #[.slice B n c, x]).run P w := by
  simp [Builtin.append_, run_underlying ht, run_underlying ht2, Go.sizeOf, typeInfo, hi]
theorem run_append_none {P : Program} (w : World) (t ty e : TypeId) (i : TypeInfo) (ht : P.underlying t = some (.slice e)) (hi : P.info? e = some i) (base : Nat) (size n m c : Nat) (xs : List Value) (v : Value) (hown : w.ownsRow base e size v n xs) (hm : m = 0) :
    (Builtin.append_ #[t, t] ty #[v, .slice none m c]).run P w = .ok v w := by
  subst hm
  rcases hown.2 with ⟨rfl, rfl⟩ | ⟨g, cap, cur, rfl, _, _, hnc, _⟩
  · simp [Builtin.append_, run_underlying ht, Go.sizeOf, typeInfo, hi, Builtin.lenOf, Builtin.firstCells]
  · simp [Builtin.append_, run_underlying ht, Go.sizeOf, typeInfo, hi, Builtin.lenOf, Builtin.firstCells, hnc, storeCells]
end Go.Proofs.YtcepjiglhlmgdaaDoor
