import Derived.Test.YtdglhgfhlcdflaaDoorGbj
import Derived.Test.YtdglhgfhlcdflaaDoorGax
import Derived.Test.YtdglhgfhlcdflaaDoorGay
import Derived.Test.YtdglhgfhlcdflaaDoorFits
import Derived.Test.YtdglhgfhlcdflaaDoorTki
namespace Go.Proofs.YtdglhgfhlcdflaaDoor
open Go.RowKit
def vL (v : Nat → Int) : List Value := (List.range 20).map fun i => Value.int .u32 (v i)
theorem vL_get (v : Nat → Int) (i : Nat) (h : i < 20) : (vL v)[i]? = some (.int .u32 (v i)) := by simp [vL, h]
theorem infoV : (Tryd.prog.info? 72).map (·.size) = some 20 := by kernel_rfl
theorem vInfo (v : Nat → Int) : (Tryd.prog.info? 72).map (·.size) = some (vL v).length := by rw [show (vL v).length = 20 by simp [vL]]; exact infoV
theorem Bk.pgVRange {w : World} {g : Nat} {t : TypeId} {s : Int} {A : Option Addr} {n c : Nat} {C : Option Addr} {m e : Nat} {u v : Nat → Int} (h : Bk w g t (pgA s A n c C m e u v)) : w.rangeAt g 51 (vL v) := h.range 51 _ (fun j x hx => by
  have hj : j < 20 := by have := (List.getElem?_eq_some_iff.1 hx).1; simpa [vL] using this
  rw [vL_get v j hj] at hx
  rw [← hx]
  exact pgA_v j hj)
theorem indexV (v : Nat → Int) (k : Nat) (hk : k < 20) (w : World) : (Instr.index 72 (.agg (vL v).toArray) (.int .i64 k)).run Tryd.prog w = .ok (.int .u32 (v k)) w := by
  have h := vL_get v k hk
  simp [Instr.index, asIntOf, run_underlying Tryd.underlying72, go_sem, hk, h]
theorem wpList_load_vL {ops : Array Oper} {rest : List Oper} {op : Oper} {a : Act} {w : World} {Q : Exit → Act → World → Prop} (hgd : op.guard = none) (x : Operand) (ho : op.op = .load 72 x)
    (b p : Nat) (hx : a.eval x = .pointer (some ⟨b, p, none⟩)) (v : Nat → Int) (hc : w.rangeAt b p (vL v))
    (h : wpList Tryd.prog ops Q rest (a.put op.dst (.agg (vL v).toArray)) w) : wpList Tryd.prog ops Q (op :: rest) a w :=
  wpList_load_mid hgd 72 x ho b p hx (vL v) _ hc Tryd.underlying72 rfl (vInfo v) h
set_option maxRecDepth 20000 in
set_option maxHeartbeats 4000000 in
theorem busy_any (gp : Nat) (S : Nat) (A : Option Addr) (c : Nat) (l : List (Int × Int)) (C : Option Addr) (m e : Nat) (d : Nat → Int) (k : Nat) (w : World) (hP : Bk w gp 74 (pgA S A l.length c C m e (pgU l l.length) (pgV l l.length))) (hS : 2 ≤ S ∧ S ≤ 96) (hl : l.length ≤ 24) (hg : HG (S : Int) l l.length) (hk : k < S) (hd : DWF d) :
    Calls Tryd.prog 76 #[.pointer (some ⟨gp, 0, none⟩), .agg (da d), .int .i64 k] w fun e w' => e = .returned (.int .u32 (bzI S l d k (bzG l))) ∧ Below w.heap.size w w' := by
  obtain ⟨RV, hRV⟩ : ∃ RV, RV = bzI S l d k (bzG l) := ⟨_, rfl⟩
  rw [← hRV]
  have HRV := hide hRV
  clear hRV
  have HGG := hide hg
  obtain ⟨X, hX⟩ : ∃ X, X = w.alloc (.cells (da d) 43) := ⟨_, rfl⟩
  have b0 : Below w.heap.size w X := by rw [hX]; exact (Below.refl _ _).alloc (Nat.le_refl _) _
  have D0 : Dr X w.heap.size 43 d := by rw [hX]; exact heap_new' _ _ _ rfl
  have P0 := hP.keep b0
  have HV := hide P0.pgVRange
  have HI := hide (fun g hg => indexV (pgV l l.length) g hg)
  go_enter Tryd.func76, Tryd.ntmps76
  go_upto_region 1 with fail
  rw [← hX]
  clear hX hg
  go_wp2_with (with_reducible refine wpList_load_vL rfl (.tmp 13) rfl gp 51 rfl (pgV l l.length) HV.out ?_)
  go_loopw [7, 8, 9, 10, 15] (fun bv _ _ _ iv wr => ∃ g : Nat, g ≤ 20 ∧ iv = .int .i64 g ∧ bv = .int .u32 (bzI S l d k g) ∧ (∀ h, h < g → pgV l l.length h ≠ 0) ∧ Below X.heap.size X wr)
    (fun _ _ _ _ i _ => 20 - (intOf i).toNat)
  case atStart => exact ⟨0, Nat.zero_le _, rfl, rfl, fun h hh => absurd hh (Nat.not_lt_zero _), Below.refl _ _⟩
  case round =>
    obtain ⟨g, hg20, rfl, rfl, hall, hb⟩ := hrel
    have HALL := hide hall
    clear hall
    have bw := step_below hb b0
    obtain ⟨bz, hbz⟩ : ∃ bz, bz = bzI S l d k g := ⟨_, rfl⟩
    have hbzin := bzI_in S l d k g
    rw [← hbz] at hbzin ⊢
    by_cases hlt : g < 20
    · have hgi : (g : Int) < 20 := by omega
      have hix := HI.out g hlt
      obtain ⟨x, hx⟩ : ∃ x, x = pgV l l.length g := ⟨_, rfl⟩
      have hxin := pgV_in l hl g
      rw [← hx] at hxin hix
      by_cases hx0 : x = 0
      · have HX := hide (show RV = bz by rw [HRV.out, bzG_brk hlt HALL.out (by rw [← hx]; exact hx0), hbz])
        subst hx0
        clear hx hbz
        go_wp2
        go_ret
        exact ⟨by rw [HX.out]; rfl, bw⟩
      · have hxn : (x == 0) = false := by simpa using hx0
        have hgS : g < S := by
          refine Classical.byContradiction fun hge => hx0 ?_
          have hz : ∀ t, x.toNat.testBit t = false := fun t => by
            rw [hx, pgV_bit hl]
            by_cases ht : t < l.length
            · have := (HGG.out.at ht).2
              simp [ht]
              omega
            · simp [ht]
          have h0 : x.toNat = 0 := Nat.eq_of_testBit_eq fun t => by rw [hz t, Nat.zero_testBit]
          omega
        have DR := D0.keep hb
        have PR := P0.keep hb
        obtain ⟨a1, ha1⟩ : ∃ a1, a1 = (k + g) % S := ⟨_, rfl⟩
        obtain ⟨a2, ha2⟩ : ∃ a2, a2 = (k + S - g) % S := ⟨_, rfl⟩
        have h196 : a1 < 96 := by rw [ha1]; exact Nat.lt_of_lt_of_le (Nat.mod_lt _ (by omega)) hS.2
        have h296 : a2 < 96 := by rw [ha2]; exact Nat.lt_of_lt_of_le (Nat.mod_lt _ (by omega)) hS.2
        have K1 : ∀ p : Later wr, Calls Tryd.prog 81 #[.agg #[.int .i64 S, .slice A l.length c], .int .i64 ((k : Int) + (g : Int))] p.w fun e w' => e = .returned (.int .i64 a1) ∧ Below p.w.heap.size p.w w' := fun p => by
          rw [ha1, ← Int.natCast_add]
          exact around_any S (k + g) A l.length c p.w hS (by omega)
        have K2 : ∀ p : Later wr, Calls Tryd.prog 81 #[.agg #[.int .i64 S, .slice A l.length c], .int .i64 ((k : Int) - (g : Int))] p.w fun e w' => e = .returned (.int .i64 a2) ∧ Below p.w.heap.size p.w w' := fun p => by
          rw [ha2]
          exact aroundSub_any S k g A l.length c p.w hS hk hgS
        have q0 := Later.cell PR.pgSteps
        have q1 := Later.cell PR.pgHams
        have q2 := Later.cell (DR.cell h196)
        have q3 := Later.cell (DR.cell h296)
        have hw1 : IntKind.i64.wrap ((k : Int) + (g : Int)) = (k : Int) + (g : Int) := IntWalk.i64_in _ (by omega)
        have hw2 : IntKind.i64.wrap ((k : Int) - (g : Int)) = (k : Int) - (g : Int) := IntWalk.i64_in _ (by omega)
        have h1i : (a1 : Int) < 96 := by omega
        have h2i : (a2 : Int) < 96 := by omega
        obtain ⟨u1, u2⟩ := hd a1 h196
        obtain ⟨v1, v2⟩ := hd a2 h296
        obtain ⟨z1, z2⟩ := bits_in .or (d a1) (d a2)
        have HS := hide (show bzI S l d k (g + 1) = bits .or .u32 bz (bits .and .u32 (bits .or .u32 (d a1) (d a2)) x) by rw [bzI, ← ha1, ← ha2, ← hx, hbz])
        have HN := hide (show pgV l l.length g ≠ 0 by rw [← hx]; exact hx0)
        clear ha1 ha2 hx hbz hx0
        go_wp2_with fail
        refine wp_region_later (by kernel_rfl) (by kernel_rfl) ?_
        repeat (go_big_quiet_step (first | (go_at_call 81; with_reducible exact Later.call (K1 _)) | (go_at_call 81; with_reducible exact Later.call (K2 _))))
        refine wpQuiet_nil ?_
        rintro _ ⟨⟨wz, hqz⟩, rfl⟩
        go_wp2
        go_roundw
        case rel => exact ⟨g + 1, hlt, by go_num, by rw [HS.out], fun h hh => by
          rcases Nat.lt_or_ge h g with h1 | h1
          · exact HALL.out h h1
          · rw [show h = g by omega]; exact HN.out, step_below hqz hb⟩
        case measure => simp [intOf]; omega
    · have HG2 := hide (show g = 20 by omega)
      have hgn : ¬ (g : Int) < 20 := by omega
      have HX := hide (show RV = bz by rw [HRV.out, bzG_end (by rw [← HG2.out]; exact HALL.out), hbz, HG2.out])
      clear hbz
      go_wp2
      go_ret
      exact ⟨by rw [HX.out]; rfl, bw⟩
set_option maxRecDepth 20000 in
set_option maxHeartbeats 4000000 in
theorem free_any (gp : Nat) (S : Nat) (A : Option Addr) (c : Nat) (l : List (Int × Int)) (C : Option Addr) (ct : Nat) (L : List (Int × Int)) (d : Nat → Int) (i k P : Nat) (w : World) (hP : Bk w gp 74 (pgA S A l.length c C L.length ct (pgU l l.length) (pgV l l.length))) (hC : NA w C L) (hL : L.length ≤ 120) (hS : 2 ≤ S ∧ S ≤ 96) (hl : l.length ≤ 24) (hg : HG (S : Int) l l.length) (hi : i < L.length) (ha : nAt L i = (k : Int)) (hp : nPi L i = (P : Int)) (hk : k < S) (hP48 : P < 48) (hd : DWF d) :
    Calls Tryd.prog 53 #[.pointer (some ⟨gp, 0, none⟩), .agg (da d), .int .i64 i] w fun e w' => e = .returned (.int .u32 (frI S l d k P)) ∧ Below w.heap.size w w' := by
  obtain ⟨RV, hRV⟩ : ∃ RV, RV = frI S l d k P := ⟨_, rfl⟩
  rw [← hRV]
  have HRV := hide hRV
  clear hRV
  obtain ⟨X, hX⟩ : ∃ X, X = w.alloc (.cells (da d) 43) := ⟨_, rfl⟩
  have b0 : Below w.heap.size w X := by rw [hX]; exact (Below.refl _ _).alloc (Nat.le_refl _) _
  have D0 : Dr X w.heap.size 43 d := by rw [hX]; exact heap_new' _ _ _ rfl
  have P0 := hP.keep b0
  have KB := fun W (hW : Below X.heap.size X W) => busy_any gp S A c l C L.length ct d k W (P0.keep hW) hS hl hg hk hd
  obtain ⟨bz, hbz⟩ : ∃ bz, bz = bzI S l d k (bzG l) := ⟨_, rfl⟩
  have hbzin := bzI_in S l d k (bzG l)
  rw [← hbz] at KB hbzin
  obtain ⟨uu, huu⟩ : ∃ uu, uu = pgU l l.length P := ⟨_, rfl⟩
  have huin := pgU_in l hl P
  have HX := hide (show RV = bits .andNot .u32 uu bz by rw [HRV.out, frI, ← hbz, ← huu])
  obtain ⟨bn, on, rfl, hbn, n1, n2⟩ := (hC.below b0) i hi
  rw [ha] at n1
  rw [hp] at n2
  have c2 := P0.pgTune
  have hii : (i : Int) < (L.length : Int) := by omega
  have hin : ((i : Int) == (L.length : Int)) = false := by rw [beq_eq_false_iff_ne]; omega
  have e3 := P0.pgU P hP48
  rw [← huu] at e3 huin
  clear hbz huu ha hp hg
  go_enter Tryd.func53, Tryd.ntmps53
  go_upto_region 1 with fail
  rw [← hX]
  clear hX
  obtain ⟨V, hV⟩ : ∃ V, V = X.alloc (.cells #[.int .i16 k, .int .i8 P] 65) := ⟨_, rfl⟩
  have hbV : Below X.heap.size X V := by rw [hV]; exact (Below.refl _ _).alloc (Nat.le_refl _) _
  have N0 : Bk V X.heap.size 65 #[.int .i16 k, .int .i8 P] := by rw [hV]; exact Bk.new _ _ _ rfl
  go_upto_region 4 with fail
  rw [← hV]
  clear hV
  have DV := D0.keep hbV
  have q1 := Later.cell (N0.cell (i := 0) rfl)
  have q2 := Later.cell (N0.cell (i := 1) rfl)
  have q3 := Later.cell ((hbV.cell (p := ⟨gp, 3 + P, none⟩) P0.lt).trans e3)
  have HL := hide (fun p => DV.later p)
  have KB2 : ∀ p : Later V, Calls Tryd.prog 76 #[.pointer (some ⟨gp, 0, none⟩), .agg (da d), .int .i64 k] p.w fun e w' => e = .returned (.int .u32 bz) ∧ Below p.w.heap.size p.w w' := fun p => KB p.w (step_below p.h hbV)
  have hpi : (P : Int) < 48 := by omega
  have hkw : IntKind.i64.wrap (k : Int) = (k : Int) := IntWalk.i64_in _ (by omega)
  clear c2 n1 n2 e3 KB
  refine wp_region_later (by kernel_rfl) (by kernel_rfl) ?_
  repeat (first | (go_big_quiet_want; with_reducible refine quiet_load_da 43 (.tmp 4) rfl (.pointer (some ⟨w.heap.size, 0, none⟩)) rfl (.agg (da d)) (by rintro _ ⟨p, rfl⟩; exact HL.out p) ?_; go_simp; go_big_quiet_on) | go_big_quiet_step ((go_at_call 76; with_reducible exact Later.call (KB2 _))))
  refine wpQuiet_nil ?_
  rintro _ ⟨⟨wz, hqz⟩, rfl⟩
  go_wp2
  go_ret
  exact ⟨by rw [HX.out]; rfl, step_below hqz (step_below hbV b0)⟩
end Go.Proofs.YtdglhgfhlcdflaaDoor
