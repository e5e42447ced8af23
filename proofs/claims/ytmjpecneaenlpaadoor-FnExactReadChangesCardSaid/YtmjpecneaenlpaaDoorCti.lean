import Derived.Test.YtmjpecneaenlpaaDoorCtx
import Derived.Lib.Join
import Derived.Maps.AppendAt
namespace Go.Proofs.YtmjpecneaenlpaaDoor
open Go.RowKit
def cxB (a p : Int) : Bool := inB a 0 95 && inB p 0 23
set_option maxRecDepth 20000 in
set_option maxHeartbeats 2000000 in
theorem changeIn_any (a p : Int) (q : Bool) (w : World) (ha : -32768 ≤ a ∧ a ≤ 32767) (hp : -128 ≤ p ∧ p ≤ 127) :
    Calls Tryd.prog 72 #[.agg #[.int .i16 a, .int .i8 p, .bool q]] w fun e w' => e = .returned (.bool (cxB a p)) ∧ Below w.heap.size w w' := by
  have hb0 : Below w.heap.size w (w.alloc (.cells #[.int .i16 a, .int .i8 p, .bool q] 84)) := (Below.refl _ _).alloc (Nat.le_refl _) _
  have wa : IntKind.i64.wrap a = a := IntWalk.i64_in _ (by omega)
  have wp : IntKind.i64.wrap p = p := IntWalk.i64_in _ (by omega)
  cases h1 : inB a 0 95
  · have K1 : ∀ W, Calls Tryd.prog 83 #[.int .i64 a, .int .i64 0, .int .i64 95] W fun e w' => e = .returned (.bool false) ∧ W = w' := fun W => by rw [← h1]; exact within_any a 0 95 W
    have HB := hide (show cxB a p = false by simp [cxB, h1])
    clear h1
    go_enter Tryd.func72, Tryd.ntmps72
    go_wp2_with (go_at_call 83; with_reducible refine (K1 _).mono ?_; rintro e w' ⟨rfl, rfl⟩)
    go_ret
    exact ⟨by rw [HB.out]; rfl, hb0⟩
  · have K1 : ∀ W, Calls Tryd.prog 83 #[.int .i64 a, .int .i64 0, .int .i64 95] W fun e w' => e = .returned (.bool true) ∧ W = w' := fun W => by rw [← h1]; exact within_any a 0 95 W
    have K2 : ∀ W, Calls Tryd.prog 83 #[.int .i64 p, .int .i64 0, .int .i64 23] W fun e w' => e = .returned (.bool (inB p 0 23)) ∧ W = w' := fun W => within_any p 0 23 W
    have HB := hide (show cxB a p = inB p 0 23 by simp [cxB, h1])
    clear h1
    generalize inB p 0 23 = B at *
    go_enter Tryd.func72, Tryd.ntmps72
    go_wp2_with (first | (go_at_call 83; with_reducible refine (K1 _).mono ?_; rintro e w' ⟨rfl, rfl⟩) | (go_at_call 83; with_reducible refine (K2 _).mono ?_; rintro e w' ⟨rfl, rfl⟩))
    go_ret
    exact ⟨by rw [HB.out]; rfl, hb0⟩
theorem own_shapeT {w : World} {base : Nat} {e : TypeId} {size n : Nat} {v : Value} {xs : List Value} (h : w.ownsRow base e size v n xs) : ∃ A c, v = .slice A n c := by
  rcases h.2 with ⟨h', h0⟩ | ⟨g, cap, cur, h', _⟩
  · exact ⟨none, 0, by rw [h', h0]⟩
  · exact ⟨_, _, h'⟩
/-- the k-th change's text, and the texts of all -/
def csX (l : List (Int × Int × Bool)) (k : Nat) : ByteArray := ⟨(cxL (cgS l k).toNat (cgT l k).toNat (cgP l k)).toArray⟩
def csP (l : List (Int × Int × Bool)) (k : Nat) : List ByteArray := (List.range k).map (csX l)
theorem csP_len (l : List (Int × Int × Bool)) (k : Nat) : (csP l k).length = k := by simp [csP]
theorem csP_succ (l : List (Int × Int × Bool)) (k : Nat) : csP l (k + 1) = csP l k ++ [csX l k] := by simp [csP, List.range_succ]
def csA (l : List (Int × Int × Bool)) : Bool := (List.range l.length).all fun k => cxB (cgS l k) (cgT l k)
theorem csA_all {l : List (Int × Int × Bool)} (h : ∀ j, j < l.length → cxB (cgS l j) (cgT l j) = true) : csA l = true := by
  simpa [csA] using h
theorem csA_no {l : List (Int × Int × Bool)} {k : Nat} (hk : k < l.length) (h : cxB (cgS l k) (cgT l k) = false) : csA l = false := by
  cases hc : csA l
  · rfl
  · have : ∀ j, j < l.length → cxB (cgS l j) (cgT l j) = true := by simpa [csA] using hc
    rw [this k hk] at h
    cases h
def csJ (l : List (Int × Int × Bool)) (k : Nat) : List UInt8 := Lib.join ((csP l k).map (·.data.toList)) [32]
/-- the text of changes -/
def csV (l : List (Int × Int × Bool)) : ByteArray := if l.length ≤ 2400 ∧ csA l = true then ⟨(csJ l l.length).toArray⟩ else ⟨#[]⟩
theorem cxB_in {a p : Int} (h : cxB a p = true) : (0 ≤ a ∧ a ≤ 95) ∧ (0 ≤ p ∧ p ≤ 23) := by simpa [cxB, inB] using h
theorem cxL_len {a p : Nat} {q : Bool} (ha : a < 100) (hp : p < 100) : (cxL a p q).length ≤ 6 := by
  have h1 := dec_len2 ha
  have h2 := dec_len2 hp
  simp only [cxL, List.length_cons, List.length_append]
  omega
theorem csJ_lt (l : List (Int × Int × Bool)) (k : Nat) (hk : k ≤ 2400) (hG : ∀ j, j < k → cxB (cgS l j) (cgT l j) = true) : (csJ l k).length ≤ 16800 := by
  have hs : ∀ (xs : List (List UInt8)), (∀ x ∈ xs, x.length ≤ 6) → (Lib.join xs [32]).length ≤ 7 * xs.length := by
    intro xs hx
    have hl : ∀ (ys : List (List UInt8)), (∀ x ∈ ys, x.length ≤ 6) → (Lib.joinTail [32] ys).length ≤ 7 * ys.length := by
      intro ys hy
      induction ys with
      | nil => simp [Lib.joinTail]
      | cons y r ih =>
        have h1 := ih fun x hx => hy x (List.mem_cons_of_mem _ hx)
        have h2 := hy y (List.mem_cons_self ..)
        simp only [Lib.joinTail, List.map_cons, List.flatten_cons, List.length_append, List.length_cons, List.length_nil] at h1 ⊢
        omega
    cases xs with
    | nil => simp [Lib.join, List.intercalate]
    | cons y r =>
      have h1 := hl r fun x h => hx x (List.mem_cons_of_mem _ h)
      have h2 := hx y (List.mem_cons_self ..)
      rw [Lib.join_cons, List.length_append, List.length_cons]
      omega
  have h1 := hs ((csP l k).map (·.data.toList)) (by
    intro x hx
    obtain ⟨y, hy, rfl⟩ := List.mem_map.1 hx
    obtain ⟨j, hj, rfl⟩ := List.mem_map.1 hy
    have h := cxB_in (hG j (List.mem_range.1 hj))
    simpa [csX] using cxL_len (q := cgP l j) (show (cgS l j).toNat < 100 by omega) (show (cgT l j).toNat < 100 by omega))
  rw [List.length_map, csP_len] at h1
  unfold csJ
  omega
theorem csJ_len (l : List (Int × Int × Bool)) (k : Nat) (hk : k ≤ 2400) (hG : ∀ j, j < k → cxB (cgS l j) (cgT l j) = true) : (csJ l k).length ≤ 140737488355328 := by have := csJ_lt l k hk hG; omega
set_option maxRecDepth 20000 in
set_option maxHeartbeats 4000000 in
theorem implChangesText_any (A : Option Addr) (c : Nat) (l : List (Int × Int × Bool)) (w : World) (hA : CgA w A l) (hn : l.length ≤ 1048576) (hwf : CgWF l) :
    Calls Tryd.prog 49 #[.slice A l.length c] w fun e w' => e = .returned (.string (csV l)) ∧ Below w.heap.size w w' := by
  obtain ⟨i0, hi, hz0, hz1, hz2⟩ := info_parts info9
  go_enter Tryd.func49, Tryd.ntmps49
  by_cases hl : l.length ≤ 2400
  · have hli : ¬ (l.length : Int) > 2400 := by omega
    go_wp2_with (at_make; refine wpList_make_own _ rfl _ _ 47 rfl w.heap.size 9 i0 _ 1 Tryd.underlying47 hi hz0 hz1 _ _ _ l.length rfl rfl (by omega) (by rw [hz2]; omega) (by unfold maxLen; omega) (Nat.le_refl _) ?_; intro w1 hown1 hgrow1)
    have hb1 : Below w.heap.size w w1 := (Below.refl _ _).grown hgrow1 (Nat.le_refl _) (fun j e => by cases e)
    clear hgrow1
    go_loopw [3, 5, 14] (fun v _ i wr => ∃ k : Nat, k ≤ l.length ∧ i = .int .i64 k ∧ wr.ownsRow w.heap.size 9 1 v k (strs (csP l k)) ∧ (∀ j, j < k → cxB (cgS l j) (cgT l j) = true) ∧ Below w.heap.size w wr)
      (fun _ _ i _ => l.length - (intOf i).toNat)
    case atStart => exact ⟨0, Nat.zero_le _, rfl, hown1, fun j hj => absurd hj (Nat.not_lt_zero _), hb1⟩
    case round =>
      obtain ⟨k, hk, rfl, hown, hG, hb⟩ := hrel
      obtain ⟨A', c', rfl⟩ := own_shapeT hown
      by_cases hlt : k < l.length
      · obtain ⟨b, o, rfl, hbb, c1, c2, c3⟩ := hA k hlt
        have d1 := (hb.cell (p := ⟨b, o + k * 3, none⟩) hbb).trans c1
        have d2 := (hb.cell (p := ⟨b, o + k * 3 + 1, none⟩) hbb).trans c2
        have d3 := (hb.cell (p := ⟨b, o + k * 3 + 2, none⟩) hbb).trans c3
        obtain ⟨wS, wT⟩ := hwf k hlt
        have hki : (k : Int) < (l.length : Int) := by omega
        have HG := hide hG
        clear hG c1 c2 c3
        obtain ⟨x, hx⟩ : ∃ x, cgS l k = x := ⟨_, rfl⟩
        obtain ⟨y, hy⟩ : ∃ y, cgT l k = y := ⟨_, rfl⟩
        obtain ⟨z, hzz⟩ : ∃ z, cgP l k = z := ⟨_, rfl⟩
        have HS := hide (csP_succ l k)
        have HX := hide (show csX l k = ⟨(cxL x.toNat y.toNat z).toArray⟩ by rw [csX, hx, hy, hzz])
        have HN := hide (csA_no hlt)
        have HY := hide (show cxB x y = true → ∀ j, j < k + 1 → cxB (cgS l j) (cgT l j) = true from fun h j hj => by
          rcases Nat.lt_succ_iff_lt_or_eq.1 hj with h' | rfl
          · exact HG.out j h'
          · rw [hx, hy]; exact h)
        rw [hx] at d1 wS HN
        rw [hy] at d2 wT HN
        rw [hzz] at d3
        clear hx hy hzz
        obtain ⟨X2, hX2⟩ : ∃ X, X = wr.alloc (.cells #[.int .i16 x, .int .i8 y, .bool z] 84) := ⟨_, rfl⟩
        have hb2 : Below wr.heap.size wr X2 := by rw [hX2]; exact (Below.refl _ _).alloc (Nat.le_refl _) _
        have e0 : X2.cell? ⟨wr.heap.size, 0, none⟩ = some (.int .i16 x) := by rw [hX2]; simp [go_sem]
        have e1 : X2.cell? ⟨wr.heap.size, 1, none⟩ = some (.int .i8 y) := by rw [hX2]; simp [go_sem]
        have e2 : X2.cell? ⟨wr.heap.size, 2, none⟩ = some (.bool z) := by rw [hX2]; simp [go_sem]
        have own2 := own_keep hown hb2
        have bX := step_below hb2 hb
        go_upto_region 7 with fail
        rw [← hX2]
        clear hX2 d1 d2 d3 hown
        have KI := changeIn_any x y z X2 wS wT
        cases hcb : cxB x y
        · rw [hcb] at KI
          have HV := hide (show csV l = ⟨#[]⟩ by simp [csV, HN.out hcb])
          clear hcb
          go_wp2_with fail
          refine KI.mono ?_
          rintro e w3 ⟨rfl, hb3⟩
          go_wp2
          go_ret
          exact ⟨by rw [HV.out]; rfl, step_below hb3 bX⟩
        · rw [hcb] at KI
          have hin := cxB_in hcb
          have HY2 := hide (HY.out hcb)
          clear hcb
          obtain ⟨⟨i1, i2⟩, i3, i4⟩ := hin
          obtain ⟨xn, rfl⟩ := Int.eq_ofNat_of_zero_le i1
          obtain ⟨yn, rfl⟩ := Int.eq_ofNat_of_zero_le i3
          have KT := fun W => changeText_any xn yn z W (by omega) (by omega)
          have HX := hide (show csX l k = ⟨(cxL xn yn z).toArray⟩ from HX.out)
          obtain ⟨t, ht⟩ : ∃ t : ByteArray, t = ⟨(cxL xn yn z).toArray⟩ := ⟨_, rfl⟩
          rw [← ht] at KT HX
          clear ht
          go_wp2_with fail
          refine KI.mono ?_
          rintro e w3 ⟨rfl, hb3⟩
          have f0 := (hb3.cell (p := ⟨wr.heap.size, 0, none⟩) (World.block_lt_of_cell? _ _ e0)).trans e0
          have f1 := (hb3.cell (p := ⟨wr.heap.size, 1, none⟩) (World.block_lt_of_cell? _ _ e1)).trans e1
          have f2 := (hb3.cell (p := ⟨wr.heap.size, 2, none⟩) (World.block_lt_of_cell? _ _ e2)).trans e2
          have own3 := own_keep own2 hb3
          have b3 := step_below hb3 bX
          clear e0 e1 e2 own2 KI
          go_wp2_with fail
          refine (KT w3).mono ?_
          rintro e w4 ⟨rfl, hb4⟩
          have own4 := own_keep own3 hb4
          have b4 := step_below hb4 b3
          clear f0 f1 f2 own3
          have hnew : ∀ j u, ([.string t] : List Value)[j]? = some u → (w4.alloc (.cells #[.string t] 9)).cell? ((⟨w4.heap.size, 0, none⟩ : Addr).add j) = some u := cell_one_new w4 (.string t) 9
          have own5 := own4.alloc (.cells #[.string t] 9)
          go_wp2_with (at_builtin; refine wpList_append_own _ rfl _ _ 47 rfl w.heap.size 9 i0 (.string ⟨#[]⟩) 1 16 Tryd.underlying47 hi hz0 hz1 hz2 rfl (by decide) _ _ _ rfl own5 ⟨w4.heap.size, 0, none⟩ 1 1 [.string t] rfl rfl hnew (fun x hx => by simp at hx; subst hx; rfl) (by unfold maxLen; omega) (by omega) (by simp; have := b4.size; omega) ?_; intro v' w6 hown6 hgrow6 hnil6)
          have hb6 := (b4.alloc b4.size (.cells #[.string t] 9)).grown hgrow6 (by simp; have := b4.size; omega) (fun j hj => (own4.lt j hj).1)
          go_roundw
          case rel => exact ⟨k + 1, hlt, by go_num, by rw [HS.out, HX.out, strs, List.map_append]; exact hown6, HY2.out, hb6⟩
          case measure => simp [intOf]; omega
      · obtain rfl : k = l.length := by omega
        have HV := hide (show csV l = ⟨(csJ l l.length).toArray⟩ by rw [csV, if_pos ⟨hl, csA_all hG⟩])
        have hjl := csJ_len l l.length hl hG
        clear hG
        by_cases h0 : l.length = 0
        · have HE := hide (show csV l = ⟨#[]⟩ by rw [HV.out, h0]; rfl)
          rw [h0] at *
          have KJ := fun W => Tryd.strings_Join_none A' c' ⟨#[32]⟩ W
          go_wp2_with (go_at_call 60; refine (KJ _).mono ?_; rintro e w' ⟨rfl, rfl⟩)
          go_ret
          exact ⟨by rw [HE.out]; rfl, hb⟩
        · obtain ⟨b, rfl, hblt, hcap, hcl⟩ := own_strs hown h0
          have hcl' := csP_len l l.length
          have KJ := Tryd.strings_Join b 0 c' (csP l l.length) ⟨#[32]⟩ wr hcl hblt (by omega) (by omega) hjl
          rw [hcl'] at KJ
          have KJ' : Calls Tryd.prog 60 #[.slice (some ⟨b, 0, none⟩) l.length c', .string ⟨#[32]⟩] wr fun e w' => e = .returned (.string (csV l)) ∧ Below wr.heap.size wr w' := by rw [HV.out]; exact KJ
          clear KJ HV hcl' hcl
          go_wp2_with (go_at_call 60; refine KJ'.mono ?_; rintro e w' ⟨rfl, hbj⟩)
          go_ret
          exact ⟨rfl, step_below hbj hb⟩
  · have hli : (l.length : Int) > 2400 := by omega
    have HV := hide (show csV l = ⟨#[]⟩ by simp [csV, hl])
    go_wp2
    go_ret
    exact ⟨by rw [HV.out]; rfl, Below.refl _ _⟩
end Go.Proofs.YtmjpecneaenlpaaDoor
