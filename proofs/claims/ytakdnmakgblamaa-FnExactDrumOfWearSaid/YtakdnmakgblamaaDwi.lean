import Derived.Test.YtakdnmakgblamaaDwm
import Derived.Test.YtakdnmakgblamaaWfr
import Derived.Test.YtakdnmakgblamaaDws
import Derived.Maps.RangeWalk
import Derived.Deep.CutRange
namespace Go.Proofs.Ytakdnmakgblamaa
open Go.RowKit Go.Maps
set_option maxRecDepth 20000 in
theorem place_inv : ∀ key kl, keyOf Try.prog 105 key = some kl → ∃ x : Int × Int, key = .agg #[.int .i64 x.1, .int .i64 x.2] := by
  intro key kl hk
  obtain ⟨d, hd⟩ := typesP
  unfold keyOf at hk
  rw [hd, Try.underlying105] at hk
  simp only [keyTypeP, Bool.true_and] at hk
  split at hk
  · rename_i hf
    cases key <;> simp [Value.formed, Try.underlying105] at hf
    rename_i cs
    rw [cellsP] at hf
    obtain ⟨ls⟩ := cs
    match ls, hf with
    | [a, b], _ =>
      simp [Program.keyLits, Try.underlying105, Try.underlying2, cellsPi, cellsP, Value.cells] at hk
      cases a with
      | int qa x =>
        by_cases ha : qa = IntKind.i64 ∧ (Lit.int .i64 x).wf = true
        · cases b with
          | int qb y =>
            by_cases hb : qb = IntKind.i64 ∧ (Lit.int .i64 y).wf = true
            · exact ⟨(x, y), by rw [ha.1, hb.1]⟩
            · simp [ha, hb] at hk
          | _ => simp [ha] at hk
        · simp [ha] at hk
      | _ => simp at hk
  · cases hk
theorem ranges_below {w w' : World} {k : TypeId} {R : Value → Option (DataW Unit × List MemPlace)} {b r n : Nat} {D : DataW Unit} {left : Lit → Bool} {cnt : Nat} (h : w.ranges Try.prog k R b r n D left cnt) (hb : Below w.heap.size w w') : w'.ranges Try.prog k R b r n D left cnt := by
  obtain ⟨es, clock, since, seen, c0, h1, h2, h3, h4, h5, hr⟩ := h
  exact ⟨es, clock, since, seen, c0, (hb.block _ (Array.getElem?_eq_some_iff.1 h1).1).trans h1, h2, h3, h4, (hb.block _ (Array.getElem?_eq_some_iff.1 h5).1).trans h5, hr⟩
theorem ranges_setRow {w : World} {k : TypeId} {R : Value → Option (DataW Unit × List MemPlace)} {b r n g : Nat} {D : DataW Unit} {left : Lit → Bool} {cnt : Nat} (h : w.ranges Try.prog k R b r n D left cnt) (hb : g ≠ b) (hr' : g ≠ r) (cs : Array Value) : (w.setRow g cs).ranges Try.prog k R b r n D left cnt := by
  obtain ⟨es, clock, since, seen, c0, h1, h2, h3, h4, h5, hr⟩ := h
  exact ⟨es, clock, since, seen, c0, (setRow_other _ _ _ _ (fun e => hb e.symm)).trans h1, h2, h3, h4, (setRow_other _ _ _ _ (fun e => hr' e.symm)).trans h5, hr⟩
theorem int_invW : ∀ (v : Value) (y : DataW Unit × List MemPlace), plainElem Try.prog 2 v = some y → ∃ c : Int, v = .int .i64 c := by
  intro v y hv
  obtain ⟨c, rfl, _⟩ := plainElem_int_inv Try.underlying2 hv
  exact ⟨c, rfl⟩
set_option maxRecDepth 20000 in
set_option maxHeartbeats 8000000 in
theorem implDrumOfWear_any (s : Int) (A : Option Addr) (c : Nat) (h : List (Int × Int)) (P : Option Addr) (d : Nat) (l : List (Int × Int × Int)) (U : Option Addr) (v : Nat) (z : List Int) (w : World)
    (hA : HA w A h) (hn : h.length ≤ 1048576) (hwf : HWF h) (hs : -32768 ≤ s ∧ s ≤ 32767) (hL : WnA w P l) (hU : SZ w U z) (hl : l.length ≤ 1048576) (hz : z.length ≤ 1048576) (hlw : WnWF l) (hzw : ZWF z) :
    Calls Try.prog 25 #[.agg #[.int .i16 s, .slice A h.length c], .agg #[.slice P l.length d, .slice U z.length v]] w (DrC (dwR s h l z) (dwC s h l z) w) := by
  have hzd := zeroDrum
  obtain ⟨X, hX⟩ : ∃ X, X = ((w.alloc (.cells #[.int .i16 s, .slice A h.length c] 41)).alloc (.cells #[.slice P l.length d, .slice U z.length v] 45)).alloc (.cells za 53) := ⟨_, rfl⟩
  have hb0 : Below w.heap.size w X := by rw [hX]; exact (((Below.refl _ _).alloc (Nat.le_refl _) _).alloc (by simp) _).alloc (by simp; omega) _
  have P0 : Bk X w.heap.size 41 #[.int .i16 s, .slice A h.length c] := by rw [hX]; exact (Bk.new _ _ _ rfl).old _ |>.old _
  have P1 : Bk X (w.heap.size + 1) 45 #[.slice P l.length d, .slice U z.length v] := by rw [hX]; exact (Bk.new _ _ _ (by simp)).old _
  have P2 : Bk X (w.heap.size + 1 + 1) 53 (da fun _ => 0) := by rw [hX, za_eq]; exact Bk.new _ _ _ (by simp)
  have hX3 := P2.lt
  have KW := wearingFor_any s A c h P d l U v z (.slice none 0 0) true X (hA.below hb0) hn hwf hs (hL.below hb0) (hU.below hb0) hl hz hlw hzw (fun W _ => areLives_nil W)
  rw [Bool.and_true] at KW
  go_enter Try.func25, Try.ntmps25
  go_upto_region 1 with fail
  rw [← hX]
  clear hX
  have c0 := P0.cell (i := 0) rfl
  have c1 := P0.cell (i := 1) rfl
  have c2 := P1.cell (i := 0) rfl
  have c3 := P1.cell (i := 1) rfl
  go_wp2_with fail
  refine KW.mono ?_
  rintro e w2 ⟨he, hb2⟩
  have b2 := step_below hb2 hb0
  have Q2 := P2.keep hb2
  have hs2 := hb2.size
  clear KW c0 c1 c2 c3
  rcases he with ⟨h1, rfl⟩ | ⟨h1, M, C, q, rfl, hMw, own, ownz⟩
  · have HX := hide (show dwC s h l z = 1 by simp [dwC, h1, codeI])
    have HY := hide (show dwR s h l z = fun _ => 0 by simp [dwR, h1])
    obtain ⟨Y, hY⟩ : ∃ Y, Y = w2.alloc (.cells #[.int .i64 0, .slice none 0 0, .map none, .slice none 0 0] 96) := ⟨_, rfl⟩
    have hbY : Below w2.heap.size w2 Y := by rw [hY]; exact (Below.refl _ _).alloc (Nat.le_refl _) _
    have bY := step_below hbY b2
    have HZ := hide (show Y.heap[w.heap.size + 1 + 1]? = some (.cells (da fun _ => 0) 53 (0, 0)) from Q2.keep hbY)
    clear h1 hzd
    go_upto_region 2 with fail
    rw [← hY]
    clear hY
    go_wp2_with (first | (with_reducible refine wpList_build0 rfl rfl ?_) | (with_reducible refine wpList_store_row rfl 53 (.tmp 4) (.tmp 18) rfl (w.heap.size + 1 + 1) (da fun _ => 0) rfl rfl 53 _ HZ.out (by rw [da_size]; exact info53) (by simp only [da_size]) (da_one _) ?_))
    exact bodyPost_ret (v := .tuple #[.agg (da fun _ => 0), .int .i64 1]) (results_dr Try.results25 _ _ (w.heap.size + 1 + 1) 53 _ _ (by simp [Act.put]) (by simp [Act.put]) (setRow_heap _ _ _ _ _ _ HZ.out)) rfl ⟨by rw [HY.out, HX.out], below_setRow bY (by omega)⟩
  · have HX := hide (show dwC s h l z = 0 by simp [dwC, h1, codeI])
    have HY := hide (show dwR s h l z = dwD l l.length by simp [dwR, h1])
    have ho := onD_of h1
    obtain ⟨hdw, hdp⟩ := dwD_facts ho l.length (Nat.le_refl _)
    have HO := hide ho
    have HD := hide hdw
    have HP := hide hdp
    obtain ⟨Y, hY⟩ : ∃ Y, Y = (w2.alloc (.cells #[.int .i64 s, .slice A h.length c, .map (some M), .slice C z.length q] 96)).alloc (.cells za 53) := ⟨_, rfl⟩
    have hbY : Below w2.heap.size w2 Y := by rw [hY]; exact ((Below.refl _ _).alloc (Nat.le_refl _) _).alloc (by simp) _
    have bY := step_below hbY b2
    have G1x : Bk Y (w2.heap.size + 1) 53 (da fun _ => 0) := by rw [hY, za_eq]; exact Bk.new _ _ _ (by simp)
    obtain ⟨R, hYs2⟩ : ∃ R, Y.heap.size = R := ⟨_, rfl⟩
    have hYs := G1x.lt
    have G0 : Bk Y w2.heap.size 96 #[.int .i64 s, .slice A h.length c, .map (some M), .slice C z.length q] := by rw [hY]; exact (Bk.new _ _ _ rfl).old _
    have G1 : Bk Y (w2.heap.size + 1) 53 (da fun _ => 0) := by rw [hY, za_eq]; exact Bk.new _ _ _ (by simp)
    have G2 := Q2.keep hbY
    have ownY := map_keep own hbY
    have hMl := own.lt
    have hMX : w.heap.size + 1 + 1 < M := by omega
    clear h1 own ownz ho hdw hdp Q2 P0 P1 P2
    go_upto_region 5 with fail
    rw [← hY]
    clear hY hzd
    have e2 := G0.cell (i := 2) rfl
    go_wp2_with (at_range; refine wpList_range_own _ rfl _ 92 rfl 105 2 lawP Try.underlying92 _ M _ _ rfl ownY ?_; intro w0 hrg0 hg0 hs0)
    go_frame
    rw [hYs2] at hrg0 hs0 ⊢
    obtain ⟨g, hg⟩ : ∃ g, g = w2.heap.size + 1 := ⟨_, rfl⟩
    have hgw : w.heap.size + 1 + 1 < g := by omega
    have hgM : M < g := by omega
    have hgR : g < R := by omega
    have hbR := bY.grown hg0 bY.size (fun j hj => by cases hj)
    have G1' : Bk w0 g 53 (da fun _ => 0) := by rw [hg]; exact G1.grown hg0 (by simp)
    have G2' := G2.grown hg0 (by simp)
    rw [← hg]
    clear G0 G1 G1x G2 hg e2 ownY hs0 hYs hYs2
    go_loopw [24] (fun _ wr => ∃ (left : Lit → Bool) (cnt : Nat) (dd : Nat → Int), wr.ranges Try.prog 105 (plainElem (H := Unit) Try.prog 2) M R l.length (mapW l l.length) left cnt ∧ DWF dd ∧ (∀ i, i < 96 → ∀ t, pinB dd i t = doneW l left i t) ∧ Dr wr g 53 dd ∧ Bk wr (w.heap.size + 1 + 1) 53 (da fun _ => 0) ∧ Below w.heap.size w wr)
      (fun _ wr => wr.rangeLeft M R)
    case atStart => exact ⟨_, _, _, hrg0, zero_wfW, fun i _ t => by rw [zero_pinW, doneW_start hlw], G1', G2', hbR⟩
    case round =>
      obtain ⟨left, cnt, dd, hrg, hdd, hpp, E1, E2, hb⟩ := hrel
      have HDD := hide hdd
      have HPP := hide hpp
      clear hdd hpp
      go_wp2_with (at_next; refine wpList_next_ranges _ rfl _ rfl 105 lawP (plainElem (H := Unit) Try.prog 2) (fun x : Int × Int => .agg #[.int .i64 x.1, .int .i64 x.2]) (Value.int .i64) place_inv int_invW M R _ _ _ _ rfl hrg ?_ ?_)
      · intro hc0 hl0
        have HZ := hide (show wr.heap[w.heap.size + 1 + 1]? = some (.cells (da fun _ => 0) 53 (0, 0)) from E2)
        have hee : da dd = da (dwD l l.length) := drum_of_pins HDD.out HD.out fun i hi t => by rw [HPP.out i hi t, doneW_end hl0, HP.out i hi t]
        have HEE := hide hee
        have HR := hide E1.range
        clear hee hl0
        go_wp2_with (first | (with_reducible refine wpList_load_da rfl 53 (.tmp 8) rfl (g) 0 rfl dd _ HR.out Try.underlying53 rfl (dInfo dd) ?_) | (with_reducible refine wpList_store_row rfl 53 (.tmp 4) (.tmp 33) rfl (w.heap.size + 1 + 1) (da dd) rfl rfl 53 _ HZ.out (by rw [da_size]; exact info53) (by simp only [da_size]) (da_one _) ?_))
        exact bodyPost_ret (v := .tuple #[.agg (da dd), .int .i64 0]) (results_dr Try.results25 _ _ (w.heap.size + 1 + 1) 53 _ _ (by simp [Act.put]) (by simp [Act.put]) (setRow_heap _ _ _ _ _ _ HZ.out)) rfl ⟨by rw [HY.out, HX.out, HEE.out], below_setRow hb (by omega)⟩
      · intro x1 x2 cc kl yd yp w1 cnt1 hkey hlk hv hat hrg1 hlt hg1 hs1 hen
        obtain ⟨j, hj, hkj⟩ := mapW_has hlw l.length (Nat.le_refl _) kl (has_true_of_atKey hat)
        obtain ⟨m1, m2, _⟩ := hlw j hj
        have hpj := key_place _ _ (i64_of8 m1) (i64_of8 m2)
        rw [← hkj] at hpj
        have hxy : x1 = wnS l j ∧ x2 = wnT l j := by simpa using lawP.inj hkey hpj
        obtain ⟨⟨a1, a2⟩, t1, t2⟩ := HO.out j hj
        obtain ⟨a, ha⟩ : ∃ a : Nat, wnS l j = a := ⟨(wnS l j).toNat, by omega⟩
        obtain ⟨t, ht⟩ : ∃ t : Nat, wnT l j = t := ⟨(wnT l j).toNat, by omega⟩
        obtain ⟨rfl, rfl⟩ : x1 = a ∧ x2 = t := ⟨by omega, by omega⟩
        have ha96 : a < 96 := by omega
        have ht24 : t < 24 := by omega
        have HPN := hide (show (∀ i, i < 96 → ∀ t', pinB (togD dd a t) i t' = doneW l (fun z => left z && !z.sameKey kl) i t') from fun i hi t' => by
          have h2 := doneW_step hlw HO.out hj (left := left) (by rw [← hkj]; exact hlk) i t'
          rw [← hkj] at h2
          rw [h2, tog_pinW HDD.out hi (by omega), HPP.out i hi t', ha, ht, Int.toNat_natCast, Int.toNat_natCast])
        have E1w := (show Bk wr g 53 (da dd) from E1).grown hg1 (fun e => by have e' : R = g := Option.some.inj e; omega)
        have E2w := E2.grown hg1 (fun e => by have e' : R = w.heap.size + 1 + 1 := Option.some.inj e; omega)
        have hbw := hb.grown hg1 hb.size (fun j hj => by cases hj; omega)
        obtain ⟨Yk, hYk⟩ : ∃ Yk, Yk = w1.alloc (.cells #[.int .i64 (a : Int), .int .i64 (t : Int)] 105) := ⟨_, rfl⟩
        have hbk : Below w1.heap.size w1 Yk := by rw [hYk]; exact (Below.refl _ _).alloc (Nat.le_refl _) _
        have hbyk := step_below hbk hbw
        have E1k := E1w.keep hbk
        have E2k := E2w.keep hbk
        have HR := hide (show Dr Yk g 53 dd from E1k).range
        have hrgk := ranges_below hrg1 hbk
        have K0 : Bk Yk w1.heap.size 105 #[.int .i64 (a : Int), .int .i64 (t : Int)] := by rw [hYk]; exact Bk.new _ _ _ rfl
        have k0 := K0.cell (i := 0) rfl
        have k1 := K0.cell (i := 1) rfl
        have HLT := hide hlt
        have HK := hide hrg
        have HG := hide hrgk
        clear hs1 hkey hlk hv hat hrg1 hlt hg1 hkj hpj m1 m2 hxy ha ht a1 a2 t1 t2 E1 E2 hb hrg hrgk K0
        go_upto_region 8 with fail
        rw [← hYk]
        clear hYk
        go_wp2_with (first | (with_reducible refine wpList_load_da rfl 53 (.tmp 8) rfl (g) 0 rfl dd _ HR.out Try.underlying53 rfl (dInfo dd) ?_))
        refine (toggled_any a t dd _ ha96 ht24 HDD.out).mono ?_
        rintro e w3 ⟨rfl, hb3⟩
        have b3 := step_below hb3 hbyk
        have hrg3 := ranges_below HG.out hb3
        have HZ := hide (show w3.heap[g]? = some (.cells (da dd) 53 (0, 0)) from E1k.keep hb3)
        have E23 := E2k.keep hb3
        have hrg4 := hide (ranges_setRow hrg3 (show g ≠ M by omega) (show g ≠ R by omega) (da (togD dd a t)))
        clear hrg3 k0 k1 hen
        go_wp2_with (first | (with_reducible refine wpList_store_row rfl 53 (.tmp 8) (.tmp 32) rfl (g) (da (togD dd a t)) rfl rfl 53 _ HZ.out (by rw [da_size]; exact info53) (by simp only [da_size]) (da_one _) ?_))
        go_frame
        go_roundw
        case rel => exact ⟨_, _, _, hrg4.out, tog_wfW HDD.out a t, HPN.out, setRow_heap _ _ _ _ _ _ HZ.out, (setRow_other _ _ _ _ (by omega)).trans E23, below_setRow b3 (by omega)⟩
        case measure => rw [hrg4.out.left_eq, HK.out.left_eq]; exact HLT.out
end Go.Proofs.Ytakdnmakgblamaa
