import Derived.Test.YtcocfnjbgceidaaGreatExc
import Derived.IntWalk
import Derived.Deep.RegionHeld3
import Derived.StillTail
import Derived.StillTailTactics
namespace Go.Proofs.YtcocfnjbgceidaaGreat
open Go.RowKit Go.Maps
theorem wp_entryStore {P : Program} {o : Oper} {a : Act} {w : World} {K : Act → World → Prop} {Q : Exit → Act → World → Prop} (m s x : Operand) (t : TypeId) (hop : o.op = Op.entryStore t m s x) (vm vs vx : Value) (hm : a.eval m = vm) (hs : a.eval s = vs) (hx : a.eval x = vx) (w' : World)
    (hrun : (Instr.entryStore t vm vs vx).run P w = .ok () w') (hK : K (a.put o.dst undef) w') : o.wp P a w K Q := by
  unfold Oper.wp
  simp [execOp, hop, hm, hs, hx, hrun, Result.andThen]
  exact hK
def tuC (T : List Wp) (z : List Int) (t : Int) : Int := if wholeB (turT T t) (turZ T z t) 1000000 1000000 then 0 else 3
theorem cntS_le (T : List Wp) (S : Wp → Bool) (k : Int) : cntS T S k ≤ T.length := List.countP_le_length
theorem readsW_ne {D D' : DataW Unit} {T : List Wp} (h : ReadsW D T) : ReadsW D T := h
set_option maxRecDepth 20000 in
set_option maxHeartbeats 8000000 in
theorem turn_any (s : Int) (n base : Nat) (C : Option Addr) (q M N : Nat) (T : List Wp) (z : List Int) (t : Int) (w : World) (hs : s ≤ 96) (hn : n ≤ 24) (hSt : WSt s n base C q M N T z w) (hbase : base ≤ w.heap.size) (ht : 0 ≤ t ∧ t ≤ 1000000) (g2 : Nat → Nat) (t2 : Nat → TypeId) (cs2 : Nat → Array Value) (hB : Bkf w g2 t2 cs2) (ht2 : ∀ i, t2 i ≠ 2) :
    Calls Tryz.prog 161 #[.agg #[.map (some M), .slice C n q], .int .i64 t] w (OnP s n base C q M N (turT T t) (turZ T z t) (tuC T z t) g2 t2 cs2 w) := by
  obtain ⟨X, hX⟩ : ∃ X, X = w.alloc (.cells #[.map (some M), .slice C n q] 104) := ⟨_, rfl⟩
  have hb0 : Below w.heap.size w X := by rw [hX]; exact (Below.refl _ _).alloc (Nat.le_refl _) _
  have P0 : Bk X w.heap.size 104 #[.map (some M), .slice C n q] := by rw [hX]; exact Bk.new _ _ _ rfl
  obtain ⟨D, hM, hD, hI, hO, hzn, hv, hvz, hbM⟩ := hSt
  obtain ⟨ht0, ht1⟩ := ht
  have hlen := hv.length hs hn
  have h8 := hv.in8 hs hn
  have ownX := map_keep hM hb0
  have oX := own_keep hO hb0
  have BX := hB.keep hb0
  have hMl := hM.lt
  have hX1 := P0.lt
  have HD := hide hD
  have HV := hide hv
  have HVZ := hide hvz
  have H8 := hide h8
  have hOB := hO.lt
  have hneM2 := fun i => map_ne_bk ownX (BX i)
  have hneMO := fun g (h : (Value.slice C n q).ownBlock = some g) => map_ne_own ownX oX g h
  have hneO2 : ∀ i, (Value.slice C n q).ownBlock ≠ some (g2 i) := fun i => own_neW oX (BX i) (ht2 i)
  have hg2 := fun i => (hB i).lt
  clear hD hv hvz h8 hM hO
  go_enter Tryz.func161, Tryz.ntmps161
  go_upto_region 1 with fail
  rw [← hX]
  clear hX
  have c0 := P0.cell (i := 0) rfl
  go_wp2_with (at_range; refine wpList_range_own _ rfl _ 102 rfl 138 2 lawP Tryz.underlying102 _ M _ _ rfl ownX ?_; intro w0 hrg0 hg0 hs0)
  go_frame
  obtain ⟨R, hR⟩ : ∃ R, R = X.heap.size := ⟨_, rfl⟩
  rw [← hR] at hrg0 ⊢
  have hRX : X.heap.size ≤ R := by omega
  have hwR : w.heap.size < R := by omega
  have P0' := P0.grown hg0 (by simp)
  have oX' := oX.kept hg0 (by cases hh : (Value.slice C n q).ownBlock <;> simp)
  have BX' := BX.grown hg0 (fun i => by simp)
  have hbR := (hb0.mono hbase).grown hg0 (Nat.le_trans hbase hb0.size) (fun j hj => by cases hj)
  clear hR hs0 c0 ownX hg0 P0 oX BX
  go_loopw [5, 9] (fun _ _ wr => ∃ (left : Lit → Bool) (cnt : Nat) (Dc : DataW Unit), wr.ranges Tryz.prog 138 (plainElem (H := Unit) Tryz.prog 2) M R N Dc left cnt ∧ ReadsW Dc (turTd T t (fun x => !left (kP x.1 x.2.1))) ∧ IsMap Dc ∧ wr.ownsRow base 2 1 (.slice C n q) n (icells (turZd T z t (fun x => !left (kP x.1 x.2.1)))) ∧ Bk wr w.heap.size 104 #[.map (some M), .slice C n q] ∧ Bkf wr g2 t2 cs2 ∧ w.heap.size < wr.heap.size ∧ Below base w wr)
    (fun _ _ wr => wr.rangeLeft M R)
  case atStart =>
    have e : ∀ x ∈ T, (!(has D (kP x.1 x.2.1))) = false := fun x hx => by rw [HD.out.1 x hx]; rfl
    exact ⟨_, _, D, hrg0, by rw [turTd_none T t _ e]; exact HD.out, hI, by rw [turZd_none T z t _ e]; exact oX', P0', BX', P0'.lt, hbR⟩
  case round =>
    obtain ⟨left, cnt, Dc, hrg, hRd, hIc, hrow, B1, B2, hsz, hb⟩ := hrel
    have HRd := hide hRd
    clear hRd
    go_wp2_with (at_next; refine wpList_next_ranges _ rfl _ rfl 138 lawP (plainElem (H := Unit) Tryz.prog 2) (fun x : Int × Int => .agg #[.int .i64 x.1, .int .i64 x.2]) (Value.int .i64) place_inv int_invW M R _ _ _ _ rfl hrg ?_ ?_)
    · intro hc0 hl0
      have e : ∀ x ∈ T, (!(left (kP x.1 x.2.1))) = true := fun x hx => by rw [hl0]; rfl
      have hRd := HRd.out
      rw [turTd_all T t _ e] at hRd
      rw [turZd_all T z t _ e] at hrow
      have hzl : (turZ T z t).length = n := by rw [turZ_len, hzn]
      have KE := exceeds_any M C q N (turZ T z t) Dc (turT T t) 1000000 1000000 wr hrg.owns hRd (SZ.of_own (c := q) (by rw [hzl]; exact hrow)) (by omega)
      rw [hzl] at KE
      have HRd2 := hide hRd
      have hown2 := hrg.owns
      have c0 := B1.cell (i := 0) rfl
      have c1 := B1.cell (i := 1) rfl
      clear hl0 e hRd
      cases hw : wholeB (turT T t) (turZ T z t) 1000000 1000000
      · rw [hw] at KE
        have HC := hide (show tuC T z t = 3 by simp [tuC, hw])
        clear hw
        go_wp2_with (first | (with_reducible refine wpList_build0 rfl rfl ?_))
        refine KE.mono ?_
        rintro e w2 ⟨rfl, hb2⟩
        have b2 := hb.trans (hb2.mono (by have := hb.size; omega))
        go_wp2
        go_ret
        exact ⟨by rw [HC.out]; rfl, fun h => absurd h (by rw [HC.out]; decide), B2.keep hb2, b2⟩
      · rw [hw] at KE
        have HC := hide (show tuC T z t = 0 by simp [tuC, hw])
        have HW := hide hw
        clear hw
        go_wp2_with (first | (with_reducible refine wpList_build0 rfl rfl ?_))
        refine KE.mono ?_
        rintro e w2 ⟨rfl, hb2⟩
        have b2 := hb.trans (hb2.mono (by have := hb.size; omega))
        go_wp2
        go_ret
        refine ⟨by rw [HC.out]; rfl, fun _ => ⟨Dc, map_keep hown2 hb2, HRd2.out, hIc, own_keep hrow hb2, hzl, ?_, ?_, hbM⟩, B2.keep hb2, b2⟩
        · have hwt := HW.out
          simp only [wholeB, Bool.and_eq_true, List.all_eq_true, decide_eq_true_eq] at hwt
          refine ⟨?_, fun x hx => ?_⟩
          · have := turTd_asc HV.out.1 t (fun _ => true)
            rwa [turTd_all T t _ (fun _ _ => rfl)] at this
          · have h2 := hwt.1 x hx
            obtain ⟨x0, hx0, rfl⟩ := List.mem_map.1 hx
            have h3 := HV.out.2 x0 hx0
            exact ⟨h3.1, by dsimp only; omega, h2⟩
        · have hwt := HW.out
          simp only [wholeB, Bool.and_eq_true, List.all_eq_true, decide_eq_true_eq] at hwt
          intro y hy
          refine ⟨?_, hwt.2 y hy⟩
          obtain ⟨k, hk, rfl⟩ := List.mem_map.1 hy
          have hk' := List.mem_range.1 hk
          have h4 := HVZ.out z[k] (List.getElem_mem hk')
          have h5 : zAt z k = z[k] := by simp [zAt, List.getD, hk']
          have h6 : 0 ≤ t * (cntP T (k : Int) : Int) := Int.mul_nonneg ht0 (by omega)
          rw [h5]
          omega
    · intro x1 x2 cc kl yd yp w1 cnt1 hkey hlk hv hat hrg1 hlt hg1 hs1 hen
      obtain ⟨x', hx', hky⟩ := HRd.out.2.2 kl (has_true_of_atKey hat)
      obtain ⟨y, hyT, hxy⟩ := turTd_mem.1 hx'
      have hpl := turTd_place (S := fun x => !left (kP x.1 x.2.1)) t y
      rw [← hxy] at hpl
      rw [hpl.1, hpl.2] at hky
      have hS0 : (!left (kP y.1 y.2.1)) = false := by rw [← hky, hlk]; rfl
      rw [if_neg (by rw [hS0]; decide)] at hxy
      subst hxy
      obtain ⟨y1, y2⟩ := H8.out x' hyT
      have hpj := key_place _ _ (i64_of8 y1) (i64_of8 y2)
      rw [← hky] at hpj
      have hxe : x1 = x'.1 ∧ x2 = x'.2.1 := by simpa using lawP.inj hkey hpj
      have hvT := HV.out.2 x' hyT
      have hpw := plW_iff.1 hvT.1
      have HS' : ∀ x ∈ T, (!(left (kP x.1 x.2.1) && !(kP x.1 x.2.1).sameKey kl)) = ((!left (kP x.1 x.2.1)) || atP x'.1 x'.2.1 x) := fun x hx => by
        obtain ⟨z1, z2⟩ := H8.out x hx
        have hkx := lawP.key (key_place _ _ (i64_of8 z1) (i64_of8 z2))
        cases ha : atP x'.1 x'.2.1 x
        · have hne : kP x.1 x.2.1 ≠ kl := fun e => by
            rw [hky] at e
            have := kP_inj (i64_of8 z1) (i64_of8 z2) (i64_of8 y1) (i64_of8 y2) e
            rw [atP_iff.2 this] at ha
            cases ha
          rw [sameKey_ne hne]
          simp
        · obtain ⟨e1, e2⟩ := atP_iff.1 ha
          rw [e1, e2, ← hky, WideAt.sameKey_self (by rw [hky]; exact lawP.key (key_place _ _ (i64_of8 y1) (i64_of8 y2)))]
          simp
      obtain ⟨k, hk⟩ : ∃ k : Nat, x'.2.1 = (k : Int) := ⟨x'.2.1.toNat, by omega⟩
      have hkn : k < n := by omega
      have HRS := hide (readsW_tur (S' := fun x => !(left (kP x.1 x.2.1) && !(kP x.1 x.2.1).sameKey kl)) HV.out.1 H8.out hyT hS0 HS' HRd.out hIc)
      have HZS := hide (turZd_step (S' := fun x => !(left (kP x.1 x.2.1) && !(kP x.1 x.2.1).sameKey kl)) HV.out.1 hyT hS0 HS' z t (show k < z.length by omega) hk)
      have hzd := turZd_at T z t (fun x => !left (kP x.1 x.2.1)) (show k < z.length by omega)
      have hcb := cntS_le T (fun x => !left (kP x.1 x.2.1)) (k : Int)
      have hzk := HVZ.out z[k] (List.getElem_mem (show k < z.length by omega))
      have hze : zAt z k = z[k] := by simp [zAt, List.getD, show k < z.length by omega]
      have hm0 : 0 ≤ t * (cntS T (fun x => !left (kP x.1 x.2.1)) (k : Int) : Int) := Int.mul_nonneg ht0 (by omega)
      have hm1 : t * (cntS T (fun x => !left (kP x.1 x.2.1)) (k : Int) : Int) ≤ 1000000 * 2304 := Int.mul_le_mul ht1 (by omega) (by omega) (by omega)
      obtain ⟨u, hu⟩ : ∃ u, u = zAt (turZd T z t (fun x => !left (kP x.1 x.2.1))) k := ⟨_, rfl⟩
      rw [← hu] at hzd HZS
      have hub : 0 ≤ u ∧ u ≤ 2305000000 := by omega
      have hwu : IntKind.i64.wrap (u + t) = u + t := IntWalk.i64_in _ (by omega)
      have hwt : IntKind.i64.wrap (x'.2.2 + t) = x'.2.2 + t := IntWalk.i64_in _ (by omega)
      have hhas := has_true_of_atKey hat
      have hatv := HRd.out.2.1 x' (turTd_mem.2 ⟨x', hyT, by rw [if_neg (by rw [hS0]; decide)]⟩) (.map [])
      rw [← hky] at HRS hatv
      have hcell : (icells (turZd T z t (fun x => !left (kP x.1 x.2.1))))[k]? = some (.int .i64 u) := by rw [hu]; exact icells_get _ k (by rw [turZd_len]; omega)
      obtain ⟨xa, xb, xc⟩ := x'
      simp only at hxe hk hvT hwt HRS HZS hatv y1 y2
      obtain ⟨rfl, rfl⟩ := hxe
      subst hk
      have B11 := B1.grown hg1 (fun e => by have e' : R = w.heap.size := Option.some.inj e; omega)
      have B21 := B2.grown hg1 (fun i e => by have e' : R = g2 i := Option.some.inj e; have := hg2 i; omega)
      have row1 := hrow.kept hg1 (Or.inr (Go.row_ne_iter hrow hrg).symm)
      have hb1 := hb.grown hg1 (by have := hb.size; omega) (fun j hj => by cases hj; omega)
      have hsz1 : w.heap.size < w1.heap.size := by omega
      clear hky hpj hS0 HS' hzd hcb hzk hze hm0 hm1 hu hpl hx' hpw hrow B1 B2 hs1
      obtain ⟨Yk, hYk⟩ : ∃ Yk, Yk = w1.alloc (.cells #[.int .i64 x1, .int .i64 (k : Int)] 138) := ⟨_, rfl⟩
      have hbk : Below w1.heap.size w1 Yk := by rw [hYk]; exact (Below.refl _ _).alloc (Nat.le_refl _) _
      have K0 : Bk Yk w1.heap.size 138 #[.int .i64 x1, .int .i64 (k : Int)] := by rw [hYk]; exact Bk.new _ _ _ rfl
      go_upto_region 4 with fail
      rw [← hYk]
      clear hYk hen
      obtain ⟨v2, hv2⟩ : ∃ X, X = Yk.drew := ⟨_, rfl⟩
      have hd2 : Below Yk.heap.size Yk v2 := by rw [hv2]; exact (Below.refl _ _).drew
      have tb2 := hbk.trans (hd2.mono hbk.size)
      have B12 := B11.keep tb2
      have K2 := K0.keep hd2
      have hrg2 := ranges_below hrg1 tb2
      obtain ⟨es, clock, v0, st, yv, hes, hv0, hatz, hlook, hstore⟩ := ranges_entry hrg2 lawP Tryz.underlying102 hkey hhas
      obtain ⟨c0, rfl, hc0, _⟩ := plainElem_int_inv Tryz.underlying2 hv0
      have hc1 : c0 = xc := by
        have h1 := hatz (.map [])
        rw [hatv] at h1
        rw [hc0] at h1
        simpa using h1.symm
      subst hc1
      clear hc0 hv0 hatz hatv hat
      have q0 := B12.cell (i := 0) rfl
      have q1 := K2.cell (i := 0) rfl
      have q2 := K2.cell (i := 1) rfl
      have q3 := (hlook v2 hes).1
      have q6 := (hlook v2 hes).2
      refine wp_region_still_tail 8 (by kernel_rfl) (by kernel_rfl) ?_
      change wpStill _ _ Yk.drew (fun a' => wpList _ _ _ _ a' Yk.drew) _ _
      simp only [List.take_succ_cons, List.take_zero, List.drop_succ_cons, List.drop_zero]
      rw [← hv2]
      clear hv2 hlook
      repeat still_step
      refine wpStill_nil ?_
      obtain ⟨v3, hr3, hrg3, hgr3, hsz3⟩ := hstore (.int .i64 (c0 + t)) (.lit (.int .i64 (c0 + t))) [] v2 (plainElem_int Tryz.underlying2 (wf64 (by omega))) hrg2 hes
      have B13 := B12.grown hgr3 (fun e => by have e' : M = w.heap.size := Option.some.inj e; omega)
      have K3 := K2.grown hgr3 (fun e => by have e' : M = w1.heap.size := Option.some.inj e; omega)
      have B23 := (B21.keep tb2).grown hgr3 (fun i e => by have e' : M = g2 i := Option.some.inj e; exact hneM2 i e'.symm)
      have row3 := (own_keep row1 tb2).kept hgr3 (Or.inr (by
        intro e
        exact hneMO M e rfl))
      have hb3 : Below base w v3 := (hb1.trans (tb2.mono (by have := hb1.size; omega))).grown hgr3 (by have := hb1.size; have := tb2.size; omega) (fun j hj => by cases hj; exact hbM)
      have hsz4 : w.heap.size < v3.heap.size := by have := tb2.size; omega
      refine wpList_plain rfl fun K' hK' => ?_
      refine wp_entryStore (.tmp 14) (.tmp 20) (.tmp 18) 102 rfl _ _ _ rfl rfl rfl v3 hr3 ?_
      refine hK' _ _ ?_
      have b1 := B13.cell (i := 1) rfl
      have p1 := K3.cell (i := 1) rfl
      obtain ⟨gs, rfl⟩ : ∃ gs, C = some ⟨gs, 0, none⟩ := by
        rcases row3.2 with ⟨h', h0⟩ | ⟨g', cap, cur, h', hgb, _⟩
        · omega
        · simp at h'
          exact ⟨g', h'.1⟩
      have ck := (row3.cellAt k (by omega)).trans hcell
      have fk := row3.frozenAt k
      have hki : (k : Int) < (n : Int) := by omega
      have hgs := row3.lt gs rfl
      have hsM := hneMO gs rfl
      have row4 := (row3.stored k (.int .i64 (u + t))).1
      rw [icells_set, ← HZS.out] at row4
      have HR4 := hide row4
      have hrg4 := hrg3.kept (row := some gs) (w' := v3.setCell ⟨gs, k, none⟩ (.int .i64 (u + t))) (grown_set (grown_refl _ _)) (by simpa using fun e => hsM e.symm) (by
        intro e
        exact (Go.row_ne_iter row3 hrg3) (by simpa [Value.ownBlock, eq_comm] using e))
      have B14 := B13.other (k := k) (show w.heap.size ≠ gs from fun e => own_neW row3 B13 (by decide) (by rw [e]; rfl)) (.int .i64 (u + t))
      have B24 := B23.other (k := k) (show ∀ i, g2 i ≠ gs from fun i e => own_neW row3 (B23 i) (ht2 i) (by rw [e]; rfl)) (.int .i64 (u + t))
      have hb4 := hb3.setCell (p := ⟨gs, k, none⟩) (show base ≤ gs from hgs.1) (.int .i64 (u + t))
      have HG4 := hide hrg4
      have HB1 := hide B14
      have HB2 := hide B24
      have HI := hide (hIc.put kl (.lit (.int .i64 (c0 + t))))
      have hszz : w.heap.size < (v3.setCell ⟨gs, k, none⟩ (.int .i64 (u + t))).heap.size := by simpa using hsz4
      clear q0 q1 q2 q3 q6 hrg3 hrg4 B14 B24 B13 B23 row4 row1 hb1 hrg1 hrg2 B12 B21 B11 hes
      go_wp2
      go_roundw
      case rel => exact ⟨_, _, _, HG4.out, HRS.out, HI.out, HR4.out, HB1.out, HB2.out, hszz, hb4⟩
      case measure => rw [HG4.out.left_eq, hrg.left_eq]; exact hlt
end Go.Proofs.YtcocfnjbgceidaaGreat
