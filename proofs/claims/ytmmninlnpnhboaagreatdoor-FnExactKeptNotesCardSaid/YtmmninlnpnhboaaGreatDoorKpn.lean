import Derived.Test.YtmmninlnpnhboaaGreatDoorGbt
namespace Go.Proofs.YtmmninlnpnhboaaGreatDoor
open Go.RowKit
/-- against the literal nil nothing is refused -/
theorem guard_nil (op : BinOp) (t : TypeId) (x : Operand) (a : Value) (Y : World) : (eqGuard op t x (.const .nilIface) a .nilIface).run Tryz.prog Y = .ok () Y := by
  cases op <;> cases a <;> first | rfl | simp [eqGuard] | (simp [eqGuard]; rfl)
/-- how many of the first choices keep their note -/
def knK (L : List Xc) : Nat → Int
  | 0 => 0
  | k + 1 => knK L k + if chA L k then 0 else 1
theorem knK_bound (L : List Xc) (k : Nat) : 0 ≤ knK L k ∧ knK L k ≤ k := by
  induction k with
  | zero => simp [knK]
  | succ k ih => simp only [knK]; split <;> omega
/-- how many notes an arrangement that fits keeps -/
def knV (s : Int) (hl t : List (Int × Int)) (L : List Xc) : Int := if dfC s hl t L = 0 then knK L L.length else 0
set_option maxRecDepth 20000 in
set_option maxHeartbeats 4000000 in
theorem specKeptNotes_any (s : Int) (A : Option Addr) (c : Nat) (hl : List (Int × Int)) (B : Option Addr) (ct : Nat) (t : List (Int × Int)) (C : Option Addr) (cl : Nat) (L : List Xc) (w : World) (hA : HA w A hl) (hn : hl.length ≤ 1048576) (hwf : HWF hl) (hs : -32768 ≤ s ∧ s ≤ 32767)
    (hB : NA w B t) (hnt : t.length ≤ 1048576) (hwt : WF t) (hC : ChA w C L) (hnL : L.length ≤ 1048576) (hwL : ChWF L) :
    Calls Tryz.prog 24 #[.agg #[.int .i16 s, .slice A hl.length c], .slice B t.length ct, .slice C L.length cl] w (Pair (.int .i64 (knV s hl t L)) (.int .i64 (dfC s hl t L)) w) := by
  have KD := fun b W (h0 : FP W b s A hl.length c) (h1 : HA W A hl) (h2 : NA W B t) (h3 : ChA W C L) => l07Drum_any b s A c hl B ct t C cl L W h0 h1 hn hwf hs h2 hnt hwt h3 hnL hwL
  have hz := zeroDrum
  obtain ⟨d, hd⟩ : ∃ d, d = dfD s hl t L := ⟨_, rfl⟩
  obtain ⟨q, hq⟩ : ∃ q, q = dfC s hl t L := ⟨_, rfl⟩
  obtain ⟨v, hv⟩ : ∃ v, v = knV s hl t L := ⟨_, rfl⟩
  rw [← hd, ← hq] at KD
  rw [← hq, ← hv]
  have hzd : za.size = (da d).size := by rw [za_eq, da_size, da_size]
  have HV := hide (show v = if q = 0 then knK L L.length else 0 by rw [hv, knV, ← hq])
  clear hd hq hv
  obtain ⟨X, hX⟩ : ∃ X, X = w.alloc (.cells #[.int .i16 s, .slice A hl.length c] 38) := ⟨_, rfl⟩
  have b0 : Below w.heap.size w X := by rw [hX]; exact (Below.refl _ _).alloc (Nat.le_refl _) _
  have P0 : Bk X w.heap.size 38 #[.int .i16 s, .slice A hl.length c] := by rw [hX]; exact Bk.new _ _ _ rfl
  have f0 := P0.cell (i := 0) rfl
  have f1 := P0.cell (i := 1) rfl
  go_enter Tryz.func24, Tryz.ntmps24
  go_upto_region 1 with fail
  rw [← hX]
  clear hX P0
  go_wp2_with fail
  refine (KD w.heap.size X ⟨f0, f1⟩ (hA.below b0) (hB.below b0) (hC.below b0)).mono ?_
  rintro e w1 ⟨rfl, hb1⟩
  have b1 := step_below hb1 b0
  clear KD f0 f1
  go_upto_region 2 with (with_reducible refine wpList_store_new rfl 33 (.tmp 8) (.tmp 16) rfl d rfl rfl 33 _ (dInfo d) hzd ?_)
  obtain ⟨Y, hY⟩ : ∃ Y, Y = w1.alloc (.cells (da d) 33) := ⟨_, rfl⟩
  have hb2 : Below w1.heap.size w1 Y := by rw [hY]; exact (Below.refl _ _).alloc (Nat.le_refl _) _
  have b2 := step_below hb2 b1
  rw [← hY]
  clear hY b0 hb1 b1 hb2 hz hzd
  by_cases hq0 : q = 0
  case neg =>
    have hqn : (q != 0) = true := by simp [hq0]
    have HV2 := hide (HV.out.trans (if_neg hq0))
    clear hq0
    go_wp2
    go_ret2
    exact ⟨by rw [HV2.out]; rfl, b2⟩
  subst hq0
  have HV2 := hide (HV.out.trans (if_pos rfl))
  go_wp2_with fail
  go_loopw [10, 11] (fun x i wr => ∃ k : Nat, k ≤ L.length ∧ i = .int .i64 k ∧ x = .int .i64 (knK L k) ∧ Below w.heap.size w wr)
    (fun _ i _ => L.length - (intOf i).toNat)
  case atStart => exact ⟨0, Nat.zero_le _, rfl, rfl, b2⟩
  case round =>
    obtain ⟨k, hk, rfl, rfl, hb⟩ := hrel
    by_cases hlt : k < L.length
    · obtain ⟨b, off, rfl, hbb, c1, c2, c3, c4⟩ := hC k hlt
      have d1 := (hb.cell (p := ⟨b, off + k * 4, none⟩) hbb).trans c1
      have hki : (k : Int) < (L.length : Int) := by omega
      have hkb := knK_bound L k
      have HS := hide (show knK L (k + 1) = knK L k + if chA L k then 0 else 1 from rfl)
      obtain ⟨z, hz⟩ : ∃ z, z = knK L k := ⟨_, rfl⟩
      rw [← hz] at hkb HS ⊢
      have hwr : IntKind.i64.wrap (z + 1) = z + 1 := IntWalk.i64_in _ (by omega)
      clear c1 c2 c3 c4 hz
      cases ha : chA L k
      · rw [ha] at d1 HS
        clear ha
        go_wp2
        go_roundw
        case rel => exact ⟨k + 1, hlt, by go_num, by rw [HS.out]; rfl, hb⟩
        case measure => simp [intOf]; omega
      · rw [ha] at d1 HS
        clear ha
        go_wp2
        go_roundw
        case rel => exact ⟨k + 1, hlt, by go_num, by rw [HS.out]; simp, hb⟩
        case measure => simp [intOf]; omega
    · obtain rfl : k = L.length := by omega
      go_wp2
      go_ret2
      exact ⟨by rw [HV2.out]; rfl, hb⟩
set_option maxRecDepth 20000 in
set_option maxHeartbeats 4000000 in
theorem implKeptNotes_any (p : Nat → Addr) (s : Int) (A : Option Addr) (c : Nat) (hl : List (Int × Int)) (B : Option Addr) (ct : Nat) (t : List (Int × Int)) (C : Option Addr) (cl : Nat) (L : List Xc) (w : World) (hA : HA w A hl) (hn : hl.length ≤ 1048576) (hwf : HWF hl) (hs : -32768 ≤ s ∧ s ≤ 32767)
    (hB : NA w B t) (hnt : t.length ≤ 1048576) (hwt : WF t) (hC : ChA w C L) (hnL : L.length ≤ 1048576) (hwL : ChWF L) (hE : ErrP p w) :
    Calls Tryz.prog 25 #[.agg #[.int .i16 s, .slice A hl.length c], .slice B t.length ct, .slice C L.length cl] w (Pair (.int .i64 (knV s hl t L)) (.int .i64 (dfC s hl t L)) w) := by
  have KD := fun W (h1 : HA W A hl) (h2 : NA W B t) (h3 : ChA W C L) (h4 : ErrP p W) => drumFor_any p s A c hl B ct t C cl L W h4 h1 hn hwf hs h2 hnt hwt h3 hnL hwL
  have KC := fun W (h4 : ErrP p W) => codeOf_df p s hl t L W h4
  have hne := df_neq p s hl t L
  have hgn := guard_nil
  have hz := zeroDrum
  obtain ⟨d, hd⟩ : ∃ d, d = dfD s hl t L := ⟨_, rfl⟩
  obtain ⟨q, hq⟩ : ∃ q, q = dfC s hl t L := ⟨_, rfl⟩
  obtain ⟨v, hv⟩ : ∃ v, v = knV s hl t L := ⟨_, rfl⟩
  obtain ⟨ev, hev⟩ : ∃ ev, ev = dfV p s hl t L := ⟨_, rfl⟩
  rw [← hev, ← hq] at KC hne
  rw [← hd, ← hev] at KD
  rw [← hq, ← hv]
  have hzd : za.size = (da d).size := by rw [za_eq, da_size, da_size]
  have HV := hide (show v = if q = 0 then knK L L.length else 0 by rw [hv, knV, ← hq])
  clear hd hq hv hev
  obtain ⟨X, hX⟩ : ∃ X, X = w.alloc (.cells #[.int .i16 s, .slice A hl.length c] 38) := ⟨_, rfl⟩
  have b0 : Below w.heap.size w X := by rw [hX]; exact (Below.refl _ _).alloc (Nat.le_refl _) _
  have P0 : Bk X w.heap.size 38 #[.int .i16 s, .slice A hl.length c] := by rw [hX]; exact Bk.new _ _ _ rfl
  have f0 := P0.cell (i := 0) rfl
  have f1 := P0.cell (i := 1) rfl
  go_enter Tryz.func25, Tryz.ntmps25
  go_upto_region 1 with fail
  rw [← hX]
  clear hX P0
  go_wp2_with fail
  refine (KD X (hA.below b0) (hB.below b0) (hC.below b0) (hE.keep b0)).mono ?_
  rintro e w1 ⟨rfl, hb1⟩
  have b1 := step_below hb1 b0
  clear KD f0 f1
  go_upto_region 2 with (with_reducible refine wpList_store_new rfl 33 (.tmp 8) (.tmp 18) rfl d rfl rfl 33 _ (dInfo d) hzd ?_)
  obtain ⟨Y, hY⟩ : ∃ Y, Y = w1.alloc (.cells (da d) 33) := ⟨_, rfl⟩
  have hb2 : Below w1.heap.size w1 Y := by rw [hY]; exact (Below.refl _ _).alloc (Nat.le_refl _) _
  have b2 := step_below hb2 b1
  rw [← hY]
  clear hY b0 hb1 b1 hb2 hz hzd
  by_cases hq0 : q = 0
  case neg =>
    have hqn : decide (q ≠ 0) = true := decide_eq_true hq0
    have HV2 := hide (HV.out.trans (if_neg hq0))
    rw [hqn] at hne
    clear hq0 hqn
    go_wp2_with fail
    refine (KC Y (hE.keep b2)).mono ?_
    rintro e w3 ⟨rfl, hb3⟩
    have b3 := step_below hb3 b2
    go_wp2
    go_ret2
    exact ⟨by rw [HV2.out]; rfl, b3⟩
  subst hq0
  have HV2 := hide (HV.out.trans (if_pos rfl))
  rw [show decide ((0 : Int) ≠ 0) = false from rfl] at hne
  clear KC
  go_wp2_with fail
  go_loopw [10, 26] (fun x i wr => ∃ k : Nat, k ≤ L.length ∧ i = .int .i64 k ∧ x = .int .i64 (knK L k) ∧ Below w.heap.size w wr)
    (fun _ i _ => L.length - (intOf i).toNat)
  case atStart => exact ⟨0, Nat.zero_le _, rfl, rfl, b2⟩
  case round =>
    obtain ⟨k, hk, rfl, rfl, hb⟩ := hrel
    by_cases hlt : k < L.length
    · obtain ⟨b, off, rfl, hbb, c1, c2, c3, c4⟩ := hC k hlt
      have d1 := (hb.cell (p := ⟨b, off + k * 4, none⟩) hbb).trans c1
      have d2 := (hb.cell (p := ⟨b, off + k * 4 + 1, none⟩) hbb).trans c2
      have d3 := (hb.cell (p := ⟨b, off + k * 4 + 2, none⟩) hbb).trans c3
      have d4 := (hb.cell (p := ⟨b, off + k * 4 + 3, none⟩) hbb).trans c4
      have hki : (k : Int) < (L.length : Int) := by omega
      have hkb := knK_bound L k
      have HS := hide (show knK L (k + 1) = knK L k + if chA L k then 0 else 1 from rfl)
      obtain ⟨z, hz⟩ : ∃ z, z = knK L k := ⟨_, rfl⟩
      rw [← hz] at hkb HS ⊢
      have hwr : IntKind.i64.wrap (z + 1) = z + 1 := IntWalk.i64_in _ (by omega)
      obtain ⟨x, hx⟩ : ∃ x, x = chA L k := ⟨_, rfl⟩
      rw [← hx] at d1 HS
      clear c1 c2 c3 c4 hz hx hE
      obtain ⟨Z, hZ⟩ : ∃ Z, Z = wr.alloc (.cells #[.bool x, .int .i8 (chL L k), .int .i8 (chO L k), .int .i8 (chT L k)] 69) := ⟨_, rfl⟩
      have hbZ : Below wr.heap.size wr Z := by rw [hZ]; exact (Below.refl _ _).alloc (Nat.le_refl _) _
      have bZ := step_below hbZ hb
      have QZ : Bk Z wr.heap.size 69 #[.bool x, .int .i8 (chL L k), .int .i8 (chO L k), .int .i8 (chT L k)] := by rw [hZ]; exact Bk.new _ _ _ rfl
      go_upto_region 8 with fail
      rw [← hZ]
      clear hZ
      have g0 := QZ.cell (i := 0) rfl
      cases x
      · go_wp2
        go_roundw
        case rel => exact ⟨k + 1, hlt, by go_num, by rw [HS.out]; rfl, bZ⟩
        case measure => simp [intOf]; omega
      · go_wp2
        go_roundw
        case rel => exact ⟨k + 1, hlt, by go_num, by rw [HS.out]; simp, bZ⟩
        case measure => simp [intOf]; omega
    · obtain rfl : k = L.length := by omega
      go_wp2
      go_ret2
      exact ⟨by rw [HV2.out]; rfl, hb⟩
theorem implKeptNotes_e (s : Int) (A : Option Addr) (c : Nat) (hl : List (Int × Int)) (B : Option Addr) (ct : Nat) (t : List (Int × Int)) (C : Option Addr) (cl : Nat) (L : List Xc) (w : World) (hA : HA w A hl) (hn : hl.length ≤ 1048576) (hwf : HWF hl) (hs : -32768 ≤ s ∧ s ≤ 32767)
    (hB : NA w B t) (hnt : t.length ≤ 1048576) (hwt : WF t) (hC : ChA w C L) (hnL : L.length ≤ 1048576) (hwL : ChWF L) (hE : ErrW w) :
    Calls Tryz.prog 25 #[.agg #[.int .i16 s, .slice A hl.length c], .slice B t.length ct, .slice C L.length cl] w (Pair (.int .i64 (knV s hl t L)) (.int .i64 (dfC s hl t L)) w) :=
  let ⟨p, hp⟩ := hE
  implKeptNotes_any p s A c hl B ct t C cl L w hA hn hwf hs hB hnt hwt hC hnL hwL hp
end Go.Proofs.YtmmninlnpnhboaaGreatDoor
