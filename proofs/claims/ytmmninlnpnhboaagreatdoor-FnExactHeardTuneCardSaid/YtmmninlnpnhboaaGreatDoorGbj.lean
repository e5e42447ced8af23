import Derived.Test.YtmmninlnpnhboaaGreatDoorGax
import Derived.Test.YtmmninlnpnhboaaGreatDoorGbi
import Derived.Test.YtmmninlnpnhboaaGreatDoorGad
import Derived.Deep.RegionHeld3
import Derived.Deep.CutRange
import Derived.Test.YtmmninlnpnhboaaGreatDoorGbg
import Derived.Test.YtmmninlnpnhboaaGreatDoorGbh
import Derived.Test.YtmmninlnpnhboaaGreatDoorGam
import Derived.Deep.RegionHeld
namespace Go.Proofs.YtmmninlnpnhboaaGreatDoor
open Go.RowKit
def coAt (a o s : Int) (k : Nat) : Int := if k = 0 then a else if k = 1 then o else s
def CoG (a o s : Int) (k : Nat) : Prop := ∀ j, j < k → inB (coAt a o s j) 0 1000 = true
theorem coG_all {a o s : Int} (h : CoG a o s 3) : coB a o s = true := by
  have h0 := h 0 (by omega)
  have h1 := h 1 (by omega)
  have h2 := h 2 (by omega)
  simp [coAt] at h0 h1 h2
  simp [coB, h0, h1, h2]
theorem coG_no {a o s : Int} {k : Nat} (hk : k < 3) (h : inB (coAt a o s k) 0 1000 = false) : coB a o s = false := by
  have : k = 0 ∨ k = 1 ∨ k = 2 := by omega
  rcases this with rfl | rfl | rfl <;> simp [coAt] at h <;> simp [coB, h]
theorem coAt_wf {a o s : Int} (h : CoWF a o s) (k : Nat) : -32768 ≤ coAt a o s k ∧ coAt a o s k ≤ 32767 := by
  unfold coAt
  split
  · exact h.1
  · split
    · exact h.2.1
    · exact h.2.2
end Go.Proofs.YtmmninlnpnhboaaGreatDoor
namespace Go.Proofs.YtmmninlnpnhboaaGreatDoor
open Go.RowKit
def coSum (a o s : Int) (l : List Xc) : Nat → Int
  | 0 => 0
  | k + 1 => coSum a o s l k + coX a o s (chA l k) (chL l k) (chO l k)
def cocC (a o s : Int) (l : List Xc) : Int := if coB a o s && xsB l then (if 120 < l.length then 3 else 0) else 1
def cocV (a o s : Int) (l : List Xc) : Int := if cocC a o s l = 0 then coSum a o s l l.length else 0
theorem xsB_at {l : List Xc} (h : xsB l = true) {k : Nat} (hk : k < l.length) : xcB (chA l k) (chL l k) (chO l k) (chT l k) = true := by
  have := List.all_eq_true.1 h l[k] (List.getElem_mem hk)
  rwa [ch_eta l k hk] at this
theorem coSum_bound {a o s : Int} {l : List Xc} (hc : coB a o s = true) (hx : xsB l = true) : ∀ k, k ≤ l.length → 0 ≤ coSum a o s l k ∧ coSum a o s l k ≤ 4000 * (k : Int)
  | 0, _ => by simp [coSum]
  | k + 1, hk => by
    have h1 := coSum_bound hc hx k (by omega)
    have h2 := coX_bound hc (xsB_at hx (show k < l.length by omega))
    rw [coSum]
    omega
end Go.Proofs.YtmmninlnpnhboaaGreatDoor
namespace Go.Proofs.YtmmninlnpnhboaaGreatDoor
open Go.RowKit
/-- against the literal nil nothing is refused -/
theorem guard_nil (op : BinOp) (t : TypeId) (x : Operand) (a : Value) (Y : World) : (eqGuard op t x (.const .nilIface) a .nilIface).run Tryz.prog Y = .ok () Y := by
  cases op <;> cases a <;> first | rfl | simp [eqGuard] | (simp [eqGuard]; rfl)
/-- how many of the first choices keep their note -/
def knK (L : List Xc) : Nat → Int
  | 0 => 0
  | k + 1 => knK L k + if chA L k then 0 else 1
theorem knK_bound (L : List Xc) (k : Nat) : 0 ≤ knK L k ∧ knK L k ≤ k := by
  induction k with
  | zero => simp [knK]
  | succ k ih => simp only [knK]; split <;> omega
/-- how many notes an arrangement that fits keeps -/
def knV (s : Int) (hl t : List (Int × Int)) (L : List Xc) : Int := if dfC s hl t L = 0 then knK L L.length else 0
set_option maxRecDepth 20000 in
set_option maxHeartbeats 4000000 in
theorem specKeptNotes_any (s : Int) (A : Option Addr) (c : Nat) (hl : List (Int × Int)) (B : Option Addr) (ct : Nat) (t : List (Int × Int)) (C : Option Addr) (cl : Nat) (L : List Xc) (w : World) (hA : HA w A hl) (hn : hl.length ≤ 1048576) (hwf : HWF hl) (hs : -32768 ≤ s ∧ s ≤ 32767)
    (hB : NA w B t) (hnt : t.length ≤ 1048576) (hwt : WF t) (hC : ChA w C L) (hnL : L.length ≤ 1048576) (hwL : ChWF L) :
    Calls Tryz.prog 24 #[.agg #[.int .i16 s, .slice A hl.length c], .slice B t.length ct, .slice C L.length cl] w (Pair (.int .i64 (knV s hl t L)) (.int .i64 (dfC s hl t L)) w) := by
  have KD := fun b W (h0 : FP W b s A hl.length c) (h1 : HA W A hl) (h2 : NA W B t) (h3 : ChA W C L) => l07Drum_any b s A c hl B ct t C cl L W h0 h1 hn hwf hs h2 hnt hwt h3 hnL hwL
  have hz := zeroDrum
  obtain ⟨d, hd⟩ : ∃ d, d = dfD s hl t L := ⟨_, rfl⟩
  obtain ⟨q, hq⟩ : ∃ q, q = dfC s hl t L := ⟨_, rfl⟩
  obtain ⟨v, hv⟩ : ∃ v, v = knV s hl t L := ⟨_, rfl⟩
  rw [← hd, ← hq] at KD
  rw [← hq, ← hv]
  have hzd : za.size = (da d).size := by rw [za_eq, da_size, da_size]
  have HV := hide (show v = if q = 0 then knK L L.length else 0 by rw [hv, knV, ← hq])
  clear hd hq hv
  obtain ⟨X, hX⟩ : ∃ X, X = w.alloc (.cells #[.int .i16 s, .slice A hl.length c] 38) := ⟨_, rfl⟩
  have b0 : Below w.heap.size w X := by rw [hX]; exact (Below.refl _ _).alloc (Nat.le_refl _) _
  have P0 : Bk X w.heap.size 38 #[.int .i16 s, .slice A hl.length c] := by rw [hX]; exact Bk.new _ _ _ rfl
  have f0 := P0.cell (i := 0) rfl
  have f1 := P0.cell (i := 1) rfl
  go_enter Tryz.func24, Tryz.ntmps24
  go_upto_region 1 with fail
  rw [← hX]
  clear hX P0
  go_wp2_with fail
  refine (KD w.heap.size X ⟨f0, f1⟩ (hA.below b0) (hB.below b0) (hC.below b0)).mono ?_
  rintro e w1 ⟨rfl, hb1⟩
  have b1 := step_below hb1 b0
  clear KD f0 f1
  go_upto_region 2 with (with_reducible refine wpList_store_new rfl 33 (.tmp 8) (.tmp 16) rfl d rfl rfl 33 _ (dInfo d) hzd ?_)
  obtain ⟨Y, hY⟩ : ∃ Y, Y = w1.alloc (.cells (da d) 33) := ⟨_, rfl⟩
  have hb2 : Below w1.heap.size w1 Y := by rw [hY]; exact (Below.refl _ _).alloc (Nat.le_refl _) _
  have b2 := step_below hb2 b1
  rw [← hY]
  clear hY b0 hb1 b1 hb2 hz hzd
  by_cases hq0 : q = 0
  case neg =>
    have hqn : (q != 0) = true := by simp [hq0]
    have HV2 := hide (HV.out.trans (if_neg hq0))
    clear hq0
    go_wp2
    go_ret2
    exact ⟨by rw [HV2.out]; rfl, b2⟩
  subst hq0
  have HV2 := hide (HV.out.trans (if_pos rfl))
  go_wp2_with fail
  go_loopw [10, 11] (fun x i wr => ∃ k : Nat, k ≤ L.length ∧ i = .int .i64 k ∧ x = .int .i64 (knK L k) ∧ Below w.heap.size w wr)
    (fun _ i _ => L.length - (intOf i).toNat)
  case atStart => exact ⟨0, Nat.zero_le _, rfl, rfl, b2⟩
  case round =>
    obtain ⟨k, hk, rfl, rfl, hb⟩ := hrel
    by_cases hlt : k < L.length
    · obtain ⟨b, off, rfl, hbb, c1, c2, c3, c4⟩ := hC k hlt
      have d1 := (hb.cell (p := ⟨b, off + k * 4, none⟩) hbb).trans c1
      have hki : (k : Int) < (L.length : Int) := by omega
      have hkb := knK_bound L k
      have HS := hide (show knK L (k + 1) = knK L k + if chA L k then 0 else 1 from rfl)
      obtain ⟨z, hz⟩ : ∃ z, z = knK L k := ⟨_, rfl⟩
      rw [← hz] at hkb HS ⊢
      have hwr : IntKind.i64.wrap (z + 1) = z + 1 := IntWalk.i64_in _ (by omega)
      clear c1 c2 c3 c4 hz
      cases ha : chA L k
      · rw [ha] at d1 HS
        clear ha
        go_wp2
        go_roundw
        case rel => exact ⟨k + 1, hlt, by go_num, by rw [HS.out]; rfl, hb⟩
        case measure => simp [intOf]; omega
      · rw [ha] at d1 HS
        clear ha
        go_wp2
        go_roundw
        case rel => exact ⟨k + 1, hlt, by go_num, by rw [HS.out]; simp, hb⟩
        case measure => simp [intOf]; omega
    · obtain rfl : k = L.length := by omega
      go_wp2
      go_ret2
      exact ⟨by rw [HV2.out]; rfl, hb⟩
set_option maxRecDepth 20000 in
set_option maxHeartbeats 4000000 in
theorem implKeptNotes_any (p : Nat → Addr) (s : Int) (A : Option Addr) (c : Nat) (hl : List (Int × Int)) (B : Option Addr) (ct : Nat) (t : List (Int × Int)) (C : Option Addr) (cl : Nat) (L : List Xc) (w : World) (hA : HA w A hl) (hn : hl.length ≤ 1048576) (hwf : HWF hl) (hs : -32768 ≤ s ∧ s ≤ 32767)
    (hB : NA w B t) (hnt : t.length ≤ 1048576) (hwt : WF t) (hC : ChA w C L) (hnL : L.length ≤ 1048576) (hwL : ChWF L) (hE : ErrP p w) :
    Calls Tryz.prog 25 #[.agg #[.int .i16 s, .slice A hl.length c], .slice B t.length ct, .slice C L.length cl] w (Pair (.int .i64 (knV s hl t L)) (.int .i64 (dfC s hl t L)) w) := by
  have KD := fun W (h1 : HA W A hl) (h2 : NA W B t) (h3 : ChA W C L) (h4 : ErrP p W) => drumFor_any p s A c hl B ct t C cl L W h4 h1 hn hwf hs h2 hnt hwt h3 hnL hwL
  have KC := fun W (h4 : ErrP p W) => codeOf_df p s hl t L W h4
  have hne := df_neq p s hl t L
  have hgn := guard_nil
  have hz := zeroDrum
  obtain ⟨d, hd⟩ : ∃ d, d = dfD s hl t L := ⟨_, rfl⟩
  obtain ⟨q, hq⟩ : ∃ q, q = dfC s hl t L := ⟨_, rfl⟩
  obtain ⟨v, hv⟩ : ∃ v, v = knV s hl t L := ⟨_, rfl⟩
  obtain ⟨ev, hev⟩ : ∃ ev, ev = dfV p s hl t L := ⟨_, rfl⟩
  rw [← hev, ← hq] at KC hne
  rw [← hd, ← hev] at KD
  rw [← hq, ← hv]
  have hzd : za.size = (da d).size := by rw [za_eq, da_size, da_size]
  have HV := hide (show v = if q = 0 then knK L L.length else 0 by rw [hv, knV, ← hq])
  clear hd hq hv hev
  obtain ⟨X, hX⟩ : ∃ X, X = w.alloc (.cells #[.int .i16 s, .slice A hl.length c] 38) := ⟨_, rfl⟩
  have b0 : Below w.heap.size w X := by rw [hX]; exact (Below.refl _ _).alloc (Nat.le_refl _) _
  have P0 : Bk X w.heap.size 38 #[.int .i16 s, .slice A hl.length c] := by rw [hX]; exact Bk.new _ _ _ rfl
  have f0 := P0.cell (i := 0) rfl
  have f1 := P0.cell (i := 1) rfl
  go_enter Tryz.func25, Tryz.ntmps25
  go_upto_region 1 with fail
  rw [← hX]
  clear hX P0
  go_wp2_with fail
  refine (KD X (hA.below b0) (hB.below b0) (hC.below b0) (hE.keep b0)).mono ?_
  rintro e w1 ⟨rfl, hb1⟩
  have b1 := step_below hb1 b0
  clear KD f0 f1
  go_upto_region 2 with (with_reducible refine wpList_store_new rfl 33 (.tmp 8) (.tmp 18) rfl d rfl rfl 33 _ (dInfo d) hzd ?_)
  obtain ⟨Y, hY⟩ : ∃ Y, Y = w1.alloc (.cells (da d) 33) := ⟨_, rfl⟩
  have hb2 : Below w1.heap.size w1 Y := by rw [hY]; exact (Below.refl _ _).alloc (Nat.le_refl _) _
  have b2 := step_below hb2 b1
  rw [← hY]
  clear hY b0 hb1 b1 hb2 hz hzd
  by_cases hq0 : q = 0
  case neg =>
    have hqn : decide (q ≠ 0) = true := decide_eq_true hq0
    have HV2 := hide (HV.out.trans (if_neg hq0))
    rw [hqn] at hne
    clear hq0 hqn
    go_wp2_with fail
    refine (KC Y (hE.keep b2)).mono ?_
    rintro e w3 ⟨rfl, hb3⟩
    have b3 := step_below hb3 b2
    go_wp2
    go_ret2
    exact ⟨by rw [HV2.out]; rfl, b3⟩
  subst hq0
  have HV2 := hide (HV.out.trans (if_pos rfl))
  rw [show decide ((0 : Int) ≠ 0) = false from rfl] at hne
  clear KC
  go_wp2_with fail
  go_loopw [10, 26] (fun x i wr => ∃ k : Nat, k ≤ L.length ∧ i = .int .i64 k ∧ x = .int .i64 (knK L k) ∧ Below w.heap.size w wr)
    (fun _ i _ => L.length - (intOf i).toNat)
  case atStart => exact ⟨0, Nat.zero_le _, rfl, rfl, b2⟩
  case round =>
    obtain ⟨k, hk, rfl, rfl, hb⟩ := hrel
    by_cases hlt : k < L.length
    · obtain ⟨b, off, rfl, hbb, c1, c2, c3, c4⟩ := hC k hlt
      have d1 := (hb.cell (p := ⟨b, off + k * 4, none⟩) hbb).trans c1
      have d2 := (hb.cell (p := ⟨b, off + k * 4 + 1, none⟩) hbb).trans c2
      have d3 := (hb.cell (p := ⟨b, off + k * 4 + 2, none⟩) hbb).trans c3
      have d4 := (hb.cell (p := ⟨b, off + k * 4 + 3, none⟩) hbb).trans c4
      have hki : (k : Int) < (L.length : Int) := by omega
      have hkb := knK_bound L k
      have HS := hide (show knK L (k + 1) = knK L k + if chA L k then 0 else 1 from rfl)
      obtain ⟨z, hz⟩ : ∃ z, z = knK L k := ⟨_, rfl⟩
      rw [← hz] at hkb HS ⊢
      have hwr : IntKind.i64.wrap (z + 1) = z + 1 := IntWalk.i64_in _ (by omega)
      obtain ⟨x, hx⟩ : ∃ x, x = chA L k := ⟨_, rfl⟩
      rw [← hx] at d1 HS
      clear c1 c2 c3 c4 hz hx hE
      obtain ⟨Z, hZ⟩ : ∃ Z, Z = wr.alloc (.cells #[.bool x, .int .i8 (chL L k), .int .i8 (chO L k), .int .i8 (chT L k)] 69) := ⟨_, rfl⟩
      have hbZ : Below wr.heap.size wr Z := by rw [hZ]; exact (Below.refl _ _).alloc (Nat.le_refl _) _
      have bZ := step_below hbZ hb
      have QZ : Bk Z wr.heap.size 69 #[.bool x, .int .i8 (chL L k), .int .i8 (chO L k), .int .i8 (chT L k)] := by rw [hZ]; exact Bk.new _ _ _ rfl
      go_upto_region 8 with fail
      rw [← hZ]
      clear hZ
      have g0 := QZ.cell (i := 0) rfl
      cases x
      · go_wp2
        go_roundw
        case rel => exact ⟨k + 1, hlt, by go_num, by rw [HS.out]; rfl, bZ⟩
        case measure => simp [intOf]; omega
      · go_wp2
        go_roundw
        case rel => exact ⟨k + 1, hlt, by go_num, by rw [HS.out]; simp, bZ⟩
        case measure => simp [intOf]; omega
    · obtain rfl : k = L.length := by omega
      go_wp2
      go_ret2
      exact ⟨by rw [HV2.out]; rfl, hb⟩
theorem implKeptNotes_e (s : Int) (A : Option Addr) (c : Nat) (hl : List (Int × Int)) (B : Option Addr) (ct : Nat) (t : List (Int × Int)) (C : Option Addr) (cl : Nat) (L : List Xc) (w : World) (hA : HA w A hl) (hn : hl.length ≤ 1048576) (hwf : HWF hl) (hs : -32768 ≤ s ∧ s ≤ 32767)
    (hB : NA w B t) (hnt : t.length ≤ 1048576) (hwt : WF t) (hC : ChA w C L) (hnL : L.length ≤ 1048576) (hwL : ChWF L) (hE : ErrW w) :
    Calls Tryz.prog 25 #[.agg #[.int .i16 s, .slice A hl.length c], .slice B t.length ct, .slice C L.length cl] w (Pair (.int .i64 (knV s hl t L)) (.int .i64 (dfC s hl t L)) w) :=
  let ⟨p, hp⟩ := hE
  implKeptNotes_any p s A c hl B ct t C cl L w hA hn hwf hs hB hnt hwt hC hnL hwL hp
end Go.Proofs.YtmmninlnpnhboaaGreatDoor
namespace Go.Proofs.YtmmninlnpnhboaaGreatDoor
open Go.RowKit
/-- a region that draws its order, inside a fence, by what holds throughout -/
theorem wpIn_region_held_drew {S : World → Prop} {r n : Nat} {P : Program} {ops : Array Oper} {Q : Exit → Act → World → Prop} {id : Nat} {a : Act} {w : World} (hm : P.follows .mixedOrders = true) (hnd : noDef ops = true) (hQ : ¬ LetsOut Q) (hS : S w.drew)
    (h : S w.drew → wpAnyH P .any ops Q S ops.size (Array.replicate ops.size false) a w.drew) : (Code.region id ops true).wpIn (Fence.wide.inRound r) n P Q a w :=
  wpIn_region_any hm (wpAny_in hnd hQ _ _ _ _ (wpAny_of_held _ _ _ _ (h hS)))
theorem infoNt : (Tryz.prog.info? 65).map (·.size) = some 2 := by kernel_rfl
theorem infoNote2 (a b : Value) : (Tryz.prog.info? 65).map (·.size) = some (#[a, b] : Array Value).size := by kernel_rfl
theorem szNote2 (a b c d : Value) : (#[a, b] : Array Value).size = (#[c, d] : Array Value).size := rfl
theorem oneNote2 (a b : Int) : (#[.int .i16 a, .int .i8 b] : Array Value).all (·.oneCell') = true := by simp [Value.oneCell']
theorem results_nt {fn : Func} {p : Tmp} (h : fn.results = #[.cell p 65]) (tmps : Array Value) (w : World) (g : Nat) (t : TypeId) (cs : Array Value) (hi : cs.size = 2)
    (hp : tmps.getD p undef = .pointer (some ⟨g, 0, none⟩)) (hg : w.heap[g]? = some (.cells cs t (0, 0))) :
    (results fn tmps).run Tryz.prog w = .ok (.agg cs) w := by
  have hp' : tmps[p]?.getD undef = .pointer (some ⟨g, 0, none⟩) := by simpa using hp
  simp [results, h, hp', asAddr, run_loadVar_row w g t 65 cs (0, 0) _ hg Tryz.underlying65 rfl (by rw [hi]; exact infoNt)]
set_option maxHeartbeats 1000000 in
theorem noteAt_any (p r k : Int) (w : World) (hk : 0 ≤ k ∧ k ≤ 200) :
    Calls Tryz.prog 158 #[.agg #[.int .i8 p, .int .i8 r], .int .i64 k] w fun e w' => e = .returned (.agg #[.int .i16 k, .int .i8 p]) ∧ Below w.heap.size w w' := by
  have hw : IntKind.i16.wrap k = k := IntWalk.i16_in _ (by omega)
  obtain ⟨X, hX⟩ : ∃ X, X = (w.alloc (.cells #[.int .i8 p, .int .i8 r] 95)).alloc (.cells #[.int .i16 0, .int .i8 0] 65) := ⟨_, rfl⟩
  have b0 : Below w.heap.size w X := by rw [hX]; exact ((Below.refl _ _).alloc (Nat.le_refl _) _).alloc (by simp) _
  have c0 : X.cell? ⟨w.heap.size, 0, none⟩ = some (.int .i8 p) := by rw [hX]; simp [go_sem, World.cell?_alloc_past]
  have HN := hide (show X.heap[w.heap.size + 1]? = some (.cells #[.int .i16 0, .int .i8 0] 65 (0, 0)) by rw [hX]; exact heap_new' _ _ _ (by simp))
  go_enter Tryz.func158, Tryz.ntmps158
  go_upto_region 1 with fail
  rw [← hX]
  clear hX
  go_wp2_with (with_reducible refine wpList_store_row rfl 65 (.tmp 4) (.tmp 9) rfl (w.heap.size + 1) #[.int .i16 k, .int .i8 p] rfl rfl 65 _ HN.out (infoNote2 _ _) (szNote2 _ _ _ _) (oneNote2 _ _) ?_)
  exact bodyPost_ret (v := .agg #[.int .i16 k, .int .i8 p]) (results_nt Tryz.results158 _ _ (w.heap.size + 1) 65 _ rfl (by simp [Act.put]) (setRow_heap _ _ _ _ _ _ HN.out)) rfl ⟨rfl, below_setRow b0 (by omega)⟩
theorem meth_quick (p r : Int) (k : Nat) (W : World) : (method (k + 1) 195 (.agg #[.int .i8 p, .int .i8 r]) "loop.example/g01311/impl.noteAt").run Tryz.prog W = .ok (158, .agg #[.int .i8 p, .int .i8 r]) W := by kernel_rfl
theorem meth_slow (p r : Int) (k : Nat) (W : World) : (method (k + 1) 196 (.agg #[.int .i8 p, .int .i8 r]) "loop.example/g01311/impl.noteAt").run Tryz.prog W = .ok (158, .agg #[.int .i8 p, .int .i8 r]) W := by kernel_rfl
end Go.Proofs.YtmmninlnpnhboaaGreatDoor
