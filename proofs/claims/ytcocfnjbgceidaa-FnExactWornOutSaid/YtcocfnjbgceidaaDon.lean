import Derived.Test.YtcocfnjbgceidaaGbr
import Derived.Test.YtcocfnjbgceidaaSda
import Derived.Test.YtcocfnjbgceidaaTrd
namespace Go.Proofs.Ytcocfnjbgceidaa
open Go.RowKit Go.Maps
theorem keep9 {w w' : World} {a1 a2 a3 a4 a5 a6 a7 a8 a9 : Addr} {v1 v2 v3 v4 v5 v6 v7 v8 v9 : Value} (hb : Below w.heap.size w w') (h : w.cell? a1 = some v1 ∧ w.cell? a2 = some v2 ∧ w.cell? a3 = some v3 ∧ w.cell? a4 = some v4 ∧ w.cell? a5 = some v5 ∧ w.cell? a6 = some v6 ∧ w.cell? a7 = some v7 ∧ w.cell? a8 = some v8 ∧ w.cell? a9 = some v9) :
    w'.cell? a1 = some v1 ∧ w'.cell? a2 = some v2 ∧ w'.cell? a3 = some v3 ∧ w'.cell? a4 = some v4 ∧ w'.cell? a5 = some v5 ∧ w'.cell? a6 = some v6 ∧ w'.cell? a7 = some v7 ∧ w'.cell? a8 = some v8 ∧ w'.cell? a9 = some v9 := by
  have k : ∀ {a : Addr} {v : Value}, w.cell? a = some v → w'.cell? a = some v := fun h => (hb.cell (World.block_lt_of_cell? _ _ h)).trans h
  exact ⟨k h.1, k h.2.1, k h.2.2.1, k h.2.2.2.1, k h.2.2.2.2.1, k h.2.2.2.2.2.1, k h.2.2.2.2.2.2.1, k h.2.2.2.2.2.2.2.1, k h.2.2.2.2.2.2.2.2⟩
theorem results_we3 {fn : Func} {p r r2 : Tmp} (h : fn.results = #[.cell p 64, .tmp r, .tmp r2]) (tmps : Array Value) (w : World) (g : Nat) (t : TypeId) (cs : Array Value) (c c2 : Value) (hi : cs.size = 2)
    (hp : tmps.getD p undef = .pointer (some ⟨g, 0, none⟩)) (hr : tmps.getD r undef = c) (hr2 : tmps.getD r2 undef = c2) (hg : w.heap[g]? = some (.cells cs t (0, 0))) :
    (results fn tmps).run Try.prog w = .ok (.tuple #[.agg cs, c, c2]) w := by
  have hp' : tmps[p]?.getD undef = .pointer (some ⟨g, 0, none⟩) := by simpa using hp
  have hr' : tmps[r]?.getD undef = c := by simpa using hr
  have hr2' : tmps[r2]?.getD undef = c2 := by simpa using hr2
  simp [results, h, hp', hr', hr2', asAddr, run_loadVar_row w g t 64 cs (0, 0) _ hg Try.underlying64 rfl (by rw [hi]; exact infoWe2)]
/-- a wear of the call's own, the first act with an error and its code -/
def DnR (T : List Wp) (zs : List Int) (i k : Int) (w : World) (e : Ending) (w' : World) : Prop := ∃ (P1 : Option Addr) (q1 : Nat) (P2 : Option Addr) (q2 : Nat), e = .returned (.tuple #[.agg #[.slice P1 T.length q1, .slice P2 zs.length q2], .int .i64 i, .int .i64 k]) ∧ w'.ownsRow w.heap.size 136 3 (.slice P1 T.length q1) T.length (wnC T) ∧ w'.ownsRow w.heap.size 2 1 (.slice P2 zs.length q2) zs.length (icells zs) ∧ Below w.heap.size w w'
def dnT (s : Int) (n : Nat) (T : List Wp) (z : List Int) (m : List (Int × Int × Int × Int × Int)) (a b : Int) : List Wp := if dnW s n T z m a b = 0 then (stA n T z m m.length).1 else []
def dnZ (s : Int) (n : Nat) (T : List Wp) (z : List Int) (m : List (Int × Int × Int × Int × Int)) (a b : Int) : List Int := if dnW s n T z m a b = 0 then (stA n T z m m.length).2 else []
set_option maxRecDepth 20000 in
set_option maxHeartbeats 16000000 in
theorem l06Done_any (f g : Nat) (s : Int) (A : Option Addr) (c : Nat) (h : List (Int × Int)) (P0 : Option Addr) (d : Nat) (T : List Wp) (U0 : Option Addr) (v : Nat) (z : List Int) (a b : Int) (L : Option Addr) (lc : Nat) (m : List (Int × Int × Int × Int × Int)) (w : World) (hF : w.cell? ⟨f, 0, none⟩ = some (.int .i16 s) ∧ w.cell? ⟨f, 1, none⟩ = some (.slice A h.length c)) (h1 : w.cell? ⟨g, 0, none⟩ = some (.slice P0 T.length d)) (h2 : w.cell? ⟨g, 1, none⟩ = some (.slice U0 z.length v))
    (hA : HA w A h) (hL : WnA w P0 T) (hU : SZ w U0 z) (hwf : HWF h) (hs : -32768 ≤ s ∧ s ≤ 32767) (hwe : weB s h T z = true) (hM : AcA w L m) (hm : m.length ≤ 60) (hmw : AcWF m) :
    Calls Try.prog 66 #[.pointer (some ⟨f, 0, none⟩), .pointer (some ⟨g, 0, none⟩), .agg #[.int .i64 a, .int .i64 b], .slice L m.length lc] w (DnR (dnT s h.length T z m a b) (dnZ s h.length T z m a b) (dnI (-1) s h.length T z m a b) (dnW s h.length T z m a b) w) := by
  have hgw : g < w.heap.size := World.block_lt_of_cell? w _ h1
  have hfw : f < w.heap.size := World.block_lt_of_cell? w _ hF.1
  obtain ⟨hf96, hn24⟩ := weB_fr hwe
  have hfr := weB_frB hwe
  obtain ⟨hV, hZ, hzn⟩ := weB_VT hwe
  have hTl := hV.length hf96 hn24
  have HZN := hide hzn
  have hzl : z.length ≤ 24 := by omega
  clear hzn
  obtain ⟨X, hX⟩ : ∃ X, X = (w.alloc (.cells #[.int .i64 a, .int .i64 b] 66)).alloc (.cells #[.slice none 0 0, .slice none 0 0] 64) := ⟨_, rfl⟩
  have b0 : Below w.heap.size w X := by rw [hX]; exact ((Below.refl _ _).alloc (Nat.le_refl _) _).alloc (by simp) _
  have P00 : Bk X w.heap.size 66 #[.int .i64 a, .int .i64 b] := by rw [hX]; exact (Bk.new _ _ _ rfl).old _
  have P01 : Bk X (w.heap.size + 1) 64 #[.slice none 0 0, .slice none 0 0] := by rw [hX]; exact Bk.new _ _ _ (by simp)
  have hX1 := P01.lt
  have KC := l06Copy_any g P0 d T U0 v z X ((b0.cell (p := ⟨g, 0, none⟩) hgw).trans h1) ((b0.cell (p := ⟨g, 1, none⟩) hgw).trans h2) (hL.below b0) (hU.below b0) (by omega) (by omega)
  go_enter Try.func66, Try.ntmps66
  go_upto_region 1 with fail
  rw [← hX]
  clear hX
  go_wp2_with fail
  refine KC.mono ?_
  rintro e w2 ⟨P1, q1, P2, q2, rfl, own1, own2, hb2⟩
  have b2 := step_below hb2 b0
  obtain ⟨Y, hY⟩ : ∃ Y, Y = w2.alloc (.cells #[.slice P1 T.length q1, .slice P2 z.length q2] 64) := ⟨_, rfl⟩
  have hbY : Below w2.heap.size w2 Y := by rw [hY]; exact (Below.refl _ _).alloc (Nat.le_refl _) _
  have bY := step_below hbY b2
  have R0 := (P00.keep hb2).keep hbY
  have R1 := (P01.keep hb2).keep hbY
  have o1 := own_base (own_keep own1 hbY) b0.size
  have o2 := own_base (own_keep own2 hbY) b0.size
  have NY : Bk Y w2.heap.size 64 #[.slice P1 T.length q1, .slice P2 z.length q2] := by rw [hY]; exact Bk.new _ _ _ rfl
  have hX2 := hb2.size
  obtain ⟨G, hG⟩ : ∃ G, G = w2.heap.size := ⟨_, rfl⟩
  rw [← hG] at NY
  have hGX : w.heap.size + 1 < G := by omega
  clear KC P00 P01
  go_upto_region 2 with (first | (with_reducible refine wpList_store_newA rfl 64 (.tmp 11) (.tmp 16) rfl #[.slice P1 T.length q1, .slice P2 z.length q2] rfl rfl 64 _ (infoWear _ _) (szWear _ _ _ _) (oneWear _ _ _ _ _ _) ?_))
  rw [← hY]
  rw [← hG]
  clear hY hG own1 own2 hX2 hX1
  go_wp2_with fail
  go_loopw [12, 13, 14] (fun i _ _ wr => ∃ (k : Nat) (P : Option Addr) (q : Nat) (U : Option Addr) (u : Nat), k ≤ m.length ∧ i = .int .i64 k ∧ (∀ j, j < k → dnC s h.length T z m a b j = 0) ∧ Bk wr G 64 #[.slice P (stA h.length T z m k).1.length q, .slice U (stA h.length T z m k).2.length u] ∧ wr.ownsRow w.heap.size 136 3 (.slice P (stA h.length T z m k).1.length q) (stA h.length T z m k).1.length (wnC (stA h.length T z m k).1) ∧ wr.ownsRow w.heap.size 2 1 (.slice U (stA h.length T z m k).2.length u) (stA h.length T z m k).2.length (icells (stA h.length T z m k).2) ∧ Bk wr w.heap.size 66 #[.int .i64 a, .int .i64 b] ∧ Bk wr (w.heap.size + 1) 64 #[.slice none 0 0, .slice none 0 0] ∧ Below w.heap.size w wr)
    (fun i _ _ _ => m.length - (intOf i).toNat)
  case atStart => exact ⟨0, P1, q1, P2, q2, Nat.zero_le _, rfl, fun j hj => absurd hj (Nat.not_lt_zero _), NY, o1, o2, R0, R1, bY⟩
  case round =>
    obtain ⟨k, P, q, U, u, hk, rfl, hG, N, r1, r2, B0, B1, hb⟩ := hrel
    obtain ⟨sV, sZ, sz⟩ := st_valid hV hZ HZN.out k hG
    have HG := hide hG
    have hbs := hb.size
    clear hG
    by_cases hlt : k < m.length
    · have hwe0 := weB_of hfr sV sZ sz
      have hT0 := sV.length hf96 hn24
      obtain ⟨bb, o, rfl, hbb, c0, c1, c2, c3, c4⟩ := hM k hlt
      have hki : (k : Int) < (m.length : Int) := by omega
      have HA' := hide (show dnA s h.length T z m k = waC s h (stA h.length T z m k).1 (stA h.length T z m k).2 (acC s h.length (stA h.length T z m k).1 (stA h.length T z m k).2 (qaK m k) (qaA m k) (qaB m k) (qaE m k) (qaD m k)) by rw [waC, if_pos hwe0]; rfl)
      have HS1 := hide (show stA h.length T z m (k + 1) = (acT (stA h.length T z m k).1 (qaK m k) (qaA m k) (qaB m k) (qaE m k) (qaD m k), acZ h.length (stA h.length T z m k).1 (stA h.length T z m k).2 (qaK m k) (qaA m k) (qaB m k) (qaE m k) (qaD m k)) from rfl)
      have HV1 := hide (fun hc : dnC s h.length T z m a b k = 0 => st_valid hV hZ HZN.out (k + 1) (dn_succ HG.out hc))
      have HV0 := hide (fun hc : dnA s h.length T z m k = 0 => ac_valid sV sZ sz hc)
      obtain ⟨T0, hT0e⟩ : ∃ x, x = (stA h.length T z m k).1 := ⟨_, rfl⟩
      obtain ⟨z0, hz0e⟩ : ∃ x, x = (stA h.length T z m k).2 := ⟨_, rfl⟩
      rw [← hT0e] at sV hT0 N r1 hwe0
      rw [← hz0e] at sZ sz N r2 hwe0
      have KD0 := fun W (hb' : Below wr.heap.size wr W) => specDoWearAct_any s A c h P q T0 U u z0 (qaK m k) (qaA m k) (qaB m k) (qaE m k) (qaD m k) W (hA.below (step_below hb' hb)) (by omega) hwf hs ((WnA.of_own r1).below hb') ((SZ.of_own r2).below hb') (by omega) (by omega) (vt_wf sV hf96 hn24) (vz_wf sZ) (hmw k hlt)
      obtain ⟨r0, hr0⟩ : ∃ x, x = waT s h T0 z0 (acC s h.length T0 z0 (qaK m k) (qaA m k) (qaB m k) (qaE m k) (qaD m k)) (acT T0 (qaK m k) (qaA m k) (qaB m k) (qaE m k) (qaD m k)) := ⟨_, rfl⟩
      obtain ⟨rz0, hrz0⟩ : ∃ x, x = waZ s h T0 z0 (acC s h.length T0 z0 (qaK m k) (qaA m k) (qaB m k) (qaE m k) (qaD m k)) (acZ h.length T0 z0 (qaK m k) (qaA m k) (qaB m k) (qaE m k) (qaD m k)) := ⟨_, rfl⟩
      obtain ⟨cc, hcc⟩ : ∃ x, x = waC s h T0 z0 (acC s h.length T0 z0 (qaK m k) (qaA m k) (qaB m k) (qaE m k) (qaD m k)) := ⟨_, rfl⟩
      have HCC := hide (show dnA s h.length T z m k = cc by rw [HA'.out, ← hT0e, ← hz0e, hcc])
      have HR0 := hide (show cc = 0 → r0 = (stA h.length T z m (k + 1)).1 by
        intro h0
        rw [HS1.out, hr0, waT, ← hcc, if_pos h0, hT0e])
      have HRZ0 := hide (show cc = 0 → rz0 = (stA h.length T z m (k + 1)).2 by
        intro h0
        rw [HS1.out, hrz0, waZ, ← hcc, if_pos h0, hT0e, hz0e])
      have KD : ∀ W, Below wr.heap.size wr W → Calls Try.prog 96 #[.agg #[.int .i16 s, .slice A h.length c], .agg #[.slice P T0.length q, .slice U z0.length u], .agg #[.int .i8 (qaK m k), .int .i64 (qaA m k), .int .i64 (qaB m k), .int .i64 (qaE m k), .int .i64 (qaD m k)]] W (WeC r0 rz0 cc W) := by
        intro W hW
        rw [hr0, hrz0, hcc]
        exact KD0 W hW
      have hSr : wr.cell? ⟨f, 0, none⟩ = some (.int .i16 s) ∧ wr.cell? ⟨f, 1, none⟩ = some (.slice A h.length c) ∧ wr.cell? ⟨G, 0, none⟩ = some (.slice P T0.length q) ∧ wr.cell? ⟨G, 1, none⟩ = some (.slice U z0.length u) ∧ wr.cell? ⟨bb, o + k * 5, none⟩ = some (.int .i8 (qaK m k)) ∧ wr.cell? ⟨bb, o + k * 5 + 1, none⟩ = some (.int .i64 (qaA m k)) ∧ wr.cell? ⟨bb, o + k * 5 + 2, none⟩ = some (.int .i64 (qaB m k)) ∧ wr.cell? ⟨bb, o + k * 5 + 3, none⟩ = some (.int .i64 (qaE m k)) ∧ wr.cell? ⟨bb, o + k * 5 + 4, none⟩ = some (.int .i64 (qaD m k)) := ⟨(hb.cell (p := ⟨f, 0, none⟩) hfw).trans hF.1, (hb.cell (p := ⟨f, 1, none⟩) hfw).trans hF.2, N.cell (i := 0) rfl, N.cell (i := 1) rfl, (hb.cell (p := ⟨bb, o + k * 5, none⟩) hbb).trans c0, (hb.cell (p := ⟨bb, o + k * 5 + 1, none⟩) hbb).trans c1, (hb.cell (p := ⟨bb, o + k * 5 + 2, none⟩) hbb).trans c2, (hb.cell (p := ⟨bb, o + k * 5 + 3, none⟩) hbb).trans c3, (hb.cell (p := ⟨bb, o + k * 5 + 4, none⟩) hbb).trans c4⟩
      have hz0l : z0.length ≤ 24 := by omega
      clear c0 c1 c2 c3 c4 hr0 hrz0 hcc KD0 HS1 HA' sz hT0e hz0e
      go_upto_region 5 with fail
      go_cut [13, 14] from 23 to 34 (fun a_ b_ wx => ∃ (g : Nat) (C : Option Addr) (e : Nat) (D : Option Addr) (f : Nat) (W : World), a_ = .pointer (some ⟨g, 0, none⟩) ∧ b_ = .int .i64 cc ∧ W = wx ∧ Bk W g 64 #[.slice C r0.length e, .slice D rz0.length f] ∧ wr.heap.size ≤ g ∧ W.ownsRow wr.heap.size 136 3 (.slice C r0.length e) r0.length (wnC r0) ∧ W.ownsRow wr.heap.size 2 1 (.slice D rz0.length f) rz0.length (icells rz0) ∧ Below wr.heap.size wr W)
      case first =>
        clear HV0 HV1 HG HCC HR0 HRZ0 sV sZ hT0 r1 r2 N B0 B1 hmw hwe0 hF h1 h2 b0 b2 bY hb2 hbY R0 R1 o1 o2 NY hV hZ hfr hwe hbs
        have tb1 : Below wr.heap.size wr wr.drew := (Below.refl _ _).drew
        have hS1 := keep9 tb1 hSr
        refine wp_region_held_drew (S := fun w' => w'.cell? ⟨f, 0, none⟩ = some (.int .i16 s) ∧ w'.cell? ⟨f, 1, none⟩ = some (.slice A h.length c) ∧ w'.cell? ⟨G, 0, none⟩ = some (.slice P T0.length q) ∧ w'.cell? ⟨G, 1, none⟩ = some (.slice U z0.length u) ∧ w'.cell? ⟨bb, o + k * 5, none⟩ = some (.int .i8 (qaK m k)) ∧ w'.cell? ⟨bb, o + k * 5 + 1, none⟩ = some (.int .i64 (qaA m k)) ∧ w'.cell? ⟨bb, o + k * 5 + 2, none⟩ = some (.int .i64 (qaB m k)) ∧ w'.cell? ⟨bb, o + k * 5 + 3, none⟩ = some (.int .i64 (qaE m k)) ∧ w'.cell? ⟨bb, o + k * 5 + 4, none⟩ = some (.int .i64 (qaD m k))) (by kernel_rfl) hS1 fun hS1 => ?_
        generalize wr.drew = w1 at *
        change wpAnyH _ _ _ _ _ _ #[false, false, false, false, false, false, false, false, false, false, false, false, false, false, false] _ _
        refine wpAnyH_take (i := 0) (v := .pointer (some ⟨f, 0, none⟩)) rfl (by kernel_rfl) (by kernel_rfl) (by kernel_rfl) (fun _ _ _ h => h) (Or.inl ⟨by rfl, fun w' _ => by go_simp⟩) hS1 ?_
        change wpAnyH _ _ _ _ _ _ _ (Act.put _ (some 24) _) _
        simp only [Act.put, List.setIfInBounds_toArray, List.set_cons_zero, List.set_cons_succ]
        refine wpAnyH_take (i := 1) (v := .pointer (some ⟨f, 0, none⟩)) rfl (by kernel_rfl) (by kernel_rfl) (by kernel_rfl) (fun _ _ _ h => h) (Or.inl ⟨by rfl, fun w' _ => by go_simp⟩) hS1 ?_
        change wpAnyH _ _ _ _ _ _ _ (Act.put _ (some 25) _) _
        simp only [Act.put, List.setIfInBounds_toArray, List.set_cons_zero, List.set_cons_succ]
        refine wpAnyH_take (i := 2) (v := .agg #[.int .i16 s, .slice A h.length c]) rfl (by kernel_rfl) (by kernel_rfl) (by kernel_rfl) (fun _ _ _ h => h) (Or.inl ⟨by rfl, fun w' h => ?_⟩) hS1 ?_
        · have c0 := h.1
          have c1 := h.2.1
          clear h
          go_simp
        change wpAnyH _ _ _ _ _ _ _ (Act.put _ (some 26) _) _
        simp only [Act.put, List.setIfInBounds_toArray, List.set_cons_zero, List.set_cons_succ]
        refine wpAnyH_take (i := 3) (v := .agg #[.slice P T0.length q, .slice U z0.length u]) rfl (by kernel_rfl) (by kernel_rfl) (by kernel_rfl) (fun _ _ _ h => h) (Or.inl ⟨by rfl, fun w' h => ?_⟩) hS1 ?_
        · have c0 := h.2.2.1
          have c1 := h.2.2.2.1
          clear h
          go_simp
        change wpAnyH _ _ _ _ _ _ _ (Act.put _ (some 27) _) _
        simp only [Act.put, List.setIfInBounds_toArray, List.set_cons_zero, List.set_cons_succ]
        refine wpAnyH_take (i := 4) (v := .slice (some ⟨bb, o, none⟩) m.length lc) rfl (by kernel_rfl) (by kernel_rfl) (by kernel_rfl) (fun _ _ _ h => h) (Or.inl ⟨by rfl, fun w' _ => by go_simp⟩) hS1 ?_
        change wpAnyH _ _ _ _ _ _ _ (Act.put _ (some 28) _) _
        simp only [Act.put, List.setIfInBounds_toArray, List.set_cons_zero, List.set_cons_succ]
        refine wpAnyH_take (i := 5) (v := .int .i64 (k : Int)) rfl (by kernel_rfl) (by kernel_rfl) (by kernel_rfl) (fun _ _ _ h => h) (Or.inl ⟨by rfl, fun w' _ => by go_simp⟩) hS1 ?_
        change wpAnyH _ _ _ _ _ _ _ (Act.put _ (some 29) _) _
        simp only [Act.put, List.setIfInBounds_toArray, List.set_cons_zero, List.set_cons_succ]
        refine wpAnyH_take (i := 6) (v := .pointer (some ⟨bb, o + k * 5, none⟩)) rfl (by kernel_rfl) (by kernel_rfl) (by kernel_rfl) (fun _ _ _ h => h) (Or.inl ⟨by rfl, fun w' _ => by go_simp⟩) hS1 ?_
        change wpAnyH _ _ _ _ _ _ _ (Act.put _ (some 30) _) _
        simp only [Act.put, List.setIfInBounds_toArray, List.set_cons_zero, List.set_cons_succ]
        refine wpAnyH_take (i := 7) (v := .agg #[.int .i8 (qaK m k), .int .i64 (qaA m k), .int .i64 (qaB m k), .int .i64 (qaE m k), .int .i64 (qaD m k)]) rfl (by kernel_rfl) (by kernel_rfl) (by kernel_rfl) (fun _ _ _ h => h) (Or.inl ⟨by rfl, fun w' h => ?_⟩) hS1 ?_
        · have c0 := h.2.2.2.2.1
          have c1 := h.2.2.2.2.2.1
          have c2 := h.2.2.2.2.2.2.1
          have c3 := h.2.2.2.2.2.2.2.1
          have c4 := h.2.2.2.2.2.2.2.2
          clear h
          go_simp
        change wpAnyH _ _ _ _ _ _ _ (Act.put _ (some 31) _) _
        simp only [Act.put, List.setIfInBounds_toArray, List.set_cons_zero, List.set_cons_succ]
        refine wpAnyH_ready (rs := [8, 12]) (by kernel_rfl) (by simp) (AllReadyH.cons rfl ?_ (AllReadyH.cons rfl ?_ AllReadyH.nil))
        · intro K hK
          rw [if_pos (by rfl)]
          go_simp
          refine (KD w1 tb1).mono ?_
          rintro e w2 ⟨C2, e2, D2, f2, rfl, own2, owm2, hb2⟩
          have tb2 := tb1.trans (hb2.mono tb1.size)
          have oo2 := own_base own2 tb1.size
          have oz2 := own_base owm2 tb1.size
          refine hK.out _ _ (keep9 tb2 hSr) (fun hS2 => ?_)
          clear hK K
          try (change wpAnyH _ _ _ _ _ _ _ (Act.put _ (some 32) _) _)
          try simp only [Act.put, List.setIfInBounds_toArray, List.set_cons_zero, List.set_cons_succ]
          refine wpAnyH_take (i := 9) (v := .tuple #[.agg #[.slice C2 r0.length e2, .slice D2 rz0.length f2], .int .i64 cc]) rfl (by kernel_rfl) (by kernel_rfl) (by kernel_rfl) (fun _ _ _ h => h) (Or.inl ⟨by rfl, fun w' _ => by go_simp⟩) hS2 ?_
          change wpAnyH _ _ _ _ _ _ _ (Act.put _ (some 23) _) _
          simp only [Act.put, List.setIfInBounds_toArray, List.set_cons_zero, List.set_cons_succ]
          refine wpAnyH_take (i := 10) (v := .agg #[.slice C2 r0.length e2, .slice D2 rz0.length f2]) rfl (by kernel_rfl) (by kernel_rfl) (by kernel_rfl) (fun _ _ _ h => h) (Or.inl ⟨by rfl, fun w' _ => by go_simp⟩) hS2 ?_
          change wpAnyH _ _ _ _ _ _ _ (Act.put _ (some 33) _) _
          simp only [Act.put, List.setIfInBounds_toArray, List.set_cons_zero, List.set_cons_succ]
          refine wpAnyH_take (i := 11) (v := .int .i64 cc) rfl (by kernel_rfl) (by kernel_rfl) (by kernel_rfl) (fun _ _ _ h => h) (Or.inl ⟨by rfl, fun w' _ => by go_simp⟩) hS2 ?_
          change wpAnyH _ _ _ _ _ _ _ (Act.put _ (some 34) _) _
          simp only [Act.put, List.setIfInBounds_toArray, List.set_cons_zero, List.set_cons_succ]
          refine wpAnyH_ready (rs := [12]) (by kernel_rfl) (by simp) (AllReadyH.cons rfl ?_ AllReadyH.nil)
          obtain ⟨w3, hX3⟩ : ∃ X, X = w2.alloc (.cells #[.slice none 0 0, .slice none 0 0] 64) := ⟨_, rfl⟩
          have hb3 : Below w2.heap.size w2 w3 := by rw [hX3]; exact (Below.refl _ _).alloc (Nat.le_refl _) _
          have za3 : Bk w3 w2.heap.size 64 #[.slice none 0 0, .slice none 0 0] := by rw [hX3]; exact heap_new' _ _ _ rfl
          have ge3 : wr.heap.size ≤ w2.heap.size := tb2.size
          intro K hK
          rw [if_pos (by rfl)]
          go_simp
          rw [← hX3]
          clear hX3
          have tb3 := tb2.trans (hb3.mono tb2.size)
          have oo3 := own_keep oo2 hb3
          have oz3 := own_keep oz2 hb3
          refine hK.out _ _ (keep9 tb3 hSr) (fun hS3 => ?_)
          clear hK K
          try (change wpAnyH _ _ _ _ _ _ _ (Act.put _ (some 13) _) _)
          try simp only [Act.put, List.setIfInBounds_toArray, List.set_cons_zero, List.set_cons_succ]
          refine wpAnyH_ready (rs := [13]) (by kernel_rfl) (by simp) (AllReadyH.cons rfl ?_ AllReadyH.nil)
          intro K hK
          rw [if_pos (by rfl)]
          refine wp_store_row 64 (.tmp 13) (.tmp 33) rfl (w2.heap.size) #[.slice C2 r0.length e2, .slice D2 rz0.length f2] rfl rfl 64 _ za3 (infoWear _ _) (szWear _ _ _ _) (oneWear _ _ _ _ _ _) ?_
          have DD : Bk (w3.setRow (w2.heap.size) #[.slice C2 r0.length e2, .slice D2 rz0.length f2]) (w2.heap.size) 64 #[.slice C2 r0.length e2, .slice D2 rz0.length f2] := setRow_heap _ _ _ _ _ _ za3
          have ooS := own_rowW oo3 za3 (by decide) #[.slice C2 r0.length e2, .slice D2 rz0.length f2]
          have ozS := own_rowW oz3 za3 (by decide) #[.slice C2 r0.length e2, .slice D2 rz0.length f2]
          have tbS : Below wr.heap.size wr (w3.setRow (w2.heap.size) #[.slice C2 r0.length e2, .slice D2 rz0.length f2]) := below_setRow tb3 ge3
          refine hK.out _ _ (keep9 tbS hSr) (fun hSS => ?_)
          clear hK K
          refine wpAnyH_take (i := 14) (v := .int .i64 cc) rfl (by kernel_rfl) (by kernel_rfl) (by kernel_rfl) (fun _ _ _ h => h) (Or.inl ⟨by rfl, fun w' _ => by go_simp⟩) hSS ?_
          change wpAnyH _ _ _ _ _ _ _ (Act.put _ (some 14) _) _
          simp only [Act.put, List.setIfInBounds_toArray, List.set_cons_zero, List.set_cons_succ]
          refine wpAnyH_done (by kernel_rfl) ?_ _
          go_wp2_with fail
          go_meet
          exact ⟨_, C2, e2, D2, f2, _, rfl, rfl, rfl, DD, ge3, ooS, ozS, tbS⟩
        · obtain ⟨w2, hX2⟩ : ∃ X, X = w1.alloc (.cells #[.slice none 0 0, .slice none 0 0] 64) := ⟨_, rfl⟩
          have hb2 : Below w1.heap.size w1 w2 := by rw [hX2]; exact (Below.refl _ _).alloc (Nat.le_refl _) _
          have za2 : Bk w2 w1.heap.size 64 #[.slice none 0 0, .slice none 0 0] := by rw [hX2]; exact heap_new' _ _ _ rfl
          have ge2 : wr.heap.size ≤ w1.heap.size := tb1.size
          intro K hK
          rw [if_pos (by rfl)]
          go_simp
          rw [← hX2]
          clear hX2
          have tb2 := tb1.trans (hb2.mono tb1.size)
          refine hK.out _ _ (keep9 tb2 hSr) (fun hS2 => ?_)
          clear hK K
          try (change wpAnyH _ _ _ _ _ _ _ (Act.put _ (some 13) _) _)
          try simp only [Act.put, List.setIfInBounds_toArray, List.set_cons_zero, List.set_cons_succ]
          refine wpAnyH_ready (rs := [8]) (by kernel_rfl) (by simp) (AllReadyH.cons rfl ?_ AllReadyH.nil)
          intro K hK
          rw [if_pos (by rfl)]
          go_simp
          refine (KD w2 tb2).mono ?_
          rintro e w3 ⟨C3, e3, D3, f3, rfl, own3, owm3, hb3⟩
          have tb3 := tb2.trans (hb3.mono tb2.size)
          have oo3 := own_base own3 tb2.size
          have oz3 := own_base owm3 tb2.size
          have za3 := za2.keep hb3
          refine hK.out _ _ (keep9 tb3 hSr) (fun hS3 => ?_)
          clear hK K
          try (change wpAnyH _ _ _ _ _ _ _ (Act.put _ (some 32) _) _)
          try simp only [Act.put, List.setIfInBounds_toArray, List.set_cons_zero, List.set_cons_succ]
          refine wpAnyH_take (i := 9) (v := .tuple #[.agg #[.slice C3 r0.length e3, .slice D3 rz0.length f3], .int .i64 cc]) rfl (by kernel_rfl) (by kernel_rfl) (by kernel_rfl) (fun _ _ _ h => h) (Or.inl ⟨by rfl, fun w' _ => by go_simp⟩) hS3 ?_
          change wpAnyH _ _ _ _ _ _ _ (Act.put _ (some 23) _) _
          simp only [Act.put, List.setIfInBounds_toArray, List.set_cons_zero, List.set_cons_succ]
          refine wpAnyH_take (i := 10) (v := .agg #[.slice C3 r0.length e3, .slice D3 rz0.length f3]) rfl (by kernel_rfl) (by kernel_rfl) (by kernel_rfl) (fun _ _ _ h => h) (Or.inl ⟨by rfl, fun w' _ => by go_simp⟩) hS3 ?_
          change wpAnyH _ _ _ _ _ _ _ (Act.put _ (some 33) _) _
          simp only [Act.put, List.setIfInBounds_toArray, List.set_cons_zero, List.set_cons_succ]
          refine wpAnyH_take (i := 11) (v := .int .i64 cc) rfl (by kernel_rfl) (by kernel_rfl) (by kernel_rfl) (fun _ _ _ h => h) (Or.inl ⟨by rfl, fun w' _ => by go_simp⟩) hS3 ?_
          change wpAnyH _ _ _ _ _ _ _ (Act.put _ (some 34) _) _
          simp only [Act.put, List.setIfInBounds_toArray, List.set_cons_zero, List.set_cons_succ]
          refine wpAnyH_ready (rs := [13]) (by kernel_rfl) (by simp) (AllReadyH.cons rfl ?_ AllReadyH.nil)
          intro K hK
          rw [if_pos (by rfl)]
          refine wp_store_row 64 (.tmp 13) (.tmp 33) rfl (w1.heap.size) #[.slice C3 r0.length e3, .slice D3 rz0.length f3] rfl rfl 64 _ za3 (infoWear _ _) (szWear _ _ _ _) (oneWear _ _ _ _ _ _) ?_
          have DD : Bk (w3.setRow (w1.heap.size) #[.slice C3 r0.length e3, .slice D3 rz0.length f3]) (w1.heap.size) 64 #[.slice C3 r0.length e3, .slice D3 rz0.length f3] := setRow_heap _ _ _ _ _ _ za3
          have ooS := own_rowW oo3 za3 (by decide) #[.slice C3 r0.length e3, .slice D3 rz0.length f3]
          have ozS := own_rowW oz3 za3 (by decide) #[.slice C3 r0.length e3, .slice D3 rz0.length f3]
          have tbS : Below wr.heap.size wr (w3.setRow (w1.heap.size) #[.slice C3 r0.length e3, .slice D3 rz0.length f3]) := below_setRow tb3 ge2
          refine hK.out _ _ (keep9 tbS hSr) (fun hSS => ?_)
          clear hK K
          refine wpAnyH_take (i := 14) (v := .int .i64 cc) rfl (by kernel_rfl) (by kernel_rfl) (by kernel_rfl) (fun _ _ _ h => h) (Or.inl ⟨by rfl, fun w' _ => by go_simp⟩) hSS ?_
          change wpAnyH _ _ _ _ _ _ _ (Act.put _ (some 14) _) _
          simp only [Act.put, List.setIfInBounds_toArray, List.set_cons_zero, List.set_cons_succ]
          refine wpAnyH_done (by kernel_rfl) ?_ _
          go_wp2_with fail
          go_meet
          exact ⟨_, C3, e3, D3, f3, _, rfl, rfl, rfl, DD, ge2, ooS, ozS, tbS⟩
      obtain ⟨g5, C5, e5, D5, f5, w5, rfl, rfl, rfl, N5, hg5, own5, owm5, hb5⟩ := hcut
      have b5 := step_below hb5 hb
      have M5 := N.keep hb5
      have L5 := B0.keep hb5
      have Z5 := B1.keep hb5
      have oo5 := own_base own5 hbs
      have oz5 := own_base owm5 hbs
      have hNl := N.lt
      have hg1 : w.heap.size + 1 < wr.heap.size := B1.lt
      have f0 := L5.cell (i := 0) rfl
      have f1 := L5.cell (i := 1) rfl
      clear hSr KD N B0 B1 r1 r2 hwe0
      by_cases hc0 : cc = 0
      · subst hc0
        have e1 := HR0.out rfl
        have e2 := HRZ0.out rfl
        obtain ⟨tV, tZ, tz⟩ := HV0.out HCC.out
        have tV1 : VT s h.length r0 := by rw [e1]; exact tV
        have tZ1 : VZ rz0 := by rw [e2]; exact tZ
        have tz1 : rz0.length = h.length := by rw [e2]; exact tz
        have tl := tV1.length hf96 hn24
        have tzl : rz0.length ≤ 24 := by omega
        clear tz1
        have KW := l06Whole_any g5 C5 e5 r0 D5 f5 rz0 a b w5 (N5.cell (i := 0) rfl) (N5.cell (i := 1) rfl) (WnA.of_own own5) (SZ.of_own owm5) (by omega) (by omega)
        have HE1 := hide e1
        have HE2 := hide e2
        clear e1 e2 tV tZ tz tV1 tZ1
        cases hw : wholeB r0 rz0 a b
        · rw [hw] at KW
          have HC8 := hide (show dnC s h.length T z m a b k = 8 by rw [dnC, if_pos HCC.out, ← HE1.out, ← HE2.out, hw]; rfl)
          have HD := hide (dn_hit hlt HG.out (show dnC s h.length T z m a b k ≠ 0 by rw [HC8.out]; decide))
          clear hw
          go_wp2_with fail
          refine KW.mono ?_
          rintro e w6 ⟨rfl, hb6⟩
          have b6 := step_below hb6 b5
          have HW8 := hide (show dnW s h.length T z m a b = 8 by rw [HD.out.1, HC8.out])
          have HT := hide (show dnT s h.length T z m a b = [] by rw [dnT, if_neg (by rw [HW8.out]; decide)])
          have HZZ := hide (show dnZ s h.length T z m a b = [] by rw [dnZ, if_neg (by rw [HW8.out]; decide)])
          have HZ := hide (show w6.heap[w.heap.size + 1]? = some (.cells #[.slice none 0 0, .slice none 0 0] 64 (0, 0)) from Z5.keep hb6)
          clear f0 f1 KW
          go_wp2_with (first | (with_reducible refine wpList_build0 rfl rfl ?_) | (with_reducible refine wpList_store_row rfl 64 (.tmp 8) (.tmp 44) rfl (w.heap.size + 1) #[.slice none 0 0, .slice none 0 0] rfl rfl 64 _ HZ.out (infoWear _ _) (szWear _ _ _ _) (oneWear _ _ _ _ _ _) ?_))
          exact bodyPost_ret (v := .tuple #[.agg #[.slice none 0 0, .slice none 0 0], .int .i64 (k : Int), .int .i64 8]) (results_we3 Try.results66 _ _ (w.heap.size + 1) 64 #[.slice none 0 0, .slice none 0 0] _ _ rfl (by simp [Act.put]) (by simp [Act.put]) (by simp [Act.put]) (setRow_heap _ _ _ _ _ _ HZ.out)) rfl ⟨none, 0, none, 0, by rw [HD.out.2, HW8.out, HT.out, HZZ.out]; rfl, by rw [HT.out]; exact World.ownsRow_nil _ _ _ _, by rw [HZZ.out]; exact World.ownsRow_nil _ _ _ _, below_setRow b6 (by omega)⟩
        · rw [hw] at KW
          have HC0 := hide (show dnC s h.length T z m a b k = 0 by rw [dnC, if_pos HCC.out, ← HE1.out, ← HE2.out, hw]; rfl)
          clear hw
          go_wp2_with fail
          refine KW.mono ?_
          rintro e w6 ⟨rfl, hb6⟩
          have b6 := step_below hb6 b5
          have M6 := M5.keep hb6
          have L6 := L5.keep hb6
          have Z6 := Z5.keep hb6
          have N6 := N5.keep hb6
          have oo6 := own_keep oo5 hb6
          have oz6 := own_keep oz5 hb6
          have n0 := N6.cell (i := 0) rfl
          have n1 := N6.cell (i := 1) rfl
          have HM := hide (show w6.heap[G]? = some (.cells #[.slice P T0.length q, .slice U z0.length u] 64 (0, 0)) from M6)
          have oo7 := own_rowW oo6 M6 (by decide) #[.slice C5 r0.length e5, .slice D5 rz0.length f5]
          have oz7 := own_rowW oz6 M6 (by decide) #[.slice C5 r0.length e5, .slice D5 rz0.length f5]
          have G7 : Bk (w6.setRow G #[.slice C5 r0.length e5, .slice D5 rz0.length f5]) G 64 #[.slice C5 r0.length e5, .slice D5 rz0.length f5] := setRow_heap _ _ _ _ _ _ HM.out
          have L7 : Bk (w6.setRow G #[.slice C5 r0.length e5, .slice D5 rz0.length f5]) w.heap.size 66 #[.int .i64 a, .int .i64 b] := (setRow_other _ _ _ _ (by omega)).trans L6
          have Z7 : Bk (w6.setRow G #[.slice C5 r0.length e5, .slice D5 rz0.length f5]) (w.heap.size + 1) 64 #[.slice none 0 0, .slice none 0 0] := (setRow_other _ _ _ _ (by omega)).trans Z6
          have b7 : Below w.heap.size w (w6.setRow G #[.slice C5 r0.length e5, .slice D5 rz0.length f5]) := below_setRow b6 (by omega)
          clear f0 f1 KW M6 L6 Z6 N6 oo6 oz6 M5 L5 Z5 N5 oo5 oz5 own5 owm5
          go_wp2_with (first | (with_reducible refine wpList_store_row rfl 64 (.tmp 11) (.tmp 47) rfl G #[.slice C5 r0.length e5, .slice D5 rz0.length f5] rfl rfl 64 _ HM.out (infoWear _ _) (szWear _ _ _ _) (oneWear _ _ _ _ _ _) ?_))
          go_roundw
          case rel => exact ⟨k + 1, C5, e5, D5, f5, hlt, by go_num, dn_succ HG.out HC0.out, by rw [← HE1.out, ← HE2.out]; exact G7, by rw [← HE1.out]; exact oo7, by rw [← HE2.out]; exact oz7, L7, Z7, b7⟩
          case measure => simp [intOf]; omega
      · have HC8 := hide (show dnC s h.length T z m a b k = cc by rw [dnC, if_neg (by rw [HCC.out]; exact hc0), HCC.out])
        have HD := hide (dn_hit hlt HG.out (show dnC s h.length T z m a b k ≠ 0 by rw [HC8.out]; exact hc0))
        have HW8 := hide (show dnW s h.length T z m a b = cc by rw [HD.out.1, HC8.out])
        have HT := hide (show dnT s h.length T z m a b = [] by rw [dnT, if_neg (by rw [HW8.out]; exact hc0)])
        have HZZ := hide (show dnZ s h.length T z m a b = [] by rw [dnZ, if_neg (by rw [HW8.out]; exact hc0)])
        have HZ := hide (show w5.heap[w.heap.size + 1]? = some (.cells #[.slice none 0 0, .slice none 0 0] 64 (0, 0)) from Z5)
        have hq : (cc == 0) = false := by simpa using hc0
        have hq2 : (cc != 0) = true := by simpa using hc0
        clear f0 f1 hc0 HR0 HRZ0 HV0 HV1
        go_wp2_with (first | (with_reducible refine wpList_build0 rfl rfl ?_) | (with_reducible refine wpList_store_row rfl 64 (.tmp 8) (.tmp 44) rfl (w.heap.size + 1) #[.slice none 0 0, .slice none 0 0] rfl rfl 64 _ HZ.out (infoWear _ _) (szWear _ _ _ _) (oneWear _ _ _ _ _ _) ?_))
        exact bodyPost_ret (v := .tuple #[.agg #[.slice none 0 0, .slice none 0 0], .int .i64 (k : Int), .int .i64 cc]) (results_we3 Try.results66 _ _ (w.heap.size + 1) 64 #[.slice none 0 0, .slice none 0 0] _ _ rfl (by simp [Act.put]) (by simp [Act.put]) (by simp [Act.put]) (setRow_heap _ _ _ _ _ _ HZ.out)) rfl ⟨none, 0, none, 0, by rw [HD.out.2, HW8.out, HT.out, HZZ.out]; rfl, by rw [HT.out]; exact World.ownsRow_nil _ _ _ _, by rw [HZZ.out]; exact World.ownsRow_nil _ _ _ _, below_setRow b5 (by omega)⟩
    · have HK := hide (show k = m.length by omega)
      have hni : ¬ (k : Int) < (m.length : Int) := by omega
      have hd := dn_all (show ∀ j, j < m.length → dnC s h.length T z m a b j = 0 by rw [← HK.out]; exact HG.out)
      have HD := hide hd
      have HT := hide (show dnT s h.length T z m a b = (stA h.length T z m k).1 by rw [dnT, if_pos hd.1, HK.out])
      have HZZ := hide (show dnZ s h.length T z m a b = (stA h.length T z m k).2 by rw [dnZ, if_pos hd.1, HK.out])
      clear hk hlt hd sz
      generalize (stA h.length T z m k).1 = T0 at *
      generalize (stA h.length T z m k).2 = z0 at *
      have n0 := N.cell (i := 0) rfl
      have n1 := N.cell (i := 1) rfl
      have HZ := hide (show wr.heap[w.heap.size + 1]? = some (.cells #[.slice none 0 0, .slice none 0 0] 64 (0, 0)) from B1)
      have f1 := own_rowW r1 B1 (by decide) #[.slice P T0.length q, .slice U z0.length u]
      have f2 := own_rowW r2 B1 (by decide) #[.slice P T0.length q, .slice U z0.length u]
      clear r1 r2 B0 B1 N
      go_wp2_with (with_reducible refine wpList_store_row rfl 64 (.tmp 8) (.tmp 48) rfl (w.heap.size + 1) #[.slice P T0.length q, .slice U z0.length u] rfl rfl 64 _ HZ.out (infoWear _ _) (szWear _ _ _ _) (oneWear _ _ _ _ _ _) ?_)
      exact bodyPost_ret (v := .tuple #[.agg #[.slice P T0.length q, .slice U z0.length u], .int .i64 (-1), .int .i64 0]) (results_we3 Try.results66 _ _ (w.heap.size + 1) 64 #[.slice P T0.length q, .slice U z0.length u] _ _ rfl (by simp [Act.put]) (by simp [Act.put]) (by simp [Act.put]) (setRow_heap _ _ _ _ _ _ HZ.out)) rfl ⟨P, q, U, u, by rw [HD.out.1, HD.out.2, HT.out, HZZ.out], by rw [HT.out]; exact f1, by rw [HZZ.out]; exact f2, below_setRow hb (by omega)⟩
end Go.Proofs.Ytcocfnjbgceidaa
