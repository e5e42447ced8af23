import Derived.Test.YtnngbnhdcknfnaaSd1
import Derived.Test.YtnngbnhdcknfnaaSkt
import Derived.RegionTactic
import Derived.BigRegion
namespace Go.Proofs.Ytnngbnhdcknfnaa
open Go.RowKit

set_option maxRecDepth 20000 in
set_option maxHeartbeats 4000000 in
theorem l04Steps_any (b g : Nat) (s : Int) (A : Option Addr) (n c : Nat) (B : Option Addr) (d : Nat) (m : List (Int × Int)) (o : Nat → Int) (L : Option Addr) (cl : Nat) (xs : List Nat) (w : World) (hF : FP w b s A n c) (hP : Bk w g 40 (prA B m.length d o)) (hB : SecA w B m) (hL : SI w w.heap.size L (xs.map fun (x : Nat) => (x : Int)))
    (hs : 2 ≤ s ∧ s ≤ 96) (hG : SG (secG s m) m.length) (hm12 : m.length ≤ 12) (hswf : SWF m) (hx : ∀ k, k < xs.length → xs.getD k 0 < m.length) (hxs : xs.length ≤ 48) :
    Calls Try.prog 73 #[.pointer (some ⟨b, 0, none⟩), .pointer (some ⟨g, 0, none⟩), .slice L xs.length cl] w (SaysI' (plRun s m xs).1 w) := by
  have hGG := hide hG
  clear hG
  go_enter Try.func73, Try.ntmps73
  go_wp2_with fail
  go_loopw [7, 8, 9] (fun a T i wr => ∃ k : Nat, k ≤ xs.length ∧ i = .int .i64 k ∧ T = .int .i64 (plRun s m (xs.take k)).1 ∧ a = .int .i64 (plRun s m (xs.take k)).2 ∧ PlIn s k (plRun s m (xs.take k)) ∧ Below w.heap.size w wr)
    (fun _ _ i _ => xs.length - (intOf i).toNat)
  case atStart => exact ⟨0, Nat.zero_le _, rfl, rfl, rfl, PlIn.zero hs.1, Below.refl _ _⟩
  case round =>
    obtain ⟨k, hk, rfl, rfl, rfl, hpl, hb⟩ := hrel
    by_cases hlt : k < xs.length
    · obtain ⟨i, hi⟩ : ∃ i, i = xs.getD k 0 := ⟨_, rfl⟩
      have him : i < m.length := by rw [hi]; exact hx k hlt
      have hnext := hide (show plRun s m (xs.take (k + 1)) = plSt s m (plRun s m (xs.take k)) i by
        rw [List.take_succ_eq_append_getElem hlt, plRun_snoc, hi]
        simp [List.getD, hlt])
      have hpl2 := hide (hpl.step hs hGG.out him)
      obtain ⟨st, hst⟩ : ∃ st, st = plRun s m (xs.take k) := ⟨_, rfl⟩
      rw [← hst] at hpl hnext hpl2 ⊢
      clear hst
      obtain ⟨⟨t1, t2⟩, a1, a2⟩ := id hpl
      obtain ⟨T, hT⟩ : ∃ T, T = st.1 := ⟨_, rfl⟩
      obtain ⟨a, ha⟩ : ∃ a, a = st.2 := ⟨_, rfl⟩
      rw [← hT] at t1 t2 ⊢
      rw [← ha] at a1 a2 ⊢
      have HT := hide hT
      have HAA := hide ha
      clear hT ha hpl
      obtain ⟨bl, rfl, hbl, cl1⟩ := hL k (by simpa using hlt)
      have hzi : zAt (xs.map fun (x : Nat) => (x : Int)) k = (i : Int) := by simp [zAt, List.getD, hlt, hi]
      rw [hzi] at cl1
      obtain ⟨b', p, rfl, hbb, d1, d2⟩ := hB i him
      obtain ⟨⟨p1, p2⟩, r1, r2⟩ := hswf i him
      have hsin := sec_in hGG.out i him
      have hsz := hb.size
      have e1 := (hb.cell (p := ⟨g, 0, none⟩) hP.lt).trans hP.slice
      have e2 := (hb.cell (p := ⟨bl, k, none⟩) hbl).trans cl1
      have e3 := (hb.cell (p := ⟨b', p + i * 2, none⟩) hbb).trans d1
      have e4 := (hb.cell (p := ⟨b', p + i * 2 + 1, none⟩) hbb).trans d2
      have hki : (k : Int) < (xs.length : Int) := by omega
      have him' : (i : Int) < (m.length : Int) := by omega
      have hal : Below wr.heap.size wr (wr.alloc (.cells #[.int .i16 0, .int .i16 0] 90)) := (Below.refl _ _).alloc (Nat.le_refl _) _
      have a1' := (hal.cell (p := ⟨g, 0, none⟩) (World.block_lt_of_cell? _ _ e1)).trans e1
      have a2' := (hal.cell (p := ⟨bl, k, none⟩) (World.block_lt_of_cell? _ _ e2)).trans e2
      have a3' := (hal.cell (p := ⟨b', p + i * 2, none⟩) (World.block_lt_of_cell? _ _ e3)).trans e3
      have a4' := (hal.cell (p := ⟨b', p + i * 2 + 1, none⟩) (World.block_lt_of_cell? _ _ e4)).trans e4
      clear hzi hi cl1 d1 d2
      go_wp2_with fail
      go_region
      go_wp2_with fail
      obtain ⟨Z, hZ⟩ : ∃ Z, Z = (wr.alloc (.cells #[.int .i16 (secF m i), .int .i16 (secS m i)] 90)).drew := ⟨_, rfl⟩
      have hbz : Below wr.heap.size wr Z := by rw [hZ]; exact ((Below.refl _ _).alloc (Nat.le_refl _) _).drew
      have SZ0 : Bk Z wr.heap.size 90 #[.int .i16 (secF m i), .int .i16 (secS m i)] := by rw [hZ]; exact Bk.new _ _ _ rfl
      rw [← hZ]
      clear hZ e1 e2 e3 e4 a1' a2' a3' a4' hal
      have hbZ : Below w.heap.size w Z := step_below hbz hb
      have s1 := Later.cell (SZ0.cell (i := 0) rfl)
      have s2 := Later.cell (SZ0.cell (i := 1) rfl)
      have hFZ := hF.keep hbZ
      have har := arI_in (s := s) (x := secF m i - a) hs.1
      obtain ⟨R, hR⟩ : ∃ R, R = arI s (secF m i - a) := ⟨_, rfl⟩
      obtain ⟨v1, v2, v3, v4⟩ := hsin
      have KT : ∀ p : Later Z, Calls Try.prog 70 #[.pointer (some ⟨b, 0, none⟩), .agg #[.int .i16 (secF m i), .int .i16 (secS m i)], .int .i64 a] p.w fun e w' => e = .returned (.int .i64 R) ∧ ∃ q : Later Z, w' = q.w := fun p => by
        rw [hR]
        exact Later.call ((l04To_any b s A n c (secF m i) (secS m i) a p.w (hFZ.keep p.h) hs ⟨p1, p2⟩ ⟨a1, by omega⟩ (by omega)).mono fun _ _ h => h)
      have KE : ∀ W, Below Z.heap.size Z W → Calls Try.prog 90 #[.pointer (some ⟨b, 0, none⟩), .agg #[.int .i16 (secF m i), .int .i16 (secS m i)]] W (SaysI' (arI s (secF m i + secS m i)) W) := fun W hW => l04End_any b s A n c (secF m i) (secS m i) W (hFZ.keep hW) hs ⟨by omega, by omega⟩ ⟨by omega, by omega⟩
      rw [← hR] at har
      have HRR := hide hR
      obtain ⟨r1', r2'⟩ := har
      have hw1 : IntKind.i64.wrap (R + secS m i) = R + secS m i := IntWalk.i64_in _ (by omega)
      have hw2 : IntKind.i64.wrap (T + (R + secS m i)) = T + (R + secS m i) := IntWalk.i64_in _ (by omega)
      have hszZ := hbZ.size
      clear hR hFZ
      refine wp_region_later (by kernel_rfl) (by kernel_rfl) ?_
      repeat (go_big_quiet_step ((go_at_call 70; exact KT _)))
      refine wpQuiet_nil ?_
      rintro wq ⟨⟨_, hq⟩, rfl⟩
      have hbq : Below w.heap.size w wq := hbZ.trans (hq.mono hszZ)
      have KQ := KE wq hq
      have s3 := (SZ0.keep hq).cell (i := 0) rfl
      have s4 := (SZ0.keep hq).cell (i := 1) rfl
      clear KT KE s1 s2 hw1 hw2
      go_wp2_with fail
      refine KQ.mono ?_
      rintro e w3 ⟨rfl, hb3⟩
      go_wp2
      go_roundw
      case rel =>
        refine ⟨k + 1, hlt, by go_num, ?_, ?_, ?_, step_below hb3 hbq⟩
        · rw [hnext.out]; show Value.int .i64 (T + (R + secS m i)) = .int .i64 (st.1 + (arI s (secF m i - st.2) + secS m i)); rw [← HT.out, ← HAA.out, ← HRR.out]
        · rw [hnext.out]; rfl
        · rw [hnext.out]; exact hpl2.out
      case measure => simp [intOf]; omega
    · obtain rfl : k = xs.length := by omega
      rw [List.take_length]
      go_wp2
      go_ret
      exact ⟨rfl, hb⟩
theorem plsd_in {n : Nat} {o : Nat → Int} (h : SG (ordG n o) 48) : ∀ j, j < (plsd o 48).length → (plsd o 48).getD j 0 < n := by
  have hmem : ∀ x ∈ plsd o 48, x < n := by
    intro x hx
    simp only [plsd, List.mem_map, List.mem_filter, List.mem_range, decide_eq_true_eq] at hx
    obtain ⟨q, ⟨hq, h0⟩, rfl⟩ := hx
    have := h q hq
    simp [ordG, inB] at this
    omega
  intro j hj
  have : (plsd o 48).getD j 0 = (plsd o 48)[j] := by simp [List.getD, hj]
  rw [this]
  exact hmem _ (List.getElem_mem hj)
set_option maxRecDepth 20000 in
set_option maxHeartbeats 2000000 in
theorem specStepsInDay_any (s : Int) (A : Option Addr) (c : Nat) (l : List (Int × Int)) (B : Option Addr) (d : Nat) (m : List (Int × Int)) (o : Nat → Int) (w : World) (hA : HA w A l) (hn : l.length ≤ 1048576) (hwf : HWF l) (hs : -32768 ≤ s ∧ s ≤ 32767) (hB : SecA w B m) (hm : m.length ≤ 1048576) (hswf : SWF m) (howf : OWF o) :
    Calls Try.prog 41 #[.agg #[.int .i16 s, .slice A l.length c], .agg (prA B m.length d o)] w (Two (sdV s l m o) (codeI (prgB s l m o)) w) := by
  obtain ⟨i0, hi, hz0, hz1, hz2⟩ := info_parts info2
  go_enter Try.func41, Try.ntmps41
  go_upto_region 1 with fail
  obtain ⟨X, hX⟩ : ∃ X, X = (w.alloc (.cells #[.int .i16 s, .slice A l.length c] 36)).alloc (.cells (prA B m.length d o) 40) := ⟨_, rfl⟩
  have hb0 : Below w.heap.size w X := by rw [hX]; exact ((Below.refl _ _).alloc (Nat.le_refl _) _).alloc (by simp) _
  have F0 : FP X w.heap.size s A l.length c := by
    have h : Bk X w.heap.size 36 #[.int .i16 s, .slice A l.length c] := by rw [hX]; exact (Bk.new _ _ _ rfl).old _
    exact ⟨h.cell rfl, h.cell rfl⟩
  have P0 : Bk X (w.heap.size + 1) 40 (prA B m.length d o) := by rw [hX]; exact Bk.new _ _ _ (by simp)
  rw [← hX]
  clear hX
  go_wp2_with fail
  refine (l04Ok_any w.heap.size (w.heap.size + 1) s A c l B d m o X F0 (hA.below hb0) hn hwf hs P0 (hB.below hb0) hm hswf howf).mono ?_
  rintro e w1 ⟨rfl, hb1⟩
  have b1 := step_below hb1 hb0
  have F1 := F0.keep hb1
  have P1 := P0.keep hb1
  have A1 := hA.below b1
  have B1 := hB.below b1
  cases hp : prgB s l m o
  · have HX := hide (show codeI (prgB s l m o) = 1 by rw [hp]; rfl)
    have HY := hide (show sdV s l m o = 0 by simp [sdV, hp])
    clear hp
    go_wp2
    go_ret2
    exact ⟨by rw [HX.out, HY.out]; rfl, b1⟩
  have hpa := prgB_all hp
  have HX := hide (show codeI (prgB s l m o) = 0 by rw [hp]; rfl)
  have HY := hide (show sdV s l m o = (plRun s m (plsd o 48)).1 by simp [sdV, hp])
  have HA := hide hpa
  clear hp hpa
  have hal : Below w1.heap.size w1 (w1.alloc (.cells #[] 2)) := (Below.refl _ _).alloc (Nat.le_refl _) _
  go_wp2_with fail
  go_loopw [6, 7] (fun v i wr => ∃ k : Nat, k ≤ 48 ∧ i = .int .i64 k ∧ wr.ownsRow w1.heap.size 2 1 v (plsd o k).length (tcells (plsd o k)) ∧ Below w1.heap.size w1 wr)
    (fun _ i _ => 48 - (intOf i).toNat)
  case atStart => exact ⟨0, Nat.zero_le _, rfl, own_emptyT _ _ (Nat.le_refl _), hal⟩
  case round =>
    obtain ⟨k, hk, rfl, hown, hbr⟩ := hrel
    obtain ⟨A', c', rfl⟩ := own_shape hown
    by_cases hlt : k < 48
    · have c1 := (P1.keep hbr).order k _ (o48_get o k hlt)
      obtain ⟨v1, v2⟩ := howf k hlt
      have hki : (k : Int) < 48 := by omega
      have hlen := plsd_len o k
      by_cases he : 0 ≤ o k
      · have q1 : decide (0 ≤ o k) = true := decide_eq_true he
        obtain ⟨tt, hto⟩ : ∃ tt : Nat, o k = (tt : Int) := ⟨(o k).toNat, by omega⟩
        have HT := hide (show plsd o (k + 1) = plsd o k ++ [tt] by rw [plsd_yes (by omega), hto]; simp)
        rw [hto] at c1 q1 v2
        have hnew : ∀ j u, ([.int .i64 (tt : Int)] : List Value)[j]? = some u → (wr.alloc (.cells #[.int .i64 (tt : Int)] 2)).cell? ((⟨wr.heap.size, 0, none⟩ : Addr).add j) = some u := cell_one_new wr (.int .i64 (tt : Int)) 2
        have own3 := hown.alloc (.cells #[.int .i64 (tt : Int)] 2)
        clear he hto
        go_wp2_with (at_builtin; refine wpList_append_own _ rfl _ _ 56 rfl w1.heap.size 2 i0 (.int .i64 0) 1 8 Try.underlying56 hi hz0 hz1 hz2 rfl (by decide) _ _ _ rfl own3 ⟨wr.heap.size, 0, none⟩ 1 1 [.int .i64 (tt : Int)] rfl rfl hnew (fun x hx => by simp at hx; subst hx; rfl) (by unfold maxLen; omega) (by omega) (by simp; have := hbr.size; omega) ?_; intro v' w3 hown3 hgrow3 hnil3)
        have hb3 := (hbr.alloc hbr.size (.cells #[.int .i64 (tt : Int)] 2)).grown hgrow3 (by simp; have := hbr.size; omega) (fun j hj => (hown.lt j hj).1)
        go_roundw
        case rel => exact ⟨k + 1, hlt, by go_num, by rw [HT.out, List.length_append, tcells, List.map_append]; exact hown3, hb3⟩
        case measure => simp [intOf]; omega
      · have q1 : decide (0 ≤ o k) = false := decide_eq_false he
        have HT := hide (plsd_no he)
        clear he
        go_wp2
        go_roundw
        case rel => exact ⟨k + 1, hlt, by go_num, by rw [HT.out]; exact hown, hbr⟩
        case measure => simp [intOf]; omega
    · obtain rfl : k = 48 := by omega
      have hlen := plsd_len o 48
      have SL : SI wr wr.heap.size A' ((plsd o 48).map fun (x : Nat) => (x : Int)) := SI.of_own (c := c') (by rw [List.length_map, ← tcells_icells]; exact hown)
      obtain ⟨hs9, hm12, hsg, hor⟩ := HA.out
      have hxs : ∀ j, j < (plsd o 48).length → (plsd o 48).getD j 0 < m.length := plsd_in hor
      have KL := l04Steps_any w.heap.size (w.heap.size + 1) s A l.length c B d m o A' c' (plsd o 48) wr (F1.keep hbr) (P1.keep hbr) (B1.below hbr) SL hs9 hsg hm12 hswf hxs hlen
      clear hxs SL hor
      go_wp2_with fail
      refine KL.mono ?_
      rintro e w4 ⟨rfl, hb4⟩
      go_wp2
      go_ret2
      exact ⟨by rw [HX.out, HY.out]; rfl, step_below hb4 (step_below hbr b1)⟩

set_option maxRecDepth 20000 in
set_option maxHeartbeats 4000000 in
theorem implStepsInDay_any (s : Int) (A : Option Addr) (c : Nat) (l : List (Int × Int)) (B : Option Addr) (d : Nat) (m : List (Int × Int)) (o : Nat → Int) (w : World) (hA : HA w A l) (hn : l.length ≤ 1048576) (hwf : HWF l) (hs : -32768 ≤ s ∧ s ≤ 32767) (hB : SecA w B m) (hm : m.length ≤ 1048576) (hswf : SWF m) (howf : OWF o) :
    Calls Try.prog 42 #[.agg #[.int .i16 s, .slice A l.length c], .agg (prA B m.length d o)] w (Two (sdV s l m o) (codeI (prgB s l m o)) w) := by
  have hz := zeroPln
  go_enter Try.func42, Try.ntmps42
  go_upto_region 1 with fail
  obtain ⟨X, hX⟩ : ∃ X, X = (w.alloc (.cells #[.int .i16 s, .slice A l.length c] 36)).alloc (.cells (prA B m.length d o) 40) := ⟨_, rfl⟩
  have hb0 : Below w.heap.size w X := by rw [hX]; exact ((Below.refl _ _).alloc (Nat.le_refl _) _).alloc (by simp) _
  have F0 : FP X w.heap.size s A l.length c := by
    have h : Bk X w.heap.size 36 #[.int .i16 s, .slice A l.length c] := by rw [hX]; exact (Bk.new _ _ _ rfl).old _
    exact ⟨h.cell rfl, h.cell rfl⟩
  have P0 : Bk X (w.heap.size + 1) 40 (prA B m.length d o) := by rw [hX]; exact Bk.new _ _ _ (by simp)
  rw [← hX]
  clear hX
  have f0 := F0.1
  have f1 := F0.2
  have HP := hide P0.range49
  obtain ⟨b, hb⟩ : ∃ b, prgB s l m o = b := ⟨_, rfl⟩
  go_wp2_with (first | (with_reducible refine wpList_load_pr rfl 40 (.tmp 3) rfl (w.heap.size + 1) 0 rfl _ _ _ _ _ HP.out Try.underlying40 rfl (pInfo _ _ _ _) ?_))
  refine (planFor0_any s A c l B d m o _ (hA.below hb0) hn hwf hs (hB.below hb0) hm hswf howf b hb).mono ?_
  rintro e w1 ⟨rfl, hb1⟩
  have b1 := step_below hb1 hb0
  clear f0 f1 HP
  have hzi : (Try.prog.info? 84).map (·.size) = some zpl.size := by rw [zpl_eq]; exact plInfo
  have hzo : zpl.all (·.oneCell') = true := by rw [zpl_eq]; exact plA_one
  cases b
  · simp only [Bool.false_eq_true, if_false]
    have HX := hide (show codeI (prgB s l m o) = 1 by rw [hb]; rfl)
    have HY := hide (show sdV s l m o = 0 by simp [sdV, hb])
    clear hb
    go_wp2_with (with_reducible refine wpList_store_newG rfl 84 (.tmp 6) (.tmp 16) rfl zpl rfl rfl 84 _ hzi rfl hzo ?_)
    go_ret2
    exact ⟨by rw [HX.out, HY.out]; rfl, b1.alloc b1.size _⟩
  simp only [if_true]
  have hal : Below w1.heap.size w1 (w1.alloc (.cells (plA s A l.length c B m.length d o) 84)) := (Below.refl _ _).alloc (Nat.le_refl _) _
  have Q0 : Bk (w1.alloc (.cells (plA s A l.length c B m.length d o) 84)) w1.heap.size 84 (plA s A l.length c B m.length d o) := Bk.new _ _ _ rfl
  have b2 := step_below hal b1
  go_upto_region 2 with (with_reducible refine wpList_store_newG rfl 84 (.tmp 6) (.tmp 16) rfl (plA s A l.length c B m.length d o) rfl rfl 84 _ plInfo (by rw [zpl_eq, plA_size, plA_size]) plA_one ?_)
  obtain ⟨Y, hY⟩ : ∃ Y, Y = w1.alloc (.cells (plA s A l.length c B m.length d o) 84) := ⟨_, rfl⟩
  rw [← hY] at hal Q0 b2 ⊢
  clear hY hz hzi hzo hb1 b1
  have A2 := hA.below b2
  have B2 := hB.below b2
  have hpa := prgB_all hb
  have HX := hide (show codeI (prgB s l m o) = 0 by rw [hb]; rfl)
  have HY := hide (show sdV s l m o = (plRun s m (plsd o 48)).1 by simp [sdV, hb])
  have HO := hide hpa.2.2.2
  have HG := hide hpa.2.2.1
  have hs9 := hpa.1
  have hm12 := hpa.2.1
  clear hb hpa
  have hQR := hide Q0.plRange
  go_wp2_with (first | (with_reducible refine wpList_load_pl rfl (.tmp 6) rfl w1.heap.size 0 rfl _ _ _ _ _ _ _ _ hQR.out ?_))
  refine (player_any s A l.length c B m.length d o Y).mono ?_
  rintro e w3 ⟨rfl, T3, a3, p3, hb3⟩
  have HI := hide (fun k hk => indexO o k hk)
  have HR := hide (Q0.keep hb3).plOrd
  have hy3 := p3.lt
  have ht3 := T3.lt
  have Q3 := Q0.keep hb3
  clear hQR
  go_wp2_with (with_reducible refine wpList_load_oa rfl (.tmp 24) rfl w1.heap.size 3 rfl o HR.out ?_)
  go_loopw [8, 26] (fun T i wr => ∃ k : Nat, k ≤ 48 ∧ i = .int .i64 k ∧ T = .int .i64 (plRun s m (plsd o k)).1 ∧ PlIn s k (plRun s m (plsd o k)) ∧ Bk wr (Y.heap.size + 1 + 1) 2 #[.int .i64 (plRun s m (plsd o k)).1] ∧ Bk wr (Y.heap.size + 1) 2 #[.int .i64 (plRun s m (plsd o k)).2] ∧ Bk wr Y.heap.size 84 (plA s A l.length c B m.length d o) ∧ Below Y.heap.size Y wr ∧ Y.heap.size + 1 + 1 < wr.heap.size)
    (fun _ i _ => 48 - (intOf i).toNat)
  case atStart => exact ⟨0, Nat.zero_le _, rfl, rfl, PlIn.zero hs9.1, T3, a3, p3, hb3, ht3⟩
  case round =>
    obtain ⟨k, hk, rfl, rfl, hpl, T4, a4, p4, hbr, hsz4⟩ := hrel
    by_cases hlt : k < 48
    · have hx := HI.out k hlt
      by_cases he : 0 ≤ o k
      · have q1 : (o k != -1) = true := by simp; omega
        obtain ⟨tt, hto⟩ : ∃ tt : Nat, o k = (tt : Int) := ⟨(o k).toNat, by omega⟩
        have htm : tt < m.length := by have := HO.out k hlt; simp [ordG, inB] at this; omega
        have hpe := hide (show plRun s m (plsd o (k + 1)) = plSt s m (plRun s m (plsd o k)) tt by rw [plsd_yes (by omega), hto]; rw [show ((tt : Int)).toNat = tt by simp]; exact plRun_snoc _ _ _ _)
        have hpl2 := hide (hpl.step hs9 HG.out htm)
        obtain ⟨st, hst⟩ : ∃ st, st = plRun s m (plsd o k) := ⟨_, rfl⟩
        rw [← hst] at hpl hpe hpl2 T4 a4
        clear hst
        obtain ⟨⟨t1, t2⟩, a1, a2⟩ := id hpl
        have hsin := sec_in HG.out tt htm
        obtain ⟨v1, v2, v3, v4⟩ := hsin
        have HP4 := hide (player1_any Y.heap.size (Y.heap.size + 1 + 1) (Y.heap.size + 1) Y.heap.size s A l.length c B m.length d o st.1 st.2 (secF m tt) (secS m tt) wr T4 a4 p4 (by omega) (by omega) (by omega) (by omega) (by omega) (by omega) hs9 ⟨by omega, by omega⟩ ⟨by omega, by omega⟩ ⟨a1, a2⟩ ⟨t1, by omega⟩)
        obtain ⟨b', p, rfl, hbb, d1, d2⟩ := B2 tt htm
        have c0 := (Q0.keepB hbr Q0.lt).plSecs
        have e1 := (hbr.cell (p := ⟨b', p + tt * 2, none⟩) hbb).trans d1
        have e2 := (hbr.cell (p := ⟨b', p + tt * 2 + 1, none⟩) hbb).trans d2
        have hti : (tt : Int) < (m.length : Int) := by omega
        rw [hto] at hx q1
        clear he hto d1 d2 hpl T4 a4 p4 t1 t2 a1 a2
        go_wp2_with fail
        refine HP4.out.mono ?_
        rintro e w5 ⟨rfl, T5, a5, p5, hb5, hz5⟩
        go_wp2
        go_roundw
        case rel =>
          refine ⟨k + 1, hlt, by go_num, ?_, ?_, ?_, ?_, p5, hbr.trans hb5, by omega⟩
          · rw [hpe.out]; rfl
          · rw [hpe.out]; exact hpl2.out
          · rw [hpe.out]; exact T5
          · rw [hpe.out]; exact a5
        case measure => simp [intOf]; omega
      · have q1 : (o k != -1) = false := by have := HO.out k hlt; simp [ordG, inB] at this ⊢; omega
        have HT := hide (plsd_no he)
        clear he
        go_wp2
        go_roundw
        case rel => exact ⟨k + 1, hlt, by go_num, by rw [HT.out], by rw [HT.out]; exact hpl.up, by rw [HT.out]; exact T4, by rw [HT.out]; exact a4, p4, hbr, hsz4⟩
        case measure => simp [intOf]; omega
    · obtain rfl : k = 48 := by omega
      go_wp2
      go_ret2
      exact ⟨by rw [HX.out, HY.out]; rfl, step_below hbr b2⟩
end Go.Proofs.Ytnngbnhdcknfnaa
