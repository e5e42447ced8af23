import Derived.Test.YtfjcomemgbmohaaSru
import Derived.Test.YtfjcomemgbmohaaShf
import Derived.Test.YtfjcomemgbmohaaNums
namespace Go.Proofs.Ytfjcomemgbmohaa
open Go.RowKit
theorem chL_nodup {pf : Int → Int → Int × Int} {l : List (Int × Int)} (h : AscN l) (hm : ∀ x y, x ∈ l → y ∈ l → ltN x y → pf x.1 x.2 ≠ pf y.1 y.2) : (chL pf l l.length).Nodup := by
  rw [chL_map]
  refine List.pairwise_map.2 ?_
  exact List.Pairwise.imp_of_mem (fun {x y} hx hy hxy => hm x y hx hy hxy) h
theorem chV_sort {pf : Int → Int → Int × Int} {l : List (Int × Int)} (h : (chL pf l l.length).Nodup) (ho : chO pf l l.length = true) : chV pf l = sortU (chL pf l l.length) := by
  unfold chV
  rw [if_pos ho]
  exact srtN_eq_sortU _ _ h fun _ => Iff.rfl
theorem asc_le {l : List (Int × Int)} (h : AscN l) {i j : Nat} (hij : i ≤ j) (hj : j < l.length) : nAt l i ≤ nAt l j := by
  rcases Nat.lt_or_ge i j with h1 | h1
  · have h2 := List.pairwise_iff_getElem.1 h i j (by omega) hj h1
    have e1 : nAt l i = l[i].1 := by simp [nAt, List.getD, show i < l.length by omega]
    have e2 : nAt l j = l[j].1 := by simp [nAt, List.getD, hj]
    unfold ltN at h2
    omega
  · obtain rfl : i = j := by omega
    exact Int.le_refl _
/-- backward -/
def bkP (last a q : Int) : Int × Int := (last - a, q)
theorem bk_in {l : List (Int × Int)} (h : okB l = true) (k : Nat) (hk : k < l.length) : (0 ≤ lenI l - 1 - nAt l k ∧ lenI l - 1 - nAt l k ≤ 199) ∧ (0 ≤ lenI l ∧ lenI l ≤ 200) := by
  have h1 := asc_le (asc_of_ok h) (show k ≤ l.length - 1 by omega) (by omega)
  have h2 := (ok_in h k hk).1
  have h3 := (ok_in h (l.length - 1) (by omega)).1
  have e : lenI l = nAt l (l.length - 1) + 1 := by
    unfold lenI
    split
    · omega
    · rfl
  omega
theorem len_in {l : List (Int × Int)} (h : okB l = true) : 0 ≤ lenI l ∧ lenI l ≤ 200 := by
  rcases Nat.eq_zero_or_pos l.length with e | e
  · unfold lenI
    split
    · omega
    · omega
  · exact (bk_in h 0 e).2
theorem bk_ok {l : List (Int × Int)} (h : okB l = true) : chO (bkP (lenI l - 1)) l l.length = true := by
  simp only [chO, List.all_eq_true, List.mem_range]
  intro i hi
  have h1 := bk_in h i hi
  have h2 := ok_in h i hi
  simp [bkP, noteB]
  omega
theorem bk_nodup {l : List (Int × Int)} (last : Int) (h : okB l = true) : (chL (bkP last) l l.length).Nodup :=
  chL_nodup (asc_of_ok h) fun x y _ _ hxy e => by
    have e1 := congrArg Prod.fst e
    have e2 := congrArg Prod.snd e
    simp only [bkP] at e1 e2
    unfold ltN at hxy
    omega
def bwC (l : List (Int × Int)) : Int := if okB l then 0 else 1
def bwV (l : List (Int × Int)) : List (Int × Int) := if okB l then sortU (chL (bkP (lenI l - 1)) l l.length) else []
theorem bwV_le (l : List (Int × Int)) : (bwV l).length ≤ l.length := by
  unfold bwV
  split
  · exact Nat.le_trans (sortU_le _) (Nat.le_of_eq (chL_len _ _ _))
  · simp
set_option maxRecDepth 20000 in
theorem backward1_any (g : Nat) (d a q : Int) (w : World) (h1 : Nb w g d) (hd : -100000 ≤ d ∧ d ≤ 100000) (ha : -32768 ≤ a ∧ a ≤ 32767) (hq : -128 ≤ q ∧ q ≤ 127) :
    Calls Try.prog 52 #[.int .i64 a, .int .i64 q, .pointer (some ⟨g, 0, none⟩)] w fun e w' => e = .returned (.tuple #[.int .i64 (d - a), .int .i64 q]) ∧ Below w.heap.size w w' := by
  have e1 := h1.1
  have hw1 : IntKind.i64.wrap (d - a) = d - a := IntWalk.i64_in _ (by omega)
  clear h1
  go_enter Try.func52, Try.ntmps52
  go_wp2
  go_ret2
  exact ⟨rfl, Below.refl _ _⟩
set_option maxRecDepth 20000 in
set_option maxHeartbeats 1000000 in
theorem implBackward_any (A : Option Addr) (c : Nat) (l : List (Int × Int)) (w : World) (hA : NA w A l) (hn : l.length ≤ 1048576) (hwf : WF l) :
    Calls Try.prog 27 #[.slice A l.length c] w (OwnN w (bwV l) (bwC l)) := by
  have hmf : ∀ (fn : Fn) (first cap : Array Value) (w : World), (Instr.makeFunc fn first cap).run Try.prog w = .ok (.func fn first cap) w := fun _ _ _ _ => rfl
  have eg : ∀ args w, (callFunc 52 args).run Try.prog w = .ok (.enter 52 args) w := fun _ _ => by kernel_rfl
  have KO := implValid_any A c l w hA hn hwf
  cases ho : okB l
  · rw [ho] at KO
    have HX := hide (show bwC l = 1 by simp [bwC, ho])
    have HY := hide (show bwV l = [] by simp [bwV, ho])
    clear ho
    go_enter Try.func27, Try.ntmps27
    go_wp2_with fail
    refine KO.mono ?_
    rintro e w1 ⟨rfl, hb1⟩
    go_wp2
    go_ret2
    rw [HX.out, HY.out]
    exact ownN_nil none 0 1 ⟨rfl, Or.inl ⟨rfl, rfl⟩⟩ hb1
  rw [ho] at KO
  have hli := len_in ho
  have HC := hide (show chC (bkP (lenI l - 1)) l = 0 by simp [chC, bk_ok ho])
  have HX := hide (show bwC l = 0 by simp [bwC, ho])
  have HY := hide (show bwV l = chV (bkP (lenI l - 1)) l by rw [chV_sort (bk_nodup _ ho) (bk_ok ho)]; simp [bwV, ho])
  clear ho
  obtain ⟨hl1, hl2⟩ := hli
  have KL : ∀ W, Below w.heap.size w W → Calls Try.prog 50 #[.slice A l.length c] W (fun e w' => e = .returned (.int .i64 (lenI l)) ∧ W = w') := fun W hW => implLength_any A c l W (hA.below hW) hn hwf
  obtain ⟨len, hlen⟩ : ∃ x, x = lenI l := ⟨_, rfl⟩
  rw [← hlen] at KL hl1 hl2 HC HY
  have HLN := hide hlen
  clear hlen
  have KC : ∀ W (g : Nat), Below w.heap.size w W → Nb W g (len - 1) → Calls Try.prog 51 #[.slice A l.length c, .func (.func 52) #[] #[.pointer (some ⟨g, 0, none⟩)]] W (OwnN W (chV (bkP (len - 1)) l) (chC (bkP (len - 1)) l)) := fun W g hW hg =>
    changed_any 52 #[.pointer (some ⟨g, 0, none⟩)] (bkP (len - 1)) A c l W (hA.below hW) hn hwf eg fun V hV k hk => backward1_any g (len - 1) (nAt l k) (nPi l k) V (hg.keep hV) (by omega) (hwf k hk).1 (hwf k hk).2
  obtain ⟨V, hV⟩ : ∃ V, V = chV (bkP (len - 1)) l := ⟨_, rfl⟩
  obtain ⟨C, hC⟩ : ∃ C, C = chC (bkP (len - 1)) l := ⟨_, rfl⟩
  rw [← hV] at KC HY
  rw [← hC] at KC HC
  have hw0 : IntKind.i64.wrap (len - 1) = len - 1 := IntWalk.i64_in _ (by omega)
  clear hV hC eg
  go_enter Try.func27, Try.ntmps27
  go_wp2_with fail
  refine KO.mono ?_
  rintro e w1 ⟨rfl, hb1⟩
  have KL1 := KL w1 hb1
  go_wp2_with fail
  refine KL1.mono ?_
  rintro e w1' ⟨rfl, rfl⟩
  have hal : Below w1.heap.size w1 (w1.alloc (.cells #[.int .i64 (len - 1)] 2)) := (Below.refl _ _).alloc (Nat.le_refl _) _
  have b2 := step_below hal hb1
  have N1 : Nb (w1.alloc (.cells #[.int .i64 (len - 1)] 2)) w1.heap.size (len - 1) := ⟨by simp [go_sem], by simp⟩
  have KC2 := KC _ _ b2 N1
  go_wp2_with fail
  refine KC2.mono ?_
  rintro e w2 ⟨C1, q1, rfl, own2, hb2⟩
  go_wp2
  go_ret2
  rw [HX.out, HY.out]
  exact ⟨C1, q1, by rw [HC.out]; rfl, own_base own2 b2.size, step_below hb2 b2⟩
set_option maxRecDepth 20000 in
set_option maxHeartbeats 4000000 in
theorem specBackward_any (A : Option Addr) (c : Nat) (l : List (Int × Int)) (w : World) (hA : NA w A l) (hn : l.length ≤ 1048576) (hwf : WF l) :
    Calls Try.prog 26 #[.slice A l.length c] w (OwnN w (bwV l) (bwC l)) := by
  obtain ⟨i0, hi, hz0, hz1, hz2⟩ := info_parts info46
  have KO := l01Ok_any A c l w hA hn hwf
  cases ho : okB l
  · rw [ho] at KO
    have HX := hide (show bwC l = 1 by simp [bwC, ho])
    have HY := hide (show bwV l = [] by simp [bwV, ho])
    clear ho
    go_enter Try.func26, Try.ntmps26
    go_wp2_with fail
    refine KO.mono ?_
    rintro e w1 ⟨rfl, hb1⟩
    go_wp2
    go_ret2
    rw [HX.out, HY.out]
    exact ownN_nil (some ⟨w1.heap.size, 0, none⟩) 0 1 (own_emptyT _ _ hb1.size) (hb1.alloc hb1.size _)
  rw [ho] at KO
  have hli := len_in ho
  have HBI := hide (fun k hk => (bk_in ho k hk).1)
  have HIN := hide (fun k hk => ok_in ho k hk)
  have HX := hide (show bwC l = 0 by simp [bwC, ho])
  have HY := hide (show bwV l = sortU (chL (bkP (lenI l - 1)) l l.length) by simp [bwV, ho])
  clear ho
  obtain ⟨hl1, hl2⟩ := hli
  have KL : ∀ W, Below w.heap.size w W → Calls Try.prog 49 #[.slice A l.length c] W (fun e w' => e = .returned (.int .i64 (lenI l)) ∧ W = w') := fun W hW => specLength_any A c l W (hA.below hW) hn hwf
  have KS : ∀ W C q, NA W C (chL (bkP (lenI l - 1)) l l.length) → Calls Try.prog 37 #[.slice C (chL (bkP (lenI l - 1)) l l.length).length q] W (OwnT W (sortU (chL (bkP (lenI l - 1)) l l.length))) := fun W C q h => l01Sorted_any C q _ W h (by rw [chL_len]; exact hn) (fun k hk => by
    have hk' : k < l.length := by rw [chL_len] at hk; exact hk
    have e : (chL (bkP (lenI l - 1)) l l.length).getD k (0, 0) = bkP (lenI l - 1) (nAt l k) (nPi l k) := by simp [chL, List.getD, hk']
    have h1 := HBI.out k hk'
    have h2 := HIN.out k hk'
    simp only [nAt, nPi] at h1 h2 e ⊢
    rw [e]
    simp only [bkP, nAt, nPi]
    omega)
  obtain ⟨lst, hlst⟩ : ∃ x, x = lenI l - 1 := ⟨_, rfl⟩
  have hwl : IntKind.i64.wrap (lenI l - 1) = lst := by rw [hlst]; exact IntWalk.i64_in _ (by omega)
  have hw16 : IntKind.i16.wrap lst = lst := by simp [IntKind.wrap, IntKind.signed, IntKind.bits]; omega
  have hls : -1 ≤ lst ∧ lst ≤ 199 := by omega
  rw [← hlst] at HBI HY KS
  have HLST := hide hlst
  clear hlst hl1 hl2
  go_enter Try.func26, Try.ntmps26
  go_wp2_with fail
  refine KO.mono ?_
  rintro e w1 ⟨rfl, hb1⟩
  have KL1 := KL w1 hb1
  go_wp2_with fail
  refine KL1.mono ?_
  rintro e w1' ⟨rfl, rfl⟩
  clear KL KL1 KO
  have hal : Below w.heap.size w (w1.alloc (.cells #[] 46)) := hb1.alloc hb1.size _
  have hE : (w1.alloc (.cells #[] 46)).ownsRow w.heap.size 46 2 (.slice (some ⟨w1.heap.size, 0, none⟩) 0 0) 0 [] := own_emptyT _ _ hb1.size
  go_wp2_with fail
  clear hwl hw16
  go_loopw [5, 6] (fun v i wr => ∃ k : Nat, k ≤ l.length ∧ i = .int .i64 k ∧ wr.ownsRow w.heap.size 46 2 v k (cellsOf (chL (bkP lst) l k)) ∧ Below w.heap.size w wr)
    (fun _ i _ => l.length - (intOf i).toNat)
  case atStart => exact ⟨0, Nat.zero_le _, rfl, hE, hal⟩
  case round =>
    obtain ⟨k, hk, rfl, hown, hb⟩ := hrel
    obtain ⟨A', c', rfl⟩ := own_shapeT hown
    by_cases hlt : k < l.length
    · obtain ⟨b, o, rfl, hbb, c1, c2⟩ := hA k hlt
      have d1 := (hb.cell (p := ⟨b, o + k * 2, none⟩) hbb).trans c1
      have d2 := (hb.cell (p := ⟨b, o + k * 2 + 1, none⟩) hbb).trans c2
      have hbk : b < wr.heap.size := Nat.lt_of_lt_of_le hbb hb.size
      have h1 := HBI.out k hlt
      have h2 := HIN.out k hlt
      have HL := hide (chL_succ (bkP lst) l k)
      obtain ⟨x, hx⟩ : ∃ x, x = nAt l k := ⟨_, rfl⟩
      obtain ⟨y, hy⟩ : ∃ y, y = nPi l k := ⟨_, rfl⟩
      rw [← hx, ← hy] at HL
      rw [← hx] at d1 h1 h2
      rw [← hy] at d2 h2
      obtain ⟨h3, h4⟩ := h1
      obtain ⟨⟨h5, h6⟩, h7, h8⟩ := h2
      have hwx : IntKind.i16.wrap (lst - x) = lst - x := by simp [IntKind.wrap, IntKind.signed, IntKind.bits]; omega
      clear c1 c2 hx hy
      have hdr : Below wr.heap.size wr wr.drew := (Below.refl _ _).drew
      have t1 := (hdr.cell (p := ⟨b, o + k * 2, none⟩) hbk).trans d1
      have t2 := (hdr.cell (p := ⟨b, o + k * 2 + 1, none⟩) hbk).trans d2
      obtain ⟨W5, hW5⟩ : ∃ W5, W5 = (wr.alloc (.cells #[.int .i16 (lst - x), .int .i8 y] 46)).drew := ⟨_, rfl⟩
      have hb5 : Below wr.heap.size wr W5 := by rw [hW5]; exact ((Below.refl _ _).alloc (Nat.le_refl _) _).drew
      have hnew5 : ∀ j u, ([.int .i16 (lst - x), .int .i8 y] : List Value)[j]? = some u → W5.cell? ((⟨wr.heap.size, 0, none⟩ : Addr).add j) = some u := fun j u hu => by
        rw [hW5]
        exact cell_two_new' wr (.int .i16 (lst - x)) (.int .i8 y) 46 j u hu
      have s1 := (hb5.cell (p := ⟨b, o + k * 2, none⟩) hbk).trans d1
      have s2 := (hb5.cell (p := ⟨b, o + k * 2 + 1, none⟩) hbk).trans d2
      have own8 := own_keep hown hb5
      have hb8 := step_below hb5 hb
      have hszb8 := hb8.size
      go_wp2_with fail
      refine wp_region_held_drew (S := fun w' => w'.cell? ⟨b, o + k * 2, none⟩ = some (.int .i16 x) ∧ w'.cell? ⟨b, o + k * 2 + 1, none⟩ = some (.int .i8 y)) (by kernel_rfl) ⟨t1, t2⟩ fun hS1 => ?_
      refine wpAnyH_take (i := 0) (v := .slice A' k c') rfl (by kernel_rfl) (by kernel_rfl) (by kernel_rfl) (fun _ _ _ h => h) (Or.inl ⟨by rfl, fun w' _ => by go_simp⟩) hS1 ?_
      change wpAnyH _ _ _ _ _ _ _ (Act.put _ (some 22) _) _
      simp only [Act.put, List.setIfInBounds_toArray, List.set_cons_zero, List.set_cons_succ]
      refine wpAnyH_take (i := 1) (v := .int .i16 lst) rfl (by kernel_rfl) (by kernel_rfl) (by kernel_rfl) (fun _ _ _ h => h) (Or.inl ⟨by rfl, fun w' _ => by go_simp⟩) hS1 ?_
      change wpAnyH _ _ _ _ _ _ _ (Act.put _ (some 23) _) _
      simp only [Act.put, List.setIfInBounds_toArray, List.set_cons_zero, List.set_cons_succ]
      refine wpAnyH_take (i := 2) (v := .slice (some ⟨b, o, none⟩) l.length c) rfl (by kernel_rfl) (by kernel_rfl) (by kernel_rfl) (fun _ _ _ h => h) (Or.inl ⟨by rfl, fun w' _ => by go_simp⟩) hS1 ?_
      change wpAnyH _ _ _ _ _ _ _ (Act.put _ (some 24) _) _
      simp only [Act.put, List.setIfInBounds_toArray, List.set_cons_zero, List.set_cons_succ]
      refine wpAnyH_take (i := 3) (v := .int .i64 k) rfl (by kernel_rfl) (by kernel_rfl) (by kernel_rfl) (fun _ _ _ h => h) (Or.inl ⟨by rfl, fun w' _ => by go_simp⟩) hS1 ?_
      change wpAnyH _ _ _ _ _ _ _ (Act.put _ (some 25) _) _
      simp only [Act.put, List.setIfInBounds_toArray, List.set_cons_zero, List.set_cons_succ]
      refine wpAnyH_take (i := 4) (v := Value.pointer (some ⟨b, o + k * 2, none⟩)) rfl (by kernel_rfl) (by kernel_rfl) (by kernel_rfl) (fun _ _ _ h => h) (Or.inl ⟨by rfl, fun w' _ => by go_simp⟩) hS1 ?_
      change wpAnyH _ _ _ _ _ _ _ (Act.put _ (some 26) _) _
      simp only [Act.put, List.setIfInBounds_toArray, List.set_cons_zero, List.set_cons_succ]
      refine wpAnyH_take (i := 5) (v := Value.pointer (some ⟨b, o + k * 2, none⟩)) rfl (by kernel_rfl) (by kernel_rfl) (by kernel_rfl) (fun _ _ _ h => h) (Or.inl ⟨by rfl, fun w' _ => by go_simp⟩) hS1 ?_
      change wpAnyH _ _ _ _ _ _ _ (Act.put _ (some 27) _) _
      simp only [Act.put, List.setIfInBounds_toArray, List.set_cons_zero, List.set_cons_succ]
      refine wpAnyH_take (i := 6) (v := .int .i16 x) rfl (by kernel_rfl) (by kernel_rfl) (by kernel_rfl) (fun _ _ _ h => h) (Or.inl ⟨by rfl, fun w' h => ?_⟩) hS1 ?_
      · have c0 := h.1
        clear h
        go_simp
      change wpAnyH _ _ _ _ _ _ _ (Act.put _ (some 28) _) _
      simp only [Act.put, List.setIfInBounds_toArray, List.set_cons_zero, List.set_cons_succ]
      refine wpAnyH_take (i := 7) (v := .int .i16 (lst - x)) rfl (by kernel_rfl) (by kernel_rfl) (by kernel_rfl) (fun _ _ _ h => h) (Or.inl ⟨by rfl, fun w' _ => by go_simp⟩) hS1 ?_
      change wpAnyH _ _ _ _ _ _ _ (Act.put _ (some 29) _) _
      simp only [Act.put, List.setIfInBounds_toArray, List.set_cons_zero, List.set_cons_succ]
      refine wpAnyH_take (i := 8) (v := .slice (some ⟨b, o, none⟩) l.length c) rfl (by kernel_rfl) (by kernel_rfl) (by kernel_rfl) (fun _ _ _ h => h) (Or.inl ⟨by rfl, fun w' _ => by go_simp⟩) hS1 ?_
      change wpAnyH _ _ _ _ _ _ _ (Act.put _ (some 30) _) _
      simp only [Act.put, List.setIfInBounds_toArray, List.set_cons_zero, List.set_cons_succ]
      refine wpAnyH_take (i := 9) (v := .int .i64 k) rfl (by kernel_rfl) (by kernel_rfl) (by kernel_rfl) (fun _ _ _ h => h) (Or.inl ⟨by rfl, fun w' _ => by go_simp⟩) hS1 ?_
      change wpAnyH _ _ _ _ _ _ _ (Act.put _ (some 31) _) _
      simp only [Act.put, List.setIfInBounds_toArray, List.set_cons_zero, List.set_cons_succ]
      refine wpAnyH_take (i := 10) (v := Value.pointer (some ⟨b, o + k * 2, none⟩)) rfl (by kernel_rfl) (by kernel_rfl) (by kernel_rfl) (fun _ _ _ h => h) (Or.inl ⟨by rfl, fun w' _ => by go_simp⟩) hS1 ?_
      change wpAnyH _ _ _ _ _ _ _ (Act.put _ (some 32) _) _
      simp only [Act.put, List.setIfInBounds_toArray, List.set_cons_zero, List.set_cons_succ]
      refine wpAnyH_take (i := 11) (v := Value.pointer (some ⟨b, o + k * 2 + 1, none⟩)) rfl (by kernel_rfl) (by kernel_rfl) (by kernel_rfl) (fun _ _ _ h => h) (Or.inl ⟨by rfl, fun w' _ => by go_simp⟩) hS1 ?_
      change wpAnyH _ _ _ _ _ _ _ (Act.put _ (some 33) _) _
      simp only [Act.put, List.setIfInBounds_toArray, List.set_cons_zero, List.set_cons_succ]
      refine wpAnyH_take (i := 12) (v := .int .i8 y) rfl (by kernel_rfl) (by kernel_rfl) (by kernel_rfl) (fun _ _ _ h => h) (Or.inl ⟨by rfl, fun w' h => ?_⟩) hS1 ?_
      · have c0 := h.2
        clear h
        go_simp
      change wpAnyH _ _ _ _ _ _ _ (Act.put _ (some 34) _) _
      simp only [Act.put, List.setIfInBounds_toArray, List.set_cons_zero, List.set_cons_succ]
      refine wpAnyH_take (i := 13) (v := .agg #[.int .i16 (lst - x), .int .i8 y]) rfl (by kernel_rfl) (by kernel_rfl) (by kernel_rfl) (fun _ _ _ h => h) (Or.inl ⟨by rfl, fun w' _ => by go_simp⟩) hS1 ?_
      change wpAnyH _ _ _ _ _ _ _ (Act.put _ (some 35) _) _
      simp only [Act.put, List.setIfInBounds_toArray, List.set_cons_zero, List.set_cons_succ]
      refine wpAnyH_ready (rs := [14]) (by kernel_rfl) (by simp) (AllReadyH.cons rfl ?_ AllReadyH.nil)
      intro K hK
      rw [if_pos (by rfl)]
      go_simp
      rw [← hW5]
      clear hW5
      refine hK.out _ _ ⟨s1, s2⟩ (fun hS2 => ?_)
      clear hK K hS1
      refine wpAnyH_ready (rs := [15]) (by kernel_rfl) (by simp) (AllReadyH.cons rfl ?_ AllReadyH.nil)
      intro K hK
      rw [if_pos (by rfl)]
      refine wp_append_own W5 (.tmp 22) (.tmp 36) 24 rfl w.heap.size 46 i0 (.agg #[.int .i16 0, .int .i8 0]) 2 4 Try.underlying24 hi hz0 hz1 hz2 rfl (by decide) _ _ _ rfl own8 ⟨wr.heap.size, 0, none⟩ 1 1 [.int .i16 (lst - x), .int .i8 y] rfl rfl hnew5 (fun x hx => by simp at hx; rcases hx with rfl | rfl <;> rfl) (by unfold maxLen; omega) (by omega) hb8.size ?_
      intro v6 w6 hown6 hgr6 hnil6
      have hb6 : Below w.heap.size w w6 := hb8.grown hgr6 hb8.size (fun j hj => (own8.lt j hj).1)
      have s3 := hgr6.cell s1 (fun e => by have h := (own8.lt b e.symm).1; omega)
      have s4 := hgr6.cell s2 (fun e => by have h := (own8.lt b e.symm).1; omega)
      refine hK.out _ _ ⟨s3, s4⟩ (fun hS3 => ?_)
      clear hK K hS2
      obtain ⟨A6, c6, rfl⟩ := own_shapeT hown6
      refine wpAnyH_take (i := 16) (v := .slice A6 (k + 1) c6) rfl (by kernel_rfl) (by kernel_rfl) (by kernel_rfl) (fun _ _ _ h => h) (Or.inl ⟨by rfl, fun w' _ => by go_simp⟩) hS3 ?_
      change wpAnyH _ _ _ _ _ _ _ (Act.put _ (some 5) _) _
      simp only [Act.put, List.setIfInBounds_toArray, List.set_cons_zero, List.set_cons_succ]
      refine wpAnyH_done (by kernel_rfl) ?_ _
      go_wp2
      go_roundw
      case rel => exact ⟨k + 1, hlt, by go_num, by rw [HL.out, cellsOf_append]; exact hown6, hb6⟩
      case measure => simp [intOf]; omega
    · obtain rfl : k = l.length := by omega
      have hnl := chL_len (bkP lst) l l.length
      have hown' : wr.ownsRow w.heap.size 46 2 (.slice A' (chL (bkP lst) l l.length).length c') (chL (bkP lst) l l.length).length (cellsOf (chL (bkP lst) l l.length)) := by rw [hnl]; exact hown
      have K2 := KS wr A' c' (NA.of_own hown')
      rw [hnl] at K2
      clear hnl hown'
      go_wp2_with fail
      refine K2.mono ?_
      rintro e w3 ⟨C3, q3, rfl, own3, hb3⟩
      go_wp2
      go_ret2
      rw [HX.out, HY.out]
      exact ⟨C3, q3, rfl, own_base own3 hb.size, hb.trans (hb3.mono hb.size)⟩
end Go.Proofs.Ytfjcomemgbmohaa
