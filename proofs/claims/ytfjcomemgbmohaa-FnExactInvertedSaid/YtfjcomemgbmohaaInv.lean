import Derived.Test.YtfjcomemgbmohaaBkw
namespace Go.Proofs.Ytfjcomemgbmohaa
open Go.RowKit
/-- inverted -/
def ivP (m a q : Int) : Int × Int := (a, 2 * m - q)
theorem iv_nodup {l : List (Int × Int)} (m : Int) (h : okB l = true) : (chL (ivP m) l l.length).Nodup :=
  chL_nodup (asc_of_ok h) fun x y _ _ hxy e => by
    have e1 := congrArg Prod.fst e
    have e2 := congrArg Prod.snd e
    simp only [ivP] at e1 e2
    unfold ltN at hxy
    omega
def ivC (l : List (Int × Int)) (x : Int) : Int := if okB l then (if inB x 0 47 then chC (ivP x) l else 4) else 1
def ivV (l : List (Int × Int)) (x : Int) : List (Int × Int) := if okB l && inB x 0 47 then chV (ivP x) l else []
theorem ivV_le (l : List (Int × Int)) (x : Int) : (ivV l x).length ≤ l.length := by
  unfold ivV
  split
  · exact chV_len _ _
  · simp
set_option maxRecDepth 20000 in
theorem inverted1_any (g : Nat) (m a q : Int) (w : World) (h1 : Nb w g m) (hd : -100000 ≤ m ∧ m ≤ 100000) (hq : -128 ≤ q ∧ q ≤ 127) :
    Calls Try.prog 53 #[.int .i64 a, .int .i64 q, .pointer (some ⟨g, 0, none⟩)] w fun e w' => e = .returned (.tuple #[.int .i64 a, .int .i64 (2 * m - q)]) ∧ Below w.heap.size w w' := by
  have e1 := Later.cell h1.1
  have hw1 : IntKind.i64.wrap (2 * m) = 2 * m := IntWalk.i64_in _ (by omega)
  have hw2 : IntKind.i64.wrap (2 * m - q) = 2 * m - q := IntWalk.i64_in _ (by omega)
  clear h1
  go_enter Try.func53, Try.ntmps53
  go_wp2_with fail
  refine wp_region_later (by kernel_rfl) (by kernel_rfl) ?_
  repeat (go_big_quiet_step (fail))
  refine wpQuiet_nil ?_
  rintro wz ⟨⟨_, hq'⟩, rfl⟩
  go_wp2
  go_ret2
  exact ⟨rfl, hq'⟩
set_option maxRecDepth 20000 in
set_option maxHeartbeats 2000000 in
theorem implInverted_any (A : Option Addr) (c : Nat) (l : List (Int × Int)) (x : Int) (w : World) (hA : NA w A l) (hn : l.length ≤ 1048576) (hwf : WF l) :
    Calls Try.prog 29 #[.slice A l.length c, .int .i64 x] w (OwnN w (ivV l x) (ivC l x)) := by
  have hmf : ∀ (fn : Fn) (first cap : Array Value) (w : World), (Instr.makeFunc fn first cap).run Try.prog w = .ok (.func fn first cap) w := fun _ _ _ _ => rfl
  have eg : ∀ args w, (callFunc 53 args).run Try.prog w = .ok (.enter 53 args) w := fun _ _ => by kernel_rfl
  obtain ⟨X, hX⟩ : ∃ X, X = w.alloc (.cells #[.int .i64 x] 2) := ⟨_, rfl⟩
  have hb0 : Below w.heap.size w X := by rw [hX]; exact (Below.refl _ _).alloc (Nat.le_refl _) _
  have N0 : Nb X w.heap.size x := by rw [hX]; exact ⟨by simp [go_sem], by simp⟩
  have KO := implValid_any A c l X (hA.below hb0) hn hwf
  cases ho : okB l
  · rw [ho] at KO
    have HX := hide (show ivC l x = 1 by simp [ivC, ho])
    have HY := hide (show ivV l x = [] by simp [ivV, ho])
    clear ho
    go_enter Try.func29, Try.ntmps29
    go_upto_region 1 with fail
    rw [← hX]
    clear hX
    go_wp2_with fail
    refine KO.mono ?_
    rintro e w1 ⟨rfl, hb1⟩
    have hb1' := step_below hb1 hb0
    go_wp2
    go_ret2
    rw [HX.out, HY.out]
    exact ownN_nil none 0 1 ⟨rfl, Or.inl ⟨rfl, rfl⟩⟩ hb1'
  rw [ho] at KO
  cases h1 : inB x 0 47
  · have K1 : ∀ W, Calls Try.prog 47 #[.int .i64 x, .int .i64 0, .int .i64 47] W fun e w' => e = .returned (.bool false) ∧ W = w' := fun W => by rw [← h1]; exact within_any _ _ _ W
    have HX := hide (show ivC l x = 4 by simp [ivC, ho, h1])
    have HY := hide (show ivV l x = [] by simp [ivV, h1])
    clear ho h1
    go_enter Try.func29, Try.ntmps29
    go_upto_region 1 with fail
    rw [← hX]
    clear hX
    go_wp2_with fail
    refine KO.mono ?_
    rintro e w1 ⟨rfl, hb1⟩
    have hb1' := step_below hb1 hb0
    have c0 := (N0.keep hb1).1
    go_wp2_with (go_at_call 47; with_reducible refine (K1 _).mono ?_; rintro e w' ⟨rfl, rfl⟩)
    go_ret2
    rw [HX.out, HY.out]
    exact ownN_nil none 0 4 ⟨rfl, Or.inl ⟨rfl, rfl⟩⟩ hb1'
  have K1 : ∀ W, Calls Try.prog 47 #[.int .i64 x, .int .i64 0, .int .i64 47] W fun e w' => e = .returned (.bool true) ∧ W = w' := fun W => by rw [← h1]; exact within_any _ _ _ W
  have hx : 0 ≤ x ∧ x ≤ 47 := by simpa [inB] using h1
  have HC := hide (show ivC l x = chC (ivP x) l by simp [ivC, ho, h1])
  have HV := hide (show ivV l x = chV (ivP x) l by simp [ivV, ho, h1])
  clear ho h1
  have KC : ∀ W, Below X.heap.size X W → Calls Try.prog 51 #[.slice A l.length c, .func (.func 53) #[] #[.pointer (some ⟨w.heap.size, 0, none⟩)]] W (OwnN W (chV (ivP x) l) (chC (ivP x) l)) := fun W hW =>
    changed_any 53 #[.pointer (some ⟨w.heap.size, 0, none⟩)] (ivP x) A c l W (hA.below (step_below hW hb0)) hn hwf eg fun V hV k hk => inverted1_any w.heap.size x (nAt l k) (nPi l k) V ((N0.keep hW).keep hV) (by omega) (hwf k hk).2
  obtain ⟨V, hV⟩ : ∃ V, V = chV (ivP x) l := ⟨_, rfl⟩
  obtain ⟨C, hC⟩ : ∃ C, C = chC (ivP x) l := ⟨_, rfl⟩
  rw [← hV] at KC HV
  rw [← hC] at KC HC
  clear hV hC eg
  go_enter Try.func29, Try.ntmps29
  go_upto_region 1 with fail
  rw [← hX]
  clear hX
  go_wp2_with fail
  refine KO.mono ?_
  rintro e w1 ⟨rfl, hb1⟩
  have b1 := step_below hb1 hb0
  have c0 := (N0.keep hb1).1
  have KC1 := KC w1 hb1
  go_wp2_with (go_at_call 47; with_reducible refine (K1 _).mono ?_; rintro e w' ⟨rfl, rfl⟩)
  refine KC1.mono ?_
  rintro e w2 ⟨C1, q1, rfl, own2, hb2⟩
  go_wp2
  go_ret2
  rw [HC.out, HV.out]
  exact ⟨C1, q1, rfl, own_base own2 b1.size, step_below hb2 b1⟩
set_option maxRecDepth 20000 in
set_option maxHeartbeats 4000000 in
theorem specInverted_any (A : Option Addr) (c : Nat) (l : List (Int × Int)) (z : Int) (w : World) (hA : NA w A l) (hn : l.length ≤ 1048576) (hwf : WF l) :
    Calls Try.prog 28 #[.slice A l.length c, .int .i64 z] w (OwnN w (ivV l z) (ivC l z)) := by
  obtain ⟨i0, hi, hz0, hz1, hz2⟩ := info_parts info46
  have KO := l01Ok_any A c l w hA hn hwf
  cases ho : okB l
  · rw [ho] at KO
    have HX := hide (show ivC l z = 1 by simp [ivC, ho])
    have HY := hide (show ivV l z = [] by simp [ivV, ho])
    clear ho
    go_enter Try.func28, Try.ntmps28
    go_wp2_with fail
    refine KO.mono ?_
    rintro e w1 ⟨rfl, hb1⟩
    go_wp2
    go_ret2
    rw [HX.out, HY.out]
    exact ownN_nil (some ⟨w1.heap.size, 0, none⟩) 0 1 (own_emptyT _ _ hb1.size) (hb1.alloc hb1.size _)
  rw [ho] at KO
  cases h1 : inB z 0 47
  · have K1 : ∀ W, Calls Try.prog 44 #[.int .i64 z, .int .i64 0, .int .i64 47] W fun e w' => e = .returned (.bool false) ∧ W = w' := fun W => by rw [← h1]; exact l00In_any _ _ _ W
    have HX := hide (show ivC l z = 4 by simp [ivC, ho, h1])
    have HY := hide (show ivV l z = [] by simp [ivV, h1])
    clear ho h1
    go_enter Try.func28, Try.ntmps28
    go_wp2_with fail
    refine KO.mono ?_
    rintro e w1 ⟨rfl, hb1⟩
    go_wp2_with (go_at_call 44; with_reducible refine (K1 _).mono ?_; rintro e w' ⟨rfl, rfl⟩)
    go_ret2
    rw [HX.out, HY.out]
    exact ownN_nil (some ⟨w1.heap.size, 0, none⟩) 0 4 (own_emptyT _ _ hb1.size) (hb1.alloc hb1.size _)
  have K1 : ∀ W, Calls Try.prog 44 #[.int .i64 z, .int .i64 0, .int .i64 47] W fun e w' => e = .returned (.bool true) ∧ W = w' := fun W => by rw [← h1]; exact l00In_any _ _ _ W
  obtain ⟨z1, z2⟩ : 0 ≤ z ∧ z ≤ 47 := by simpa [inB] using h1
  have HIN := hide (fun k hk => ok_in ho k hk)
  have HC := hide (show ivC l z = chC (ivP z) l by simp [ivC, ho, h1])
  have HV := hide (show ivV l z = chV (ivP z) l by simp [ivV, ho, h1])
  have HND := hide (iv_nodup z ho)
  clear ho h1
  have hw2m : IntKind.i64.wrap (2 * z) = 2 * z := IntWalk.i64_in _ (by omega)
  have KS : ∀ W C q, chO (ivP z) l l.length = true → NA W C (chL (ivP z) l l.length) → Calls Try.prog 37 #[.slice C (chL (ivP z) l l.length).length q] W (OwnT W (sortU (chL (ivP z) l l.length))) := fun W C q _ h => l01Sorted_any C q _ W h (by rw [chL_len]; exact hn) (fun k hk => by
    have hk' : k < l.length := by rw [chL_len] at hk; exact hk
    have e : (chL (ivP z) l l.length).getD k (0, 0) = ivP z (nAt l k) (nPi l k) := by simp [chL, List.getD, hk']
    have h2 := HIN.out k hk'
    simp only [nAt, nPi] at h2 e ⊢
    rw [e]
    simp only [ivP, nAt, nPi]
    omega)
  obtain ⟨pf, hpf⟩ : ∃ pf : Int → Int → Int × Int, pf = ivP z := ⟨_, rfl⟩
  rw [← hpf] at HC HV HND KS
  have HPF := hide hpf
  clear hpf
  go_enter Try.func28, Try.ntmps28
  go_wp2_with fail
  refine KO.mono ?_
  rintro e w1 ⟨rfl, hb1⟩
  clear KO
  have hal : Below w.heap.size w (w1.alloc (.cells #[] 46)) := hb1.alloc hb1.size _
  have hE : (w1.alloc (.cells #[] 46)).ownsRow w.heap.size 46 2 (.slice (some ⟨w1.heap.size, 0, none⟩) 0 0) 0 [] := own_emptyT _ _ hb1.size
  go_wp2_with (go_at_call 44; with_reducible refine (K1 _).mono ?_; rintro e w' ⟨rfl, rfl⟩)
  clear K1
  go_loopw [6, 7] (fun v i wr => ∃ k : Nat, k ≤ l.length ∧ i = .int .i64 k ∧ chO pf l k = true ∧ wr.ownsRow w.heap.size 46 2 v k (cellsOf (chL pf l k)) ∧ Below w.heap.size w wr)
    (fun _ i _ => l.length - (intOf i).toNat)
  case atStart => exact ⟨0, Nat.zero_le _, rfl, rfl, hE, hal⟩
  case round =>
    obtain ⟨k, hk, rfl, hok, hown, hb⟩ := hrel
    obtain ⟨A', c', rfl⟩ := own_shapeT hown
    by_cases hlt : k < l.length
    · obtain ⟨b, o, rfl, hbb, c1, c2⟩ := hA k hlt
      have d1 := (hb.cell (p := ⟨b, o + k * 2, none⟩) hbb).trans c1
      have d2 := (hb.cell (p := ⟨b, o + k * 2 + 1, none⟩) hbb).trans c2
      have h2 := HIN.out k hlt
      have hsu := chO_succ pf l k
      rw [hok, Bool.true_and] at hsu
      have HL := hide (chL_succ pf l k)
      have hxy : pf (nAt l k) (nPi l k) = (nAt l k, 2 * z - nPi l k) := by rw [HPF.out]; rfl
      rw [hxy] at hsu HL
      have HS := hide hsu
      obtain ⟨x, hx⟩ : ∃ x, x = nAt l k := ⟨_, rfl⟩
      obtain ⟨y, hy⟩ : ∃ y, y = 2 * z - nPi l k := ⟨_, rfl⟩
      have hw2 : IntKind.i64.wrap (2 * z - nPi l k) = y := by rw [hy]; exact IntWalk.i64_in _ (by omega)
      rw [← hx, ← hy] at HS HL
      rw [← hx] at d1 h2
      obtain ⟨⟨x1, x2⟩, n3, n4⟩ := h2
      have hy1 : -200 ≤ y ∧ y ≤ 200 := by omega
      clear hsu hok c1 c2 hxy hx hy
      have hs := hb.size
      cases h2 : inB y 0 47
      · have K2 : ∀ W, Calls Try.prog 44 #[.int .i64 y, .int .i64 0, .int .i64 47] W fun e w' => e = .returned (.bool false) ∧ W = w' := fun W => by rw [← h2]; exact l00In_any _ _ _ W
        have hcn := chO_no (HS.out.trans (show noteB x y = false by simp [noteB, inB] at h2 ⊢; omega)) hlt
        have HX := hide (show chC pf l = 4 by simp [chC, hcn])
        have HY := hide (show chV pf l = [] by simp [chV, hcn])
        clear h2 hcn
        go_wp2_with (go_at_call 44; with_reducible refine (K2 _).mono ?_; rintro e w' ⟨rfl, rfl⟩)
        go_ret2
        rw [HC.out, HV.out, HX.out, HY.out]
        exact ownN_nil (some ⟨wr.heap.size, 0, none⟩) 0 4 (own_emptyT _ _ hs) (hb.alloc hs _)
      have K2 : ∀ W, Calls Try.prog 44 #[.int .i64 y, .int .i64 0, .int .i64 47] W fun e w' => e = .returned (.bool true) ∧ W = w' := fun W => by rw [← h2]; exact l00In_any _ _ _ W
      obtain ⟨y1, y2⟩ : 0 ≤ y ∧ y ≤ 47 := by simpa [inB] using h2
      have HOK := hide (HS.out.trans (show noteB x y = true by simp [noteB]; omega))
      have hw8 : IntKind.i8.wrap y = y := by simp [IntKind.wrap, IntKind.signed, IntKind.bits]; omega
      have hb3a := hb
      have own4 := hown.alloc (.cells #[.int .i16 x, .int .i8 y] 46)
      have hnew := cell_two_new' wr (.int .i16 x) (.int .i8 y) 46
      clear h2
      go_wp2_with (first | (go_at_call 44; with_reducible refine (K2 _).mono ?_; rintro e w' ⟨rfl, rfl⟩) | (at_builtin; refine wpList_append_own _ rfl _ _ 24 rfl w.heap.size 46 i0 (.agg #[.int .i16 0, .int .i8 0]) 2 4 Try.underlying24 hi hz0 hz1 hz2 rfl (by decide) _ _ _ rfl own4 ⟨wr.heap.size, 0, none⟩ 1 1 [.int .i16 x, .int .i8 y] rfl rfl hnew (fun x hx => by simp at hx; rcases hx with rfl | rfl <;> rfl) (by unfold maxLen; omega) (by omega) (by simp; have := hb3a.size; omega) ?_; intro v' w5 hown5 hgrow5 hnil5))
      have hb5 := (hb3a.alloc hb3a.size (.cells #[.int .i16 x, .int .i8 y] 46)).grown hgrow5 (by simp; have := hb3a.size; omega) (fun j hj => (hown.lt j hj).1)
      go_roundw
      case rel => exact ⟨k + 1, hlt, by go_num, HOK.out, by rw [HL.out, cellsOf_append]; exact hown5, hb5⟩
      case measure => simp [intOf]; omega
    · obtain rfl : k = l.length := by omega
      have HX := hide (show chC pf l = 0 by simp [chC, hok])
      have HY := hide (show chV pf l = sortU (chL pf l l.length) from chV_sort HND.out hok)
      have hnl := chL_len pf l l.length
      have hown' : wr.ownsRow w.heap.size 46 2 (.slice A' (chL pf l l.length).length c') (chL pf l l.length).length (cellsOf (chL pf l l.length)) := by rw [hnl]; exact hown
      have K2 := KS wr A' c' hok (NA.of_own hown')
      rw [hnl] at K2
      clear hnl hown' hok
      go_wp2_with fail
      refine K2.mono ?_
      rintro e w3 ⟨C3, q3, rfl, own3, hb3⟩
      go_wp2
      go_ret2
      rw [HC.out, HV.out, HX.out, HY.out]
      exact ⟨C3, q3, rfl, own_base own3 hb.size, hb.trans (hb3.mono hb.size)⟩
end Go.Proofs.Ytfjcomemgbmohaa
