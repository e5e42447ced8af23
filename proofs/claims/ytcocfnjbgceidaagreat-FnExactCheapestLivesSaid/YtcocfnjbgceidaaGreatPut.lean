import Derived.Test.YtcocfnjbgceidaaGreatGau
import Derived.Test.YtcocfnjbgceidaaGreatCpw
import Derived.Test.YtcocfnjbgceidaaGreatGaw
import Derived.Lib.AppendZeros
import Derived.Deep.RegionHeld3
namespace Go.Proofs.YtcocfnjbgceidaaGreat
open Go.RowKit Go.Maps
/-- the address of a slice's tail of worn pins -/
def tlA (A : Option Addr) (c k : Nat) : Option Addr := if c = k then A else A.map (·.add (k * 3))
theorem tl_run (A : Option Addr) (n c k : Nat) (hk : k ≤ n) (hc : n ≤ c) (w : World) : (Instr.slice 32 (.slice A n c) (some (.int .i64 k)) none none).run Tryz.prog w = .ok (.slice (tlA A c k) (n - k) (c - k)) w := by
  have hsz : (sizeOf 97).run Tryz.prog w = .ok 3 w := by kernel_rfl
  simp [Instr.slice, run_underlying Tryz.underlying32, Instr.sliceBounds, Instr.sliceBound, asIntOf, Result.andThen, hk, hsz, tlA]
theorem hd_run (A : Option Addr) (n c k : Nat) (hk : k ≤ c) (w : World) : (Instr.slice 32 (.slice A n c) none (some (.int .i64 k)) none).run Tryz.prog w = .ok (.slice (tlA A c 0) k c) w := by
  have hsz : (sizeOf 97).run Tryz.prog w = .ok 3 w := by kernel_rfl
  simp [Instr.slice, run_underlying Tryz.underlying32, Instr.sliceBounds, Instr.sliceBound, asIntOf, Result.andThen, hk, hsz, tlA]
theorem own_one {w : World} {base : Nat} (hb : base ≤ w.heap.size) (a b c : Int) : (w.alloc (.cells #[.int .i8 a, .int .i8 b, .int .i64 c] 97)).ownsRow base 97 3 (.slice (some ⟨w.heap.size, 0, none⟩) 1 1) 1 (wnC [(a, b, c)]) :=
  ⟨by simp [wnC], .inr ⟨w.heap.size, 1, _, rfl, hb, heap_alloc_new w _, Nat.le_refl _, by unfold maxLen; omega, by simp, by simp [wnC]⟩⟩
theorem wnS_drop (l : List Wp) (k j : Nat) : wnS (l.drop k) j = wnS l (k + j) ∧ wnT (l.drop k) j = wnT l (k + j) ∧ wnP (l.drop k) j = wnP l (k + j) := by simp [wnS, wnT, wnP, List.getD]
theorem wnS_take (l : List Wp) (k j : Nat) (h : j < k) : wnS (l.take k) j = wnS l j ∧ wnT (l.take k) j = wnT l j ∧ wnP (l.take k) j = wnP l j := by simp [wnS, wnT, wnP, List.getD, List.getElem?_take, h]
theorem WnA.tl {w : World} {A : Option Addr} {l : List Wp} (h : WnA w A l) (c k : Nat) (hc : l.length ≤ c) : WnA w (tlA A c k) (l.drop k) := by
  intro j hj
  rw [List.length_drop] at hj
  obtain ⟨b, o, rfl, hb, h1, h2, h3⟩ := h (k + j) (by omega)
  obtain ⟨e1, e2, e3⟩ := wnS_drop l k j
  rw [tlA, if_neg (by omega)]
  refine ⟨b, o + k * 3, by simp [Addr.add], hb, ?_, ?_, ?_⟩
  · rw [e1, ← h1]; congr 2; omega
  · rw [e2, ← h2]; congr 2; omega
  · rw [e3, ← h3]; congr 2; omega
theorem WnA.hd {w : World} {A : Option Addr} {l : List Wp} (h : WnA w A l) (c k : Nat) : WnA w (tlA A c 0) (l.take k) := by
  intro j hj
  rw [List.length_take] at hj
  obtain ⟨b, o, rfl, hb, h1, h2, h3⟩ := h j (by omega)
  obtain ⟨e1, e2, e3⟩ := wnS_take l k j (by omega)
  refine ⟨b, o, ?_, hb, by rw [e1]; exact h1, by rw [e2]; exact h2, by rw [e3]; exact h3⟩
  unfold tlA
  split <;> simp [Addr.add]
def PutG (l : List Wp) (x : Wp) (k : Nat) : Prop := ∀ j, j < k → befW (wnS l j) (wnT l j) x.1 x.2.1 = true
theorem insP_at : ∀ (l : List Wp) (x : Wp) (k : Nat), k ≤ l.length → PutG l x k → (k < l.length → befW (wnS l k) (wnT l k) x.1 x.2.1 = false) → insP l x = l.take k ++ x :: l.drop k
  | [], x, k, hk, _, _ => by
    obtain rfl : k = 0 := by simpa using hk
    simp [insP]
  | y :: l, x, 0, _, _, hn => by
    have := hn (by simp)
    simp [wnS, wnT] at this
    unfold insP
    rw [if_neg (by simp [befP, this])]
    simp
  | y :: l, x, k + 1, hk, hg, hn => by
    have h0 := hg 0 (by omega)
    simp [wnS, wnT] at h0
    unfold insP
    rw [if_pos (by simp [befP, h0]), insP_at l x k (by simpa using hk) (fun j hj => by simpa [wnS, wnT] using hg (j + 1) (by omega)) (fun h => by simpa [wnS, wnT] using hn (by simpa using h))]
    simp
/-- the place of a pin in a list, -1 if there is none -/
def fiJ (l : List Wp) (a b : Int) : Int := if hasP l a b then ((l.findIdx (atP a b) : Nat) : Int) else -1
def NoneG (l : List Wp) (a b : Int) (k : Nat) : Prop := ∀ j, j < k → ¬ (wnS l j = a ∧ wnT l j = b)
theorem fiJ_hit {l : List Wp} {a b : Int} {k : Nat} (hk : k < l.length) (hg : NoneG l a b k) (h1 : wnS l k = a) (h2 : wnT l k = b) : fiJ l a b = k := by
  have e : l.findIdx (atP a b) = k := by
    rw [List.findIdx_eq hk]
    refine ⟨by rw [wn_get l k hk]; simp [atP, h1, h2], fun j hj => ?_⟩
    have := hg j hj
    rw [wn_get l j (by omega)]
    simpa [atP] using this
  have hh : hasP l a b = true := hasP_iff.2 ⟨l[k], List.getElem_mem hk, by rw [wn_get l k hk]; exact ⟨h1, h2⟩⟩
  rw [fiJ, if_pos hh, e]
theorem fiJ_miss {l : List Wp} {a b : Int} (hg : NoneG l a b l.length) : fiJ l a b = -1 := by
  have hh : hasP l a b = false := by
    cases h : hasP l a b
    · rfl
    · obtain ⟨x, hx, e⟩ := hasP_iff.1 h
      obtain ⟨k, hk, rfl⟩ := List.mem_iff_getElem.1 hx
      rw [wn_get l k hk] at e
      exact absurd e (hg k hk)
  rw [fiJ, if_neg (by rw [hh]; decide)]
set_option maxRecDepth 20000 in
set_option maxHeartbeats 2000000 in
theorem l06Find_any (g : Nat) (P : Option Addr) (d : Nat) (l : List Wp) (a b : Int) (w : World) (hP : w.cell? ⟨g, 0, none⟩ = some (.slice P l.length d)) (hL : WnA w P l) (hl : l.length ≤ 1048576) (hlw : WnWF l) :
    Calls Tryz.prog 60 #[.pointer (some ⟨g, 0, none⟩), .int .i64 a, .int .i64 b] w fun e w' => e = .returned (.int .i64 (fiJ l a b)) ∧ w = w' := by
  go_enter Tryz.func60, Tryz.ntmps60
  go_wp2_with fail
  go_loop [7] (fun i => ∃ k : Nat, k ≤ l.length ∧ i = .int .i64 k ∧ NoneG l a b k) (fun i => l.length - (intOf i).toNat)
  case atStart => exact ⟨0, Nat.zero_le _, rfl, fun j hj => absurd hj (Nat.not_lt_zero _)⟩
  case round =>
    obtain ⟨k, hk, rfl, hG⟩ := hrel
    have HG := hide hG
    clear hG
    by_cases hlt : k < l.length
    · obtain ⟨b', o, rfl, hbb, c1, c2, c3⟩ := hL k hlt
      obtain ⟨⟨m1, m2⟩, ⟨m3, m4⟩, _⟩ := hlw k hlt
      have hki : (k : Int) < (l.length : Int) := by omega
      clear hL hlw c3
      by_cases h1 : wnS l k = a
      · subst h1
        by_cases h2 : wnT l k = b
        · subst h2
          have HX := hide (fiJ_hit hlt HG.out rfl rfl)
          go_wp2
          go_ret
          exact ⟨ret_int HX.out.symm, rfl⟩
        · have HN : Hid (NoneG l (wnS l k) b (k + 1)) := hide (fun j hj => by
            rcases Nat.lt_or_ge j k with h | h
            · exact HG.out j h
            · obtain rfl : j = k := by omega
              exact fun e => h2 e.2)
          have hb2 : (wnT l k == b) = false := by simpa using h2
          go_wp2
          go_round
          case rel => exact ⟨k + 1, hlt, by go_num, HN.out⟩
          case measure => simp [intOf]; omega
      · have HN : Hid (NoneG l a b (k + 1)) := hide (fun j hj => by
          rcases Nat.lt_or_ge j k with h | h
          · exact HG.out j h
          · obtain rfl : j = k := by omega
            exact fun e => h1 e.1)
        have hb1 : (wnS l k == a) = false := by simpa using h1
        go_wp2
        go_round
        case rel => exact ⟨k + 1, hlt, by go_num, HN.out⟩
        case measure => simp [intOf]; omega
    · obtain rfl : k = l.length := by omega
      have HX := hide (fiJ_miss HG.out)
      go_wp2
      go_ret
      exact ⟨ret_int HX.out.symm, rfl⟩
set_option maxRecDepth 20000 in
set_option maxHeartbeats 4000000 in
theorem l06Put_any (P : Option Addr) (d : Nat) (l : List Wp) (a b c : Int) (w : World) (hL : WnA w P l) (hl : l.length ≤ 1048576) (hd : l.length ≤ d) (hlw : WnWF l) :
    Calls Tryz.prog 61 #[.slice P l.length d, .agg #[.int .i8 a, .int .i8 b, .int .i64 c]] w (OwnWn w (insP l (a, b, c))) := by
  obtain ⟨i0, hi, hz0, hz1, hz2⟩ := info_parts info97
  obtain ⟨X, hX⟩ : ∃ X, X = w.alloc (.cells #[.int .i8 a, .int .i8 b, .int .i64 c] 97) := ⟨_, rfl⟩
  have b0 : Below w.heap.size w X := by rw [hX]; exact (Below.refl _ _).alloc (Nat.le_refl _) _
  have P0 : Bk X w.heap.size 97 #[.int .i8 a, .int .i8 b, .int .i64 c] := by rw [hX]; exact Bk.new _ _ _ rfl
  have hX1 := P0.lt
  go_enter Tryz.func61, Tryz.ntmps61
  go_upto_region 1 with fail
  rw [← hX]
  clear hX
  go_wp2_with fail
  go_loopw [5] (fun i wr => ∃ k : Nat, k ≤ l.length ∧ i = .int .i64 k ∧ PutG l (a, b, c) k ∧ Below X.heap.size X wr)
    (fun i _ => l.length - (intOf i).toNat)
  case atStart => exact ⟨0, Nat.zero_le _, rfl, fun j hj => absurd hj (Nat.not_lt_zero _), Below.refl _ _⟩
  case round =>
    obtain ⟨k, hk, rfl, hG, hb⟩ := hrel
    have HG := hide hG
    have bw := b0.trans (hb.mono b0.size)
    have Pk := P0.keep hb
    have f0 := Later.cell (Pk.cell (i := 0) rfl)
    have f1 := Later.cell (Pk.cell (i := 1) rfl)
    have f2 := Later.cell (Pk.cell (i := 2) rfl)
    have hs := hb.size
    clear hG
    have stop : (k < l.length → befW (wnS l k) (wnT l k) a b = false) → True := fun _ => trivial
    by_cases hlt : k < l.length
    · obtain ⟨b', o, rfl, hbb, c1, c2, c3⟩ := hL k hlt
      have d1 := Later.cell ((bw.cell (p := ⟨b', o + k * 3, none⟩) hbb).trans c1)
      have d2 := Later.cell ((bw.cell (p := ⟨b', o + k * 3 + 1, none⟩) hbb).trans c2)
      have d3 := Later.cell ((bw.cell (p := ⟨b', o + k * 3 + 2, none⟩) hbb).trans c3)
      have hki : (k : Int) < (l.length : Int) := by omega
      have K0 := fun W => l06Before_any (wnS l k) (wnT l k) (wnP l k) a b c W
      clear c1 c2 c3
      cases hbf : befW (wnS l k) (wnT l k) a b
      · rw [hbf] at K0
        have HN := hide (insP_at l (a, b, c) k hk HG.out (fun _ => hbf))
        clear hbf
        go_wp2_with fail
        refine wp_region_later (by kernel_rfl) (by kernel_rfl) ?_
        repeat (go_big_quiet_step ((go_at_call 77; exact Later.call (K0 _))))
        refine wpQuiet_nil ?_
        rintro wq ⟨⟨_, hq⟩, rfl⟩
        go_wp2_with fail
        have bq := bw.trans (hq.mono bw.size)
        have Pq := P0.keep ((hb.trans (hq.mono hs)))
        have hLq := hL.below bq
        obtain ⟨v2, hv2⟩ : ∃ X, X = wq.drew := ⟨_, rfl⟩
        have tb2 : Below w.heap.size w v2 := by rw [hv2]; exact bq.drew
        have P2 : Bk v2 w.heap.size 97 #[.int .i8 a, .int .i8 b, .int .i64 c] := by rw [hv2]; exact Pq.keep (Below.refl _ _).drew
        have gw2 : w.heap.size < v2.heap.size := P2.lt
        refine wp_region_held_drew (S := fun w' => w'.cell? ⟨w.heap.size, 0, none⟩ = some (.int .i8 a) ∧ w'.cell? ⟨w.heap.size, 1, none⟩ = some (.int .i8 b) ∧ w'.cell? ⟨w.heap.size, 2, none⟩ = some (.int .i64 c)) (by kernel_rfl) (by rw [← hv2]; exact ⟨P2.cell (i := 0) rfl, P2.cell (i := 1) rfl, P2.cell (i := 2) rfl⟩) fun hS1 => ?_
        rw [← hv2] at hS1 ⊢
        clear hv2
        have tl := fun W => tl_run (some ⟨b', o, none⟩) l.length d k hk hd W
        refine wpAnyH_take (i := 0) (v := .agg #[.int .i8 a, .int .i8 b, .int .i64 c]) rfl (by kernel_rfl) (by kernel_rfl) (by kernel_rfl) (fun _ _ _ h => h) (Or.inl ⟨by rfl, fun w' h => ?_⟩) hS1 ?_
        · obtain ⟨c0, c1, c2⟩ := h
          go_simp
        change wpAnyH _ _ _ _ _ _ _ (Act.put _ (some 21) _) _
        simp only [Act.put, List.setIfInBounds_toArray, List.set_cons_zero, List.set_cons_succ]
        refine wpAnyH_take (i := 2) (v := .slice (some ⟨b', o, none⟩) l.length d) rfl (by kernel_rfl) (by kernel_rfl) (by kernel_rfl) (fun _ _ _ h => h) (Or.inl ⟨by rfl, fun w' _ => by go_simp⟩) hS1 ?_
        change wpAnyH _ _ _ _ _ _ _ (Act.put _ (some 23) _) _
        simp only [Act.put, List.setIfInBounds_toArray, List.set_cons_zero, List.set_cons_succ]
        refine wpAnyH_take (i := 3) (v := .int .i64 (k : Nat)) rfl (by kernel_rfl) (by kernel_rfl) (by kernel_rfl) (fun _ _ _ h => h) (Or.inl ⟨by rfl, fun w' _ => by go_simp⟩) hS1 ?_
        change wpAnyH _ _ _ _ _ _ _ (Act.put _ (some 24) _) _
        simp only [Act.put, List.setIfInBounds_toArray, List.set_cons_zero, List.set_cons_succ]
        refine wpAnyH_take (i := 4) (v := .slice (tlA (some ⟨b', o, none⟩) d k) (l.length - k) (d - k)) rfl (by kernel_rfl) (by kernel_rfl) (by kernel_rfl) (fun _ _ _ h => h) (Or.inl ⟨by rfl, fun w' _ => by go_simp⟩) hS1 ?_
        change wpAnyH _ _ _ _ _ _ _ (Act.put _ (some 25) _) _
        simp only [Act.put, List.setIfInBounds_toArray, List.set_cons_zero, List.set_cons_succ]
        refine wpAnyH_ready (rs := [1]) (by kernel_rfl) (by simp) (AllReadyH.cons rfl ?_ AllReadyH.nil)
        have own3 := own_one (Nat.le_of_lt gw2) a b c
        have hb3 : Below v2.heap.size v2 (v2.alloc (.cells #[.int .i8 a, .int .i8 b, .int .i64 c] 97)) := (Below.refl _ _).alloc (Nat.le_refl _) _
        obtain ⟨v3, hX3⟩ : ∃ X, X = v2.alloc (.cells #[.int .i8 a, .int .i8 b, .int .i64 c] 97) := ⟨_, rfl⟩
        rw [← hX3] at own3 hb3
        have tb3 := tb2.trans (hb3.mono tb2.size)
        have P3 := P2.keep hb3
        intro K hK
        rw [if_pos (by rfl)]
        go_simp
        rw [← hX3]
        clear hX3
        refine hK.out _ _ ⟨P3.cell (i := 0) rfl, P3.cell (i := 1) rfl, P3.cell (i := 2) rfl⟩ (fun hS3 => ?_)
        clear hK K
        try (change wpAnyH _ _ _ _ _ _ _ (Act.put _ (some 22) _) _)
        try simp only [Act.put, List.setIfInBounds_toArray, List.set_cons_zero, List.set_cons_succ]
        refine wpAnyH_ready (rs := [5]) (by kernel_rfl) (by simp) (AllReadyH.cons rfl ?_ AllReadyH.nil)
        obtain ⟨A1, c1, v4, hr4, own4, gr4⟩ := run_append_wn v3 32 Tryz.underlying32 w.heap.size i0 hi hz0 hz1 hz2 _ 1 _ own3 (tlA (some ⟨b', o, none⟩) d k) (d - k) (l.drop k) ((hL.below tb3).tl d k hd) (by omega) (by rw [List.length_drop]; omega) tb3.size
        have hgb : ∀ j, (Value.slice (some ⟨v2.heap.size, 0, none⟩) 1 1).ownBlock = some j → w.heap.size < j := fun j hj => by simp [Value.ownBlock] at hj; omega
        have tb4 : Below w.heap.size w v4 := tb3.grown gr4 tb3.size (fun j hj => Nat.le_of_lt (hgb j hj))
        have P4 := P3.grown gr4 (fun e => by have := hgb _ e; omega)
        have own4' : v4.ownsRow w.heap.size 97 3 (.slice A1 ((a, b, c) :: l.drop k).length c1) ((a, b, c) :: l.drop k).length (wnC ((a, b, c) :: l.drop k)) := by
          have e : ((a, b, c) :: l.drop k).length = 1 + (l.drop k).length := by simp; omega
          rw [e]
          exact own4
        intro K hK
        rw [if_pos (by rfl)]
        rw [List.length_drop] at hr4
        refine Lib.wp_append_run v3 (.tmp 22) (.tmp 25) 32 32 rfl _ _ rfl rfl _ _ (hr4 _) ?_
        clear hr4 gr4 own4
        refine hK.out _ _ ⟨P4.cell (i := 0) rfl, P4.cell (i := 1) rfl, P4.cell (i := 2) rfl⟩ (fun hS4 => ?_)
        clear hK K
        change wpAnyH _ _ _ _ _ _ _ (Act.put _ (some 26) _) _
        simp only [Act.put, List.setIfInBounds_toArray, List.set_cons_zero, List.set_cons_succ]
        refine wpAnyH_take (i := 6) (v := .slice A1 (1 + (l.length - k)) c1) rfl (by kernel_rfl) (by kernel_rfl) (by kernel_rfl) (fun _ _ _ h => h) (Or.inl ⟨by rfl, fun w' _ => by go_simp⟩) hS4 ?_
        change wpAnyH _ _ _ _ _ _ _ (Act.put _ (some 6) _) _
        simp only [Act.put, List.setIfInBounds_toArray, List.set_cons_zero, List.set_cons_succ]
        refine wpAnyH_done (by kernel_rfl) ?_ _
        obtain ⟨m, hm⟩ : ∃ m, m = 1 + (l.length - k) := ⟨_, rfl⟩
        have hml : ((a, b, c) :: l.drop k).length = m := by rw [List.length_cons, List.length_drop, hm]; omega
        rw [hml] at own4'
        rw [← hm]
        have hd2 := fun W => hd_run (some ⟨b', o, none⟩) l.length d k (Nat.le_trans hk hd) W
        obtain ⟨v5, hX5⟩ : ∃ X, X = v4.alloc (.cells #[] 97) := ⟨_, rfl⟩
        have hb5 : Below v4.heap.size v4 v5 := by rw [hX5]; exact (Below.refl _ _).alloc (Nat.le_refl _) _
        have tb5 := tb4.trans (hb5.mono tb4.size)
        have hE : v5.ownsRow v4.heap.size 97 3 (.slice (some ⟨v4.heap.size, 0, none⟩) 0 0) 0 [] := by rw [hX5]; exact World.ownsRow_made v4 #[] 0 (Nat.le_refl _) (by unfold maxLen; omega) (by simp)
        obtain ⟨A2, c2_, v6, hr6, own6, gr6⟩ := run_append_wn v5 32 Tryz.underlying32 v4.heap.size i0 hi hz0 hz1 hz2 _ 0 [] hE (tlA (some ⟨b', o, none⟩) d 0) d (l.take k) ((hL.below tb5).hd d k) (by omega) (by rw [List.length_take]; omega) hb5.size
        simp only [Nat.zero_add, List.nil_append] at hr6 own6
        have ht : (l.take k).length = k := by rw [List.length_take]; omega
        rw [ht] at hr6 own6
        have hgb6 : ∀ j, (Value.slice (some ⟨v4.heap.size, 0, none⟩) 0 0).ownBlock = some j → v4.heap.size ≤ j := fun j hj => by simp [Value.ownBlock] at hj; omega
        have hb6 : Below v4.heap.size v4 v6 := hb5.grown gr6 hb5.size hgb6
        have tb6 := tb4.trans (hb6.mono tb4.size)
        have own46 := own_keep own4' hb6
        obtain ⟨A3, c3_, v7, hr7, own7, gr7⟩ := run_append_wn v6 32 Tryz.underlying32 v4.heap.size i0 hi hz0 hz1 hz2 _ k _ own6 A1 c1 ((a, b, c) :: l.drop k) (WnA.of_own (by rw [hml]; exact own46)) (by omega) (by rw [hml]; omega) hb6.size
        rw [hml] at hr7 own7
        have tb7 : Below w.heap.size w v7 := tb6.grown gr7 tb6.size (fun j hj => Nat.le_trans tb4.size (own6.lt j hj).1)
        rw [← wnC_append, ← HN.out] at own7
        have hfin : (insP l (a, b, c)).length = k + m := by rw [HN.out, List.length_append, List.length_take, hml]; omega
        have HF := hide hfin
        clear hS1 hS3 hS4 P2 P3 P4 own3 own4' own6 own46 hE gr6 gr7 tb5 tb6 hb5 hb6 hml hm ht hfin tl
        subst hX5
        go_upto_region 5 with fail
        go_wp2_with (first | (at_builtin; with_reducible refine Lib.wpList_append_run _ rfl (.tmp 27) (.tmp 30) _ _ rfl _ _ rfl rfl _ _ (hr6 _) ?_) | (at_builtin; with_reducible refine Lib.wpList_append_run _ rfl (.tmp 31) (.tmp 32) _ _ rfl _ _ rfl rfl _ _ (hr7 _) ?_))
        go_ret
        exact ⟨A3, c3_, by rw [HF.out] <;> rfl, by rw [HF.out]; exact own_base own7 tb4.size, tb7⟩
      · rw [hbf] at K0
        have HN : Hid (PutG l (a, b, c) (k + 1)) := hide (fun j hj => by
          rcases Nat.lt_or_ge j k with h | h
          · exact HG.out j h
          · obtain rfl : j = k := by omega
            exact hbf)
        clear hbf
        go_wp2_with fail
        refine wp_region_later (by kernel_rfl) (by kernel_rfl) ?_
        repeat (go_big_quiet_step ((go_at_call 77; exact Later.call (K0 _))))
        refine wpQuiet_nil ?_
        rintro wq ⟨⟨_, hq⟩, rfl⟩
        go_wp2
        go_roundw
        case rel => exact ⟨k + 1, hlt, by go_num, HN.out, hb.trans (hq.mono hs)⟩
        case measure => simp [intOf]; omega
    · have HN := hide (insP_at l (a, b, c) k hk HG.out (fun h => absurd h hlt))
      have hki : ¬ ((k : Int) < (l.length : Int)) := by omega
      go_wp2_with fail
      refine wp_region_later (by kernel_rfl) (by kernel_rfl) ?_
      repeat (go_big_quiet_step (fail))
      refine wpQuiet_nil ?_
      rintro wq ⟨⟨_, hq⟩, rfl⟩
      go_wp2_with fail
      have bq := bw.trans (hq.mono bw.size)
      have Pq := P0.keep ((hb.trans (hq.mono hs)))
      have hLq := hL.below bq
      obtain ⟨v2, hv2⟩ : ∃ X, X = wq.drew := ⟨_, rfl⟩
      have tb2 : Below w.heap.size w v2 := by rw [hv2]; exact bq.drew
      have P2 : Bk v2 w.heap.size 97 #[.int .i8 a, .int .i8 b, .int .i64 c] := by rw [hv2]; exact Pq.keep (Below.refl _ _).drew
      have gw2 : w.heap.size < v2.heap.size := P2.lt
      refine wp_region_held_drew (S := fun w' => w'.cell? ⟨w.heap.size, 0, none⟩ = some (.int .i8 a) ∧ w'.cell? ⟨w.heap.size, 1, none⟩ = some (.int .i8 b) ∧ w'.cell? ⟨w.heap.size, 2, none⟩ = some (.int .i64 c)) (by kernel_rfl) (by rw [← hv2]; exact ⟨P2.cell (i := 0) rfl, P2.cell (i := 1) rfl, P2.cell (i := 2) rfl⟩) fun hS1 => ?_
      rw [← hv2] at hS1 ⊢
      clear hv2
      have tl := fun W => tl_run P l.length d k hk hd W
      refine wpAnyH_take (i := 0) (v := .agg #[.int .i8 a, .int .i8 b, .int .i64 c]) rfl (by kernel_rfl) (by kernel_rfl) (by kernel_rfl) (fun _ _ _ h => h) (Or.inl ⟨by rfl, fun w' h => ?_⟩) hS1 ?_
      · obtain ⟨c0, c1, c2⟩ := h
        go_simp
      change wpAnyH _ _ _ _ _ _ _ (Act.put _ (some 21) _) _
      simp only [Act.put, List.setIfInBounds_toArray, List.set_cons_zero, List.set_cons_succ]
      refine wpAnyH_take (i := 2) (v := .slice P l.length d) rfl (by kernel_rfl) (by kernel_rfl) (by kernel_rfl) (fun _ _ _ h => h) (Or.inl ⟨by rfl, fun w' _ => by go_simp⟩) hS1 ?_
      change wpAnyH _ _ _ _ _ _ _ (Act.put _ (some 23) _) _
      simp only [Act.put, List.setIfInBounds_toArray, List.set_cons_zero, List.set_cons_succ]
      refine wpAnyH_take (i := 3) (v := .int .i64 (k : Nat)) rfl (by kernel_rfl) (by kernel_rfl) (by kernel_rfl) (fun _ _ _ h => h) (Or.inl ⟨by rfl, fun w' _ => by go_simp⟩) hS1 ?_
      change wpAnyH _ _ _ _ _ _ _ (Act.put _ (some 24) _) _
      simp only [Act.put, List.setIfInBounds_toArray, List.set_cons_zero, List.set_cons_succ]
      refine wpAnyH_take (i := 4) (v := .slice (tlA P d k) (l.length - k) (d - k)) rfl (by kernel_rfl) (by kernel_rfl) (by kernel_rfl) (fun _ _ _ h => h) (Or.inl ⟨by rfl, fun w' _ => by go_simp⟩) hS1 ?_
      change wpAnyH _ _ _ _ _ _ _ (Act.put _ (some 25) _) _
      simp only [Act.put, List.setIfInBounds_toArray, List.set_cons_zero, List.set_cons_succ]
      refine wpAnyH_ready (rs := [1]) (by kernel_rfl) (by simp) (AllReadyH.cons rfl ?_ AllReadyH.nil)
      have own3 := own_one (Nat.le_of_lt gw2) a b c
      have hb3 : Below v2.heap.size v2 (v2.alloc (.cells #[.int .i8 a, .int .i8 b, .int .i64 c] 97)) := (Below.refl _ _).alloc (Nat.le_refl _) _
      obtain ⟨v3, hX3⟩ : ∃ X, X = v2.alloc (.cells #[.int .i8 a, .int .i8 b, .int .i64 c] 97) := ⟨_, rfl⟩
      rw [← hX3] at own3 hb3
      have tb3 := tb2.trans (hb3.mono tb2.size)
      have P3 := P2.keep hb3
      intro K hK
      rw [if_pos (by rfl)]
      go_simp
      rw [← hX3]
      clear hX3
      refine hK.out _ _ ⟨P3.cell (i := 0) rfl, P3.cell (i := 1) rfl, P3.cell (i := 2) rfl⟩ (fun hS3 => ?_)
      clear hK K
      try (change wpAnyH _ _ _ _ _ _ _ (Act.put _ (some 22) _) _)
      try simp only [Act.put, List.setIfInBounds_toArray, List.set_cons_zero, List.set_cons_succ]
      refine wpAnyH_ready (rs := [5]) (by kernel_rfl) (by simp) (AllReadyH.cons rfl ?_ AllReadyH.nil)
      obtain ⟨A1, c1, v4, hr4, own4, gr4⟩ := run_append_wn v3 32 Tryz.underlying32 w.heap.size i0 hi hz0 hz1 hz2 _ 1 _ own3 (tlA P d k) (d - k) (l.drop k) ((hL.below tb3).tl d k hd) (by omega) (by rw [List.length_drop]; omega) tb3.size
      have hgb : ∀ j, (Value.slice (some ⟨v2.heap.size, 0, none⟩) 1 1).ownBlock = some j → w.heap.size < j := fun j hj => by simp [Value.ownBlock] at hj; omega
      have tb4 : Below w.heap.size w v4 := tb3.grown gr4 tb3.size (fun j hj => Nat.le_of_lt (hgb j hj))
      have P4 := P3.grown gr4 (fun e => by have := hgb _ e; omega)
      have own4' : v4.ownsRow w.heap.size 97 3 (.slice A1 ((a, b, c) :: l.drop k).length c1) ((a, b, c) :: l.drop k).length (wnC ((a, b, c) :: l.drop k)) := by
        have e : ((a, b, c) :: l.drop k).length = 1 + (l.drop k).length := by simp; omega
        rw [e]
        exact own4
      intro K hK
      rw [if_pos (by rfl)]
      rw [List.length_drop] at hr4
      refine Lib.wp_append_run v3 (.tmp 22) (.tmp 25) 32 32 rfl _ _ rfl rfl _ _ (hr4 _) ?_
      clear hr4 gr4 own4
      refine hK.out _ _ ⟨P4.cell (i := 0) rfl, P4.cell (i := 1) rfl, P4.cell (i := 2) rfl⟩ (fun hS4 => ?_)
      clear hK K
      change wpAnyH _ _ _ _ _ _ _ (Act.put _ (some 26) _) _
      simp only [Act.put, List.setIfInBounds_toArray, List.set_cons_zero, List.set_cons_succ]
      refine wpAnyH_take (i := 6) (v := .slice A1 (1 + (l.length - k)) c1) rfl (by kernel_rfl) (by kernel_rfl) (by kernel_rfl) (fun _ _ _ h => h) (Or.inl ⟨by rfl, fun w' _ => by go_simp⟩) hS4 ?_
      change wpAnyH _ _ _ _ _ _ _ (Act.put _ (some 6) _) _
      simp only [Act.put, List.setIfInBounds_toArray, List.set_cons_zero, List.set_cons_succ]
      refine wpAnyH_done (by kernel_rfl) ?_ _
      obtain ⟨m, hm⟩ : ∃ m, m = 1 + (l.length - k) := ⟨_, rfl⟩
      have hml : ((a, b, c) :: l.drop k).length = m := by rw [List.length_cons, List.length_drop, hm]; omega
      rw [hml] at own4'
      rw [← hm]
      have hd2 := fun W => hd_run P l.length d k (Nat.le_trans hk hd) W
      obtain ⟨v5, hX5⟩ : ∃ X, X = v4.alloc (.cells #[] 97) := ⟨_, rfl⟩
      have hb5 : Below v4.heap.size v4 v5 := by rw [hX5]; exact (Below.refl _ _).alloc (Nat.le_refl _) _
      have tb5 := tb4.trans (hb5.mono tb4.size)
      have hE : v5.ownsRow v4.heap.size 97 3 (.slice (some ⟨v4.heap.size, 0, none⟩) 0 0) 0 [] := by rw [hX5]; exact World.ownsRow_made v4 #[] 0 (Nat.le_refl _) (by unfold maxLen; omega) (by simp)
      obtain ⟨A2, c2_, v6, hr6, own6, gr6⟩ := run_append_wn v5 32 Tryz.underlying32 v4.heap.size i0 hi hz0 hz1 hz2 _ 0 [] hE (tlA P d 0) d (l.take k) ((hL.below tb5).hd d k) (by omega) (by rw [List.length_take]; omega) hb5.size
      simp only [Nat.zero_add, List.nil_append] at hr6 own6
      have ht : (l.take k).length = k := by rw [List.length_take]; omega
      rw [ht] at hr6 own6
      have hgb6 : ∀ j, (Value.slice (some ⟨v4.heap.size, 0, none⟩) 0 0).ownBlock = some j → v4.heap.size ≤ j := fun j hj => by simp [Value.ownBlock] at hj; omega
      have hb6 : Below v4.heap.size v4 v6 := hb5.grown gr6 hb5.size hgb6
      have tb6 := tb4.trans (hb6.mono tb4.size)
      have own46 := own_keep own4' hb6
      obtain ⟨A3, c3_, v7, hr7, own7, gr7⟩ := run_append_wn v6 32 Tryz.underlying32 v4.heap.size i0 hi hz0 hz1 hz2 _ k _ own6 A1 c1 ((a, b, c) :: l.drop k) (WnA.of_own (by rw [hml]; exact own46)) (by omega) (by rw [hml]; omega) hb6.size
      rw [hml] at hr7 own7
      have tb7 : Below w.heap.size w v7 := tb6.grown gr7 tb6.size (fun j hj => Nat.le_trans tb4.size (own6.lt j hj).1)
      rw [← wnC_append, ← HN.out] at own7
      have hfin : (insP l (a, b, c)).length = k + m := by rw [HN.out, List.length_append, List.length_take, hml]; omega
      have HF := hide hfin
      clear hS1 hS3 hS4 P2 P3 P4 own3 own4' own6 own46 hE gr6 gr7 tb5 tb6 hb5 hb6 hml hm ht hfin tl
      subst hX5
      go_upto_region 5 with fail
      go_wp2_with (first | (at_builtin; with_reducible refine Lib.wpList_append_run _ rfl (.tmp 27) (.tmp 30) _ _ rfl _ _ rfl rfl _ _ (hr6 _) ?_) | (at_builtin; with_reducible refine Lib.wpList_append_run _ rfl (.tmp 31) (.tmp 32) _ _ rfl _ _ rfl rfl _ _ (hr7 _) ?_))
      go_ret
      exact ⟨A3, c3_, by rw [HF.out] <;> rfl, by rw [HF.out]; exact own_base own7 tb4.size, tb7⟩
end Go.Proofs.YtcocfnjbgceidaaGreat
