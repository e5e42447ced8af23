import Derived.Test.YtehcghaficbhiaaSti
import Derived.Test.YtehcghaficbhiaaWs
namespace Go.Proofs.Ytehcghaficbhiaa
open Go.RowKit
theorem own_neF {w : World} {base g n : Nat} {e t : TypeId} {size : Nat} {v : Value} {xs : List Value} {cs : Array Value} (h : w.ownsRow base e size v n xs) (z : Bk w g t cs) (ht : t ≠ e) : v.ownBlock ≠ some g := by
  intro hv
  rcases h.2 with ⟨rfl, _⟩ | ⟨g', cap, cur, rfl, hb, hg, _⟩
  · cases hv
  · have hz : w.heap[g]? = some (.cells cs t (0, 0)) := z
    have e1 : g' = g := by simpa [Value.ownBlock] using hv
    subst e1
    rw [hg] at hz
    simp at hz
    exact ht hz.2.symm
theorem own_setF {w : World} {base g n : Nat} {e : TypeId} {size : Nat} {v : Value} {xs : List Value} (h : w.ownsRow base e size v n xs) (hne : v.ownBlock ≠ some g) (cs : Array Value) : (w.setRow g cs).ownsRow base e size v n xs :=
  h.kept (row := some g) ⟨rfl, rfl, rfl, by simp, fun k _ hk => setRow_other _ _ _ _ (fun e => hk (by rw [e]))⟩ (Or.inr hne)
theorem own_some {w : World} {base n c : Nat} {A : Option Addr} {e : TypeId} {size : Nat} {xs : List Value} (h : w.ownsRow base e size (.slice A n c) n xs) (hn : 0 < n) : ∃ g, A = some ⟨g, 0, none⟩ ∧ base ≤ g := by
  rcases h.2 with ⟨h', h0⟩ | ⟨g', cap, cur, h', hgb, _⟩
  · omega
  · simp at h'
    exact ⟨g', h'.1, hgb⟩
theorem of_u32 (x : Nat) (h : x < 4294967296) : (BitVec.ofInt 32 (x : Int)).toNat = x := by
  rw [BitVec.toNat_ofInt]
  omega
theorem xor_nat32 (x y : Nat) (hx : x < 4294967296) (hy : y < 4294967296) : bits .xor .u32 (x : Int) (y : Int) = ((x ^^^ y : Nat) : Int) := by
  have h : x ^^^ y < 2 ^ 32 := Nat.xor_lt_two_pow hx hy
  show IntKind.u32.wrap ((BitVec.ofInt 32 (x : Int) ^^^ BitVec.ofInt 32 (y : Int)).toNat : Int) = _
  rw [BitVec.toNat_xor, of_u32 x hx, of_u32 y hy]
  simp [IntKind.wrap, IntKind.bits, IntKind.signed]
  omega
theorem or_nat32 (x y : Nat) (hx : x < 4294967296) (hy : y < 4294967296) : bits .or .u32 (x : Int) (y : Int) = ((x ||| y : Nat) : Int) := by
  have h : x ||| y < 2 ^ 32 := Nat.or_lt_two_pow hx hy
  show IntKind.u32.wrap ((BitVec.ofInt 32 (x : Int) ||| BitVec.ofInt 32 (y : Int)).toNat : Int) = _
  rw [BitVec.toNat_or, of_u32 x hx, of_u32 y hy]
  simp [IntKind.wrap, IntKind.bits, IntKind.signed]
  omega
/-- turned one after the other, or at once -/
theorem xor_two {x : Int} {a b : Nat} (h0 : 0 ≤ x) (h1 : x ≤ 4294967295) (hne : a ≠ b) (ha : a < 24) (hb : b < 24) : bits .xor .u32 (bits .xor .u32 x (2 ^ a % 4294967296)) (2 ^ b % 4294967296) = swX x a b := by
  obtain ⟨n, rfl⟩ := Int.eq_ofNat_of_zero_le h0
  have hP : (2 : Nat) ^ a < 4294967296 := Nat.lt_of_lt_of_le (Nat.pow_lt_pow_right (by decide) ha) (by decide)
  have hQ : (2 : Nat) ^ b < 4294967296 := Nat.lt_of_lt_of_le (Nat.pow_lt_pow_right (by decide) hb) (by decide)
  have e1 : ((2 : Int) ^ a % 4294967296) = ((2 ^ a : Nat) : Int) := (pow_u32 a (by omega)).trans (by push_cast; rfl)
  have e2 : ((2 : Int) ^ b % 4294967296) = ((2 ^ b : Nat) : Int) := (pow_u32 b (by omega)).trans (by push_cast; rfl)
  have hx : n < 4294967296 := by omega
  rw [swX, e1, e2, xor_nat32 n _ hx hP, or_nat32 _ _ hP hQ, xor_nat32 _ _ (Nat.xor_lt_two_pow (n := 32) hx hP) hQ, xor_nat32 n _ hx (Nat.or_lt_two_pow (n := 32) hP hQ)]
  congr 1
  apply Nat.eq_of_testBit_eq
  intro i
  rw [Nat.testBit_xor, Nat.testBit_xor, Nat.testBit_xor, Nat.testBit_or, Nat.testBit_two_pow, Nat.testBit_two_pow]
  by_cases h : a = i
  · have h2 : ¬ b = i := fun e => hne (h.trans e.symm)
    simp [h, h2]
  · simp [h]
set_option maxRecDepth 20000 in
set_option maxHeartbeats 4000000 in
theorem specSwapTracks_any (s : Int) (A : Option Addr) (_c : Nat) (l : List (Int × Int)) (d : Nat → Int) (x y : Int) (w : World) (hA : HA w A l) (hn : l.length ≤ 1048576) (hwf : HWF l) (hs : -32768 ≤ s ∧ s ≤ 32767) (hd : DWF d) :
    Calls Try.prog 6 #[.agg #[.int .i16 s, .slice A l.length l.length], .agg (da d), .int .i64 x, .int .i64 y] w (FdC (swS s l d x y) (swL s l d x y) (swR s l d x y) (swC s l d x y) w) := by
  have hz := zeroDrum
  obtain ⟨X0, hX0⟩ : ∃ X, X = (((w.alloc (.cells #[.int .i16 s, .slice A l.length l.length] 31)).alloc (.cells (da d) 32)).alloc (.cells #[.int .i16 0, .slice none 0 0] 31)).alloc (.cells za 32) := ⟨_, rfl⟩
  have b0 : Below w.heap.size w X0 := by rw [hX0]; exact ((((Below.refl _ _).alloc (Nat.le_refl _) _).alloc (by simp) _).alloc (by simp; omega) _).alloc (by simp; omega) _
  have rA : X0.heap[w.heap.size]? = some (.cells #[.int .i16 s, .slice A l.length l.length] 31 (0, 0)) := by rw [hX0]; exact heap_old' (heap_old' (heap_old' (heap_alloc_new _ _)))
  have D0 : Dr X0 (w.heap.size + 1) 32 d := by rw [hX0]; exact heap_old' (heap_old' (heap_new' _ _ _ (by simp)))
  have RF0 : X0.heap[w.heap.size + 1 + 1]? = some (.cells #[.int .i16 0, .slice none 0 0] 31 (0, 0)) := by rw [hX0]; exact heap_old' (heap_new' _ _ _ (by simp))
  have RD0 : X0.heap[w.heap.size + 1 + 1 + 1]? = some (.cells (da fun _ => 0) 32 (0, 0)) := by rw [hX0, za_eq]; exact heap_new' _ _ _ (by simp)
  have hA0 := hA.below b0
  go_enter Try.func6, Try.ntmps6
  go_upto_region 1 with fail
  rw [← hX0]
  clear hX0 hz
  obtain ⟨i0, hi, hz0, hz1, hz2⟩ := info_parts info49
  have R0 : Bk X0 w.heap.size 31 #[.int .i16 s, .slice A l.length l.length] := rA
  clear rA
  go_wp2_with fail
  refine (l02Place_any _ _ s A l.length l d 0 x _ ⟨R0.cell (i := 0) rfl, R0.cell (i := 1) rfl⟩ D0 hA0 hn hwf hs hd).mono ?_
  rintro e w3 ⟨rfl, hb3⟩
  have b3 := step_below hb3 b0
  have R3 := R0.keep hb3
  have D3 := D0.keep hb3
  have RF3 := (hb3.block _ (Array.getElem?_eq_some_iff.1 RF0).1).trans RF0
  have RD3 := (hb3.block _ (Array.getElem?_eq_some_iff.1 RD0).1).trans RD0
  have hA3 := hA0.below hb3
  clear R0 D0 RF0 RD0 hA0 hb3
  cases ha : askB s l d
  · simp only [cod3]
    have hcc : swC s l d x y = 1 := by simp [swC, ha]
    have HX := hide hcc
    have HS := hide (show swS s l d x y = 0 by simp [swS, hcc])
    have HL := hide (show swL s l d x y = [] by simp [swL, hcc])
    have HY := hide (show swR s l d x y = fun _ => 0 by simp [swR, hcc])
    have hgl : w.heap.size + 1 + 1 + 1 < w3.heap.size := (Array.getElem?_eq_some_iff.1 RD3).1
    have RD9 : (w3.setRow (w.heap.size + 1 + 1) #[.int .i16 0, .slice none 0 0]).heap[w.heap.size + 1 + 1 + 1]? = some (.cells (da fun _ => 0) 32 (0, 0)) := (setRow_other _ _ _ _ (by omega)).trans RD3
    have HF := hide RF3
    have HZ := hide RD9
    have bE := below_setRow (cs := da fun _ => 0) (g := w.heap.size + 1 + 1 + 1) (below_setRow (cs := #[.int .i16 0, .slice none 0 0]) (g := w.heap.size + 1 + 1) b3 (by omega)) (by omega)
    clear hcc RD9 RF3 RD3 ha
    go_wp2_with (first | (with_reducible refine wpList_build0 rfl rfl ?_) | (with_reducible refine wpList_store_row rfl 31 (.tmp 8) (.tmp 22) rfl (w.heap.size + 1 + 1) #[.int .i16 0, .slice none 0 0] rfl rfl 31 _ HF.out (infoF2 _ _) (sz22 _ _ _ _) (oneF _ _ _ _) ?_) | (with_reducible refine wpList_store_row rfl 32 (.tmp 9) (.tmp 23) rfl (w.heap.size + 1 + 1 + 1) (da fun _ => 0) rfl rfl 32 _ HZ.out (by rw [da_size]; exact info32) (by simp only [da_size]) (da_one _) ?_))
    exact bodyPost_ret (v := .tuple #[.agg #[.int .i16 0, .slice none 0 0], .agg (da fun _ => 0), .int .i64 1]) (results_fd Try.results6 _ _ (w.heap.size + 1 + 1) (w.heap.size + 1 + 1 + 1) _ _ #[.int .i16 0, .slice none 0 0] _ _ rfl (by simp [Act.put]) (by simp [Act.put]) (by simp [Act.put]) ((setRow_other _ _ _ _ (by omega)).trans (setRow_heap _ _ _ _ _ _ HF.out)) (setRow_heap _ _ _ _ _ _ HZ.out)) rfl ⟨none, 0, by rw [HY.out, HX.out, HS.out, HL.out]; rfl, by rw [HL.out]; exact World.ownsRow_nil _ _ _ _, bE⟩
  cases hp : plB s l.length 0 x
  · simp only [cod3]
    have hcc : swC s l d x y = 2 := by simp [swC, ha, hp]
    have HX := hide hcc
    have HS := hide (show swS s l d x y = 0 by simp [swS, hcc])
    have HL := hide (show swL s l d x y = [] by simp [swL, hcc])
    have HY := hide (show swR s l d x y = fun _ => 0 by simp [swR, hcc])
    have hgl : w.heap.size + 1 + 1 + 1 < w3.heap.size := (Array.getElem?_eq_some_iff.1 RD3).1
    have RD9 : (w3.setRow (w.heap.size + 1 + 1) #[.int .i16 0, .slice none 0 0]).heap[w.heap.size + 1 + 1 + 1]? = some (.cells (da fun _ => 0) 32 (0, 0)) := (setRow_other _ _ _ _ (by omega)).trans RD3
    have HF := hide RF3
    have HZ := hide RD9
    have bE := below_setRow (cs := da fun _ => 0) (g := w.heap.size + 1 + 1 + 1) (below_setRow (cs := #[.int .i16 0, .slice none 0 0]) (g := w.heap.size + 1 + 1) b3 (by omega)) (by omega)
    clear hcc RD9 RF3 RD3 ha hp
    go_wp2_with (first | (with_reducible refine wpList_build0 rfl rfl ?_) | (with_reducible refine wpList_store_row rfl 31 (.tmp 8) (.tmp 22) rfl (w.heap.size + 1 + 1) #[.int .i16 0, .slice none 0 0] rfl rfl 31 _ HF.out (infoF2 _ _) (sz22 _ _ _ _) (oneF _ _ _ _) ?_) | (with_reducible refine wpList_store_row rfl 32 (.tmp 9) (.tmp 23) rfl (w.heap.size + 1 + 1 + 1) (da fun _ => 0) rfl rfl 32 _ HZ.out (by rw [da_size]; exact info32) (by simp only [da_size]) (da_one _) ?_))
    exact bodyPost_ret (v := .tuple #[.agg #[.int .i16 0, .slice none 0 0], .agg (da fun _ => 0), .int .i64 2]) (results_fd Try.results6 _ _ (w.heap.size + 1 + 1) (w.heap.size + 1 + 1 + 1) _ _ #[.int .i16 0, .slice none 0 0] _ _ rfl (by simp [Act.put]) (by simp [Act.put]) (by simp [Act.put]) ((setRow_other _ _ _ _ (by omega)).trans (setRow_heap _ _ _ _ _ _ HF.out)) (setRow_heap _ _ _ _ _ _ HZ.out)) rfl ⟨none, 0, by rw [HY.out, HX.out, HS.out, HL.out]; rfl, by rw [HL.out]; exact World.ownsRow_nil _ _ _ _, bE⟩
  simp only [cod3]
  have hfa := ask_all ha
  go_wp2_with fail
  refine (l02Place_any _ _ s A l.length l d 0 y _ ⟨R3.cell (i := 0) rfl, R3.cell (i := 1) rfl⟩ D3 hA3 hn hwf hs hd).mono ?_
  rintro e w5 ⟨rfl, hb5⟩
  have b5 := step_below hb5 b3
  have R5 := R3.keep hb5
  have D5 := D3.keep hb5
  have RF5 := (hb5.block _ (Array.getElem?_eq_some_iff.1 RF3).1).trans RF3
  have RD5 := (hb5.block _ (Array.getElem?_eq_some_iff.1 RD3).1).trans RD3
  have hA5 := hA3.below hb5
  clear R3 D3 RF3 RD3 hA3 hb5
  rw [ha]
  cases hq : plB s l.length 0 y
  · simp only [cod3]
    have hcc : swC s l d x y = 2 := by simp [swC, ha, hp, hq]
    have HX := hide hcc
    have HS := hide (show swS s l d x y = 0 by simp [swS, hcc])
    have HL := hide (show swL s l d x y = [] by simp [swL, hcc])
    have HY := hide (show swR s l d x y = fun _ => 0 by simp [swR, hcc])
    have hgl : w.heap.size + 1 + 1 + 1 < w5.heap.size := (Array.getElem?_eq_some_iff.1 RD5).1
    have RD9 : (w5.setRow (w.heap.size + 1 + 1) #[.int .i16 0, .slice none 0 0]).heap[w.heap.size + 1 + 1 + 1]? = some (.cells (da fun _ => 0) 32 (0, 0)) := (setRow_other _ _ _ _ (by omega)).trans RD5
    have HF := hide RF5
    have HZ := hide RD9
    have bE := below_setRow (cs := da fun _ => 0) (g := w.heap.size + 1 + 1 + 1) (below_setRow (cs := #[.int .i16 0, .slice none 0 0]) (g := w.heap.size + 1 + 1) b5 (by omega)) (by omega)
    clear hcc RD9 RF5 RD5 ha hp hq
    go_wp2_with (first | (with_reducible refine wpList_build0 rfl rfl ?_) | (with_reducible refine wpList_store_row rfl 31 (.tmp 8) (.tmp 22) rfl (w.heap.size + 1 + 1) #[.int .i16 0, .slice none 0 0] rfl rfl 31 _ HF.out (infoF2 _ _) (sz22 _ _ _ _) (oneF _ _ _ _) ?_) | (with_reducible refine wpList_store_row rfl 32 (.tmp 9) (.tmp 23) rfl (w.heap.size + 1 + 1 + 1) (da fun _ => 0) rfl rfl 32 _ HZ.out (by rw [da_size]; exact info32) (by simp only [da_size]) (da_one _) ?_))
    exact bodyPost_ret (v := .tuple #[.agg #[.int .i16 0, .slice none 0 0], .agg (da fun _ => 0), .int .i64 2]) (results_fd Try.results6 _ _ (w.heap.size + 1 + 1) (w.heap.size + 1 + 1 + 1) _ _ #[.int .i16 0, .slice none 0 0] _ _ rfl (by simp [Act.put]) (by simp [Act.put]) (by simp [Act.put]) ((setRow_other _ _ _ _ (by omega)).trans (setRow_heap _ _ _ _ _ _ HF.out)) (setRow_heap _ _ _ _ _ _ HZ.out)) rfl ⟨none, 0, by rw [HY.out, HX.out, HS.out, HL.out]; rfl, by rw [HL.out]; exact World.ownsRow_nil _ _ _ _, bE⟩
  simp only [cod3]
  obtain ⟨k0, t, hk0, hxt, _, htl⟩ := plB_nat hp
  obtain ⟨k1, u, hk1, hyu, _, hul⟩ := plB_nat hq
  have ht24 : t < 24 := by omega
  have hu24 : u < 24 := by omega
  have hcc : swC s l d x y = 0 := by simp [swC, ha, hp, hq]
  have HX := hide hcc
  have HS := hide (show swS s l d x y = s by simp [swS, hcc])
  have HL := hide (show swL s l d x y = exL l t u by rw [swL, if_pos hcc, show x.toNat = t by omega, show y.toNat = u by omega])
  have HY := hide (show swR s l d x y = swD d t u 96 by rw [swR, if_pos hcc, show x.toNat = t by omega, show y.toNat = u by omega])
  have HDR := hide hfa.2.2.2
  have hs2 : 2 ≤ s ∧ s ≤ 96 := hfa.1
  clear hk0 hk1 hcc ha hp hq hfa
  subst hxt hyu
  obtain ⟨B, o, rfl, _⟩ := hA5 t htl
  go_upto_region 6 with fail
  go_cut [12] from 25 to 32 (fun a wx => ∃ (F gc q : Nat) (W : World), a = .pointer (some ⟨F, 0, none⟩) ∧ W = wx ∧ Bk W F 31 #[.int .i16 s, .slice (some ⟨gc, 0, none⟩) l.length q] ∧ W.ownsRow w5.heap.size 49 2 (.slice (some ⟨gc, 0, none⟩) l.length q) l.length (hcells l) ∧ w5.heap.size ≤ F ∧ F ≠ gc ∧ w5.heap.size ≤ gc ∧ Below w5.heap.size w5 W)
  case first =>
    obtain ⟨v2, hv2⟩ : ∃ X, X = w5.drew := ⟨_, rfl⟩
    have tb2 : Below w5.heap.size w5 v2 := by rw [hv2]; exact (Below.refl _ _).drew
    have R2 := R5
    have R2' := R5.keep tb2
    refine wp_region_held_drew (S := fun w' => w'.cell? ⟨w.heap.size, 0, none⟩ = some (.int .i16 s) ∧ w'.cell? ⟨w.heap.size, 1, none⟩ = some (.slice (some ⟨B, o, none⟩) l.length l.length)) (by kernel_rfl) (by rw [← hv2]; exact ⟨R2'.cell (i := 0) rfl, R2'.cell (i := 1) rfl⟩) fun hS1 => ?_
    rw [← hv2] at hS1 ⊢
    clear hv2
    refine wpAnyH_take (i := 0) (v := .pointer (some ⟨w.heap.size, 0, none⟩)) rfl (by kernel_rfl) (by kernel_rfl) (by kernel_rfl) (fun _ _ _ h => h) (Or.inl ⟨by rfl, fun w' _ => by go_simp⟩) hS1 ?_
    change wpAnyH _ _ _ _ _ _ _ (Act.put _ (some 25) _) _
    simp only [Act.put, List.setIfInBounds_toArray, List.set_cons_zero, List.set_cons_succ]
    refine wpAnyH_take (i := 1) (v := .int .i16 s) rfl (by kernel_rfl) (by kernel_rfl) (by kernel_rfl) (fun _ _ _ h => h) (Or.inl ⟨by rfl, fun w' h => ?_⟩) hS1 ?_
    · have c0 := h.1
      clear h
      go_simp
    change wpAnyH _ _ _ _ _ _ _ (Act.put _ (some 26) _) _
    simp only [Act.put, List.setIfInBounds_toArray, List.set_cons_zero, List.set_cons_succ]
    refine wpAnyH_take (i := 3) (v := .pointer (some ⟨w.heap.size, 1, none⟩)) rfl (by kernel_rfl) (by kernel_rfl) (by kernel_rfl) (fun _ _ _ h => h) (Or.inl ⟨by rfl, fun w' _ => by go_simp⟩) hS1 ?_
    change wpAnyH _ _ _ _ _ _ _ (Act.put _ (some 28) _) _
    simp only [Act.put, List.setIfInBounds_toArray, List.set_cons_zero, List.set_cons_succ]
    refine wpAnyH_take (i := 4) (v := .slice (some ⟨B, o, none⟩) l.length l.length) rfl (by kernel_rfl) (by kernel_rfl) (by kernel_rfl) (fun _ _ _ h => h) (Or.inl ⟨by rfl, fun w' h => ?_⟩) hS1 ?_
    · have c0 := h.2
      clear h
      go_simp
    change wpAnyH _ _ _ _ _ _ _ (Act.put _ (some 29) _) _
    simp only [Act.put, List.setIfInBounds_toArray, List.set_cons_zero, List.set_cons_succ]
    refine wpAnyH_ready (rs := [2, 7]) (by kernel_rfl) (by simp) (AllReadyH.cons rfl ?_ (AllReadyH.cons rfl ?_ AllReadyH.nil))
    · skip
      obtain ⟨v3, hX3⟩ : ∃ X, X = v2.alloc (.cells #[] 49) := ⟨_, rfl⟩
      have hb3 : Below v2.heap.size v2 v3 := by rw [hX3]; exact (Below.refl _ _).alloc (Nat.le_refl _) _
      have tb3 := tb2.trans (hb3.mono tb2.size)
      have R3 := R2.keep tb3
      have gs3 : w5.heap.size ≤ v2.heap.size := tb2.size
      have own3 : v3.ownsRow w5.heap.size 49 2 (.slice (some ⟨v2.heap.size, 0, none⟩) 0 0) 0 [] := by rw [hX3]; exact own_emptyH _ _ gs3
      intro K hK
      rw [if_pos (by rfl)]
      go_simp
      rw [← hX3]
      clear hX3
      refine hK.out _ _ ⟨R3.cell (i := 0) rfl, R3.cell (i := 1) rfl⟩ (fun hS3 => ?_)
      clear hK K
      refine wpAnyH_ready (rs := [5, 7]) (by kernel_rfl) (by simp) (AllReadyH.cons rfl ?_ (AllReadyH.cons rfl ?_ AllReadyH.nil))
      · skip
        intro K hK
        rw [if_pos (by rfl)]
        refine wp_append_own v3 (.tmp 27) (.tmp 29) 29 rfl w5.heap.size 49 i0 (.agg #[.int .i8 0, .int .i8 0]) 2 2 Try.underlying29 hi hz0 hz1 hz2 rfl (by decide) _ _ _ rfl own3 ⟨B, o, none⟩ l.length l.length (hcells l) rfl (hcells_length l) (HA.cells (hA5.below tb3)) (hcells_one _) (by unfold maxLen; omega) (by omega) tb3.size ?_
        intro x4 v4 hown4 hgr4 hnil4
        clear hnil4
        have tb4 : Below w5.heap.size w5 v4 := tb3.grown hgr4 tb3.size (fun j hj => (own3.lt j hj).1)
        have R4 := R2.keep tb4
        clear hgr4
        obtain ⟨A9, c9, rfl⟩ := own_shapeH hown4
        simp only [Nat.zero_add, List.nil_append] at hown4 ⊢
        refine hK.out _ _ ⟨R4.cell (i := 0) rfl, R4.cell (i := 1) rfl⟩ (fun hS4 => ?_)
        clear hK K
        change wpAnyH _ _ _ _ _ _ _ (Act.put _ (some 30) _) _
        simp only [Act.put, List.setIfInBounds_toArray, List.set_cons_zero, List.set_cons_succ]
        refine wpAnyH_take (i := 6) (v := .agg #[.int .i16 s, .slice A9 l.length c9]) rfl (by kernel_rfl) (by kernel_rfl) (by kernel_rfl) (fun _ _ _ h => h) (Or.inl ⟨by rfl, fun w' _ => by go_simp⟩) hS4 ?_
        change wpAnyH _ _ _ _ _ _ _ (Act.put _ (some 31) _) _
        simp only [Act.put, List.setIfInBounds_toArray, List.set_cons_zero, List.set_cons_succ]
        refine wpAnyH_ready (rs := [7]) (by kernel_rfl) (by simp) (AllReadyH.cons rfl ?_ AllReadyH.nil)
        obtain ⟨v5, hX5⟩ : ∃ X, X = v4.alloc (.cells #[.int .i16 0, .slice none 0 0] 31) := ⟨_, rfl⟩
        have hb5 : Below v4.heap.size v4 v5 := by rw [hX5]; exact (Below.refl _ _).alloc (Nat.le_refl _) _
        have tb5 := tb4.trans (hb5.mono tb4.size)
        have R5 := R2.keep tb5
        have gs5 : w5.heap.size ≤ v4.heap.size := tb4.size
        have fz5 : Bk v5 v4.heap.size 31 #[.int .i16 0, .slice none 0 0] := by rw [hX5]; exact Bk.new _ _ _ rfl
        have own5 := own_keep hown4 hb5
        intro K hK
        rw [if_pos (by rfl)]
        go_simp
        rw [← hX5]
        clear hX5
        refine hK.out _ _ ⟨R5.cell (i := 0) rfl, R5.cell (i := 1) rfl⟩ (fun hS5 => ?_)
        clear hK K
        refine wpAnyH_ready (rs := [8]) (by kernel_rfl) (by simp) (AllReadyH.cons rfl ?_ AllReadyH.nil)
        intro K hK
        rw [if_pos (by rfl)]
        refine wp_store_row 31 (.tmp 12) (.tmp 31) rfl (v4.heap.size) #[.int .i16 s, .slice A9 l.length c9] rfl rfl 31 _ fz5 (infoF2 _ _) (sz22 _ _ _ _) (oneF _ _ _ _) ?_
        have tbE : Below w5.heap.size w5 (v5.setRow (v4.heap.size) #[.int .i16 s, .slice A9 l.length c9]) := below_setRow tb5 gs5
        have RE := R2.keep tbE
        have FE := fz5.setRow #[.int .i16 s, .slice A9 l.length c9]
        have neE := own_neF own5 fz5 (by decide)
        have owE := own_setF own5 neE #[.int .i16 s, .slice A9 l.length c9]
        refine hK.out _ _ ⟨RE.cell (i := 0) rfl, RE.cell (i := 1) rfl⟩ (fun hSE => ?_)
        clear hK K
        refine wpAnyH_done (by kernel_rfl) ?_ _
        obtain ⟨gc, rfl, hgc⟩ := own_some owE (by omega)
        have neE' : v4.heap.size ≠ gc := fun h => neE (by rw [h]; rfl)
        go_wp2_with fail
        go_meet
        exact ⟨_, gc, c9, _, rfl, rfl, FE, owE, gs5, neE', hgc, tbE⟩
      · skip
        obtain ⟨v6, hX6⟩ : ∃ X, X = v3.alloc (.cells #[.int .i16 0, .slice none 0 0] 31) := ⟨_, rfl⟩
        have hb6 : Below v3.heap.size v3 v6 := by rw [hX6]; exact (Below.refl _ _).alloc (Nat.le_refl _) _
        have tb6 := tb3.trans (hb6.mono tb3.size)
        have R6 := R2.keep tb6
        have gs6 : w5.heap.size ≤ v3.heap.size := tb3.size
        have fz6 : Bk v6 v3.heap.size 31 #[.int .i16 0, .slice none 0 0] := by rw [hX6]; exact Bk.new _ _ _ rfl
        have own6 := own_keep own3 hb6
        intro K hK
        rw [if_pos (by rfl)]
        go_simp
        rw [← hX6]
        clear hX6
        refine hK.out _ _ ⟨R6.cell (i := 0) rfl, R6.cell (i := 1) rfl⟩ (fun hS6 => ?_)
        clear hK K
        refine wpAnyH_ready (rs := [5]) (by kernel_rfl) (by simp) (AllReadyH.cons rfl ?_ AllReadyH.nil)
        intro K hK
        rw [if_pos (by rfl)]
        refine wp_append_own v6 (.tmp 27) (.tmp 29) 29 rfl w5.heap.size 49 i0 (.agg #[.int .i8 0, .int .i8 0]) 2 2 Try.underlying29 hi hz0 hz1 hz2 rfl (by decide) _ _ _ rfl own6 ⟨B, o, none⟩ l.length l.length (hcells l) rfl (hcells_length l) (HA.cells (hA5.below tb6)) (hcells_one _) (by unfold maxLen; omega) (by omega) tb6.size ?_
        intro x7 v7 hown7 hgr7 hnil7
        clear hnil7
        have tb7 : Below w5.heap.size w5 v7 := tb6.grown hgr7 tb6.size (fun j hj => (own6.lt j hj).1)
        have R7 := R2.keep tb7
        have fz7 := Bk.grown fz6 hgr7 (own_neF own6 fz6 (by decide))
        clear hgr7
        obtain ⟨A9, c9, rfl⟩ := own_shapeH hown7
        simp only [Nat.zero_add, List.nil_append] at hown7 ⊢
        refine hK.out _ _ ⟨R7.cell (i := 0) rfl, R7.cell (i := 1) rfl⟩ (fun hS7 => ?_)
        clear hK K
        change wpAnyH _ _ _ _ _ _ _ (Act.put _ (some 30) _) _
        simp only [Act.put, List.setIfInBounds_toArray, List.set_cons_zero, List.set_cons_succ]
        refine wpAnyH_take (i := 6) (v := .agg #[.int .i16 s, .slice A9 l.length c9]) rfl (by kernel_rfl) (by kernel_rfl) (by kernel_rfl) (fun _ _ _ h => h) (Or.inl ⟨by rfl, fun w' _ => by go_simp⟩) hS7 ?_
        change wpAnyH _ _ _ _ _ _ _ (Act.put _ (some 31) _) _
        simp only [Act.put, List.setIfInBounds_toArray, List.set_cons_zero, List.set_cons_succ]
        refine wpAnyH_ready (rs := [8]) (by kernel_rfl) (by simp) (AllReadyH.cons rfl ?_ AllReadyH.nil)
        intro K hK
        rw [if_pos (by rfl)]
        refine wp_store_row 31 (.tmp 12) (.tmp 31) rfl (v3.heap.size) #[.int .i16 s, .slice A9 l.length c9] rfl rfl 31 _ fz7 (infoF2 _ _) (sz22 _ _ _ _) (oneF _ _ _ _) ?_
        have tbE : Below w5.heap.size w5 (v7.setRow (v3.heap.size) #[.int .i16 s, .slice A9 l.length c9]) := below_setRow tb7 gs6
        have RE := R2.keep tbE
        have FE := fz7.setRow #[.int .i16 s, .slice A9 l.length c9]
        have neE := own_neF hown7 fz7 (by decide)
        have owE := own_setF hown7 neE #[.int .i16 s, .slice A9 l.length c9]
        refine hK.out _ _ ⟨RE.cell (i := 0) rfl, RE.cell (i := 1) rfl⟩ (fun hSE => ?_)
        clear hK K
        refine wpAnyH_done (by kernel_rfl) ?_ _
        obtain ⟨gc, rfl, hgc⟩ := own_some owE (by omega)
        have neE' : v3.heap.size ≠ gc := fun h => neE (by rw [h]; rfl)
        go_wp2_with fail
        go_meet
        exact ⟨_, gc, c9, _, rfl, rfl, FE, owE, gs6, neE', hgc, tbE⟩
    · skip
      obtain ⟨v8, hX8⟩ : ∃ X, X = v2.alloc (.cells #[.int .i16 0, .slice none 0 0] 31) := ⟨_, rfl⟩
      have hb8 : Below v2.heap.size v2 v8 := by rw [hX8]; exact (Below.refl _ _).alloc (Nat.le_refl _) _
      have tb8 := tb2.trans (hb8.mono tb2.size)
      have R8 := R2.keep tb8
      have gs8 : w5.heap.size ≤ v2.heap.size := tb2.size
      have fz8 : Bk v8 v2.heap.size 31 #[.int .i16 0, .slice none 0 0] := by rw [hX8]; exact Bk.new _ _ _ rfl
      intro K hK
      rw [if_pos (by rfl)]
      go_simp
      rw [← hX8]
      clear hX8
      refine hK.out _ _ ⟨R8.cell (i := 0) rfl, R8.cell (i := 1) rfl⟩ (fun hS8 => ?_)
      clear hK K
      refine wpAnyH_ready (rs := [2]) (by kernel_rfl) (by simp) (AllReadyH.cons rfl ?_ AllReadyH.nil)
      obtain ⟨v9, hX9⟩ : ∃ X, X = v8.alloc (.cells #[] 49) := ⟨_, rfl⟩
      have hb9 : Below v8.heap.size v8 v9 := by rw [hX9]; exact (Below.refl _ _).alloc (Nat.le_refl _) _
      have tb9 := tb8.trans (hb9.mono tb8.size)
      have R9 := R2.keep tb9
      have gs9 : w5.heap.size ≤ v8.heap.size := tb8.size
      have own9 : v9.ownsRow w5.heap.size 49 2 (.slice (some ⟨v8.heap.size, 0, none⟩) 0 0) 0 [] := by rw [hX9]; exact own_emptyH _ _ gs9
      have fz9 := fz8.keep hb9
      intro K hK
      rw [if_pos (by rfl)]
      go_simp
      rw [← hX9]
      clear hX9
      refine hK.out _ _ ⟨R9.cell (i := 0) rfl, R9.cell (i := 1) rfl⟩ (fun hS9 => ?_)
      clear hK K
      refine wpAnyH_ready (rs := [5]) (by kernel_rfl) (by simp) (AllReadyH.cons rfl ?_ AllReadyH.nil)
      intro K hK
      rw [if_pos (by rfl)]
      refine wp_append_own v9 (.tmp 27) (.tmp 29) 29 rfl w5.heap.size 49 i0 (.agg #[.int .i8 0, .int .i8 0]) 2 2 Try.underlying29 hi hz0 hz1 hz2 rfl (by decide) _ _ _ rfl own9 ⟨B, o, none⟩ l.length l.length (hcells l) rfl (hcells_length l) (HA.cells (hA5.below tb9)) (hcells_one _) (by unfold maxLen; omega) (by omega) tb9.size ?_
      intro x10 v10 hown10 hgr10 hnil10
      clear hnil10
      have tb10 : Below w5.heap.size w5 v10 := tb9.grown hgr10 tb9.size (fun j hj => (own9.lt j hj).1)
      have R10 := R2.keep tb10
      have fz10 := Bk.grown fz9 hgr10 (own_neF own9 fz9 (by decide))
      clear hgr10
      obtain ⟨A9, c9, rfl⟩ := own_shapeH hown10
      simp only [Nat.zero_add, List.nil_append] at hown10 ⊢
      refine hK.out _ _ ⟨R10.cell (i := 0) rfl, R10.cell (i := 1) rfl⟩ (fun hS10 => ?_)
      clear hK K
      change wpAnyH _ _ _ _ _ _ _ (Act.put _ (some 30) _) _
      simp only [Act.put, List.setIfInBounds_toArray, List.set_cons_zero, List.set_cons_succ]
      refine wpAnyH_take (i := 6) (v := .agg #[.int .i16 s, .slice A9 l.length c9]) rfl (by kernel_rfl) (by kernel_rfl) (by kernel_rfl) (fun _ _ _ h => h) (Or.inl ⟨by rfl, fun w' _ => by go_simp⟩) hS10 ?_
      change wpAnyH _ _ _ _ _ _ _ (Act.put _ (some 31) _) _
      simp only [Act.put, List.setIfInBounds_toArray, List.set_cons_zero, List.set_cons_succ]
      refine wpAnyH_ready (rs := [8]) (by kernel_rfl) (by simp) (AllReadyH.cons rfl ?_ AllReadyH.nil)
      intro K hK
      rw [if_pos (by rfl)]
      refine wp_store_row 31 (.tmp 12) (.tmp 31) rfl (v2.heap.size) #[.int .i16 s, .slice A9 l.length c9] rfl rfl 31 _ fz10 (infoF2 _ _) (sz22 _ _ _ _) (oneF _ _ _ _) ?_
      have tbE : Below w5.heap.size w5 (v10.setRow (v2.heap.size) #[.int .i16 s, .slice A9 l.length c9]) := below_setRow tb10 gs8
      have RE := R2.keep tbE
      have FE := fz10.setRow #[.int .i16 s, .slice A9 l.length c9]
      have neE := own_neF hown10 fz10 (by decide)
      have owE := own_setF hown10 neE #[.int .i16 s, .slice A9 l.length c9]
      refine hK.out _ _ ⟨RE.cell (i := 0) rfl, RE.cell (i := 1) rfl⟩ (fun hSE => ?_)
      clear hK K
      refine wpAnyH_done (by kernel_rfl) ?_ _
      obtain ⟨gc, rfl, hgc⟩ := own_some owE (by omega)
      have neE' : v2.heap.size ≠ gc := fun h => neE (by rw [h]; rfl)
      go_wp2_with fail
      go_meet
      exact ⟨_, gc, c9, _, rfl, rfl, FE, owE, gs8, neE', hgc, tbE⟩
  case rest =>
    obtain ⟨F, gc, q, W7, rfl, rfl, F7, own7, hF7, hne7, hgc7, tb7⟩ := hcut
    obtain ⟨hB5, hh0, hh1⟩ := ha_at hA5 t htl
    obtain ⟨_, gg0, gg1⟩ := ha_at hA5 u hul
    have hBg : B < w5.heap.size := hB5
    have hcx : ∀ (k : Nat) (v : Value) (W : World), Below w5.heap.size w5 W → w5.cell? ⟨B, k, none⟩ = some v → W.cell? ⟨B, k, none⟩ = some v := fun k v W hb h => (hb.cell (p := ⟨B, k, none⟩) hBg).trans h
    have HC := hide hcx
    clear hcx
    have hti : (t : Int) < (l.length : Int) := by omega
    have hui : (u : Int) < (l.length : Int) := by omega
    go_upto_region 7 with fail
    have hd7 : Below W7.heap.size W7 W7.drew := (Below.refl _ _).drew
    have tb8 := tb7.drew
    have F8 := F7.keep hd7
    have own8 := own_keep own7 hd7
    refine wp_region_still_tail 9 (by kernel_rfl) (by kernel_rfl) ?_
    change wpStill _ _ W7.drew (fun a' => wpList _ _ _ _ a' W7.drew) _ _
    simp only [List.take_succ_cons, List.take_zero, List.drop_succ_cons, List.drop_zero]
    clear hd7
    generalize W7.drew = W8 at *
    have R8 := R5.keep tb8
    have c1 := F8.cell (i := 1) rfl
    have c2 := R8.cell (i := 1) rfl
    have c3 := HC.out _ _ W8 tb8 gg0
    have c4 := HC.out _ _ W8 tb8 gg1
    have c5 := (own8.cellAt (t * 2) (by omega)).trans (hcells_even l t htl)
    have c6 := (own8.cellAt (t * 2 + 1) (by omega)).trans (hcells_odd l t htl)
    have f5 := own8.frozenAt (t * 2)
    have f6 := own8.frozenAt (t * 2 + 1)
    repeat still_step
    refine wpStill_nil ?_
    obtain ⟨W9, hW9⟩ : ∃ X, X = (W8.setCell ⟨gc, t * 2, none⟩ (.int .i8 (hPi l u))).setCell ⟨gc, t * 2 + 1, none⟩ (.int .i8 (hRe l u)) := ⟨_, rfl⟩
    have own9 : W9.ownsRow w5.heap.size 49 2 (.slice (some ⟨gc, 0, none⟩) l.length q) l.length (hcells (l.set t (hPi l u, hRe l u))) := by rw [hW9]; exact hown_set2 own8 t _ _
    have tb9 : Below w5.heap.size w5 W9 := by rw [hW9]; exact (tb8.setCell (p := ⟨gc, _, none⟩) (by dsimp only; omega) _).setCell (p := ⟨gc, _, none⟩) (by dsimp only; omega) _
    have F9 : Bk W9 F 31 #[.int .i16 s, .slice (some ⟨gc, 0, none⟩) l.length q] := by rw [hW9]; exact (F8.other hne7 _).other hne7 _
    go_upto_region 8 with fail
    rw [← hW9]
    clear hW9 own8 F8 tb8 R8 c1 c2 c3 c4 c5 c6 f5 f6
    have hd9 : Below W9.heap.size W9 W9.drew := (Below.refl _ _).drew
    have tb10 := tb9.drew
    have F10 := F9.keep hd9
    have own10 := own_keep own9 hd9
    refine wp_region_still_tail 9 (by kernel_rfl) (by kernel_rfl) ?_
    change wpStill _ _ W9.drew (fun a' => wpList _ _ _ _ a' W9.drew) _ _
    simp only [List.take_succ_cons, List.take_zero, List.drop_succ_cons, List.drop_zero]
    clear hd9
    generalize W9.drew = W10 at *
    have R10 := R5.keep tb10
    have c1 := F10.cell (i := 1) rfl
    have c2 := R10.cell (i := 1) rfl
    have c3 := HC.out _ _ W10 tb10 hh0
    have c4 := HC.out _ _ W10 tb10 hh1
    have hln : (l.set t (hPi l u, hRe l u)).length = l.length := by simp
    have c5 := (own10.cellAt (u * 2) (by omega)).trans (hcells_even _ u (by omega))
    have c6 := (own10.cellAt (u * 2 + 1) (by omega)).trans (hcells_odd _ u (by omega))
    have f5 := own10.frozenAt (u * 2)
    have f6 := own10.frozenAt (u * 2 + 1)
    clear hln
    repeat still_step
    refine wpStill_nil ?_
    obtain ⟨W11, hW11⟩ : ∃ X, X = (W10.setCell ⟨gc, u * 2, none⟩ (.int .i8 (hPi l t))).setCell ⟨gc, u * 2 + 1, none⟩ (.int .i8 (hRe l t)) := ⟨_, rfl⟩
    have own11 : W11.ownsRow w5.heap.size 49 2 (.slice (some ⟨gc, 0, none⟩) l.length q) l.length (hcells (exL l t u)) := by rw [hW11]; exact hown_set2 own10 u _ _
    have tb11 : Below w5.heap.size w5 W11 := by rw [hW11]; exact (tb10.setCell (p := ⟨gc, _, none⟩) (by dsimp only; omega) _).setCell (p := ⟨gc, _, none⟩) (by dsimp only; omega) _
    have F11 : Bk W11 F 31 #[.int .i16 s, .slice (some ⟨gc, 0, none⟩) l.length q] := by rw [hW11]; exact (F10.other hne7 _).other hne7 _
    go_upto_region 9 with fail
    rw [← hW11]
    clear hW11 own10 F10 tb10 R10 c1 c2 c3 c4 c5 c6 f5 f6 own9 F9 tb9 own7 F7 tb7 HC hh0 hh1 gg0 gg1 hti hui
    obtain ⟨n, rfl⟩ : ∃ n : Nat, s = (n : Int) := ⟨s.toNat, by omega⟩
    have hn96 : n ≤ 96 := by omega
    have hn0 : (n : Int) ≤ 32767 := by omega
    have b11 := step_below tb11 b5
    have hg5 : w.heap.size + 1 + 1 + 1 < w5.heap.size := (Array.getElem?_eq_some_iff.1 RD5).1
    have pt := pow_u32 t (by omega)
    have pu := pow_u32 u (by omega)
    have hm63 : (t : Int) ≤ 9223372036854775807 := by omega
    have hu63 : (u : Int) ≤ 9223372036854775807 := by omega
    go_wp2_with fail
    go_loopw [13] (fun i wr => ∃ k : Nat, k ≤ n ∧ i = .int .i64 k ∧ Dr wr (w.heap.size + 1) 32 (swD d t u k) ∧ Bk wr w.heap.size 31 #[.int .i16 n, .slice (some ⟨B, o, none⟩) l.length l.length] ∧ wr.heap[w.heap.size + 1 + 1]? = some (.cells #[.int .i16 0, .slice none 0 0] 31 (0, 0)) ∧ wr.heap[w.heap.size + 1 + 1 + 1]? = some (.cells (da fun _ => 0) 32 (0, 0)) ∧ Bk wr F 31 #[.int .i16 n, .slice (some ⟨gc, 0, none⟩) l.length q] ∧ wr.ownsRow w5.heap.size 49 2 (.slice (some ⟨gc, 0, none⟩) l.length q) l.length (hcells (exL l t u)) ∧ Below w.heap.size w wr)
      (fun i _ => n - (intOf i).toNat)
    case atStart => exact ⟨0, by omega, rfl, by rw [swD_zero]; exact D5.keep tb11, R5.keep tb11, (tb11.block _ (Array.getElem?_eq_some_iff.1 RF5).1).trans RF5, (tb11.block _ (Array.getElem?_eq_some_iff.1 RD5).1).trans RD5, F11, own11, b11⟩
    case round =>
      obtain ⟨k, hk, rfl, P, RX, RF, RD, FX, ownX, hbw⟩ := hrel
      have cs0 := RX.cell (i := 0) rfl
      by_cases hlt : k < n
      · have hki : (k : Int) < n := by omega
        have hk96 : k < 96 := by omega
        have hki2 : (k : Int) < 96 := by omega
        obtain ⟨e, he⟩ : ∃ e, e = swD d t u k := ⟨_, rfl⟩
        have hew : DWF e := by rw [he]; exact swD_wf hd t u k
        have hek : e k = d k := by rw [he, swD_at]
        have hpa : pinB e k t = pinB d k t := by rw [he, swD_pin]
        have hpb : pinB e k u = pinB d k u := by rw [he, swD_pin]
        rw [← he] at P
        have HQ := hide he
        have K1 := l02Pin_any (w.heap.size + 1) k t e wr P hk96 (by omega) hew
        have K2 := l02Pin_any (w.heap.size + 1) k u e wr P hk96 (by omega) hew
        rw [hpa] at K1
        rw [hpb] at K2
        clear he hpa hpb
        have HEK := hide hek
        clear hek
        by_cases hp : pinB d k t = pinB d k u
        · have HN := hide (swD_same (d := d) (a := t) (b := u) (k := k) hp)
          rw [← hp] at K2
          clear hp
          generalize pinB d k t = v at K1 K2
          cases v
          · skip
            go_wp2_with (first | (go_at_call 18; with_reducible refine K1.mono ?_; rintro e' w' ⟨rfl, rfl⟩) | (go_at_call 18; with_reducible refine K2.mono ?_; rintro e' w' ⟨rfl, rfl⟩))
            go_roundw
            case rel => exact ⟨k + 1, hlt, by go_num, by rw [HN.out, ← HQ.out]; exact P, RX, RF, RD, FX, ownX, hbw⟩
            case measure => simp [intOf]; omega
          · skip
            go_wp2_with (first | (go_at_call 18; with_reducible refine K1.mono ?_; rintro e' w' ⟨rfl, rfl⟩) | (go_at_call 18; with_reducible refine K2.mono ?_; rintro e' w' ⟨rfl, rfl⟩))
            go_roundw
            case rel => exact ⟨k + 1, hlt, by go_num, by rw [HN.out, ← HQ.out]; exact P, RX, RF, RD, FX, ownX, hbw⟩
            case measure => simp [intOf]; omega
        · have htu : t ≠ u := fun h => hp (by rw [h])
          have HN := hide (swD_turn (d := d) (a := t) (b := u) (k := k) hp)
          have hnn : (pinB d k t != pinB d k u) = true := by simpa using hp
          have HXX := hide (xor_two (x := d k) (hd k hk96).1 (hd k hk96).2 htu ht24 hu24)
          clear hp
          have ck := P.cell hk96
          have fk := P.frozen k
          rw [HEK.out] at ck
          generalize pinB d k t = v1 at K1 hnn
          generalize pinB d k u = v2 at K2 hnn
          have hvv : (v1 = true ∧ v2 = false) ∨ (v1 = false ∧ v2 = true) := by revert hnn; cases v1 <;> cases v2 <;> simp
          clear hnn
          rcases hvv with ⟨rfl, rfl⟩ | ⟨rfl, rfl⟩
          · skip
            go_wp2_with (first | (go_at_call 18; with_reducible refine K1.mono ?_; rintro e' w' ⟨rfl, rfl⟩) | (go_at_call 18; with_reducible refine K2.mono ?_; rintro e' w' ⟨rfl, rfl⟩))
            go_roundw
            case rel =>
              refine ⟨k + 1, hlt, by go_num, ?_, RX.other (Nat.ne_of_lt (Nat.lt_succ_self _)) _, (heap_setCell_other _ _ _ _ (by dsimp only; omega)).trans RF, (heap_setCell_other _ _ _ _ (by dsimp only; omega)).trans RD, FX.other (by omega) _, own_other ownX (heap_setCell_other _ _ _ _ (by dsimp only; omega)), hbw.setCell (p := ⟨_, _, none⟩) (by dsimp only; omega) _⟩
              have hxx := HXX.out
              rw [pt, pu] at hxx
              rw [hxx]
              have h1 := P.set k (swX (d k) t u)
              rw [HQ.out] at h1
              rw [← HN.out]
              exact h1
            case measure => simp [intOf]; omega
          · skip
            go_wp2_with (first | (go_at_call 18; with_reducible refine K1.mono ?_; rintro e' w' ⟨rfl, rfl⟩) | (go_at_call 18; with_reducible refine K2.mono ?_; rintro e' w' ⟨rfl, rfl⟩))
            go_roundw
            case rel =>
              refine ⟨k + 1, hlt, by go_num, ?_, RX.other (Nat.ne_of_lt (Nat.lt_succ_self _)) _, (heap_setCell_other _ _ _ _ (by dsimp only; omega)).trans RF, (heap_setCell_other _ _ _ _ (by dsimp only; omega)).trans RD, FX.other (by omega) _, own_other ownX (heap_setCell_other _ _ _ _ (by dsimp only; omega)), hbw.setCell (p := ⟨_, _, none⟩) (by dsimp only; omega) _⟩
              have hxx := HXX.out
              rw [pt, pu] at hxx
              rw [hxx]
              have h1 := P.set k (swX (d k) t u)
              rw [HQ.out] at h1
              rw [← HN.out]
              exact h1
            case measure => simp [intOf]; omega
      · obtain rfl : k = n := by omega
        have hsw : swD d t u k = swD d t u 96 := by
          funext i
          unfold swD
          by_cases h : i < 96 ∧ k ≤ i
          · have h0 := drB_all HDR.out i h.1
            simp only [stepB, Bool.and_eq_true, Bool.or_eq_true, decide_eq_true_eq] at h0
            have hz : d i = 0 := by
              rcases h0.2 with h2 | h2
              · omega
              · exact h2
            simp [pinB, hz]
          · have : i < k ↔ i < 96 := by omega
            simp only [this]
        rw [hsw] at P
        clear hsw
        go_wp2_with fail
        have hd2 : Below wr.heap.size wr wr.drew := (Below.refl _ _).drew
        have p1 : wr.drew.cell? ⟨F, 0, none⟩ = some (.int .i16 k) := (FX.keep hd2).cell (i := 0) rfl
        have p2 : wr.drew.cell? ⟨F, 1, none⟩ = some (.slice (some ⟨gc, 0, none⟩) l.length q) := (FX.keep hd2).cell (i := 1) rfl
        have p3 := (P.keep hd2).range
        refine wp_region_held_drew (S := fun w' => w'.cell? ⟨F, 0, none⟩ = some (.int .i16 k) ∧ w'.cell? ⟨F, 1, none⟩ = some (.slice (some ⟨gc, 0, none⟩) l.length q) ∧ w'.rangeAt (w.heap.size + 1) 0 (dv (swD d t u 96))) (by kernel_rfl) ⟨p1, p2, p3⟩ fun hS1 => ?_
        clear p1 p2 p3
        refine wpAnyH_take (i := 0) (v := .agg #[.int .i16 k, .slice (some ⟨gc, 0, none⟩) l.length q]) rfl (by kernel_rfl) (by kernel_rfl) (by kernel_rfl) (fun _ _ _ h => h) (Or.inl ⟨by rfl, fun w' h => ?_⟩) hS1 ?_
        · have c0 := h.1
          have c1 := h.2.1
          clear h
          go_simp
        change wpAnyH _ _ _ _ _ _ _ (Act.put _ (some 77) _) _
        simp only [Act.put, List.setIfInBounds_toArray, List.set_cons_zero, List.set_cons_succ]
        refine wpAnyH_take (i := 1) rfl (by kernel_rfl) (by kernel_rfl) (by kernel_rfl) (fun _ _ _ h => h) (yieldsIf_load_mid (by rfl) _ _ rfl (w.heap.size + 1) 0 rfl (dv (swD d t u 96)) _ (fun _ h => h.2.2) Try.underlying32 rfl (dInfo (swD d t u 96))) hS1 ?_
        change wpAnyH _ _ _ _ _ _ _ (Act.put _ (some 78) _) _
        simp only [Act.put, List.setIfInBounds_toArray, List.set_cons_zero, List.set_cons_succ]
        have b12 := step_below hd2 hbw
        have own12 := own_keep ownX hd2
        have P12 := P.keep hd2
        have F12 := FX.keep hd2
        have RF12 : wr.drew.heap[w.heap.size + 1 + 1]? = some (.cells #[.int .i16 0, .slice none 0 0] 31 (0, 0)) := RF
        have RD12 : wr.drew.heap[w.heap.size + 1 + 1 + 1]? = some (.cells (da fun _ => 0) 32 (0, 0)) := RD
        refine wpAnyH_ready (rs := [2]) (by kernel_rfl) (by simp) (AllReadyH.cons rfl ?_ AllReadyH.nil)
        intro K hK
        rw [if_pos (by rfl)]
        refine wp_store_row 31 (.tmp 8) (.tmp 77) rfl (w.heap.size + 1 + 1) #[.int .i16 k, .slice (some ⟨gc, 0, none⟩) l.length q] rfl rfl 31 _ RF12 (infoF2 _ _) (sz22 _ _ _ _) (oneF _ _ _ _) ?_
        have RF13 := setRow_heap _ _ _ #[.int .i16 k, .slice (some ⟨gc, 0, none⟩) l.length q] _ _ RF12
        have RD13 : (wr.drew.setRow (w.heap.size + 1 + 1) #[.int .i16 k, .slice (some ⟨gc, 0, none⟩) l.length q]).heap[w.heap.size + 1 + 1 + 1]? = some (.cells (da fun _ => 0) 32 (0, 0)) := (setRow_other _ _ _ _ (by omega)).trans RD12
        have P13 : Dr (wr.drew.setRow (w.heap.size + 1 + 1) #[.int .i16 k, .slice (some ⟨gc, 0, none⟩) l.length q]) (w.heap.size + 1) 32 (swD d t u 96) := (setRow_other _ _ _ _ (by omega)).trans P12
        have F13 : Bk (wr.drew.setRow (w.heap.size + 1 + 1) #[.int .i16 k, .slice (some ⟨gc, 0, none⟩) l.length q]) F 31 #[.int .i16 k, .slice (some ⟨gc, 0, none⟩) l.length q] := (setRow_other _ _ _ _ (by omega)).trans F12
        refine hK.out _ _ ⟨F13.cell (i := 0) rfl, F13.cell (i := 1) rfl, P13.range⟩ (fun hS3 => ?_)
        clear hK K
        refine wpAnyH_ready (rs := [3]) (by kernel_rfl) (by simp) (AllReadyH.cons rfl ?_ AllReadyH.nil)
        intro K hK
        rw [if_pos (by rfl)]
        refine wp_store_row 32 (.tmp 9) (.tmp 78) rfl (w.heap.size + 1 + 1 + 1) (da (swD d t u 96)) rfl rfl 32 _ RD13 (by rw [da_size]; exact info32) (by simp only [da_size]) (da_one _) ?_
        have RF14 : ((wr.drew.setRow (w.heap.size + 1 + 1) #[.int .i16 k, .slice (some ⟨gc, 0, none⟩) l.length q]).setRow (w.heap.size + 1 + 1 + 1) (da (swD d t u 96))).heap[w.heap.size + 1 + 1]? = some (.cells #[.int .i16 k, .slice (some ⟨gc, 0, none⟩) l.length q] 31 (0, 0)) := (setRow_other _ _ _ _ (by omega)).trans RF13
        have RD14 := setRow_heap _ _ _ (da (swD d t u 96)) _ _ RD13
        have P14 : Dr ((wr.drew.setRow (w.heap.size + 1 + 1) #[.int .i16 k, .slice (some ⟨gc, 0, none⟩) l.length q]).setRow (w.heap.size + 1 + 1 + 1) (da (swD d t u 96))) (w.heap.size + 1) 32 (swD d t u 96) := (setRow_other _ _ _ _ (by omega)).trans P13
        have F14 : Bk ((wr.drew.setRow (w.heap.size + 1 + 1) #[.int .i16 k, .slice (some ⟨gc, 0, none⟩) l.length q]).setRow (w.heap.size + 1 + 1 + 1) (da (swD d t u 96))) F 31 #[.int .i16 k, .slice (some ⟨gc, 0, none⟩) l.length q] := (setRow_other _ _ _ _ (by omega)).trans F13
        refine hK.out _ _ ⟨F14.cell (i := 0) rfl, F14.cell (i := 1) rfl, P14.range⟩ (fun hS4 => ?_)
        clear hK K
        refine wpAnyH_take (i := 4) (v := .int .i64 0) rfl (by kernel_rfl) (by kernel_rfl) (by kernel_rfl) (fun _ _ _ h => h) (Or.inl ⟨by rfl, fun w' _ => by go_simp⟩) hS4 ?_
        change wpAnyH _ _ _ _ _ _ _ (Act.put _ (some 10) _) _
        simp only [Act.put, List.setIfInBounds_toArray, List.set_cons_zero, List.set_cons_succ]
        refine wpAnyH_done (by kernel_rfl) ?_ _
        have HF9 := hide RF14
        have HZ9 := hide RD14
        have bE := below_setRow (cs := da (swD d t u 96)) (g := w.heap.size + 1 + 1 + 1) (below_setRow (cs := #[.int .i16 k, .slice (some ⟨gc, 0, none⟩) l.length q]) (g := w.heap.size + 1 + 1) b12 (by omega)) (by omega)
        have ow := own_base (own_keepR (own_keepR own12 (by omega : w.heap.size + 1 + 1 < w5.heap.size) #[.int .i16 k, .slice (some ⟨gc, 0, none⟩) l.length q]) (by omega : w.heap.size + 1 + 1 + 1 < w5.heap.size) (da (swD d t u 96))) (by omega : w.heap.size ≤ w5.heap.size)
        clear RF14 RD14 P14 F14 RF13 RD13 P13 F13 RF12 RD12 P12 F12 RF RD P FX RX cs0
        go_wp2
        exact bodyPost_ret (v := .tuple #[.agg #[.int .i16 k, .slice (some ⟨gc, 0, none⟩) l.length q], .agg (da (swD d t u 96)), .int .i64 0]) (results_fd Try.results6 _ _ (w.heap.size + 1 + 1) (w.heap.size + 1 + 1 + 1) _ _ #[.int .i16 k, .slice (some ⟨gc, 0, none⟩) l.length q] _ _ rfl (by simp [Act.put]) (by simp [Act.put]) (by simp [Act.put]) HF9.out HZ9.out) rfl ⟨some ⟨gc, 0, none⟩, q, by rw [HY.out, HX.out, HS.out, HL.out, exL_length], by rw [HL.out, exL_length]; exact ow, bE⟩
theorem swL_len (s : Int) (l : List (Int × Int)) (d : Nat → Int) (x y : Int) {n : Nat} (hn : l.length ≤ n) : (swL s l d x y).length ≤ n := by
  unfold swL
  split
  · rw [exL_length]; exact hn
  · simp
end Go.Proofs.Ytehcghaficbhiaa
