import Derived.Test.YtcocfnjbgceidaaGreatDwm
import Derived.Test.YtcocfnjbgceidaaGreatGah
import Derived.StillTailTactics
import Derived.Deep.CutRange
import Derived.Test.YtcocfnjbgceidaaGreatWfr
import Derived.Maps.RangeWalk
import Derived.Test.YtcocfnjbgceidaaGreatGao
import Derived.Sort.KeysCollected
import Derived.Sort.OwnSorted
namespace Go.Proofs.YtcocfnjbgceidaaGreat
open Go.RowKit Go.Maps
def dwC (s : Int) (h : List (Int × Int)) (l : List (Int × Int × Int)) (z : List Int) : Int := codeI (weB s h l z)
def dwR (s : Int) (h : List (Int × Int)) (l : List (Int × Int × Int)) (z : List Int) : Nat → Int := if weB s h l z then dwD l l.length else fun _ => 0
theorem or_set {l : List (Int × Int × Int)} {k a t : Nat} (ha : wnS l k = a) (ht : wnT l k = t) (i : Nat) : (if i = a then bits .or .u32 (dwD l k a) (2 ^ t % 4294967296) else dwD l k i) = dwD l (k + 1) i := by
  rw [dwD, orW, ha, ht]
  simp
end Go.Proofs.YtcocfnjbgceidaaGreat
namespace Go.Proofs.YtcocfnjbgceidaaGreat
open Go.RowKit Go.Maps
set_option maxRecDepth 20000 in
theorem place_inv : ∀ key kl, keyOf Tryz.prog 138 key = some kl → ∃ x : Int × Int, key = .agg #[.int .i64 x.1, .int .i64 x.2] := by
  intro key kl hk
  obtain ⟨d, hd⟩ := typesP
  unfold keyOf at hk
  rw [hd, Tryz.underlying138] at hk
  simp only [keyTypeP, Bool.true_and] at hk
  split at hk
  · rename_i hf
    cases key <;> simp [Value.formed, Tryz.underlying138] at hf
    rename_i cs
    rw [cellsP] at hf
    obtain ⟨ls⟩ := cs
    match ls, hf with
    | [a, b], _ =>
      simp [Program.keyLits, Tryz.underlying138, Tryz.underlying2, cellsPi, cellsP, Value.cells] at hk
      cases a with
      | int qa x =>
        by_cases ha : qa = IntKind.i64 ∧ (Lit.int .i64 x).wf = true
        · cases b with
          | int qb y =>
            by_cases hb : qb = IntKind.i64 ∧ (Lit.int .i64 y).wf = true
            · exact ⟨(x, y), by rw [ha.1, hb.1]⟩
            · simp [ha, hb] at hk
          | _ => simp [ha] at hk
        · simp [ha] at hk
      | _ => simp at hk
  · cases hk
theorem ranges_below {w w' : World} {k : TypeId} {R : Value → Option (DataW Unit × List MemPlace)} {b r n : Nat} {D : DataW Unit} {left : Lit → Bool} {cnt : Nat} (h : w.ranges Tryz.prog k R b r n D left cnt) (hb : Below w.heap.size w w') : w'.ranges Tryz.prog k R b r n D left cnt := by
  obtain ⟨es, clock, since, seen, c0, h1, h2, h3, h4, h5, hr⟩ := h
  exact ⟨es, clock, since, seen, c0, (hb.block _ (Array.getElem?_eq_some_iff.1 h1).1).trans h1, h2, h3, h4, (hb.block _ (Array.getElem?_eq_some_iff.1 h5).1).trans h5, hr⟩
theorem ranges_setRow {w : World} {k : TypeId} {R : Value → Option (DataW Unit × List MemPlace)} {b r n g : Nat} {D : DataW Unit} {left : Lit → Bool} {cnt : Nat} (h : w.ranges Tryz.prog k R b r n D left cnt) (hb : g ≠ b) (hr' : g ≠ r) (cs : Array Value) : (w.setRow g cs).ranges Tryz.prog k R b r n D left cnt := by
  obtain ⟨es, clock, since, seen, c0, h1, h2, h3, h4, h5, hr⟩ := h
  exact ⟨es, clock, since, seen, c0, (setRow_other _ _ _ _ (fun e => hb e.symm)).trans h1, h2, h3, h4, (setRow_other _ _ _ _ (fun e => hr' e.symm)).trans h5, hr⟩
theorem int_invW : ∀ (v : Value) (y : DataW Unit × List MemPlace), plainElem Tryz.prog 2 v = some y → ∃ c : Int, v = .int .i64 c := by
  intro v y hv
  obtain ⟨c, rfl, _⟩ := plainElem_int_inv Tryz.underlying2 hv
  exact ⟨c, rfl⟩
end Go.Proofs.YtcocfnjbgceidaaGreat
namespace Go.Proofs.YtcocfnjbgceidaaGreat
open Go.RowKit Go.Maps
/-- a map reads as a list of worn pins -/
def ReadsW (D : DataW Unit) (T : List (Int × Int × Int)) : Prop :=
  (∀ x ∈ T, has D (kP x.1 x.2.1) = true) ∧ (∀ x ∈ T, ∀ zd, D.atKey (kP x.1 x.2.1) zd = .lit (.int .i64 x.2.2)) ∧ ∀ kl, has D kl = true → ∃ x, x ∈ T ∧ kl = kP x.1 x.2.1
/-- numbers of a list of worn pins -/
def In8 (T : List (Int × Int × Int)) : Prop := ∀ x ∈ T, (-128 ≤ x.1 ∧ x.1 ≤ 127) ∧ (-128 ≤ x.2.1 ∧ x.2.1 ≤ 127)
/-- the pins that have come -/
def CollW (T : List (Int × Int × Int)) (left : Lit → Bool) (m : List (Int × Int × Int)) : Prop := m.Nodup ∧ ∀ x, x ∈ m ↔ x ∈ T ∧ left (kP x.1 x.2.1) = false
theorem ascL_nodup {T : List (Int × Int × Int)} (h : AscL T) : T.Nodup := List.Pairwise.imp (fun {a b} hab e => by subst e; simp [befW] at hab) h
theorem ascL_place {T : List (Int × Int × Int)} (hT : AscL T) {a b : Int × Int × Int} (ha : a ∈ T) (hb : b ∈ T) (h1 : a.1 = b.1) (h2 : a.2.1 = b.2.1) : a = b :=
  ascL_same hT ha hb (by rw [cfW_lt, h1, h2]; simp [befW]) (by rw [cfW_lt, h1, h2]; simp [befW])
theorem collW_start {D : DataW Unit} {T : List (Int × Int × Int)} (h : ReadsW D T) : CollW T (has D) [] :=
  ⟨List.nodup_nil, fun x => ⟨fun hx => absurd hx (by simp), fun hx => absurd ((h.1 x hx.1).symm.trans hx.2) (by simp)⟩⟩
theorem collW_end {T m : List (Int × Int × Int)} {left : Lit → Bool} (hT : AscL T) (h : CollW T left m) (hl : ∀ kl, left kl = false) : T.Perm m := by
  refine (List.perm_ext_iff_of_nodup (ascL_nodup hT) h.1).2 fun x => ?_
  rw [h.2 x]
  exact ⟨fun hx => ⟨hx, hl _⟩, fun hx => hx.1⟩
theorem kP_inj8 {T : List (Int × Int × Int)} (h8 : In8 T) {a b : Int × Int × Int} (ha : a ∈ T) (hb : b ∈ T) (h : kP a.1 a.2.1 = kP b.1 b.2.1) : a.1 = b.1 ∧ a.2.1 = b.2.1 := by
  obtain ⟨a1, a2⟩ := h8 a ha
  obtain ⟨b1, b2⟩ := h8 b hb
  exact kP_inj (i64_of8 a1) (i64_of8 a2) (i64_of8 b1) (i64_of8 b2) h
set_option maxRecDepth 20000 in
theorem collW_step {T m : List (Int × Int × Int)} {left : Lit → Bool} (hT : AscL T) (h8 : In8 T) (h : CollW T left m) {y : Int × Int × Int} (hy : y ∈ T) (hl : left (kP y.1 y.2.1) = true) : CollW T (fun z => left z && !z.sameKey (kP y.1 y.2.1)) (m ++ [y]) := by
  obtain ⟨y1, y2⟩ := h8 y hy
  have hk := lawP.key (key_place _ _ (i64_of8 y1) (i64_of8 y2))
  have hym : y ∉ m := fun hm => by have := ((h.2 y).1 hm).2; rw [hl] at this; cases this
  refine ⟨?_, fun x => ?_⟩
  · rw [List.nodup_append]
    refine ⟨h.1, by simp, fun a ha b hb => ?_⟩
    simp at hb
    subst hb
    exact fun e => hym (e ▸ ha)
  · rw [List.mem_append, List.mem_singleton, h.2 x]
    by_cases e : x = y
    · subst e
      simp [hy, WideAt.sameKey_self hk]
    · constructor
      · rintro (hx | hx)
        · exact ⟨hx.1, show (left (kP x.1 x.2.1) && !(kP x.1 x.2.1).sameKey (kP y.1 y.2.1)) = false by rw [hx.2]; rfl⟩
        · exact absurd hx e
      · rintro ⟨hx, hl'⟩
        left
        refine ⟨hx, ?_⟩
        have hne : kP x.1 x.2.1 ≠ kP y.1 y.2.1 := fun e' => e (ascL_place hT hx hy (kP_inj8 h8 hx hy e').1 (kP_inj8 h8 hx hy e').2)
        have hl2 : (left (kP x.1 x.2.1) && !(kP x.1 x.2.1).sameKey (kP y.1 y.2.1)) = false := hl'
        rw [sameKey_ne hne] at hl2
        simpa using hl2
theorem own_neW {w : World} {base g n : Nat} {e t : TypeId} {size : Nat} {v : Value} {xs : List Value} {cs : Array Value} (h : w.ownsRow base e size v n xs) (z : Bk w g t cs) (ht : t ≠ e) : v.ownBlock ≠ some g := by
  intro hv
  rcases h.2 with ⟨rfl, _⟩ | ⟨g', cap, cur, rfl, hb, hg, _⟩
  · cases hv
  · have hz : w.heap[g]? = some (.cells cs t (0, 0)) := z
    have e1 : g' = g := by simpa [Value.ownBlock] using hv
    subst e1
    rw [hg] at hz
    simp at hz
    exact ht hz.2.symm
theorem cell_threeW (w : World) (u v x : Value) (t : TypeId) : ∀ j y, ([u, v, x] : List Value)[j]? = some y → (w.alloc (.cells #[u, v, x] t)).cell? ((⟨w.heap.size, 0, none⟩ : Addr).add j) = some y := by
  intro j y hy
  have h := (Bk.new w t #[u, v, x] rfl).cell (i := j) (v := y) (by simpa using hy)
  rw [Addr.add_lit, Nat.zero_add]
  exact h
theorem own_setW {w : World} {base g o n : Nat} {e : TypeId} {size : Nat} {v : Value} {xs : List Value} (h : w.ownsRow base e size v n xs) (hne : v.ownBlock ≠ some g) (u : Value) : (w.setCell ⟨g, o, none⟩ u).ownsRow base e size v n xs :=
  h.kept (row := some g) ⟨rfl, rfl, rfl, by simp, fun k _ hk => heap_setCell_other w ⟨g, o, none⟩ k u (fun e => hk (by rw [e]))⟩ (Or.inr hne)
theorem ranges_setCell {w : World} {k : TypeId} {R : Value → Option (DataW Unit × List MemPlace)} {b r n g o : Nat} {D : DataW Unit} {left : Lit → Bool} {cnt : Nat} (h : w.ranges Tryz.prog k R b r n D left cnt) (hb : g ≠ b) (hr' : g ≠ r) (u : Value) : (w.setCell ⟨g, o, none⟩ u).ranges Tryz.prog k R b r n D left cnt := by
  obtain ⟨es, clock, since, seen, c0, h1, h2, h3, h4, h5, hr⟩ := h
  exact ⟨es, clock, since, seen, c0, (heap_setCell_other w ⟨g, o, none⟩ b u (fun e => hb e.symm)).trans h1, h2, h3, h4, (heap_setCell_other w ⟨g, o, none⟩ r u (fun e => hr' e.symm)).trans h5, hr⟩
theorem w8_wrap {x : Int} (h : -128 ≤ x ∧ x ≤ 127) : IntKind.i8.wrap x = x := by simp [IntKind.wrap, IntKind.bits, IntKind.signed]; omega
/-- pins of the call's own -/
def OwnWn (w : World) (T : List (Int × Int × Int)) (e : Ending) (w' : World) : Prop := ∃ (C : Option Addr) (q : Nat), e = .returned (.slice C T.length q) ∧ w'.ownsRow w.heap.size 97 3 (.slice C T.length q) T.length (wnC T) ∧ Below w.heap.size w w'
set_option maxRecDepth 20000 in
set_option maxHeartbeats 2000000 in
theorem sortedW_any (C : Option Addr) (q : Nat) (l T : List (Int × Int × Int)) (base : Nat) (w : World) (h : w.ownsRow base 97 3 (.slice C l.length q) l.length (wnC l)) (hn : l.length ≤ 1048576) (hbase : base ≤ w.heap.size) (hT : AscL T) (hTp : T.Perm l) :
    Calls Tryz.prog 110 #[.agg #[.slice C l.length q, .func (.func 102) #[] #[]]] w fun e w' => e = .returned (.slice C l.length q) ∧ w'.ownsRow base 97 3 (.slice C l.length q) l.length (wnC T) ∧ Below base w w' := by
  obtain ⟨X, hX⟩ : ∃ X, X = w.alloc (.cells #[.slice C l.length q, .func (.func 102) #[] #[]] 166) := ⟨_, rfl⟩
  have hb0 : Below w.heap.size w X := by rw [hX]; exact (Below.refl _ _).alloc (Nat.le_refl _) _
  have P0 : Bk X w.heap.size 166 #[.slice C l.length q, .func (.func 102) #[] #[]] := by rw [hX]; exact Bk.new _ _ _ rfl
  have ownX := own_keep h hb0
  have hbX := hb0.mono hbase
  have hne := own_neW ownX P0 (by decide)
  go_enter Tryz.func110, Tryz.ntmps110
  go_upto_region 1 with fail
  rw [← hX]
  clear hX h
  have c0 := P0.cell (i := 0) rfl
  have c1 := P0.cell (i := 1) rfl
  go_wp2_with fail
  refine (sortFuncW_any C q l T base X ownX hn (Nat.le_trans hbase hb0.size) hT hTp).mono ?_
  rintro e w2 ⟨rfl, own2, hb2, hg2⟩
  have P2 := P0.grown hg2 hne
  have c2 := P2.cell (i := 0) rfl
  clear c0 c1 hne
  go_wp2
  go_ret
  exact ⟨rfl, own2, hbX.trans hb2⟩
set_option maxRecDepth 20000 in
set_option maxHeartbeats 4000000 in
theorem pinsW_any (M : Nat) (C : Option Addr) (zl zq n : Nat) (D : DataW Unit) (T : List (Int × Int × Int)) (w : World) (hown : w.ownsMap Tryz.prog 138 (plainElem Tryz.prog 2) M n D) (hD : ReadsW D T) (hsz : Maps.size D ≤ 1048576) (hT : AscL T) (h8 : In8 T) :
    Calls Tryz.prog 88 #[.agg #[.map (some M), .slice C zl zq]] w (OwnWn w T) := by
  obtain ⟨i0, hi, hz0, hz1, hz2⟩ := info_parts info97
  obtain ⟨X0, hX0⟩ : ∃ X, X = w.alloc (.cells #[.map (some M), .slice C zl zq] 104) := ⟨_, rfl⟩
  have hb00 : Below w.heap.size w X0 := by rw [hX0]; exact (Below.refl _ _).alloc (Nat.le_refl _) _
  have P00 : Bk X0 w.heap.size 104 #[.map (some M), .slice C zl zq] := by rw [hX0]; exact Bk.new _ _ _ rfl
  obtain ⟨X, hX⟩ : ∃ X, X = X0.alloc (.cells #[.slice none 0 0, .func (.func 102) #[] #[]] 166) := ⟨_, rfl⟩
  have hbX : Below X0.heap.size X0 X := by rw [hX]; exact (Below.refl _ _).alloc (Nat.le_refl _) _
  have P0 := P00.keep hbX
  have P1 : Bk X X0.heap.size 166 #[.slice none 0 0, .func (.func 102) #[] #[]] := by rw [hX]; exact Bk.new _ _ _ rfl
  have hb0 := step_below hbX hb00
  have hMl := hown.lt
  have ownX := map_keep (map_keep hown hb00) hbX
  obtain ⟨G, hG⟩ : ∃ G, G = X0.heap.size := ⟨_, rfl⟩
  have hGw : w.heap.size < G := by rw [hG]; exact P00.lt
  have hHD := hide hD
  have hHT := hide hT
  have hH8 := hide h8
  go_enter Tryz.func88, Tryz.ntmps88
  go_upto_region 1 with fail
  rw [← hX0]
  clear hX0
  go_upto_region 2 with (with_reducible refine wpList_store_newA rfl 166 (.tmp 3) (.tmp 6) rfl #[.slice none 0 0, .func (.func 102) #[] #[]] rfl rfl 166 _ (infoOrd _ _) (szOrd _ _ _ _) (oneOrd _ _ _ _) ?_)
  rw [← hX]
  clear hX
  rw [← hG] at P1 ⊢
  clear hG hD hT h8 P00 hb00 hbX
  try simp only [Act.put]
  have c0 := P0.cell (i := 0) rfl
  go_wp2_with (at_range; refine wpList_range_own _ rfl _ 102 rfl 138 2 lawP Tryz.underlying102 _ M _ _ rfl ownX ?_; intro w0 hrg0 hg0 hs0)
  go_frame
  obtain ⟨R, hR⟩ : ∃ R, R = X.heap.size := ⟨_, rfl⟩
  rw [← hR] at hrg0 ⊢
  have hGR : G < R := by rw [hR]; exact P1.lt
  have P1' := P1.grown hg0 (by simp)
  have hbR := hb0.grown hg0 hb0.size (fun j hj => by cases hj)
  clear hR hs0 P0 P1 c0 ownX hg0 hb0
  go_loopw [10] (fun _ wr => ∃ (left : Lit → Bool) (cnt : Nat) (m : List (Int × Int × Int)) (A : Option Addr) (c : Nat), wr.ranges Tryz.prog 138 (plainElem (H := Unit) Tryz.prog 2) M R n D left cnt ∧ m.length + cnt ≤ Maps.size D ∧ CollW T left m ∧ wr.ownsRow w.heap.size 97 3 (.slice A m.length c) m.length (wnC m) ∧ Bk wr G 166 #[.slice A m.length c, .func (.func 102) #[] #[]] ∧ Below w.heap.size w wr)
    (fun _ wr => wr.rangeLeft M R)
  case atStart => exact ⟨_, _, [], none, 0, hrg0, by simp, collW_start hHD.out, World.ownsRow_nil _ _ _ _, P1', hbR⟩
  case round =>
    obtain ⟨left, cnt, m, A, c, hrg, hcs, hC, hrow, B1, hb⟩ := hrel
    have HC := hide hC
    clear hC
    go_wp2_with (at_next; refine wpList_next_ranges _ rfl _ rfl 138 lawP (plainElem (H := Unit) Tryz.prog 2) (fun x : Int × Int => .agg #[.int .i64 x.1, .int .i64 x.2]) (Value.int .i64) place_inv int_invW M R _ _ _ _ rfl hrg ?_ ?_)
    · intro hc0 hl0
      have hperm := collW_end hHT.out HC.out hl0
      have hlen := hperm.length_eq
      have c1 := B1.cell (i := 0) rfl
      have c2 := B1.cell (i := 1) rfl
      have KS := sortedW_any A c m T w.heap.size wr hrow (by omega) hb.size hHT.out hperm
      clear hl0
      go_wp2_with fail
      refine KS.mono ?_
      rintro e w2 ⟨rfl, own2, hb2⟩
      go_wp2
      go_ret
      exact ⟨A, c, by rw [hlen]; rfl, by rw [hlen]; exact own2, hb.trans hb2⟩
    · intro x1 x2 cc kl yd yp w1 cnt1 hkey hlk hv hat hrg1 hlt hg1 hs1 hen
      obtain ⟨y, hyT, hky⟩ := hHD.out.2.2 kl (has_true_of_atKey hat)
      obtain ⟨y1, y2⟩ := hH8.out y hyT
      have hpj := key_place _ _ (i64_of8 y1) (i64_of8 y2)
      rw [← hky] at hpj
      have hxy : x1 = y.1 ∧ x2 = y.2.1 := by simpa using lawP.inj hkey hpj
      have hcc : cc = y.2.2 := by
        obtain ⟨c', e1, e2, _⟩ := plainElem_int_inv Tryz.underlying2 hv
        have h1 := hat (.map [])
        have h2 := hHD.out.2.1 y hyT (.map [])
        rw [← hky, h1] at h2
        simp at e1 e2
        rw [e2.1, ← e1] at h2
        simpa using h2
      have HCS := hide (collW_step hHT.out hH8.out HC.out hyT (by rw [← hky]; exact hlk))
      rw [← hky] at HCS
      obtain ⟨ya, yb, yc⟩ := y
      simp only at hxy hcc y1 y2 HCS
      obtain ⟨rfl, rfl⟩ := hxy
      subst hcc
      have hwa := w8_wrap y1
      have hwb := w8_wrap y2
      have hrow1 := hrow.kept hg1 (Or.inr (Go.row_ne_iter hrow hrg).symm)
      have B1w := B1.grown hg1 (fun e => by have e' : R = G := Option.some.inj e; omega)
      have hbw := hb.grown hg1 hb.size (fun j hj => by cases hj; omega)
      obtain ⟨Yk, hYk⟩ : ∃ Yk, Yk = w1.alloc (.cells #[.int .i64 x1, .int .i64 x2] 138) := ⟨_, rfl⟩
      have hbk : Below w1.heap.size w1 Yk := by rw [hYk]; exact (Below.refl _ _).alloc (Nat.le_refl _) _
      have hbyk := step_below hbk hbw
      have K0 : Bk Yk w1.heap.size 138 #[.int .i64 x1, .int .i64 x2] := by rw [hYk]; exact Bk.new _ _ _ rfl
      have k0 := K0.cell (i := 0) rfl
      have k1 := K0.cell (i := 1) rfl
      have B1k := B1w.keep hbk
      have b0_ := B1k.cell (i := 0) rfl
      have hrgk := ranges_below hrg1 hbk
      have own4 := (own_keep hrow1 hbk).alloc (.cells #[.int .i8 x1, .int .i8 x2, .int .i64 cc] 97)
      have B1a := B1k.old (.cells #[.int .i8 x1, .int .i8 x2, .int .i64 cc] 97)
      have hrga := hrgk.alloc (.cells #[.int .i8 x1, .int .i8 x2, .int .i64 cc] 97)
      have hnew := cell_threeW Yk (.int .i8 x1) (.int .i8 x2) (.int .i64 cc) 97
      have hneB := own_neW own4 B1a (by decide)
      have hneM := Go.row_ne_low own4 hMl
      have hneR := Go.row_ne_iter own4 hrga
      have hbya := hbyk.alloc hbyk.size (.cells #[.int .i8 x1, .int .i8 x2, .int .i64 cc] 97)
      have hsy := hbyk.size
      have HLT := hide hlt
      have HK := hide hrg
      have HGA := hide hrga
      clear hs1 hkey hlk hv hat hrg1 hlt hg1 hky hpj y1 y2 B1 hb hrg hrgk hrga K0 hrow hrow1 hbk B1w hbw
      go_upto_region 5 with fail
      rw [← hYk]
      clear hYk
      go_wp2_with (at_builtin; refine wpList_append_own _ rfl _ _ 32 rfl w.heap.size 97 i0 (.agg #[.int .i8 0, .int .i8 0, .int .i64 0]) 3 16 Tryz.underlying32 hi hz0 hz1 hz2 rfl (by decide) _ _ _ rfl own4 ⟨Yk.heap.size, 0, none⟩ 1 1 [.int .i8 x1, .int .i8 x2, .int .i64 cc] rfl rfl hnew (fun x hx => by simp at hx; rcases hx with rfl | rfl | rfl <;> rfl) (by unfold maxLen; omega) (by omega) (by simp; omega) ?_; intro v6 w6 hown6 hgr6 hnil6; obtain ⟨A6, c6, rfl⟩ := own_shapeZ hown6; have B6 := B1a.grown hgr6 hneB; have k6 : w6.cell? ⟨G, 0, none⟩ = some (.slice A m.length c) := B6.cell (i := 0) rfl; have f6 := B6.frozen 0; have hgr : World.grownBy _ w6 (Value.slice A m.length c).ownBlock := hgr6; clear hgr6 hnil6)
      have hl6 := ranges_setCell (o := 0) (HGA.out.kept hgr hneM hneR) (show G ≠ M by omega) (show G ≠ R by omega) (.slice A6 (m.length + 1) c6)
      have hne6 := own_neW hown6 B6 (by decide)
      have ow6 := own_setW (o := 0) hown6 hne6 (.slice A6 (m.length + 1) c6)
      have hb6 := hbya.grown hgr hbya.size (fun j hj => (own4.lt j hj).1)
      have hlt' := HLT.out
      refine ⟨⟨_, cnt1, m ++ [(x1, x2, cc)], A6, c6, hl6, by simp; omega, HCS.out, ?_, ?_, hb6.setCell (p := ⟨G, 0, none⟩) (by dsimp only; omega) _⟩, ?_⟩
      · rw [wnC_append, List.length_append]
        exact ow6
      · rw [List.length_append]
        exact heap_setCell_same w6 G 0 _ _ _ B6
      · rw [hl6.left_eq, HK.out.left_eq]
        exact HLT.out
end Go.Proofs.YtcocfnjbgceidaaGreat
