import Derived.Test.YtmmninlnpnhboaaGreatDoorQrf
import Derived.Test.YtmmninlnpnhboaaGreatDoorGaa
import Derived.IntWalk
import Derived.Test.YtmmninlnpnhboaaGreatDoorGad
import Derived.Deep.MidRow
import Derived.Great.Ranges
import Derived.Great.BuildSlice
namespace Go.Proofs.YtmmninlnpnhboaaGreatDoor
open Go.RowKit Go.Shelf
attribute [local go_sem] Oper.semAt_some
/-- the numbers in the order 0, 1, -1, 2, -2, .. -/
def owQ (t : Nat) : Int := if t % 2 = 1 then ((t / 2 + 1 : Nat) : Int) else -((t / 2 : Nat) : Int)
def owS (t : Nat) : List Int := (List.range t).map owQ
theorem owS_succ (t : Nat) : owS (t + 1) = owS t ++ [owQ t] := by simp [owS, List.range_succ]
theorem owS_pre {t u : Nat} (h : t ≤ u) : owS t <+: owS u := by
  refine ⟨((List.range (u - t)).map (t + ·)).map owQ, ?_⟩
  unfold owS
  rw [← List.map_append, ← List.range_add, show t + (u - t) = u by omega]
theorem owQ_odd (s : Nat) : owQ (2 * s + 1) = s + 1 := by unfold owQ; rw [if_pos (by omega)]; omega
theorem owQ_even (s : Nat) : owQ (2 * s + 2) = -(s + 1) := by unfold owQ; rw [if_neg (by omega)]; omega
theorem owS_two (s : Nat) : owS (2 * (s + 1) + 1) = owS (2 * s + 1) ++ [(s : Int) + 1] ++ [-((s : Int) + 1)] := by
  rw [show 2 * (s + 1) + 1 = 2 * s + 1 + 1 + 1 by omega, owS_succ (2 * s + 1 + 1), owS_succ (2 * s + 1), owQ_odd, owQ_even]
set_option maxHeartbeats 2000000 in
set_option maxRecDepth 20000 in
theorem outward_q (m Bn : Nat) (w : World) (hm : m ≤ 100) (hc : w.heap[Bn]? = some (.cells #[.int .i64 m] 2 (0, 0))) :
    SeqQ Tryz.prog 129 #[.pointer (some ⟨Bn, 0, none⟩)] (fun x : Int => #[.int .i64 x]) (owS (2 * m + 1)) w := by
  intro n l T J W hW hJ hY h0
  have hB : Bn < w.heap.size := (Array.getElem?_eq_some_iff.1 hc).1
  have hc1 := (hW.block Bn hB).trans hc
  have hBW : Bn < W.heap.size := Nat.lt_of_lt_of_le hB hW.size
  have hd1 : W.cell? ⟨Bn, 0, none⟩ = some (.int .i64 m) := by rw [cell_of_row W Bn 0 _ _ _ hc1]; rfl
  show CallsIn Fence.wide n Tryz.prog 129 #[.func (.yield l) #[] #[], .pointer (some ⟨Bn, 0, none⟩)] W _
  refine callsIn_of_wp Tryz.func129 rfl trivial ?_ rfl
  simp only [Tryz.ntmps129, List.size_toArray, List.length_cons, List.length_nil, Nat.reduceAdd, Nat.reduceSub, Array.replicate_succ, Array.replicate_zero, List.push_toArray, List.append_toArray, List.nil_append, List.cons_append]
  have hp0 : [] ++ [(0 : Int)] <+: owS (2 * m + 1) := owS_pre (t := 1) (by omega)
  obtain ⟨fn, tmps, assign, body, hy, hR⟩ := hY (n - 1) [] 0 W hp0 h0 (Below.refl _ _)
  gi_wp2
  refine ⟨(fun h => by simp [Fence.wide] at h), hR.mono ?_⟩
  clear hy hR
  rintro e W1 (⟨rfl, hT1, hk1⟩ | ⟨rfl, hJ1, _⟩)
  · gi_wp2
    gi_loopw [3] (fun i wr => ∃ s : Nat, s ≤ m ∧ i = .int .i64 (s + 1) ∧ T (owS (2 * s + 1)) ∧ Below W.heap.size W wr) (fun i _ => m + 1 - (intOf i).toNat)
    case atStart => exact ⟨0, by omega, rfl, hT1, hk1⟩
    case round =>
      obtain ⟨s, hs, rfl, hTs, hbs⟩ := hrel
      have hd3 := (hbs.cell (p := ⟨Bn, 0, none⟩) hBW).trans hd1
      by_cases hlt : s < m
      · have hz : (s : Int) + 1 ≤ (m : Int) := by omega
        have hz1 : decide ((s : Int) + 1 ≤ (m : Int)) = true := decide_eq_true hz
        have hp1 : owS (2 * s + 1) ++ [(s : Int) + 1] <+: owS (2 * m + 1) := by rw [← owQ_odd, ← owS_succ]; exact owS_pre (by omega)
        have hp2 : owS (2 * s + 1) ++ [(s : Int) + 1] ++ [-((s : Int) + 1)] <+: owS (2 * m + 1) := by rw [← owS_two]; exact owS_pre (by omega)
        obtain ⟨fn, tmps, assign, body, hy, hR⟩ := hY (n - 1) _ _ wr hp1 hTs hbs
        gi_wp2
        refine ⟨(fun h => by simp [Fence.wide] at h), hR.mono ?_⟩
        clear hy hR
        rintro e W2 (⟨rfl, hT2, hk2⟩ | ⟨rfl, hJ2, _⟩)
        · have b2 := hbs.trans (hk2.mono hbs.size)
          obtain ⟨fn, tmps, assign, body, hy, hR⟩ := hY (n - 1) _ _ W2 hp2 hT2 b2
          have hneg : IntKind.i64.wrap (-((s : Int) + 1)) = -((s : Int) + 1) := IntWalk.i64_in _ (by omega)
          gi_wp2
          refine ⟨(fun h => by simp [Fence.wide] at h), hR.mono ?_⟩
          clear hy hR
          rintro e W3 (⟨rfl, hT3, hk3⟩ | ⟨rfl, hJ3, _⟩)
          · gi_wp2
            go_roundw
            case rel => exact ⟨s + 1, hlt, by go_num, by rw [owS_two]; exact hT3, b2.trans (hk3.mono b2.size)⟩
            case measure => simp [intOf]; omega
          · gi_wp2
            refine bodyPost_ret (results_none rfl _ _ _) rfl ?_
            exact ⟨⟨_, rfl⟩, .inr ⟨_, hp2, hJ3⟩⟩
        · gi_wp2
          refine ⟨fun _ h => (by cases h), ?_⟩
          gi_wp2
          refine bodyPost_ret (results_none rfl _ _ _) rfl ?_
          exact ⟨⟨_, rfl⟩, .inr ⟨_, hp1, hJ2⟩⟩
      · obtain rfl : s = m := by omega
        gi_wp2
        go_end0
        exact ⟨⟨_, rfl⟩, .inl ⟨hTs, hbs⟩⟩
  · gi_wp2
    refine bodyPost_ret (results_none rfl _ _ _) rfl ?_
    exact ⟨⟨_, rfl⟩, .inr ⟨_, hp0, hJ1⟩⟩
theorem outward_make (m : Nat) (_hm : m ≤ 100) (w : World) : Calls Tryz.prog 116 #[.int .i64 m] w fun e w' => e = .returned (.func (.func 129) #[] #[.pointer (some ⟨w.heap.size, 0, none⟩)]) ∧ w' = w.alloc (.cells #[.int .i64 m] 2) := by
  go_enter Tryz.func116, Tryz.ntmps116
  go_wp2
  go_ret
  exact ⟨rfl, rfl⟩
end Go.Proofs.YtmmninlnpnhboaaGreatDoor
namespace Go.Proofs.YtmmninlnpnhboaaGreatDoor
open Go.RowKit Go.Shelf
attribute [local go_sem] Oper.semAt_some
theorem flat_pre {α β γ : Type} {A pre : List α} {B ip : List β} {e : α} (f : α → β → γ) (h1 : pre ++ [e] <+: A) (h2 : ip <+: B) : (pre.flatMap fun a => B.map (f a)) ++ ip.map (f e) <+: A.flatMap fun a => B.map (f a) := by
  obtain ⟨r1, rfl⟩ := h1
  obtain ⟨r2, rfl⟩ := h2
  refine ⟨r2.map (f e) ++ r1.flatMap fun a => (ip ++ r2).map (f a), ?_⟩
  simp [List.flatMap_append]
/-- how a note is moved, in the order of choices: late, octave -/
def mvf (e lo : Int) : Int × Int := (-e, -lo)
def mvF (pre : List Int) : List (Int × Int) := pre.flatMap fun e => (owS 3).map (mvf e)
def mvS : List (Int × Int) := mvF (owS 7)
theorem owS_in {t : Nat} {x : Int} (h : x ∈ owS t) : -t ≤ x ∧ x ≤ t := by
  simp only [owS, List.mem_map, List.mem_range] at h
  obtain ⟨k, hk, rfl⟩ := h
  unfold owQ
  split <;> omega
theorem pre_mem {α : Type} {pre S : List α} {x : α} (h : pre ++ [x] <+: S) : x ∈ S := h.subset (by simp)
theorem roundIn_in {F : Fence} {m : Nat} {P : Program} {l k : Nat} {f : FuncId} {tmps : Array Value} {assign body : Code} {w : World} {R : Ending → World → Prop} (h : RoundIn F m P l f tmps assign body w R) : RoundIn (F.inRound k) m P l f tmps assign body w R := h
set_option maxHeartbeats 2000000 in
set_option maxRecDepth 20000 in
theorem moves_q (w : World) : SeqQ Tryz.prog 115 #[] (fun x : Int × Int => #[.agg #[.bool false, .int .i8 x.1, .int .i8 x.2, .int .i8 0]]) mvS w := by
  intro n l T J W hW hJ hY h0
  show CallsIn Fence.wide n Tryz.prog 115 #[.func (.yield l) #[] #[]] W _
  refine callsIn_of_wp_marks Tryz.func115 rfl trivial ?_ rfl
  simp only [Tryz.ntmps115, List.size_toArray, List.length_cons, List.length_nil, Nat.reduceAdd, Nat.reduceSub, Array.replicate_succ, Array.replicate_zero, List.push_toArray, List.append_toArray, List.nil_append, List.cons_append]
  refine wpIn_wide.2 ?_
  go_wp2_with fail
  obtain ⟨X, hX⟩ : ∃ X, X = W.alloc (.cells #[.func (.yield l) #[] #[]] 139) := ⟨_, rfl⟩
  have Y0 : Boxed X W.heap.size 139 (.func (.yield l) #[] #[]) := by rw [hX]; exact Boxed.new W _ _
  have b0 : Below W.heap.size W X := by rw [hX]; exact (Below.refl _ _).alloc (Nat.le_refl _) _
  rw [← hX]
  clear hX
  refine (outward_make 3 (by omega) X).mono ?_
  rintro e w5 ⟨rfl, rfl⟩
  go_wp2_with fail
  obtain ⟨W0, hW0⟩ : ∃ W0, W0 = X.alloc (.cells #[.int .i64 (3 : Nat)] 2) := ⟨_, rfl⟩
  have b1 : Below X.heap.size X W0 := by rw [hW0]; exact (Below.refl _ _).alloc (Nat.le_refl _) _
  have Y1 := bxk Y0 b1
  have O1 : W0.heap[X.heap.size]? = some (.cells #[.int .i64 (3 : Nat)] 2 (0, 0)) := by rw [hW0]; exact heap_alloc_new _ _
  have b2 : Below W.heap.size W W0 := b0.trans (b1.mono b0.size)
  have hXlt : W.heap.size < X.heap.size := bxlt Y0
  have hs0 : W0.heap.size = X.heap.size + 1 := by rw [hW0]; simp
  obtain ⟨G, hG⟩ : ∃ G, G = X.heap.size := ⟨_, rfl⟩
  rw [show X.alloc (Obj.cells #[Value.int IntKind.i64 3] 2) = W0 from hW0.symm]
  rw [← hG] at O1 hs0 hXlt ⊢
  have HG := hide hG
  clear hW0 b0 b1 Y0 hG
  have hT0 : T (mvF []) := h0
  refine (wpIn_wide (n := n)).1 ?_
  refine wpIn_q (gf := 129) (lb := #[.pointer (some ⟨G, 0, none⟩)]) rfl (enters_of Tryz.func129 (by kernel_rfl) rfl) (outward_q 3 G W0 (by omega) O1) (Below.refl _ _) (fun _ => rfl)
    (fun pre => T (mvF pre)) hT0 (fun c _ V => c = .ret ∧ ∃ q, q <+: mvS ∧ J q V)
    (fun c _ V V' row hs hg hr => ⟨hs.1, by obtain ⟨q, h1, h2⟩ := hs.2; exact ⟨q, h1, hJ q V V' row h2 hg fun r e => by have := hr r e; omega⟩⟩)
    (fun B1 x a' V => ∃ Bx, B1 ≤ Bx ∧ Boxed V Bx 2 (.int .i64 x) ∧ a' = { tmps := #[.func (.yield l) #[] #[], .pointer (some ⟨W.heap.size, 0, none⟩), .pointer (some ⟨Bx, 0, none⟩), undef, .func (.func 129) #[] #[.pointer (some ⟨G, 0, none⟩)], .int .i64 x, undef, undef, undef, undef, undef, undef, undef, undef, undef, undef, undef, undef], defers := [] })
    (fun B1 x a' _ s V V' row hs hg hr => by
      obtain ⟨Bx, h1, h2, h3⟩ := hs
      exact ⟨Bx, h1, boxed_own Bx _ (fun (_ : Unit) => .int .i64 x) () V V' row h2 hg (fun r e => (hr r e).2), h3⟩)
    ?assign ?body ?done ?stop
  case assign =>
    intro m r pre x V K hT hB hK
    gi_wp2
    exact hK _ _ ((Below.refl _ V).alloc (Nat.le_refl _) _) ⟨V.heap.size, Nat.le_refl _, Boxed.new V _ _, rfl⟩
  case body =>
    rintro m r pre x B1 a' V hl hlB hB1 hr hpre hT hB ⟨Bx, hBx, bX, rfl⟩
    have bV : Below W.heap.size W V := b2.trans (hB.mono b2.size)
    have Y2 := bxk Y1 hB
    have hx := owS_in (pre_mem hpre)
    have hnd : ∀ q : Nat, Fence.wide.depth.isSome = true → 1 ≤ q := fun q h => by simp [Fence.wide] at h
    gi_wp2
    refine ⟨trivial, hnd _, (CallsIn.inRound r (callsIn_wide.2 (outward_make 1 (by omega) V))).mono ?_⟩
    rintro e w6 ⟨rfl, rfl⟩
    gi_wp2
    obtain ⟨V0, hV0⟩ : ∃ V0, V0 = V.alloc (.cells #[.int .i64 (1 : Nat)] 2) := ⟨_, rfl⟩
    have c1 : Below V.heap.size V V0 := by rw [hV0]; exact (Below.refl _ _).alloc (Nat.le_refl _) _
    have Y3 := bxk Y2 c1
    have bX3 := bxk bX c1
    have O2 : V0.heap[V.heap.size]? = some (.cells #[.int .i64 (1 : Nat)] 2 (0, 0)) := by rw [hV0]; exact heap_alloc_new _ _
    have bV3 : Below W.heap.size W V0 := bV.trans (c1.mono bV.size)
    obtain ⟨q, hq⟩ := hr
    have hq3 : V0.heap[r]? = some (.loop q) := (c1.block _ (Array.getElem?_eq_some_iff.1 hq).1).trans hq
    rw [show V.alloc (Obj.cells #[Value.int IntKind.i64 1] 2) = V0 from hV0.symm]
    obtain ⟨E, hE⟩ : ∃ E, E = V.heap.size := ⟨_, rfl⟩
    have hs3 : V0.heap.size = E + 1 := by rw [hV0, hE]; simp
    have hEV : W.heap.size ≤ E := by rw [hE]; exact bV.size
    have hBV := hB.size
    rw [← hE] at O2 hBV ⊢
    have HE := hide hE
    have HC := hide c1
    clear hV0 hE c1 Y2 bX hq
    have hT1 : T (mvF pre ++ ([] : List Int).map (mvf x)) := by simpa using hT
    have HB := hide hB
    have hBxE : Bx < V0.heap.size := bxlt bX3
    refine wpIn_qn (gf := 129) (lb := #[.pointer (some ⟨E, 0, none⟩)]) ⟨q, hq3⟩ rfl (enters_of Tryz.func129 (by kernel_rfl) rfl) (outward_q 1 E V0 (by omega) O2) (Below.refl _ _) (fun _ => rfl)
      (fun ip => T (mvF pre ++ ip.map (mvf x))) hT1 (fun c _ V => c = .ret ∧ (∃ q, q <+: mvS ∧ J q V) ∧ KeepsFrom W.heap.size V0 V)
      (fun c _ V V' row hs hg hr => ⟨hs.1, by obtain ⟨q, h1, h2⟩ := hs.2.1; exact ⟨q, h1, hJ q V V' row h2 hg fun r e => by have := hr r e; omega⟩, low_keeps (β := Unit) () V V' row hs.2.2 hg hr⟩)
      (fun _ y a' _ => a' = { tmps := #[.func (.yield l) #[] #[], .pointer (some ⟨W.heap.size, 0, none⟩), .pointer (some ⟨Bx, 0, none⟩), .int .i64 y, .func (.func 129) #[] #[.pointer (some ⟨G, 0, none⟩)], .int .i64 x, .func (.func 129) #[] #[.pointer (some ⟨E, 0, none⟩)], .int .i64 y, undef, undef, undef, undef, undef, undef, undef, undef, undef, undef], defers := [] })
      (fun _ _ _ _ _ _ _ _ hs _ _ => hs)
      ?assign2 ?body2 ?done2 ?stop2
    case assign2 =>
      intro m2 r2 pre2 y U K _ _ hK
      gi_wp2
      exact hK _ _ (Below.refl _ _) rfl
    case body2 =>
      rintro m2 r2 pre2 y B2 a' U hl2 hlB2 hB2 hr2 hpre2 hT2 hU rfl
      have Y4 := (bxk Y3 hU).cell
      have X4 := (bxk bX3 hU).cell
      have hy2 := owS_in (pre_mem hpre2)
      have bU : Below W.heap.size W U := bV3.trans (hU.mono bV3.size)
      have hp : (mvF pre ++ pre2.map (mvf x)) ++ [mvf x y] <+: mvS := by
        have := flat_pre mvf hpre hpre2
        rw [List.map_append] at this
        simpa [mvF, mvS, List.append_assoc] using this
      obtain ⟨fn, tmps, assign, body, hy, hR⟩ := hY (m2 - 1) _ _ U hp hT2 bU
      have w1 : IntKind.i64.wrap (-x) = -x := IntWalk.i64_in _ (by omega)
      have w2 : IntKind.i64.wrap (-y) = -y := IntWalk.i64_in _ (by omega)
      have w3 : IntKind.i8.wrap (-x) = -x := by simp [IntKind.wrap, IntKind.signed, IntKind.bits]; omega
      have w4 : IntKind.i8.wrap (-y) = -y := by simp [IntKind.wrap, IntKind.signed, IntKind.bits]; omega
      simp only [mvf] at hy
      gi_wp2
      refine ⟨hnd _, (roundIn_in hR).mono ?_⟩
      clear hy hR
      rintro e U2 (⟨rfl, hT3, hk3⟩ | ⟨rfl, hJ3, hkf⟩)
      · gi_wp2
        exact ⟨keepsFrom_below hk3, hk3.mono hB2, by show T (mvF pre ++ (pre2 ++ [y]).map (mvf x)); rw [List.map_append, ← List.append_assoc]; exact hT3⟩
      · gi_wp2
        exact ⟨⟨hkf.size, fun k o hB => hkf.same k o (by omega)⟩, rfl, ⟨_, hp, hJ3⟩, (keepsFrom_below (hU.mono (Nat.le_refl _))).trans hkf⟩
    case done2 =>
      intro U hT2 hU
      have c1 := HC.out
      have hVU : Below V.heap.size V U := c1.trans (hU.mono c1.size)
      exact ⟨keepsFrom_below hVU, hVU.mono hB1, by simpa [mvF] using hT2⟩
    case stop2 =>
      rintro c pre2 U hpre2 ⟨rfl, ⟨q2, h1, h2⟩, h3⟩
      gi_wp2
      exact ⟨(keepsFrom_below HC.out).trans ⟨h3.size, fun k o hB => h3.same k o (by omega)⟩, rfl, q2, h1, h2⟩
  case done =>
    intro D U hD hT1 hU hK
    gi_wp2
    refine ⟨by simp, .inl ⟨_, _, rfl, run_takeDeferred hK, ?_⟩⟩
    refine ⟨_, results_none rfl _ _ _, ⟨_, rfl⟩, .inl ⟨hT1, low_putObj _ (b2.trans (hU.mono b2.size)) (Nat.le_refl _) (by omega)⟩⟩
  case stop =>
    rintro D c pre U hD hpre ⟨rfl, q, h1, h2⟩ hK
    gi_wp2
    refine ⟨by simp, .inl ⟨_, _, rfl, run_takeDeferred hK, ?_⟩⟩
    exact ⟨_, results_none rfl _ _ _, ⟨_, rfl⟩, .inr ⟨q, h1, hJ _ _ _ _ h2 (grownBy_putObj' U _ _) fun r e => by cases e; omega⟩⟩
end Go.Proofs.YtmmninlnpnhboaaGreatDoor
namespace Go.Proofs.YtmmninlnpnhboaaGreatDoor
open Go.RowKit

/-- a drum's cells -/
def dv (d : Nat → Int) : List Value := (List.range 96).map fun i => .int .u32 (d i)
theorem dv_length (d : Nat → Int) : (dv d).length = 96 := by simp [dv]
theorem dv_get (d : Nat → Int) (i : Nat) (h : i < 96) : (dv d)[i]? = some (.int .u32 (d i)) := by simp [dv, h]
theorem dv_one (d : Nat → Int) : ∀ v ∈ dv d, v.oneCell' = true := by
  intro v hv
  simp only [dv, List.mem_map] at hv
  obtain ⟨i, _, rfl⟩ := hv
  rfl
theorem dv_set (d : Nat → Int) (k : Nat) (x : Int) : (dv d).set k (.int .u32 x) = dv (fun i => if i = k then x else d i) := by
  apply List.ext_getElem?
  intro i
  by_cases hi : i < 96
  · rw [dv_get _ _ hi, List.getElem?_set, dv_get _ _ hi, dv_length]
    by_cases e : k = i
    · subst e; simp [hi]
    · rw [if_neg e, if_neg (fun h => e h.symm)]
  · rw [List.getElem?_eq_none (by rw [List.length_set, dv_length]; omega), List.getElem?_eq_none (by rw [dv_length]; omega)]
theorem dv_congr {d d' : Nat → Int} (h : ∀ i, i < 96 → d i = d' i) : dv d = dv d' := by
  apply List.map_congr_left
  intro i hi
  rw [h i (List.mem_range.1 hi)]
/-- as an array -/
def da (d : Nat → Int) : Array Value := (dv d).toArray
theorem da_one (d : Nat → Int) : (da d).all (·.oneCell') = true := all_oneCell_toArray (dv_one d)
theorem da_size (d : Nat → Int) : (da d).size = 96 := by simp [da, dv_length]
/-- block g holds a drum, as a row of a type -/
def Dr (w : World) (g : Nat) (t : TypeId) (d : Nat → Int) : Prop := w.heap[g]? = some (.cells (da d) t (0, 0))
theorem Dr.lt {w : World} {g : Nat} {t : TypeId} {d : Nat → Int} (h : Dr w g t d) : g < w.heap.size := (Array.getElem?_eq_some_iff.1 h).1
theorem Dr.cell {w : World} {g : Nat} {t : TypeId} {d : Nat → Int} (h : Dr w g t d) {i : Nat} (hi : i < 96) : w.cell? ⟨g, i, none⟩ = some (.int .u32 (d i)) := by
  rw [cell_of_row w g i _ _ _ h]
  simpa [da] using dv_get d i hi
theorem Dr.frozen {w : World} {g : Nat} {t : TypeId} {d : Nat → Int} (h : Dr w g t d) (i : Nat) : w.frozen? ⟨g, i, none⟩ = false := frozen_of_row w g i _ _ h
theorem Dr.keep {w w' : World} {g : Nat} {t : TypeId} {d : Nat → Int} (h : Dr w g t d) (hb : Below w.heap.size w w') : Dr w' g t d := (hb.block g h.lt).trans h
theorem Dr.set {w : World} {g : Nat} {t : TypeId} {d : Nat → Int} (h : Dr w g t d) (k : Nat) (x : Int) : Dr (w.setCell ⟨g, k, none⟩ (.int .u32 x)) g t (fun i => if i = k then x else d i) := by
  have := heap_setCell_same w g k _ _ (.int .u32 x) h
  unfold Dr
  rw [this, da, da, ← dv_set]
  simp
theorem Dr.other {w : World} {g b k : Nat} {t : TypeId} {d : Nat → Int} (h : Dr w g t d) (hne : g ≠ b) (v : Value) : Dr (w.setCell ⟨b, k, none⟩ v) g t d := by
  unfold Dr at h ⊢
  rw [← h]
  exact heap_setCell_other w ⟨b, k, none⟩ g v hne
theorem Dr.congr {w : World} {g : Nat} {t : TypeId} {d d' : Nat → Int} (h : Dr w g t d) (he : ∀ i, i < 96 → d i = d' i) : Dr w g t d' := by
  unfold Dr da at *
  rw [h, dv_congr he]

def za : Array Value := (List.replicate 96 (.int .u32 0)).toArray
theorem rep_range (n : Nat) (v : Value) : List.replicate n v = (List.range n).map fun _ => v := by simp [List.map_const']
theorem za_eq : za = da fun _ => 0 := by
  unfold za da dv
  rw [rep_range]
theorem below_setRow {B g : Nat} {w w' : World} {cs : Array Value} (h : Below B w w') (hg : B ≤ g) : Below B w (w'.setRow g cs) :=
  h.trans ⟨rfl, rfl, rfl, by simp, fun k hk => setRow_other _ _ _ _ (by omega)⟩
theorem zeroDrum (w : World) : (zeroValue 33).run Tryz.prog w = .ok (.agg za) w := by kernel_rfl
theorem info33 : (Tryz.prog.info? 33).map (·.size) = some 96 := by kernel_rfl
theorem info32 : (Tryz.prog.info? 32).map (·.size) = some 96 := by kernel_rfl

end Go.Proofs.YtmmninlnpnhboaaGreatDoor
