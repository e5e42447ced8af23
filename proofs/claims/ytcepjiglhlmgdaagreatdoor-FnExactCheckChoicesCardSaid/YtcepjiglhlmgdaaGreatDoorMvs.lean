import Derived.Test.YtcepjiglhlmgdaaGreatDoorQow
namespace Go.Proofs.YtcepjiglhlmgdaaGreatDoor
open Go.RowKit Go.Shelf
attribute [local go_sem] Oper.semAt_some
theorem flat_pre {α β γ : Type} {A pre : List α} {B ip : List β} {e : α} (f : α → β → γ) (h1 : pre ++ [e] <+: A) (h2 : ip <+: B) : (pre.flatMap fun a => B.map (f a)) ++ ip.map (f e) <+: A.flatMap fun a => B.map (f a) := by
  obtain ⟨r1, rfl⟩ := h1
  obtain ⟨r2, rfl⟩ := h2
  refine ⟨r2.map (f e) ++ r1.flatMap fun a => (ip ++ r2).map (f a), ?_⟩
  simp [List.flatMap_append]
/-- how a note is moved, in the order of choices: late, octave -/
def mvf (e lo : Int) : Int × Int := (-e, -lo)
def mvF (pre : List Int) : List (Int × Int) := pre.flatMap fun e => (owS 3).map (mvf e)
def mvS : List (Int × Int) := mvF (owS 7)
theorem owS_in {t : Nat} {x : Int} (h : x ∈ owS t) : -t ≤ x ∧ x ≤ t := by
  simp only [owS, List.mem_map, List.mem_range] at h
  obtain ⟨k, hk, rfl⟩ := h
  unfold owQ
  split <;> omega
theorem pre_mem {α : Type} {pre S : List α} {x : α} (h : pre ++ [x] <+: S) : x ∈ S := h.subset (by simp)
theorem roundIn_in {F : Fence} {m : Nat} {P : Program} {l k : Nat} {f : FuncId} {tmps : Array Value} {assign body : Code} {w : World} {R : Ending → World → Prop} (h : RoundIn F m P l f tmps assign body w R) : RoundIn (F.inRound k) m P l f tmps assign body w R := h
set_option maxHeartbeats 2000000 in
set_option maxRecDepth 20000 in
theorem moves_q (w : World) : SeqQ Tryz.prog 87 #[] (fun x : Int × Int => #[.agg #[.bool false, .int .i8 x.1, .int .i8 x.2, .int .i8 0]]) mvS w := by
  intro n l T J W hW hJ hY h0
  show CallsIn Fence.wide n Tryz.prog 87 #[.func (.yield l) #[] #[]] W _
  refine callsIn_of_wp_marks Tryz.func87 rfl trivial ?_ rfl
  simp only [Tryz.ntmps87, List.size_toArray, List.length_cons, List.length_nil, Nat.reduceAdd, Nat.reduceSub, Array.replicate_succ, Array.replicate_zero, List.push_toArray, List.append_toArray, List.nil_append, List.cons_append]
  refine wpIn_wide.2 ?_
  go_wp2_with fail
  obtain ⟨X, hX⟩ : ∃ X, X = W.alloc (.cells #[.func (.yield l) #[] #[]] 119) := ⟨_, rfl⟩
  have Y0 : Boxed X W.heap.size 119 (.func (.yield l) #[] #[]) := by rw [hX]; exact Boxed.new W _ _
  have b0 : Below W.heap.size W X := by rw [hX]; exact (Below.refl _ _).alloc (Nat.le_refl _) _
  rw [← hX]
  clear hX
  refine (outward_make 3 (by omega) X).mono ?_
  rintro e w5 ⟨rfl, rfl⟩
  go_wp2_with fail
  obtain ⟨W0, hW0⟩ : ∃ W0, W0 = X.alloc (.cells #[.int .i64 (3 : Nat)] 2) := ⟨_, rfl⟩
  have b1 : Below X.heap.size X W0 := by rw [hW0]; exact (Below.refl _ _).alloc (Nat.le_refl _) _
  have Y1 := bxk Y0 b1
  have O1 : W0.heap[X.heap.size]? = some (.cells #[.int .i64 (3 : Nat)] 2 (0, 0)) := by rw [hW0]; exact heap_alloc_new _ _
  have b2 : Below W.heap.size W W0 := b0.trans (b1.mono b0.size)
  have hXlt : W.heap.size < X.heap.size := bxlt Y0
  have hs0 : W0.heap.size = X.heap.size + 1 := by rw [hW0]; simp
  obtain ⟨G, hG⟩ : ∃ G, G = X.heap.size := ⟨_, rfl⟩
  rw [show X.alloc (Obj.cells #[Value.int IntKind.i64 3] 2) = W0 from hW0.symm]
  rw [← hG] at O1 hs0 hXlt ⊢
  have HG := hide hG
  clear hW0 b0 b1 Y0 hG
  have hT0 : T (mvF []) := h0
  refine (wpIn_wide (n := n)).1 ?_
  refine wpIn_q (gf := 91) (lb := #[.pointer (some ⟨G, 0, none⟩)]) rfl (enters_of Tryz.func91 (by kernel_rfl) rfl) (outward_q 3 G W0 (by omega) O1) (Below.refl _ _) (fun _ => rfl)
    (fun pre => T (mvF pre)) hT0 (fun c _ V => c = .ret ∧ ∃ q, q <+: mvS ∧ J q V)
    (fun c _ V V' row hs hg hr => ⟨hs.1, by obtain ⟨q, h1, h2⟩ := hs.2; exact ⟨q, h1, hJ q V V' row h2 hg fun r e => by have := hr r e; omega⟩⟩)
    (fun B1 x a' V => ∃ Bx, B1 ≤ Bx ∧ Boxed V Bx 2 (.int .i64 x) ∧ a' = { tmps := #[.func (.yield l) #[] #[], .pointer (some ⟨W.heap.size, 0, none⟩), .pointer (some ⟨Bx, 0, none⟩), undef, .func (.func 91) #[] #[.pointer (some ⟨G, 0, none⟩)], .int .i64 x, undef, undef, undef, undef, undef, undef, undef, undef, undef, undef, undef, undef], defers := [] })
    (fun B1 x a' _ s V V' row hs hg hr => by
      obtain ⟨Bx, h1, h2, h3⟩ := hs
      exact ⟨Bx, h1, boxed_own Bx _ (fun (_ : Unit) => .int .i64 x) () V V' row h2 hg (fun r e => (hr r e).2), h3⟩)
    ?assign ?body ?done ?stop
  case assign =>
    intro m r pre x V K hT hB hK
    gi_wp2
    exact hK _ _ ((Below.refl _ V).alloc (Nat.le_refl _) _) ⟨V.heap.size, Nat.le_refl _, Boxed.new V _ _, rfl⟩
  case body =>
    rintro m r pre x B1 a' V hl hlB hB1 hr hpre hT hB ⟨Bx, hBx, bX, rfl⟩
    have bV : Below W.heap.size W V := b2.trans (hB.mono b2.size)
    have Y2 := bxk Y1 hB
    have hx := owS_in (pre_mem hpre)
    have hnd : ∀ q : Nat, Fence.wide.depth.isSome = true → 1 ≤ q := fun q h => by simp [Fence.wide] at h
    gi_wp2
    refine ⟨trivial, hnd _, (CallsIn.inRound r (callsIn_wide.2 (outward_make 1 (by omega) V))).mono ?_⟩
    rintro e w6 ⟨rfl, rfl⟩
    gi_wp2
    obtain ⟨V0, hV0⟩ : ∃ V0, V0 = V.alloc (.cells #[.int .i64 (1 : Nat)] 2) := ⟨_, rfl⟩
    have c1 : Below V.heap.size V V0 := by rw [hV0]; exact (Below.refl _ _).alloc (Nat.le_refl _) _
    have Y3 := bxk Y2 c1
    have bX3 := bxk bX c1
    have O2 : V0.heap[V.heap.size]? = some (.cells #[.int .i64 (1 : Nat)] 2 (0, 0)) := by rw [hV0]; exact heap_alloc_new _ _
    have bV3 : Below W.heap.size W V0 := bV.trans (c1.mono bV.size)
    obtain ⟨q, hq⟩ := hr
    have hq3 : V0.heap[r]? = some (.loop q) := (c1.block _ (Array.getElem?_eq_some_iff.1 hq).1).trans hq
    rw [show V.alloc (Obj.cells #[Value.int IntKind.i64 1] 2) = V0 from hV0.symm]
    obtain ⟨E, hE⟩ : ∃ E, E = V.heap.size := ⟨_, rfl⟩
    have hs3 : V0.heap.size = E + 1 := by rw [hV0, hE]; simp
    have hEV : W.heap.size ≤ E := by rw [hE]; exact bV.size
    have hBV := hB.size
    rw [← hE] at O2 hBV ⊢
    have HE := hide hE
    have HC := hide c1
    clear hV0 hE c1 Y2 bX hq
    have hT1 : T (mvF pre ++ ([] : List Int).map (mvf x)) := by simpa using hT
    have HB := hide hB
    have hBxE : Bx < V0.heap.size := bxlt bX3
    refine wpIn_qn (gf := 91) (lb := #[.pointer (some ⟨E, 0, none⟩)]) ⟨q, hq3⟩ rfl (enters_of Tryz.func91 (by kernel_rfl) rfl) (outward_q 1 E V0 (by omega) O2) (Below.refl _ _) (fun _ => rfl)
      (fun ip => T (mvF pre ++ ip.map (mvf x))) hT1 (fun c _ V => c = .ret ∧ (∃ q, q <+: mvS ∧ J q V) ∧ KeepsFrom W.heap.size V0 V)
      (fun c _ V V' row hs hg hr => ⟨hs.1, by obtain ⟨q, h1, h2⟩ := hs.2.1; exact ⟨q, h1, hJ q V V' row h2 hg fun r e => by have := hr r e; omega⟩, low_keeps (β := Unit) () V V' row hs.2.2 hg hr⟩)
      (fun _ y a' _ => a' = { tmps := #[.func (.yield l) #[] #[], .pointer (some ⟨W.heap.size, 0, none⟩), .pointer (some ⟨Bx, 0, none⟩), .int .i64 y, .func (.func 91) #[] #[.pointer (some ⟨G, 0, none⟩)], .int .i64 x, .func (.func 91) #[] #[.pointer (some ⟨E, 0, none⟩)], .int .i64 y, undef, undef, undef, undef, undef, undef, undef, undef, undef, undef], defers := [] })
      (fun _ _ _ _ _ _ _ _ hs _ _ => hs)
      ?assign2 ?body2 ?done2 ?stop2
    case assign2 =>
      intro m2 r2 pre2 y U K _ _ hK
      gi_wp2
      exact hK _ _ (Below.refl _ _) rfl
    case body2 =>
      rintro m2 r2 pre2 y B2 a' U hl2 hlB2 hB2 hr2 hpre2 hT2 hU rfl
      have Y4 := (bxk Y3 hU).cell
      have X4 := (bxk bX3 hU).cell
      have hy2 := owS_in (pre_mem hpre2)
      have bU : Below W.heap.size W U := bV3.trans (hU.mono bV3.size)
      have hp : (mvF pre ++ pre2.map (mvf x)) ++ [mvf x y] <+: mvS := by
        have := flat_pre mvf hpre hpre2
        rw [List.map_append] at this
        simpa [mvF, mvS, List.append_assoc] using this
      obtain ⟨fn, tmps, assign, body, hy, hR⟩ := hY (m2 - 1) _ _ U hp hT2 bU
      have w1 : IntKind.i64.wrap (-x) = -x := IntWalk.i64_in _ (by omega)
      have w2 : IntKind.i64.wrap (-y) = -y := IntWalk.i64_in _ (by omega)
      have w3 : IntKind.i8.wrap (-x) = -x := by simp [IntKind.wrap, IntKind.signed, IntKind.bits]; omega
      have w4 : IntKind.i8.wrap (-y) = -y := by simp [IntKind.wrap, IntKind.signed, IntKind.bits]; omega
      simp only [mvf] at hy
      gi_wp2
      refine ⟨hnd _, (roundIn_in hR).mono ?_⟩
      clear hy hR
      rintro e U2 (⟨rfl, hT3, hk3⟩ | ⟨rfl, hJ3, hkf⟩)
      · gi_wp2
        exact ⟨keepsFrom_below hk3, hk3.mono hB2, by show T (mvF pre ++ (pre2 ++ [y]).map (mvf x)); rw [List.map_append, ← List.append_assoc]; exact hT3⟩
      · gi_wp2
        exact ⟨⟨hkf.size, fun k o hB => hkf.same k o (by omega)⟩, rfl, ⟨_, hp, hJ3⟩, (keepsFrom_below (hU.mono (Nat.le_refl _))).trans hkf⟩
    case done2 =>
      intro U hT2 hU
      have c1 := HC.out
      have hVU : Below V.heap.size V U := c1.trans (hU.mono c1.size)
      exact ⟨keepsFrom_below hVU, hVU.mono hB1, by simpa [mvF] using hT2⟩
    case stop2 =>
      rintro c pre2 U hpre2 ⟨rfl, ⟨q2, h1, h2⟩, h3⟩
      gi_wp2
      exact ⟨(keepsFrom_below HC.out).trans ⟨h3.size, fun k o hB => h3.same k o (by omega)⟩, rfl, q2, h1, h2⟩
  case done =>
    intro D U hD hT1 hU hK
    gi_wp2
    refine ⟨by simp, .inl ⟨_, _, rfl, run_takeDeferred hK, ?_⟩⟩
    refine ⟨_, results_none rfl _ _ _, ⟨_, rfl⟩, .inl ⟨hT1, low_putObj _ (b2.trans (hU.mono b2.size)) (Nat.le_refl _) (by omega)⟩⟩
  case stop =>
    rintro D c pre U hD hpre ⟨rfl, q, h1, h2⟩ hK
    gi_wp2
    refine ⟨by simp, .inl ⟨_, _, rfl, run_takeDeferred hK, ?_⟩⟩
    exact ⟨_, results_none rfl _ _ _, ⟨_, rfl⟩, .inr ⟨q, h1, hJ _ _ _ _ h2 (grownBy_putObj' U _ _) fun r e => by cases e; omega⟩⟩
end Go.Proofs.YtcepjiglhlmgdaaGreatDoor
