import Derived.RangeFuncNested
import Derived.RangeFuncBound
import Derived.RangeFuncCalls
import Derived.RangeFuncLeaves
import Derived.Shelf.Abstract
import Derived.OwnWalkIn
import Derived.TacticsInMore
import Derived.LoopNIn
import Derived.LoopIn
import Derived.Test.YtcepjiglhlmgdaaGreatDoorGaa
namespace Go.Proofs.YtcepjiglhlmgdaaGreatDoor
open Go.RowKit Go.Shelf

/-- at the wide fence a round is a round at whatever figure -/
theorem yieldAt_wide {m : Nat} (m' : Nat) {P : Program} {l : Nat} {args : Array Value} {W : World} {R : Ending → World → Prop} (h : YieldAt Fence.wide m P l args W R) : YieldAt Fence.wide m' P l args W R := by
  obtain ⟨fn, tmps, assign, body, hy, hR⟩ := h
  exact ⟨fn, tmps, assign, body, hy, hR.1, fun c cs _ => hR.2 c cs (room_wide _)⟩
theorem yieldAt_mono {F : Fence} {m : Nat} {P : Program} {l : Nat} {args : Array Value} {W : World} {R R' : Ending → World → Prop} (h : YieldAt F m P l args W R) (hr : ∀ e w', R e w' → R' e w') : YieldAt F m P l args W R' := by
  obtain ⟨fn, tmps, assign, body, hy, hR⟩ := h
  exact ⟨fn, tmps, assign, body, hy, hR.mono hr⟩
/-- what speaks of no block from B on -/
def LowAt {β : Type} (B : Nat) (J : β → World → Prop) : Prop := ∀ s V V' row, J s V → V.grownBy V' row → (∀ r, row = some r → B ≤ r) → J s V'
theorem LowAt.mono {β : Type} {B B' : Nat} {J : β → World → Prop} (h : LowAt B J) (hB : B ≤ B') : LowAt B' J := fun s V V' row hs hg hr => h s V V' row hs hg fun r e => Nat.le_trans hB (hr r e)
theorem below_grownBy {B B' : Nat} {w V V' : World} {row : Option Nat} (h : Below B w V) (hg : V.grownBy V' row) (hB : B ≤ w.heap.size) (hr : ∀ r, row = some r → B' ≤ r) (hB' : B ≤ B') : Below B w V' :=
  h.trans ⟨hg.os, hg.tape, hg.output, hg.size, fun k hk => hg.block k (by have := h.size; omega) fun e => by have := hr k e.symm; omega⟩
theorem low_below {β : Type} {w : World} : LowAt w.heap.size (fun (_ : β) V => Below w.heap.size w V) := fun _ _ _ _ h hg hr => below_grownBy h hg (Nat.le_refl _) hr (Nat.le_refl _)
theorem LowAt.and {β : Type} {B : Nat} {J K : β → World → Prop} (h : LowAt B J) (k : LowAt B K) : LowAt B (fun s V => J s V ∧ K s V) := fun s V V' row hs hg hr => ⟨h s V V' row hs.1 hg hr, k s V V' row hs.2 hg hr⟩
theorem low_pure {β : Type} (B : Nat) (p : β → Prop) : LowAt B (fun s (_ : World) => p s) := fun _ _ _ _ h _ _ => h
theorem low_boxed {β : Type} {B b : Nat} {t : TypeId} {v : Value} (hb : b < B) : LowAt B (fun (_ : β) V => Boxed V b t v) := fun _ V V' row h hg hr => by
  have hl : b < V.heap.size := (Array.getElem?_eq_some_iff.1 h).1
  exact (hg.block b hl fun e => by have := hr b e.symm; omega).trans h
theorem bxk {W W' : World} {b : Nat} {t : TypeId} {v : Value} (h : Boxed W b t v) (hb : Below W.heap.size W W') : Boxed W' b t v := (hb.block b (Array.getElem?_eq_some_iff.1 h).1).trans h
theorem bxlt {W : World} {b : Nat} {t : TypeId} {v : Value} (h : Boxed W b t v) : b < W.heap.size := (Array.getElem?_eq_some_iff.1 h).1
theorem keepsFrom_below {B : Nat} {A C : World} (h : Below A.heap.size A C) : KeepsFrom B A C := ⟨h.size, fun k _ _ hk _ => (h.block k (Array.getElem?_eq_some_iff.1 hk).1).trans hk⟩
theorem low_keeps {β : Type} {B : Nat} {w : World} : LowAt w.heap.size (fun (_ : β) V => KeepsFrom B w V) := fun _ V V' row h hg hr =>
  ⟨Nat.le_trans h.size hg.size, fun k o hB hk ho => by
    have h1 := h.same k o hB hk ho
    have h2 := (Array.getElem?_eq_some_iff.1 hk).1
    exact (hg.block k (Array.getElem?_eq_some_iff.1 h1).1 fun e => by have := hr k e.symm; omega).trans h1⟩
theorem keeps_putObj {B l : Nat} {A C : World} {o : Obj} (h : KeepsFrom B A C) (hl : l < B) : KeepsFrom B A (C.putObj l o) := ⟨by rw [World.putObj_size]; exact h.size, fun k o' hB hk ho => by rw [World.putObj_heap_other (by omega)]; exact h.same k o' hB hk ho⟩
theorem keeps_putObj_of {B l : Nat} {A C : World} {o : Obj} (h : KeepsFrom B (A.putObj l o) C) (hl : l < B) : KeepsFrom B A C := ⟨by have := h.size; rwa [World.putObj_size] at this, fun k o' hB hk ho => h.same k o' hB (by rw [World.putObj_heap_other (by omega)]; exact hk) ho⟩
/-- an iterator hands out the list S, whatever reads it -/
def SeqQ {α : Type} (P : Program) (g : Nat) (lb : Array Value) (encs : α → Array Value) (S : List α) (w : World) : Prop :=
  ∀ (n l : Nat) (T : List α → Prop) (J : List α → World → Prop) (W : World), Below w.heap.size w W → LowAt W.heap.size J →
    (∀ m pre x W1, pre ++ [x] <+: S → T pre → Below W.heap.size W W1 → YieldAt Fence.wide m P l (encs x) W1 fun e W' =>
      (e = .returned (.bool true) ∧ T (pre ++ [x]) ∧ Below W1.heap.size W1 W') ∨ (e = .returned (.bool false) ∧ J (pre ++ [x]) W' ∧ KeepsFrom W.heap.size W1 W')) →
    T [] → CallsIn Fence.wide n P g (#[.func (.yield l) #[] #[]] ++ lb) W fun e W' => (∃ v, e = .returned v) ∧ ((T S ∧ Below W.heap.size W W') ∨ ∃ pre, pre <+: S ∧ J pre W')
theorem SeqQ.up {α : Type} {P : Program} {g : Nat} {lb : Array Value} {encs : α → Array Value} {S : List α} {w w' : World} (h : SeqQ P g lb encs S w) (hb : Below w.heap.size w w') : SeqQ P g lb encs S w' := fun n l T J W hW => h n l T J W (hb.trans (hW.mono hb.size))

/-- the end of a round that writes nothing below B1, or leaves the loop -/
abbrev qEnd {α : Type} (B B1 : Nat) (T : List α → Prop) (Ix : Code → List α → World → Prop) (xs : List α) (W : World) : Exit → Act → World → Prop := ownPostG B (fun A C => Below B1 A C) (fun ys _ => T ys) Ix xs W

theorem below_putObj {B l : Nat} {W W' : World} {o o' : Obj} (hl : W.heap[l]? = some o) (hlB : l < B) (hB : B ≤ W.heap.size) (hb : Below B (W.putObj l o') W') : Below B W (W'.putObj l o) := by
  have hz : (W.putObj l o').heap.size = W.heap.size := World.putObj_size
  refine ⟨hb.os, hb.tape, hb.output, by rw [World.putObj_size]; have := hb.size; omega, fun k hk => ?_⟩
  by_cases e : k = l
  · subst e
    rw [hl]
    exact World.putObj_heap_same (by have := hb.size; omega)
  · rw [World.putObj_heap_other e, hb.block k hk, World.putObj_heap_other e]
theorem low_putObj {B l : Nat} {w V : World} (o : Obj) (h : Below B w V) (hB : B ≤ w.heap.size) (hl : B ≤ l) : Below B w (V.putObj l o) := below_grownBy h (grownBy_putObj' V l o) hB (B' := l) (fun r e => by cases e; exact Nat.le_refl _) hl

/-- a range over such an iterator, outermost -/
theorem wpIn_q {α : Type} {n : Nat} {P : Program} {g : Operand} {ps : Array Tmp} {assign body : Code} {Q : Exit → Act → World → Prop} {a : Act} {w : World}
    {gf : Nat} {lb : Array Value} (hg : a.eval g = .func (.func gf) #[] lb) (eg : ∀ args w, (callFunc gf args).run P w = .ok (.enter gf args) w)
    {encs : α → Array Value} {S : List α} {w0 : World} (hseq : SeqQ P gf lb encs S w0) (hb0 : Below w0.heap.size w0 w) (hps : ∀ x, (encs x).size = ps.size)
    (T : List α → Prop) (h0 : T []) (Ix : Code → List α → World → Prop) (hIx : ∀ c, LowAt w.heap.size (Ix c)) (Ax : Nat → α → Act → World → Prop) (hAx : ∀ B1 x a', w.heap.size ≤ B1 → OwnFrom w.heap.size (fun (_ : Unit) W => Ax B1 x a' W))
    (hassign : ∀ (m l : Nat) (pre : List α) (x : α) (W : World) (K : Act → World → Prop), T pre → Below w.heap.size w W → (∀ a' W', Below W.heap.size W W' → Ax W.heap.size x a' W' → K a' W') →
      assign.wpIn (Fence.wide.inRound l) m P (Exit.then K (fun _ _ _ => False)) { tmps := (ps.zip (encs x)).foldl (fun t (p, v) => t.setIfInBounds p v) a.tmps, defers := [] } W)
    (hbody : ∀ (m l : Nat) (pre : List α) (x : α) (B1 : Nat) (a' : Act) (W : World), w.heap.size ≤ l → l < B1 → B1 ≤ W.heap.size → (∃ r, W.heap[l]? = some (.loop r)) → pre ++ [x] <+: S → T pre → Below w.heap.size w W → Ax B1 x a' W →
      body.wpIn (Fence.wide.inRound l) m P (qEnd w.heap.size B1 T Ix (pre ++ [x]) W) a' W)
    (hdone : ∀ (D : Nat) (W : World), w.heap.size ≤ D → T S → Below w.heap.size w W → W.heap[D]? = some (.deferred (some [])) → Q .normal { a with defers := { target := .collected D, args := #[] } :: a.defers } W)
    (hstop : ∀ (D : Nat) (c : Code) (pre : List α) (W : World), w.heap.size ≤ D → pre <+: S → Ix c pre W → W.heap[D]? = some (.deferred (some [])) → c.wpIn Fence.wide n P Q { a with defers := { target := .collected D, args := #[] } :: a.defers } W) :
    (Code.rangeFunc g ps assign body).wpIn Fence.wide n P Q a w := by
  refine wpIn_rangeFunc ?_
  intro fn _
  obtain ⟨R, hR⟩ : ∃ R : LoopState → Option Code → Loop, R = fun st pe => { state := st, pending := pe, fn, tmps := a.tmps, params := ps, assign, body, defers := w.heap.size } := ⟨_, rfl⟩
  obtain ⟨V, hV⟩ : ∃ V, (w.alloc (.deferred (some []))).alloc (.loop (R .ready none)) = V := ⟨_, rfl⟩
  have vs : V.heap.size = w.heap.size + 1 + 1 := by rw [← hV]; simp
  have vl : V.heap[w.heap.size + 1]? = some (.loop (R .ready none)) := by
    rw [← hV]; have h := World.alloc_heap_new (w.alloc (.deferred (some []))) (.loop (R .ready none)); rwa [World.size_alloc] at h
  have vd : V.heap[w.heap.size]? = some (.deferred (some [])) := by
    rw [← hV]; exact (Below.heap_alloc _ _ _ (by simp)).trans (World.alloc_heap_new w _)
  have bV : Below w.heap.size w V := by rw [← hV]; exact ((Below.refl _ w).alloc (Nat.le_refl _) _).alloc (by simp) _
  refine ⟨w.heap.size + 1, [{ target := .collected w.heap.size, args := #[] }], V, { target := .fn (.func gf) lb, args := #[.func (.yield (w.heap.size + 1)) #[] #[]] }, V, gf,
    #[.func (.yield (w.heap.size + 1)) #[] #[]] ++ lb, V, ?_, ?_, fun _ _ => trivial, ?_, (fun h => by simp [Fence.wide] at h), ?_⟩
  · rw [← hV, hR]; exact run_enterLoop_outer _ _ _ _ _
  · simp only [resolve, hg]
    simp [go_sem]
  · simp [invoke, go_sem, eg]
  refine (hseq (n - 1) (w.heap.size + 1) T (fun pre U => ∃ c, Ix c pre U ∧ U.heap[w.heap.size + 1]? = some (.loop (R .done (some c))) ∧ U.heap[w.heap.size]? = some (.deferred (some []))) V (hb0.trans (bV.mono hb0.size)) ?_ ?_ h0).mono ?_
  · rintro s A B row ⟨c, hc, hl, hd⟩ hgr hr
    have lo : ∀ k, k < V.heap.size → k < A.heap.size → B.heap[k]? = A.heap[k]? := fun k hk hkA => hgr.block k hkA fun e => by have := hr k e.symm; omega
    exact ⟨c, hIx c s A B row hc hgr fun r e => by have := hr r e; omega, (lo _ (by omega) (Array.getElem?_eq_some_iff.1 hl).1).trans hl, (lo _ (by omega) (Array.getElem?_eq_some_iff.1 hd).1).trans hd⟩
  · intro m pre x U hpre hT hU
    have ul := (hU.block _ (by omega)).trans vl
    have ud := (hU.block _ (by omega)).trans vd
    have hy := run_yield (P := P) (args := encs x) ul (by rw [hR]; exact hps x)
    rw [hR] at hy
    have bU : Below w.heap.size w U := bV.trans (hU.mono bV.size)
    refine ⟨fn, _, assign, body, hy, roundIn_of_wpIn trivial (hassign m _ pre x U _ hT bU ?_)⟩
    intro a' U1 hb1 hax
    have u1l := (hb1.block _ (Array.getElem?_eq_some_iff.1 ul).1).trans ul
    have u1d := (hb1.block _ (Array.getElem?_eq_some_iff.1 ud).1).trans ud
    refine ⟨_, run_beginRound u1l (by rw [hR]), ?_⟩
    have l1 : w.heap.size + 1 < U1.heap.size := (Array.getElem?_eq_some_iff.1 u1l).1
    have bl : (U1.putObj (w.heap.size + 1) (.loop { R .ready none with state := .busy })).heap[w.heap.size + 1]? = some (.loop { R .ready none with state := .busy }) := World.putObj_heap_same l1
    have bd : (U1.putObj (w.heap.size + 1) (.loop { R .ready none with state := .busy })).heap[w.heap.size]? = some (.deferred (some [])) := (World.putObj_heap_other (by omega)).trans u1d
    have bU1 : Below w.heap.size w U1 := bU.trans (hb1.mono bU.size)
    have uz : w.heap.size + 1 < U.heap.size := (Array.getElem?_eq_some_iff.1 ul).1
    refine wpIn_mono (hbody m _ pre x U.heap.size a' _ (by omega) uz (by rw [World.putObj_size]; exact hb1.size) ⟨_, bl⟩ hpre hT (low_putObj _ bU1 (Nat.le_refl _) (by omega)) ((hAx U.heap.size x a' bU.size).putObj (s := ()) _ hax (by omega) u1l rfl)) ?_
    have leave : ∀ (c : Code) (U3 : World), KeepsFrom w.heap.size (U1.putObj (w.heap.size + 1) (.loop { R .ready none with state := .busy })) U3 → Ix c (pre ++ [x]) U3 →
        ∃ b U4, (Instr.endRound (w.heap.size + 1) (some c)).run P U3 = .ok b U4 ∧ b = .bool false ∧ (∃ c, Ix c (pre ++ [x]) U4 ∧ U4.heap[w.heap.size + 1]? = some (.loop (R .done (some c))) ∧ U4.heap[w.heap.size]? = some (.deferred (some []))) ∧ KeepsFrom V.heap.size U U4 := fun c U3 hk hi => by
      have l3 := hk.same _ _ (by omega) bl rfl
      have d3 := hk.same _ _ (Nat.le_refl _) bd rfl
      refine ⟨_, _, run_endRound (P := P) (some c) l3, rfl, ⟨c, hIx c _ _ _ _ hi (grownBy_putObj' U3 _ _) fun r e => by cases e; omega, ?_, (World.putObj_heap_other (by omega)).trans d3⟩, (keepsFrom_below hb1).trans (keeps_putObj (keeps_putObj_of (o := .loop { R .ready none with state := .busy }) (l := w.heap.size + 1) ⟨hk.size, fun k o hB => hk.same k o (by omega)⟩ (by omega)) (by omega))⟩
      rw [World.putObj_heap_same (Array.getElem?_eq_some_iff.1 l3).1, hR]
      rfl
    rintro e a3 U3 hp
    cases e with
    | normal =>
      obtain ⟨_, hb3, ht⟩ := hp
      have l3 := (hb3.block _ uz).trans bl
      refine ⟨_, _, run_endRound (P := P) none l3, .inl ⟨rfl, ht, ?_⟩⟩
      have h4 := below_putObj u1l uz hb1.size hb3
      have h5 : (Obj.loop { ({ R .ready none with state := .busy } : Loop) with state := if Option.isNone (none : Option Code) then .ready else .done, pending := none }) = .loop (R .ready none) := by rw [hR]; rfl
      rw [h5]
      exact hb1.trans h4
    | ret =>
      obtain ⟨b, U4, hr, rfl, hx⟩ := leave .ret U3 hp.1 hp.2
      exact ⟨_, _, hr, .inr ⟨rfl, hx⟩⟩
    | exit id =>
      obtain ⟨b, U4, hr, rfl, hx⟩ := leave (.exit id) U3 hp.1 hp.2
      exact ⟨_, _, hr, .inr ⟨rfl, hx⟩⟩
    | goto t =>
      obtain ⟨b, U4, hr, rfl, hx⟩ := leave (.goto t) U3 hp.1 hp.2
      exact ⟨_, _, hr, .inr ⟨rfl, hx⟩⟩
    | panic ch => exact hp.elim
    | outgrown => exact hp.elim
  · rintro e U ⟨⟨v, rfl⟩, (⟨ht, hb⟩ | ⟨pre, hpre, c, hi, hl, hd⟩)⟩
    · have ul := (hb.block _ (by omega)).trans vl
      have ud := (hb.block _ (by omega)).trans vd
      exact ⟨none, _, by have h := run_endLoop (P := P) ul (by rw [hR]; simp); rw [hR] at h; exact h, hdone _ _ (Nat.le_refl _) ht (low_putObj _ (bV.trans (hb.mono bV.size)) (Nat.le_refl _) (by omega)) ((World.putObj_heap_other (by omega)).trans ud)⟩
    · exact ⟨some c, _, by have h := run_endLoop (P := P) hl (by rw [hR]; simp); rw [hR] at h; exact h, hstop _ c pre _ (Nat.le_refl _) hpre (hIx c _ _ _ _ hi (grownBy_putObj' U _ _) fun r e => by cases e; omega) ((World.putObj_heap_other (by omega)).trans hd)⟩
/-- a range over such an iterator, within a round of loop l₀ -/
theorem wpIn_qn {α : Type} {n l₀ : Nat} {P : Program} {g : Operand} {ps : Array Tmp} {assign body : Code} {Q : Exit → Act → World → Prop} {a : Act} {w : World} (hl₀ : ∃ r, w.heap[l₀]? = some (.loop r))
    {gf : Nat} {lb : Array Value} (hg : a.eval g = .func (.func gf) #[] lb) (eg : ∀ args w, (callFunc gf args).run P w = .ok (.enter gf args) w)
    {encs : α → Array Value} {S : List α} {w0 : World} (hseq : SeqQ P gf lb encs S w0) (hb0 : Below w0.heap.size w0 w) (hps : ∀ x, (encs x).size = ps.size)
    (T : List α → Prop) (h0 : T []) (Ix : Code → List α → World → Prop) (hIx : ∀ c, LowAt w.heap.size (Ix c)) (Ax : Nat → α → Act → World → Prop) (hAx : ∀ B1 x a', w.heap.size ≤ B1 → OwnFrom w.heap.size (fun (_ : Unit) W => Ax B1 x a' W))
    (hassign : ∀ (m l : Nat) (pre : List α) (x : α) (W : World) (K : Act → World → Prop), T pre → Below w.heap.size w W → (∀ a' W', Below W.heap.size W W' → Ax W.heap.size x a' W' → K a' W') →
      assign.wpIn (Fence.wide.inRound l) m P (Exit.then K (fun _ _ _ => False)) { tmps := (ps.zip (encs x)).foldl (fun t (p, v) => t.setIfInBounds p v) a.tmps, defers := [] } W)
    (hbody : ∀ (m l : Nat) (pre : List α) (x : α) (B1 : Nat) (a' : Act) (W : World), w.heap.size ≤ l → l < B1 → B1 ≤ W.heap.size → (∃ r, W.heap[l]? = some (.loop r)) → pre ++ [x] <+: S → T pre → Below w.heap.size w W → Ax B1 x a' W →
      body.wpIn (Fence.wide.inRound l) m P (qEnd w.heap.size B1 T Ix (pre ++ [x]) W) a' W)
    (hdone : ∀ (W : World), T S → Below w.heap.size w W → Q .normal a W)
    (hstop : ∀ (c : Code) (pre : List α) (W : World), pre <+: S → Ix c pre W → c.wpIn (Fence.wide.inRound l₀) n P Q a W) :
    (Code.rangeFunc g ps assign body).wpIn (Fence.wide.inRound l₀) n P Q a w := by
  obtain ⟨r₀, hr₀⟩ := hl₀
  refine wpIn_rangeFunc ?_
  intro fn _
  obtain ⟨R, hR⟩ : ∃ R : LoopState → Option Code → Loop, R = fun st pe => { state := st, pending := pe, fn, tmps := a.tmps, params := ps, assign, body, defers := r₀.defers } := ⟨_, rfl⟩
  obtain ⟨V, hV⟩ : ∃ V, w.alloc (.loop (R .ready none)) = V := ⟨_, rfl⟩
  have vs : V.heap.size = w.heap.size + 1 := by rw [← hV]; simp
  have vl : V.heap[w.heap.size]? = some (.loop (R .ready none)) := by rw [← hV]; exact World.alloc_heap_new w _
  have bV : Below w.heap.size w V := by rw [← hV]; exact (Below.refl _ w).alloc (Nat.le_refl _) _
  refine ⟨w.heap.size, [], V, { target := .fn (.func gf) lb, args := #[.func (.yield w.heap.size) #[] #[]] }, V, gf,
    #[.func (.yield w.heap.size) #[] #[]] ++ lb, V, ?_, ?_, fun _ _ => trivial, ?_, (fun h => by simp [Fence.wide] at h), ?_⟩
  · rw [← hV, hR]; exact run_enterLoop_inner hr₀ _ _ _ _ _
  · simp only [resolve, hg]
    simp [go_sem]
  · simp [invoke, go_sem, eg]
  refine CallsIn.inRound l₀ ((hseq (n - 1) w.heap.size T (fun pre U => ∃ c, Ix c pre U ∧ U.heap[w.heap.size]? = some (.loop (R .done (some c)))) V (hb0.trans (bV.mono hb0.size)) ?_ ?_ h0).mono ?_)
  · rintro s A B row ⟨c, hc, hl⟩ hgr hr
    have lo : ∀ k, k < V.heap.size → k < A.heap.size → B.heap[k]? = A.heap[k]? := fun k hk hkA => hgr.block k hkA fun e => by have := hr k e.symm; omega
    exact ⟨c, hIx c s A B row hc hgr fun r e => by have := hr r e; omega, (lo _ (by omega) (Array.getElem?_eq_some_iff.1 hl).1).trans hl⟩
  · intro m pre x U hpre hT hU
    have ul := (hU.block _ (by omega)).trans vl
    have hy := run_yield (P := P) (args := encs x) ul (by rw [hR]; exact hps x)
    rw [hR] at hy
    have bU : Below w.heap.size w U := bV.trans (hU.mono bV.size)
    refine ⟨fn, _, assign, body, hy, roundIn_of_wpIn trivial (hassign m _ pre x U _ hT bU ?_)⟩
    intro a' U1 hb1 hax
    have u1l := (hb1.block _ (Array.getElem?_eq_some_iff.1 ul).1).trans ul
    refine ⟨_, run_beginRound u1l (by rw [hR]), ?_⟩
    have l1 : w.heap.size < U1.heap.size := (Array.getElem?_eq_some_iff.1 u1l).1
    have bl : (U1.putObj w.heap.size (.loop { R .ready none with state := .busy })).heap[w.heap.size]? = some (.loop { R .ready none with state := .busy }) := World.putObj_heap_same l1
    have bU1 : Below w.heap.size w U1 := bU.trans (hb1.mono bU.size)
    have uz : w.heap.size < U.heap.size := (Array.getElem?_eq_some_iff.1 ul).1
    refine wpIn_mono (hbody m _ pre x U.heap.size a' _ (Nat.le_refl _) uz (by rw [World.putObj_size]; exact hb1.size) ⟨_, bl⟩ hpre hT (low_putObj _ bU1 (Nat.le_refl _) (Nat.le_refl _)) ((hAx U.heap.size x a' bU.size).putObj (s := ()) _ hax (Nat.le_refl _) u1l rfl)) ?_
    have leave : ∀ (c : Code) (U3 : World), KeepsFrom w.heap.size (U1.putObj w.heap.size (.loop { R .ready none with state := .busy })) U3 → Ix c (pre ++ [x]) U3 →
        ∃ b U4, (Instr.endRound w.heap.size (some c)).run P U3 = .ok b U4 ∧ b = .bool false ∧ (∃ c, Ix c (pre ++ [x]) U4 ∧ U4.heap[w.heap.size]? = some (.loop (R .done (some c)))) ∧ KeepsFrom V.heap.size U U4 := fun c U3 hk hi => by
      have l3 := hk.same _ _ (Nat.le_refl _) bl rfl
      refine ⟨_, _, run_endRound (P := P) (some c) l3, rfl, ⟨c, hIx c _ _ _ _ hi (grownBy_putObj' U3 _ _) fun r e => by cases e; omega, ?_⟩, (keepsFrom_below hb1).trans (keeps_putObj (keeps_putObj_of (o := .loop { R .ready none with state := .busy }) (l := w.heap.size) ⟨hk.size, fun k o hB => hk.same k o (by omega)⟩ (by omega)) (by omega))⟩
      rw [World.putObj_heap_same (Array.getElem?_eq_some_iff.1 l3).1, hR]
      rfl
    rintro e a3 U3 hp
    cases e with
    | normal =>
      obtain ⟨_, hb3, ht⟩ := hp
      have l3 := (hb3.block _ uz).trans bl
      refine ⟨_, _, run_endRound (P := P) none l3, .inl ⟨rfl, ht, ?_⟩⟩
      have h4 := below_putObj u1l uz hb1.size hb3
      have h5 : (Obj.loop { ({ R .ready none with state := .busy } : Loop) with state := if Option.isNone (none : Option Code) then .ready else .done, pending := none }) = .loop (R .ready none) := by rw [hR]; rfl
      rw [h5]
      exact hb1.trans h4
    | ret =>
      obtain ⟨b, U4, hr, rfl, hx⟩ := leave .ret U3 hp.1 hp.2
      exact ⟨_, _, hr, .inr ⟨rfl, hx⟩⟩
    | exit id =>
      obtain ⟨b, U4, hr, rfl, hx⟩ := leave (.exit id) U3 hp.1 hp.2
      exact ⟨_, _, hr, .inr ⟨rfl, hx⟩⟩
    | goto t =>
      obtain ⟨b, U4, hr, rfl, hx⟩ := leave (.goto t) U3 hp.1 hp.2
      exact ⟨_, _, hr, .inr ⟨rfl, hx⟩⟩
    | panic ch => exact hp.elim
    | outgrown => exact hp.elim
  · rintro e U ⟨⟨v, rfl⟩, (⟨ht, hb⟩ | ⟨pre, hpre, c, hi, hl⟩)⟩
    · have ul := (hb.block _ (by omega)).trans vl
      exact ⟨none, _, by have h := run_endLoop (P := P) ul (by rw [hR]; simp); rw [hR] at h; exact h, hdone _ ht (low_putObj _ (bV.trans (hb.mono bV.size)) (Nat.le_refl _) (Nat.le_refl _))⟩
    · exact ⟨some c, _, by have h := run_endLoop (P := P) hl (by rw [hR]; simp); rw [hR] at h; exact h, hstop c pre _ hpre (hIx c _ _ _ _ hi (grownBy_putObj' U _ _) fun r e => by cases e; omega)⟩
end Go.Proofs.YtcepjiglhlmgdaaGreatDoor
