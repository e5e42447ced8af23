/- NoteOf's exact law, the tied card: for every argument the law returns true, and each argument reads as before. The one listed variable, a table of Go's library, is tied to the program's text. -/
import Derived.Test.YtheoopbgbglmdaaDoorLawNoteOf
import Derived.Test.YtheoopbgbglmdaaDoorGbp
import Derived.Test.YtheoopbgbglmdaaDoorErl
import Derived.Test.YtheoopbgbglmdaaDoorCards
import Derived.Test.YtheoopbgbglmdaaDoorTie
import Derived.OpenVars
import Derived.ChangeVars
import Derived.ProofKit
import Derived.LaidMore
import Derived.OpenShut
import Derived.Stop.Joined
import Derived.Stop.LaidErr
import Derived.Lib.LaidTab
import Derived.SevenTiedAt
namespace Go.Proofs.YtheoopbgbglmdaaDoor
open Go.ChangeShapes Go.WideShapes Go.ChangeAt Go.RowKit Go.Deep

theorem gs_7 {H : Type} {enc : TypeId × Value → H} {P : Program} {w : World} {spare : Nat → Bool} {a b c d e f g : String} {gs : List (DataW H)} {ps : List MemPlace} (h : DataW.TrodVars enc P w spare [a, b, c, d, e, f, g] gs ps) : ∃ y0 y1 y2 y3 y4 y5 y6, gs = [y0, y1, y2, y3, y4, y5, y6] := by
  have step : ∀ (n : String) (ns : List String) (gs : List (DataW H)) (ps : List MemPlace), DataW.TrodVars enc P w spare (n :: ns) gs ps → ∃ y gs' ps', gs = y :: gs' ∧ DataW.TrodVars enc P w spare ns gs' ps' := by
    intro n ns gs ps h
    cases gs with
    | nil => simp [DataW.TrodVars] at h
    | cons y gs =>
      obtain ⟨_, _, _, _, _, q, _, _, _, _, hs, _⟩ := h
      exact ⟨y, gs, q, rfl, hs⟩
  obtain ⟨y0, g0, p0, e0, h0⟩ := step _ _ _ _ h
  subst e0
  obtain ⟨y1, g1, p1, e1, h1⟩ := step _ _ _ _ h0
  subst e1
  obtain ⟨y2, g2, p2, e2, h2⟩ := step _ _ _ _ h1
  subst e2
  obtain ⟨y3, g3, p3, e3, h3⟩ := step _ _ _ _ h2
  subst e3
  obtain ⟨y4, g4, p4, e4, h4⟩ := step _ _ _ _ h3
  subst e4
  obtain ⟨y5, g5, p5, e5, h5⟩ := step _ _ _ _ h4
  subst e5
  obtain ⟨y6, g6, p6, e6, h6⟩ := step _ _ _ _ h5
  subst e6
  cases g6 with
  | nil => exact ⟨_, _, _, _, _, _, _, rfl⟩
  | cons y g => simp [DataW.TrodVars] at h6
/-- the door's own heap meets the condition -/
theorem fnExactNoteOf_door (os : Os) (args : Array Value) : laidMetH Tryd.prog Rows.fnExactNoteOfRow.laid ((World.doorLaid Tryd.prog 147 os).forCall (fun _ _ => 0) ⟨#[], args, []⟩).memory :=
  laidMetH_of_parts3 (fuel := 8) (laidMet_of_run' 8 (by kernel_rfl) (by kernel_rfl)) (by kernel_rfl) (by kernel_rfl)
/-- what the row's list gives: the seven errors -/
theorem fnExactNoteOf_tab {W : World} (h : laidMetH Tryd.prog Rows.fnExactNoteOfRow.laid W) : ErrW W := err_of_laid (show laidMet Tryd.prog erL W from h)

set_option maxRecDepth 100000 in
theorem fnExactNoteOf_lifted (os : Os) (started : os.Started) (H : Type) (enc : TypeId × Value → H) :
    ReturnsInHanded {} Tryd.checked os 3 .any (fun w args => (Rows.fnExactNoteOfSpec.pre enc Tryd.prog Tryd.f3 [] false w args ∧ laidMetH Tryd.prog Rows.fnExactNoteOfRow.laid w) ∧ sizedMet enc Tryd.prog Tryd.f3 (OpenSpec.ofChange Rows.fnExactNoteOfSpec) false w args) (Rows.fnExactNoteOfSpec.post enc Tryd.prog Tryd.f3 false true false false) := by
  refine returnsInHanded_of_change_and (C := Tryd.checked) (X := fun w _ => laidMetH Tryd.prog Rows.fnExactNoteOfRow.laid w) (fun _ _ _ hh h => h.of_heap hh) Tryd.own started (by kernel_rfl) Tryd.func3
    (ChangeSpec.witness_shaped (enc := enc) (C := Tryd.checked) (os := os) (X := fun w _ => laidMetH Tryd.prog Rows.fnExactNoteOfRow.laid w) false (World.doorLaid Tryd.prog 147 os) #[.agg #[.int .i16 0, .int .i8 0], .agg #[.bool false, .int .i8 0, .int .i8 0, .int .i8 0]] 8 rfl (World.shaped_of_RefB (by kernel_rfl) (by kernel_rfl)) (by kernel_rfl) (by kernel_rfl) (by kernel_rfl) (fnExactNoteOf_door os _)) ?_
  intro W base args ds gs before hval0 hW _ _ hL _
  have hval : ∀ (j : Nat) t v, Tryd.f3.params[j]? = some t → args[j]? = some v → Value.okWide Tryd.prog W .any base t v := hval0
  have hT := fnExactNoteOf_tab hL
  have hW' := hW
  obtain ⟨p, q, hA0, hV, rfl, hfz, hnd⟩ := hW
  have hA : DataW.TrodAll enc Tryd.prog W 0 (fun _ => true) true Tryd.f3.params.toList args.toList ds p := hA0
  rw [Tryd.params3] at hA hval
  obtain ⟨v0, v1, d0, d1, p0, p1, rfl, rfl, rfl, h0, h1⟩ := trodAll_two hA
  have hV' := hV
  obtain ⟨y0, y1, y2, y3, y4, y5, y6, rfl⟩ := gs_7 hV
  clear hA0 hval0
  skip
  have h0k := h0
  obtain ⟨fuel0, hf0⟩ := h0
  obtain ⟨x0_0, x0_1, rfl, hv0⟩ := note_of (hval 0 25 v0 rfl rfl) hf0
  have hlt0 : ∀ x ∈ p0, x.block < W.heap.size := fun x hx => by simpa using hW'.lt x (by simp [hx])
  have h1k := h1
  obtain ⟨fuel1, hf1⟩ := h1
  obtain ⟨x1_0, x1_1, x1_2, x1_3, rfl, hv1⟩ := choice_of (hval 1 27 v1 rfl rfl) hf1
  have hlt1 : ∀ x ∈ p1, x.block < W.heap.size := fun x hx => by simpa using hW'.lt x (by simp [hx])
  refine (lawNoteOf_any x0_0 x0_1 x1_0 x1_1 x1_2 x1_3 W hv0 hv1 hT  ).mono fun e W' ⟨he, hb⟩ => ?_
  subst he
  exact ⟨_, rfl, _, _, _, [], p0 ++ p1, _, hW', trodAll_mk1 (shut_bool Tryd.underlying4 true), trodAll_mk2 (Below.trod Tryd.laidOut (by kernel_rfl) (of_decide_eq_true (by kernel_rfl)) h0k hb hlt0) (Below.trod Tryd.laidOut (by kernel_rfl) (of_decide_eq_true (by kernel_rfl)) h1k hb hlt1), Below.trodVars Tryd.laidOut hb (by kernel_rfl) hV', hb.frame _, fun h => by cases h⟩

theorem fnExactNoteOf_holds : Rows.FnExactNoteOfSaid :=
  OpenClaim.holds_of_wide 3 Tryd.f3 rfl rfl rfl rfl rfl rfl rfl ⟨rfl, rfl, rfl, rfl, rfl⟩ rfl rfl rfl rfl rfl (by kernel_rfl) Tryd.func3 (by kernel_rfl)
    (of_decide_eq_true (by kernel_rfl)) (by unfold Func.isWrapper; first | (rw [if_pos (by decide +kernel)]; kernel_rfl) | (rw [if_neg (by decide +kernel)]; exact ⟨rfl, rfl⟩))
    (fun os started H enc _ => fnExactNoteOf_lifted os started H enc)
/-- no parameter wants a stand-in -/
theorem fnExactNoteOf_plain (f : FuncId) (fn : Func) (hf : Tryd.pinned.checked.prog.funcNamed Rows.fnExactNoteOfRow.func = some f) (hfn : Tryd.pinned.checked.prog.funcs[f]? = some fn) :
    true = Tryd.pinned.checked.prog.looks [] ∧ ∀ (j : Nat) t, fn.params[j]? = some t → Tryd.pinned.checked.prog.wantsStandIn t = false := by
  obtain rfl : f = 3 := Option.some.inj ((show Tryd.prog.funcNamed Rows.fnExactNoteOfRow.func = some 3 by kernel_rfl).symm.trans hf) |>.symm
  obtain rfl : fn = Tryd.f3 := (Option.some.inj (Tryd.func3.symm.trans hfn)).symm
  refine ⟨by kernel_rfl, fun j t ht => ?_⟩
  rw [Tryd.params3] at ht
  have hm : t ∈ [25, 27] := by simpa using Array.mem_of_getElem? ht
  have hall : ([25, 27].all fun u => !Tryd.prog.wantsStandIn u) = true := by kernel_rfl
  exact (show Tryd.prog.wantsStandIn t = false by simpa using List.all_eq_true.1 hall t hm)
theorem fnExactNoteOf_card : Rows.FnExactNoteOfCardSaid :=
  Claim7.holds_tied_plain_at .later [] _ _ _ _ fnExactNoteOf_holds (fun _ h => by cases h) (by kernel_rfl) (fun _ h => by cases h) fnExactNoteOf_row_tie rfl ⟨rfl, rfl⟩ (by kernel_rfl) rfl fnExactNoteOf_plain (by kernel_rfl)
end Go.Proofs.YtheoopbgbglmdaaDoor
