/- CheckChoices's exact law, the tied card: for every argument the law returns true, and each argument reads as before. The one listed variable, a table of Go's library, is tied to the program's text. -/
import Derived.Test.YtcepjiglhlmgdaaGreatDoorLawCheckChoices
import Derived.Test.YtcepjiglhlmgdaaGreatDoorGal
import Derived.Test.YtcepjiglhlmgdaaGreatDoorGbw
import Derived.Test.YtcepjiglhlmgdaaGreatDoorGbs
import Derived.Test.YtcepjiglhlmgdaaGreatDoorCards
import Derived.Test.YtcepjiglhlmgdaaGreatDoorTie
import Derived.OpenVars
import Derived.ChangeVars
import Derived.ProofKit
import Derived.LaidMore
import Derived.OpenShut
import Derived.Stop.Joined
import Derived.Stop.LaidErr
import Derived.Lib.LaidTab
import Derived.SevenTiedAt
namespace Go.Proofs.YtcepjiglhlmgdaaGreatDoor
open Go.ChangeShapes Go.WideShapes Go.ChangeAt Go.RowKit Go.Deep

theorem gs_7 {H : Type} {enc : TypeId × Value → H} {P : Program} {w : World} {spare : Nat → Bool} {a b c d e f g : String} {gs : List (DataW H)} {ps : List MemPlace} (h : DataW.TrodVars enc P w spare [a, b, c, d, e, f, g] gs ps) : ∃ y0 y1 y2 y3 y4 y5 y6, gs = [y0, y1, y2, y3, y4, y5, y6] := by
  have step : ∀ (n : String) (ns : List String) (gs : List (DataW H)) (ps : List MemPlace), DataW.TrodVars enc P w spare (n :: ns) gs ps → ∃ y gs' ps', gs = y :: gs' ∧ DataW.TrodVars enc P w spare ns gs' ps' := by
    intro n ns gs ps h
    cases gs with
    | nil => simp [DataW.TrodVars] at h
    | cons y gs =>
      obtain ⟨_, _, _, _, _, q, _, _, _, _, hs, _⟩ := h
      exact ⟨y, gs, q, rfl, hs⟩
  obtain ⟨y0, g0, p0, e0, h0⟩ := step _ _ _ _ h
  subst e0
  obtain ⟨y1, g1, p1, e1, h1⟩ := step _ _ _ _ h0
  subst e1
  obtain ⟨y2, g2, p2, e2, h2⟩ := step _ _ _ _ h1
  subst e2
  obtain ⟨y3, g3, p3, e3, h3⟩ := step _ _ _ _ h2
  subst e3
  obtain ⟨y4, g4, p4, e4, h4⟩ := step _ _ _ _ h3
  subst e4
  obtain ⟨y5, g5, p5, e5, h5⟩ := step _ _ _ _ h4
  subst e5
  obtain ⟨y6, g6, p6, e6, h6⟩ := step _ _ _ _ h5
  subst e6
  cases g6 with
  | nil => exact ⟨_, _, _, _, _, _, _, rfl⟩
  | cons y g => simp [DataW.TrodVars] at h6
/-- the door's own heap meets the condition -/
theorem fnExactCheckChoices_door (os : Os) (args : Array Value) : laidMetH Tryz.prog Rows.fnExactCheckChoicesRow.laid ((World.doorLaid Tryz.prog 147 os).forCall (fun _ _ => 0) ⟨#[], args, []⟩).memory :=
  laidMetH_of_parts3 (fuel := 8) (laidMet_of_run' 8 (by kernel_rfl) (by kernel_rfl)) (by kernel_rfl) (by kernel_rfl)
/-- what the row's list gives: the seven errors, and the handle of the type of errors -/
theorem fnExactCheckChoices_tab {W : World} (h : laidMetH Tryz.prog Rows.fnExactCheckChoicesRow.laid W) : ErtW W := by
  have h' : laidMet Tryz.prog erL W ∧ handlesMet Tryz.prog [("errors.errorType", Rows.laid_errors_errorType)] W := h
  refine ⟨err_of_laid h'.1, ?_⟩
  obtain ⟨name, u, ty, e1, e2, e3, e4, e5⟩ := h'.2 _ (List.mem_singleton.2 rfl)
  have en : name = [101, 114, 114, 111, 114] := (Option.some.inj e1).symm
  subst en
  obtain rfl := Option.some.inj ((show (Tryz.prog.cutTypes.find? (·.1 == "internal/reflectlite.rtype")).map (·.2) = some 137 from by kernel_rfl).symm.trans e2)
  have hm : ty ∈ (List.range (311 - 99)).filter fun t => Tryz.prog.rowNamed t [101, 114, 114, 111, 114] := List.mem_filter.2 ⟨List.mem_range.2 (by rw [← (show Tryz.prog.types.size = 311 - 99 from by kernel_rfl)]; exact e3), e4⟩
  rw [show ((List.range (311 - 99)).filter fun t => Tryz.prog.rowNamed t [101, 114, 114, 111, 114]) = [67] from by kernel_rfl] at hm
  obtain rfl := List.mem_singleton.1 hm
  have hh : typeHandle Tryz.prog 67 = .pointer (some ⟨8, 67, none⟩) := by kernel_rfl
  rw [hh] at e5
  have h9 := World.var?_cell (show Tryz.prog.globalNamed "errors.errorType" = some 1 from by kernel_rfl) e5 0
  simpa [EtW] using h9


set_option maxRecDepth 100000 in
theorem fnExactCheckChoices_lifted (os : Os) (started : os.Started) (H : Type) (enc : TypeId × Value → H) :
    ReturnsInHanded {} Tryz.checked os 4 .any (fun w args => (Rows.fnExactCheckChoicesSpec.pre enc Tryz.prog Tryz.f4 [] false w args ∧ laidMetH Tryz.prog Rows.fnExactCheckChoicesRow.laid w) ∧ sizedMet enc Tryz.prog Tryz.f4 (OpenSpec.ofChange Rows.fnExactCheckChoicesSpec) false w args) (Rows.fnExactCheckChoicesSpec.post enc Tryz.prog Tryz.f4 false true false false) := by
  refine returnsInHanded_of_change_and (C := Tryz.checked) (X := fun w _ => laidMetH Tryz.prog Rows.fnExactCheckChoicesRow.laid w) (fun _ _ _ hh h => h.of_heap hh) Tryz.own started (by kernel_rfl) Tryz.func4
    (ChangeSpec.witness_shaped (enc := enc) (C := Tryz.checked) (os := os) (X := fun w _ => laidMetH Tryz.prog Rows.fnExactCheckChoicesRow.laid w) false (World.doorLaid Tryz.prog 147 os) #[.agg #[.int .i16 0, .slice none 0 0], .slice none 0 0, .slice none 0 0] 8 rfl (World.shaped_of_RefB (by kernel_rfl) (by kernel_rfl)) (by kernel_rfl) (by kernel_rfl) (by kernel_rfl) (fnExactCheckChoices_door os _)) ?_
  intro W base args ds gs before hval0 hW _ _ hL _
  have hval : ∀ (j : Nat) t v, Tryz.f4.params[j]? = some t → args[j]? = some v → Value.okWide Tryz.prog W .any base t v := hval0
  have hT := fnExactCheckChoices_tab hL
  have hW' := hW
  obtain ⟨p, q, hA0, hV, rfl, hfz, hnd⟩ := hW
  have hA : DataW.TrodAll enc Tryz.prog W 0 (fun _ => true) true Tryz.f4.params.toList args.toList ds p := hA0
  rw [Tryz.params4] at hA hval
  obtain ⟨v0, v1, v2, d0, d1, d2, p0, p1, p2, rfl, rfl, rfl, h0, h1, h2⟩ := trodAll_three hA
  have hV' := hV
  obtain ⟨y0, y1, y2, y3, y4, y5, y6, rfl⟩ := gs_7 hV
  clear hA0 hval0
  skip
  have h0k := h0
  obtain ⟨fuel0, hf0⟩ := h0
  obtain ⟨s0, a0, cap0, l0, rfl, hlm0, hHA0, hWF0, hs0⟩ := frame_of (hval 0 25 v0 rfl rfl) hf0
  have hlt0 : ∀ x ∈ p0, x.block < W.heap.size := fun x hx => by simpa using hW'.lt x (by simp [hx])
  have h1k := h1
  obtain ⟨fuel1, hf1⟩ := h1
  obtain ⟨a1, cap1, l1, rfl, hlm1, hHA1, hWF1⟩ := tune_of (hval 1 26 v1 rfl rfl) hf1
  have hlt1 : ∀ x ∈ p1, x.block < W.heap.size := fun x hx => by simpa using hW'.lt x (by simp [hx])
  have h2k := h2
  obtain ⟨fuel2, hf2⟩ := h2
  obtain ⟨a2, cap2, l2, rfl, hlm2, hHA2, hWF2⟩ := choices_of (hval 2 27 v2 rfl rfl) hf2
  have hlt2 : ∀ x ∈ p2, x.block < W.heap.size := fun x hx => by simpa using hW'.lt x (by simp [hx])
  refine (lawCheckChoices_any s0 a0 cap0 l0 a1 cap1 l1 a2 cap2 l2 W hHA0 hWF0 hs0 hHA1 hWF1 hHA2 hWF2 hT hlm0 hlm1 hlm2 ).mono fun e W' ⟨he, hb⟩ => ?_
  subst he
  exact ⟨_, rfl, _, _, _, [], p0 ++ (p1 ++ (p2)), _, hW', trodAll_mk1 (shut_bool Tryz.underlying4 true), trodAll_mk3 (Below.trod Tryz.laidOut (by kernel_rfl) (of_decide_eq_true (by kernel_rfl)) h0k hb hlt0) (Below.trod Tryz.laidOut (by kernel_rfl) (of_decide_eq_true (by kernel_rfl)) h1k hb hlt1) (Below.trod Tryz.laidOut (by kernel_rfl) (of_decide_eq_true (by kernel_rfl)) h2k hb hlt2), Below.trodVars Tryz.laidOut hb (by kernel_rfl) hV', hb.frame _, fun h => by cases h⟩

theorem fnExactCheckChoices_holds : Rows.FnExactCheckChoicesSaid :=
  OpenClaim.holds_of_wide 4 Tryz.f4 rfl rfl rfl rfl rfl rfl rfl ⟨rfl, rfl, rfl, rfl, rfl⟩ rfl rfl rfl rfl rfl (by kernel_rfl) Tryz.func4 (by kernel_rfl)
    (of_decide_eq_true (by kernel_rfl)) (by unfold Func.isWrapper; first | (rw [if_pos (by decide +kernel)]; kernel_rfl) | (rw [if_neg (by decide +kernel)]; exact ⟨rfl, rfl⟩))
    (fun os started H enc _ => fnExactCheckChoices_lifted os started H enc)
/-- no parameter wants a stand-in -/
theorem fnExactCheckChoices_plain (f : FuncId) (fn : Func) (hf : Tryz.pinned.checked.prog.funcNamed Rows.fnExactCheckChoicesRow.func = some f) (hfn : Tryz.pinned.checked.prog.funcs[f]? = some fn) :
    true = Tryz.pinned.checked.prog.looks [] ∧ ∀ (j : Nat) t, fn.params[j]? = some t → Tryz.pinned.checked.prog.wantsStandIn t = false := by
  obtain rfl : f = 4 := Option.some.inj ((show Tryz.prog.funcNamed Rows.fnExactCheckChoicesRow.func = some 4 by kernel_rfl).symm.trans hf) |>.symm
  obtain rfl : fn = Tryz.f4 := (Option.some.inj (Tryz.func4.symm.trans hfn)).symm
  refine ⟨by kernel_rfl, fun j t ht => ?_⟩
  rw [Tryz.params4] at ht
  have hm : t ∈ [25, 26, 27] := by simpa using Array.mem_of_getElem? ht
  have hall : ([25, 26, 27].all fun u => !Tryz.prog.wantsStandIn u) = true := by kernel_rfl
  exact (show Tryz.prog.wantsStandIn t = false by simpa using List.all_eq_true.1 hall t hm)
theorem fnExactCheckChoices_card : Rows.FnExactCheckChoicesCardSaid :=
  Claim7.holds_tied_plain_at .later [] _ _ _ _ fnExactCheckChoices_holds (fun _ h => by cases h) (by kernel_rfl) (fun _ h => by cases h) fnExactCheckChoices_row_tie rfl ⟨rfl, rfl⟩ (by kernel_rfl) rfl fnExactCheckChoices_plain (by kernel_rfl)
end Go.Proofs.YtcepjiglhlmgdaaGreatDoor
