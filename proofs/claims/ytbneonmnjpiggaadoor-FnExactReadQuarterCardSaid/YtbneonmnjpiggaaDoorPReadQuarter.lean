/- ReadQuarter's exact law, the tied card: for every argument the law returns true, and each argument reads as before. What the row lists, the program's table of the quarters' texts, and the tables of Go's library, is tied to the program's text. -/
import Derived.Test.YtbneonmnjpiggaaDoorLawReadQuarter
import Derived.Test.YtbneonmnjpiggaaDoorSda
import Derived.Test.YtbneonmnjpiggaaDoorCards
import Derived.Deep.SlicePairs
import Derived.OpenVars
import Derived.Stop.LaidErr
import Derived.ChangeVars
import Derived.ChangeMaps5
import Derived.ChangeShapes
import Derived.Test.YtbneonmnjpiggaaDoorRows
import Derived.Test.YtbneonmnjpiggaaDoorTie
import Derived.ProofKit
import Derived.LaidMore
import Derived.OpenShut
import Derived.Stop.Joined
import Derived.Lib.LaidTab
import Derived.SevenTiedAt
namespace Go.Proofs.YtbneonmnjpiggaaDoor
open Go.ChangeShapes Go.WideShapes Go.ChangeAt Go.RowKit Go.Deep

theorem Tryd.laidOut : laidOutB Tryd.prog = true := by kernel_rfl
theorem Tryd.own : ownKnob Tryd.prog.godebug = none := by kernel_rfl

/-- the door's own heap meets the condition -/
theorem fnExactReadQuarter_door (os : Os) (args : Array Value) : laidMetH Tryd.prog Rows.fnExactReadQuarterRow.laid ((World.doorLaid Tryd.prog 34 os).forCall (fun _ _ => 0) ⟨#[], args, []⟩).memory :=
  laidMetH_of_parts3 (fuel := 8) (laidMet_of_run' 8 (by kernel_rfl) (by kernel_rfl)) (by kernel_rfl) (by kernel_rfl)
/-- what the row's list gives: the table's cells -/
theorem fnExactReadQuarter_tab {W : World} (h : laidMetH Tryd.prog Rows.fnExactReadQuarterRow.laid W) : MinW W := fun j hj =>
  have h0 : laidMet Tryd.prog [("math/bits.deBruijn32tab", Rows.laid_math_bits_deBruijn32tab), ("math/bits.deBruijn64tab", Rows.laid_math_bits_deBruijn64tab), ("internal/strconv.uint64pow10", Rows.laid_internal_strconv_uint64pow10), ("loop.example/g01311/impl.minutesOf", strData miT)] W := h
  strs_of_head (P := Tryd.prog) (W := W) (name := "loop.example/g01311/impl.minutesOf") (zs := miT) (rest := []) (by kernel_rfl) (by kernel_rfl) Tryd.underlying38 Tryd.underlying9 (by kernel_rfl) (by kernel_rfl) h0.tail.tail.tail j hj

set_option maxRecDepth 100000 in
theorem fnExactReadQuarter_lifted (os : Os) (started : os.Started) (H : Type) (enc : TypeId × Value → H) :
    ReturnsInHanded {} Tryd.checked os 4 .any (fun w args => (Rows.fnExactReadQuarterSpec.pre enc Tryd.prog Tryd.f4 [] false w args ∧ laidMetH Tryd.prog Rows.fnExactReadQuarterRow.laid w) ∧ sizedMet enc Tryd.prog Tryd.f4 (OpenSpec.ofChange Rows.fnExactReadQuarterSpec) false w args) (Rows.fnExactReadQuarterSpec.post enc Tryd.prog Tryd.f4 false true false false) := by
  refine returnsInHanded_of_change_and (C := Tryd.checked) (X := fun w _ => laidMetH Tryd.prog Rows.fnExactReadQuarterRow.laid w) (fun _ _ _ hh h => h.of_heap hh) Tryd.own started (by kernel_rfl) Tryd.func4
    (ChangeSpec.witness_shaped (enc := enc) (C := Tryd.checked) (os := os) (X := fun w _ => laidMetH Tryd.prog Rows.fnExactReadQuarterRow.laid w) false (World.doorLaid Tryd.prog 34 os) #[.string ⟨#[]⟩] 8 rfl (World.shaped_of_RefB (by kernel_rfl) (by kernel_rfl)) (by kernel_rfl) (by kernel_rfl) (by kernel_rfl) (fnExactReadQuarter_door os _)) ?_
  intro W base args ds gs before hval0 hW _ _ hL _
  have hval : ∀ (j : Nat) t v, Tryd.f4.params[j]? = some t → args[j]? = some v → Value.okWide Tryd.prog W .any base t v := hval0
  have hT := fnExactReadQuarter_tab hL
  have hW' := hW
  obtain ⟨p, q, hA0, hV, rfl, hfz, hnd⟩ := hW
  have hA : DataW.TrodAll enc Tryd.prog W 0 (fun _ => true) true Tryd.f4.params.toList args.toList ds p := hA0
  rw [Tryd.params4] at hA hval
  obtain ⟨v0, d0, rfl, rfl, h0⟩ := trodAll_one hA
  have hV' := hV
  obtain ⟨gg, tg, csg, fuelg, g1, pg, rfl, hg1, hg2, hg3, hg4, rfl⟩ := trodVars_one hV
  clear hA0 hval0
  obtain ⟨x0, rfl, rfl, rfl, wx0⟩ := Go.ChangeMaps.open_string Tryd.underlying9 (hval 0 9 v0 rfl rfl) h0
  refine (lawReadQuarter_any x0 W  hT wx0).mono fun e W' ⟨he, hb⟩ => ?_
  subst he
  exact ⟨_, rfl, _, _, _, [], [], _, hW', trodAll_mk1 (shut_bool Tryd.underlying4 true), trodAll_mk1 (Go.ChangeMaps.shut_string Tryd.underlying9 wx0), Below.trodVars Tryd.laidOut hb (by kernel_rfl) hV', hb.frame _, fun h => by cases h⟩

theorem fnExactReadQuarter_holds : Rows.FnExactReadQuarterSaid :=
  OpenClaim.holds_of_wide 4 Tryd.f4 rfl rfl rfl rfl rfl rfl rfl ⟨rfl, rfl, rfl, rfl, rfl⟩ rfl rfl rfl rfl rfl (by kernel_rfl) Tryd.func4 (by kernel_rfl)
    (of_decide_eq_true (by kernel_rfl)) (by unfold Func.isWrapper; first | (rw [if_pos (by decide +kernel)]; kernel_rfl) | (rw [if_neg (by decide +kernel)]; exact ⟨rfl, rfl⟩))
    (fun os started H enc _ => fnExactReadQuarter_lifted os started H enc)
/-- no parameter wants a stand-in -/
theorem fnExactReadQuarter_plain (f : FuncId) (fn : Func) (hf : Tryd.pinned.checked.prog.funcNamed Rows.fnExactReadQuarterRow.func = some f) (hfn : Tryd.pinned.checked.prog.funcs[f]? = some fn) :
    false = Tryd.pinned.checked.prog.looks [] ∧ ∀ (j : Nat) t, fn.params[j]? = some t → Tryd.pinned.checked.prog.wantsStandIn t = false := by
  obtain rfl : f = 4 := Option.some.inj ((show Tryd.prog.funcNamed Rows.fnExactReadQuarterRow.func = some 4 by kernel_rfl).symm.trans hf) |>.symm
  obtain rfl : fn = Tryd.f4 := (Option.some.inj (Tryd.func4.symm.trans hfn)).symm
  refine ⟨by kernel_rfl, fun j t ht => ?_⟩
  rw [Tryd.params4] at ht
  have hm : t ∈ [9] := by simpa using Array.mem_of_getElem? ht
  have hall : ([9].all fun u => !Tryd.prog.wantsStandIn u) = true := by kernel_rfl
  exact (show Tryd.prog.wantsStandIn t = false by simpa using List.all_eq_true.1 hall t hm)
theorem fnExactReadQuarter_card : Rows.FnExactReadQuarterCardSaid :=
  Claim7.holds_tied_plain_at .later [] _ _ _ _ fnExactReadQuarter_holds (fun _ h => by cases h) (by kernel_rfl) (fun _ h => by cases h) fnExactReadQuarter_row_tie rfl ⟨rfl, rfl⟩ (by kernel_rfl) rfl fnExactReadQuarter_plain (by kernel_rfl)
end Go.Proofs.YtbneonmnjpiggaaDoor
