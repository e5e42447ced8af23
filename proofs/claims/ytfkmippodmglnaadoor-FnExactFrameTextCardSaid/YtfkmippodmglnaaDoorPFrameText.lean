/- FrameText's exact law, the tied card: for every argument the law returns true, and each argument reads as before. The one listed variable, a table of Go's library, is tied to the program's text. -/
import Derived.Test.YtfkmippodmglnaaDoorLawFrameText
import Derived.Test.YtfkmippodmglnaaDoorGar
import Derived.Test.YtfkmippodmglnaaDoorGam
import Derived.Test.YtfkmippodmglnaaDoorCards
import Derived.Test.YtfkmippodmglnaaDoorTie
import Derived.OpenVars
import Derived.ChangeVars
import Derived.ProofKit
import Derived.LaidMore
import Derived.OpenShut
import Derived.Stop.Joined
import Derived.Stop.LaidErr
import Derived.Lib.LaidTab
import Derived.SevenTiedAt
namespace Go.Proofs.YtfkmippodmglnaaDoor
open Go.ChangeShapes Go.WideShapes Go.ChangeAt Go.RowKit Go.Deep


/-- the door's own heap meets the condition -/
theorem fnExactFrameText_door (os : Os) (args : Array Value) : laidMetH Tryd.prog Rows.fnExactFrameTextRow.laid ((World.doorLaid Tryd.prog 147 os).forCall (fun _ _ => 0) ⟨#[], args, []⟩).memory :=
  laidMetH_of_parts3 (fuel := 8) (laidMet_of_run' 8 (by kernel_rfl) (by kernel_rfl)) (by kernel_rfl) (by kernel_rfl)
/-- what the row's list gives: the table of powers of ten, and the names of the half steps -/
theorem fnExactFrameText_tab {W : World} (h : laidMetH Tryd.prog Rows.fnExactFrameTextRow.laid W) : PsW W := by
  have h0 : laidMet Tryd.prog [("math/bits.deBruijn32tab", Rows.laid_math_bits_deBruijn32tab), ("math/bits.deBruijn64tab", Rows.laid_math_bits_deBruijn64tab), ("internal/strconv.uint64pow10", Lib.tabData .u64 Lib.pow10Tab), ("loop.example/g01311/impl.halfSteps", strData hsT)] W := h
  refine ⟨Lib.tabIs_of_head (P := Tryd.prog) (W := W) (g := 2) (k := .u64) (zs := Lib.pow10Tab) (rest := [("loop.example/g01311/impl.halfSteps", strData hsT)]) (by kernel_rfl) (by kernel_rfl) Tryd.underlying166 Tryd.underlying150 (by kernel_rfl) (by kernel_rfl) h0.tail.tail, fun j hj => ?_⟩
  exact strs_of_head (P := Tryd.prog) (W := W) (name := "loop.example/g01311/impl.halfSteps") (zs := hsT) (rest := []) (by kernel_rfl) (by kernel_rfl) Tryd.underlying125 Tryd.underlying9 (by kernel_rfl) (by kernel_rfl) h0.tail.tail.tail j hj

set_option maxRecDepth 100000 in
theorem fnExactFrameText_lifted (os : Os) (started : os.Started) (H : Type) (enc : TypeId × Value → H) :
    ReturnsInHanded {} Tryd.checked os 6 .any (fun w args => (Rows.fnExactFrameTextSpec.pre enc Tryd.prog Tryd.f6 [] false w args ∧ laidMetH Tryd.prog Rows.fnExactFrameTextRow.laid w) ∧ sizedMet enc Tryd.prog Tryd.f6 (OpenSpec.ofChange Rows.fnExactFrameTextSpec) false w args) (Rows.fnExactFrameTextSpec.post enc Tryd.prog Tryd.f6 false true false false) := by
  refine returnsInHanded_of_change_and (C := Tryd.checked) (X := fun w _ => laidMetH Tryd.prog Rows.fnExactFrameTextRow.laid w) (fun _ _ _ hh h => h.of_heap hh) Tryd.own started (by kernel_rfl) Tryd.func6
    (ChangeSpec.witness_shaped (enc := enc) (C := Tryd.checked) (os := os) (X := fun w _ => laidMetH Tryd.prog Rows.fnExactFrameTextRow.laid w) false (World.doorLaid Tryd.prog 147 os) #[.agg #[.int .i16 0, .slice none 0 0]] 8 rfl (World.shaped_of_RefB (by kernel_rfl) (by kernel_rfl)) (by kernel_rfl) (by kernel_rfl) (by kernel_rfl) (fnExactFrameText_door os _)) ?_
  intro W base args ds gs before hval0 hW _ _ hL _
  have hval : ∀ (j : Nat) t v, Tryd.f6.params[j]? = some t → args[j]? = some v → Value.okWide Tryd.prog W .any base t v := hval0
  have hT := fnExactFrameText_tab hL
  have hW' := hW
  obtain ⟨p, q, hA0, hV, rfl, hfz, hnd⟩ := hW
  have hA : DataW.TrodAll enc Tryd.prog W 0 (fun _ => true) true Tryd.f6.params.toList args.toList ds p := hA0
  rw [Tryd.params6] at hA hval
  obtain ⟨v0, d0, rfl, rfl, h0⟩ := trodAll_one hA
  have hV' := hV
  obtain ⟨gg, tg, csg, fuelg, g1, pg, rfl, hg1, hg2, hg3, hg4, rfl⟩ := trodVars_one hV
  clear hA0 hval0
  skip
  have h0k := h0
  obtain ⟨fuel0, hf0⟩ := h0
  obtain ⟨s0, a0, cap0, l0, rfl, hlm0, hHA0, hWF0, hs0⟩ := frame_of (hval 0 47 v0 rfl rfl) hf0
  have hlt0 : ∀ x ∈ p, x.block < W.heap.size := fun x hx => by simpa using hW'.lt x (by simp [hx])
  refine (lawFrameText_any s0 a0 cap0 l0 W hHA0 hWF0 hs0 hT hlm0 ).mono fun e W' ⟨he, hb⟩ => ?_
  subst he
  exact ⟨_, rfl, _, _, _, [], p, _, hW', trodAll_mk1 (shut_bool Tryd.underlying4 true), trodAll_mk1 (Below.trod Tryd.laidOut (by kernel_rfl) (of_decide_eq_true (by kernel_rfl)) h0k hb hlt0), Below.trodVars Tryd.laidOut hb (by kernel_rfl) hV', hb.frame _, fun h => by cases h⟩

theorem fnExactFrameText_holds : Rows.FnExactFrameTextSaid :=
  OpenClaim.holds_of_wide 6 Tryd.f6 rfl rfl rfl rfl rfl rfl rfl ⟨rfl, rfl, rfl, rfl, rfl⟩ rfl rfl rfl rfl rfl (by kernel_rfl) Tryd.func6 (by kernel_rfl)
    (of_decide_eq_true (by kernel_rfl)) (by unfold Func.isWrapper; first | (rw [if_pos (by decide +kernel)]; kernel_rfl) | (rw [if_neg (by decide +kernel)]; exact ⟨rfl, rfl⟩))
    (fun os started H enc _ => fnExactFrameText_lifted os started H enc)
/-- no parameter wants a stand-in -/
theorem fnExactFrameText_plain (f : FuncId) (fn : Func) (hf : Tryd.pinned.checked.prog.funcNamed Rows.fnExactFrameTextRow.func = some f) (hfn : Tryd.pinned.checked.prog.funcs[f]? = some fn) :
    true = Tryd.pinned.checked.prog.looks [] ∧ ∀ (j : Nat) t, fn.params[j]? = some t → Tryd.pinned.checked.prog.wantsStandIn t = false := by
  obtain rfl : f = 6 := Option.some.inj ((show Tryd.prog.funcNamed Rows.fnExactFrameTextRow.func = some 6 by kernel_rfl).symm.trans hf) |>.symm
  obtain rfl : fn = Tryd.f6 := (Option.some.inj (Tryd.func6.symm.trans hfn)).symm
  refine ⟨by kernel_rfl, fun j t ht => ?_⟩
  rw [Tryd.params6] at ht
  have hm : t ∈ [47] := by simpa using Array.mem_of_getElem? ht
  have hall : ([47].all fun u => !Tryd.prog.wantsStandIn u) = true := by kernel_rfl
  exact (show Tryd.prog.wantsStandIn t = false by simpa using List.all_eq_true.1 hall t hm)
theorem fnExactFrameText_card : Rows.FnExactFrameTextCardSaid :=
  Claim7.holds_tied_plain_at .later [] _ _ _ _ fnExactFrameText_holds (fun _ h => by cases h) (by kernel_rfl) (fun _ h => by cases h) fnExactFrameText_row_tie rfl ⟨rfl, rfl⟩ (by kernel_rfl) rfl fnExactFrameText_plain (by kernel_rfl)
end Go.Proofs.YtfkmippodmglnaaDoor
