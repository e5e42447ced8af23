/- ChangesBetween's exact law, the tied card: for every argument the law returns true, and each argument reads as before. The one listed variable, a table of Go's library, is tied to the program's text. -/
import Derived.Test.YtcepjiglhlmgdaaDoorLawChangesBetween
import Derived.Test.YtcepjiglhlmgdaaDoorOpenD
import Derived.Test.YtcepjiglhlmgdaaDoorGao
import Derived.Test.YtcepjiglhlmgdaaDoorCards
import Derived.Test.YtcepjiglhlmgdaaDoorTie
import Derived.OpenVars
import Derived.ChangeVars
import Derived.ProofKit
import Derived.LaidMore
import Derived.OpenShut
import Derived.Stop.Joined
import Derived.Stop.LaidErr
import Derived.Lib.LaidTab
import Derived.SevenTiedAt
namespace Go.Proofs.YtcepjiglhlmgdaaDoor
open Go.ChangeShapes Go.WideShapes Go.ChangeAt Go.RowKit Go.Deep


/-- the door's own heap meets the condition -/
theorem fnExactChangesBetween_door (os : Os) (args : Array Value) : laidMetH Tryd.prog Rows.fnExactChangesBetweenRow.laid ((World.doorLaid Tryd.prog 147 os).forCall (fun _ _ => 0) ⟨#[], args, []⟩).memory :=
  laidMetH_of_parts3 (fuel := 8) (laidMet_of_run' 8 (by kernel_rfl) (by kernel_rfl)) (by kernel_rfl) (by kernel_rfl)
/-- what the row's list gives: the table's cells -/
theorem fnExactChangesBetween_tab {W : World} (h : laidMetH Tryd.prog Rows.fnExactChangesBetweenRow.laid W) : TabW W := by
  intro j hj
  have hT := Lib.tabIs_of_head (P := Tryd.prog) (W := W) (g := 7) (k := .u8) (zs := Lib.deBruijn32tab.map fun (n : Nat) => (n : Int)) (rest := []) (by kernel_rfl) (by kernel_rfl) Tryd.underlying125 Tryd.underlying5 (by kernel_rfl) (by kernel_rfl) h
  have hl : j < Lib.deBruijn32tab.length := hj
  have h2 := hT.cell (g := 7) (by kernel_rfl) j (by rw [List.length_map]; exact hl)
  rw [h2]
  simp only [List.getD, List.getElem?_map, List.getElem?_eq_getElem hl, Option.map_some, Option.getD_some]

set_option maxRecDepth 100000 in
theorem fnExactChangesBetween_lifted (os : Os) (started : os.Started) (H : Type) (enc : TypeId × Value → H) :
    ReturnsInHanded {} Tryd.checked os 4 .any (fun w args => (Rows.fnExactChangesBetweenSpec.pre enc Tryd.prog Tryd.f4 [] false w args ∧ laidMetH Tryd.prog Rows.fnExactChangesBetweenRow.laid w) ∧ sizedMet enc Tryd.prog Tryd.f4 (OpenSpec.ofChange Rows.fnExactChangesBetweenSpec) false w args) (Rows.fnExactChangesBetweenSpec.post enc Tryd.prog Tryd.f4 false true false false) := by
  refine returnsInHanded_of_change_and (C := Tryd.checked) (X := fun w _ => laidMetH Tryd.prog Rows.fnExactChangesBetweenRow.laid w) (fun _ _ _ hh h => h.of_heap hh) Tryd.own started (by kernel_rfl) Tryd.func4
    (ChangeSpec.witness_shaped (enc := enc) (C := Tryd.checked) (os := os) (X := fun w _ => laidMetH Tryd.prog Rows.fnExactChangesBetweenRow.laid w) false (World.doorLaid Tryd.prog 147 os) #[.agg #[.int .i16 0, .slice none 0 0], .agg (List.replicate 96 (.int .u32 0)).toArray, .agg (List.replicate 96 (.int .u32 0)).toArray] 8 rfl (World.shaped_of_RefB (by kernel_rfl) (by kernel_rfl)) (by kernel_rfl) (by kernel_rfl) (by kernel_rfl) (fnExactChangesBetween_door os _)) ?_
  intro W base args ds gs before hval0 hW _ _ hL _
  have hval : ∀ (j : Nat) t v, Tryd.f4.params[j]? = some t → args[j]? = some v → Value.okWide Tryd.prog W .any base t v := hval0
  have hT := fnExactChangesBetween_tab hL
  have hW' := hW
  obtain ⟨p, q, hA0, hV, rfl, hfz, hnd⟩ := hW
  have hA : DataW.TrodAll enc Tryd.prog W 0 (fun _ => true) true Tryd.f4.params.toList args.toList ds p := hA0
  rw [Tryd.params4] at hA hval
  obtain ⟨v0, v1, v2, d0, d1, d2, p0, p1, p2, rfl, rfl, rfl, h0, h1, h2⟩ := trodAll_three hA
  obtain ⟨rfl, rfl⟩ := trodVars_none hV
  clear hA0 hval0
  simp only [List.append_nil] at hW'
  have h0k := h0
  obtain ⟨fuel0, hf0⟩ := h0
  obtain ⟨s0, a0, cap0, l0, rfl, hlm0, hHA0, hWF0, hs0⟩ := frame_of (hval 0 25 v0 rfl rfl) hf0
  have hlt0 : ∀ x ∈ p0, x.block < W.heap.size := fun x hx => by simpa using hW'.lt x (by simp [hx])
  have h1k := h1
  obtain ⟨fuel1, hf1⟩ := h1
  obtain ⟨q1, rfl, hq1⟩ := drum_of (hval 1 45 v1 rfl rfl) hf1
  have hlt1 : ∀ x ∈ p1, x.block < W.heap.size := fun x hx => by simpa using hW'.lt x (by simp [hx])
  have h2k := h2
  obtain ⟨fuel2, hf2⟩ := h2
  obtain ⟨q2, rfl, hq2⟩ := drum_of (hval 2 45 v2 rfl rfl) hf2
  have hlt2 : ∀ x ∈ p2, x.block < W.heap.size := fun x hx => by simpa using hW'.lt x (by simp [hx])
  refine (lawChangesBetween_any s0 a0 cap0 l0 q1 q2 W hHA0 hWF0 hs0 hq1 hq2 hT hlm0 ).mono fun e W' ⟨he, hb⟩ => ?_
  subst he
  exact ⟨_, rfl, _, _, _, [], p0 ++ (p1 ++ (p2)), [], hW', trodAll_mk1 (shut_bool Tryd.underlying4 true), trodAll_mk3 (Below.trod Tryd.laidOut (by kernel_rfl) (of_decide_eq_true (by kernel_rfl)) h0k hb hlt0) (Below.trod Tryd.laidOut (by kernel_rfl) (of_decide_eq_true (by kernel_rfl)) h1k hb hlt1) (Below.trod Tryd.laidOut (by kernel_rfl) (of_decide_eq_true (by kernel_rfl)) h2k hb hlt2), rfl, hb.frame _, fun h => by cases h⟩

theorem fnExactChangesBetween_holds : Rows.FnExactChangesBetweenSaid :=
  OpenClaim.holds_of_wide 4 Tryd.f4 rfl rfl rfl rfl rfl rfl rfl ⟨rfl, rfl, rfl, rfl, rfl⟩ rfl rfl rfl rfl rfl (by kernel_rfl) Tryd.func4 (by kernel_rfl)
    (of_decide_eq_true (by kernel_rfl)) (by unfold Func.isWrapper; first | (rw [if_pos (by decide +kernel)]; kernel_rfl) | (rw [if_neg (by decide +kernel)]; exact ⟨rfl, rfl⟩))
    (fun os started H enc _ => fnExactChangesBetween_lifted os started H enc)
/-- no parameter wants a stand-in -/
theorem fnExactChangesBetween_plain (f : FuncId) (fn : Func) (hf : Tryd.pinned.checked.prog.funcNamed Rows.fnExactChangesBetweenRow.func = some f) (hfn : Tryd.pinned.checked.prog.funcs[f]? = some fn) :
    true = Tryd.pinned.checked.prog.looks [] ∧ ∀ (j : Nat) t, fn.params[j]? = some t → Tryd.pinned.checked.prog.wantsStandIn t = false := by
  obtain rfl : f = 4 := Option.some.inj ((show Tryd.prog.funcNamed Rows.fnExactChangesBetweenRow.func = some 4 by kernel_rfl).symm.trans hf) |>.symm
  obtain rfl : fn = Tryd.f4 := (Option.some.inj (Tryd.func4.symm.trans hfn)).symm
  refine ⟨by kernel_rfl, fun j t ht => ?_⟩
  rw [Tryd.params4] at ht
  have hm : t ∈ [25, 45, 45] := by simpa using Array.mem_of_getElem? ht
  have hall : ([25, 45, 45].all fun u => !Tryd.prog.wantsStandIn u) = true := by kernel_rfl
  exact (show Tryd.prog.wantsStandIn t = false by simpa using List.all_eq_true.1 hall t hm)
theorem fnExactChangesBetween_card : Rows.FnExactChangesBetweenCardSaid :=
  Claim7.holds_tied_plain_at .later [] _ _ _ _ fnExactChangesBetween_holds (fun _ h => by cases h) (by kernel_rfl) (fun _ h => by cases h) fnExactChangesBetween_row_tie rfl ⟨rfl, rfl⟩ (by kernel_rfl) rfl fnExactChangesBetween_plain (by kernel_rfl)
end Go.Proofs.YtcepjiglhlmgdaaDoor
