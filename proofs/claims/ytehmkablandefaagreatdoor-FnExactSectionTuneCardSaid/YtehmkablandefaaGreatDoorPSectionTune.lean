/- SectionTune's exact law, the tied card: for every argument the law returns true, and each argument reads as before. The one listed variable, a table of Go's library, is tied to the program's text. -/
import Derived.Test.YtehmkablandefaaGreatDoorLawSectionTune
import Derived.Test.YtehmkablandefaaGreatDoorGbi
import Derived.Test.YtehmkablandefaaGreatDoorGaj
import Derived.Test.YtehmkablandefaaGreatDoorCards
import Derived.Test.YtehmkablandefaaGreatDoorTie
import Derived.OpenVars
import Derived.ChangeVars
import Derived.ProofKit
import Derived.LaidMore
import Derived.OpenShut
import Derived.Stop.Joined
import Derived.Lib.LaidTab
import Derived.SevenTiedAt
namespace Go.Proofs.YtehmkablandefaaGreatDoor
open Go.ChangeShapes Go.WideShapes Go.ChangeAt Go.RowKit Go.Deep


/-- the door's own heap meets the condition -/
theorem fnExactSectionTune_door (os : Os) (args : Array Value) : laidMetH Tryz.prog Rows.fnExactSectionTuneRow.laid ((World.doorLaid Tryz.prog 147 os).forCall (fun _ _ => 0) ⟨#[], args, []⟩).memory :=
  laidMetH_of_parts3 (fuel := 8) (laidMet_of_run' 8 (by kernel_rfl) (by kernel_rfl)) (by kernel_rfl) (by kernel_rfl)
/-- what the row's list gives: the table's cells -/
theorem fnExactSectionTune_tab {W : World} (h : laidMetH Tryz.prog Rows.fnExactSectionTuneRow.laid W) : TabW W := by
  intro j hj
  have hT := Lib.tabIs_of_head (P := Tryz.prog) (W := W) (g := 0) (k := .u8) (zs := Lib.deBruijn32tab.map fun (n : Nat) => (n : Int)) (rest := []) (by kernel_rfl) (by kernel_rfl) Tryz.underlying175 Tryz.underlying5 (by kernel_rfl) (by kernel_rfl) h
  have hl : j < Lib.deBruijn32tab.length := hj
  have h2 := hT.cell (g := 0) (by kernel_rfl) j (by rw [List.length_map]; exact hl)
  rw [h2]
  simp only [List.getD, List.getElem?_map, List.getElem?_eq_getElem hl, Option.map_some, Option.getD_some]

set_option maxRecDepth 100000 in
theorem fnExactSectionTune_lifted (os : Os) (started : os.Started) (H : Type) (enc : TypeId × Value → H) :
    ReturnsInHanded {} Tryz.checked os 3 .any (fun w args => (Rows.fnExactSectionTuneSpec.pre enc Tryz.prog Tryz.f3 [] false w args ∧ laidMetH Tryz.prog Rows.fnExactSectionTuneRow.laid w) ∧ sizedMet enc Tryz.prog Tryz.f3 (OpenSpec.ofChange Rows.fnExactSectionTuneSpec) false w args) (Rows.fnExactSectionTuneSpec.post enc Tryz.prog Tryz.f3 false true false false) := by
  refine returnsInHanded_of_change_and (C := Tryz.checked) (X := fun w _ => laidMetH Tryz.prog Rows.fnExactSectionTuneRow.laid w) (fun _ _ _ hh h => h.of_heap hh) Tryz.own started (by kernel_rfl) Tryz.func3
    (ChangeSpec.witness_shaped (enc := enc) (C := Tryz.checked) (os := os) (X := fun w _ => laidMetH Tryz.prog Rows.fnExactSectionTuneRow.laid w) false (World.doorLaid Tryz.prog 147 os) #[.agg #[.int .i16 0, .slice none 0 0], .agg (List.replicate 96 (.int .u32 0)).toArray, .agg (.slice none 0 0 :: List.replicate 48 (.int .i8 0)).toArray, .int .i64 0] 8 rfl (World.shaped_of_RefB (by kernel_rfl) (by kernel_rfl)) (by kernel_rfl) (by kernel_rfl) (by kernel_rfl) (fnExactSectionTune_door os _)) ?_
  intro W base args ds gs before hval0 hW _ _ hL _
  have hval : ∀ (j : Nat) t v, Tryz.f3.params[j]? = some t → args[j]? = some v → Value.okWide Tryz.prog W .any base t v := hval0
  have hT := fnExactSectionTune_tab hL
  have hW' := hW
  obtain ⟨p, q, hA0, hV, rfl, hfz, hnd⟩ := hW
  have hA : DataW.TrodAll enc Tryz.prog W 0 (fun _ => true) true Tryz.f3.params.toList args.toList ds p := hA0
  rw [Tryz.params3] at hA hval
  obtain ⟨v0, v1, v2, v3, d0, d1, d2, d3, p0, p1, p2, p3, rfl, rfl, rfl, h0, h1, h2, h3⟩ := trodAll_four hA
  obtain ⟨rfl, rfl⟩ := trodVars_none hV
  clear hA0 hval0
  simp only [List.append_nil] at hW'
  have h0k := h0
  obtain ⟨fuel0, hf0⟩ := h0
  obtain ⟨s0, a0, cap0, l0, rfl, hlm0, hHA0, hWF0, hs0⟩ := frame_of (hval 0 25 v0 rfl rfl) hf0
  have hlt0 : ∀ x ∈ p0, x.block < W.heap.size := fun x hx => by simpa using hW'.lt x (by simp [hx])
  have h1k := h1
  obtain ⟨fuel1, hf1⟩ := h1
  obtain ⟨q1, rfl, hq1⟩ := drum_of (hval 1 27 v1 rfl rfl) hf1
  have hlt1 : ∀ x ∈ p1, x.block < W.heap.size := fun x hx => by simpa using hW'.lt x (by simp [hx])
  have h2k := h2
  obtain ⟨fuel2, hf2⟩ := h2
  obtain ⟨a2, cap2, l2, o2, rfl, hlm2, hHA2, hWF2, ho2⟩ := programme_of (hval 2 32 v2 rfl rfl) hf2
  have hlt2 : ∀ x ∈ p2, x.block < W.heap.size := fun x hx => by simpa using hW'.lt x (by simp [hx])
  obtain ⟨x3, rfl, rfl, rfl, wx3⟩ := open_int Tryz.underlying2 (hval 3 2 v3 rfl rfl) h3
  refine (lawSectionTune_any s0 a0 cap0 l0 q1 a2 cap2 l2 o2 x3 W hHA0 hWF0 hs0 hq1 hHA2 hWF2 ho2 hT hlm0 hlm2 (bounds_i64 wx3)).mono fun e W' ⟨he, hb⟩ => ?_
  subst he
  exact ⟨_, rfl, _, _, _, [], p0 ++ (p1 ++ (p2 ++ ([]))), [], hW', trodAll_mk1 (shut_bool Tryz.underlying4 true), trodAll_mk4 (Below.trod Tryz.laidOut (by kernel_rfl) (of_decide_eq_true (by kernel_rfl)) h0k hb hlt0) (Below.trod Tryz.laidOut (by kernel_rfl) (of_decide_eq_true (by kernel_rfl)) h1k hb hlt1) (Below.trod Tryz.laidOut (by kernel_rfl) (of_decide_eq_true (by kernel_rfl)) h2k hb hlt2) (shut_int Tryz.underlying2 wx3), rfl, hb.frame _, fun h => by cases h⟩

theorem fnExactSectionTune_holds : Rows.FnExactSectionTuneSaid :=
  OpenClaim.holds_of_wide 3 Tryz.f3 rfl rfl rfl rfl rfl rfl rfl ⟨rfl, rfl, rfl, rfl, rfl⟩ rfl rfl rfl rfl rfl (by kernel_rfl) Tryz.func3 (by kernel_rfl)
    (of_decide_eq_true (by kernel_rfl)) (by unfold Func.isWrapper; first | (rw [if_pos (by decide +kernel)]; kernel_rfl) | (rw [if_neg (by decide +kernel)]; exact ⟨rfl, rfl⟩))
    (fun os started H enc _ => fnExactSectionTune_lifted os started H enc)
/-- no parameter wants a stand-in -/
theorem fnExactSectionTune_plain (f : FuncId) (fn : Func) (hf : Tryz.pinned.checked.prog.funcNamed Rows.fnExactSectionTuneRow.func = some f) (hfn : Tryz.pinned.checked.prog.funcs[f]? = some fn) :
    true = Tryz.pinned.checked.prog.looks [] ∧ ∀ (j : Nat) t, fn.params[j]? = some t → Tryz.pinned.checked.prog.wantsStandIn t = false := by
  obtain rfl : f = 3 := Option.some.inj ((show Tryz.prog.funcNamed Rows.fnExactSectionTuneRow.func = some 3 by kernel_rfl).symm.trans hf) |>.symm
  obtain rfl : fn = Tryz.f3 := (Option.some.inj (Tryz.func3.symm.trans hfn)).symm
  refine ⟨by kernel_rfl, fun j t ht => ?_⟩
  rw [Tryz.params3] at ht
  have hm : t ∈ [25, 27, 32, 2] := by simpa using Array.mem_of_getElem? ht
  have hall : ([25, 27, 32, 2].all fun u => !Tryz.prog.wantsStandIn u) = true := by kernel_rfl
  exact (show Tryz.prog.wantsStandIn t = false by simpa using List.all_eq_true.1 hall t hm)
theorem fnExactSectionTune_card : Rows.FnExactSectionTuneCardSaid :=
  Claim7.holds_tied_plain_at .later [] _ _ _ _ fnExactSectionTune_holds (fun _ h => by cases h) (by kernel_rfl) (fun _ h => by cases h) fnExactSectionTune_row_tie rfl ⟨rfl, rfl⟩ (by kernel_rfl) rfl fnExactSectionTune_plain (by kernel_rfl)
end Go.Proofs.YtehmkablandefaaGreatDoor
