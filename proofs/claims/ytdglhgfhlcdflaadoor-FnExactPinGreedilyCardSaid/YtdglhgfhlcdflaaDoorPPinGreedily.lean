/- PinGreedily's exact law, the tied card: for every argument the law returns true, and each argument reads as before. The one listed variable, a table of Go's library, is tied to the program's text. -/
import Derived.Test.YtdglhgfhlcdflaaDoorLawPinGreedily
import Derived.Test.YtdglhgfhlcdflaaDoorGaj
import Derived.Test.YtdglhgfhlcdflaaDoorGbu
import Derived.Test.YtdglhgfhlcdflaaDoorCards
import Derived.Test.YtdglhgfhlcdflaaDoorTie
import Derived.OpenVars
import Derived.ChangeVars
import Derived.ProofKit
import Derived.LaidMore
import Derived.OpenShut
import Derived.Stop.Joined
import Derived.Lib.LaidTab
import Derived.SevenTiedAt
namespace Go.Proofs.YtdglhgfhlcdflaaDoor
open Go.ChangeShapes Go.WideShapes Go.ChangeAt Go.RowKit Go.Deep

theorem gs_7 {H : Type} {enc : TypeId × Value → H} {P : Program} {w : World} {spare : Nat → Bool} {a b c d e f g : String} {gs : List (DataW H)} {ps : List MemPlace} (h : DataW.TrodVars enc P w spare [a, b, c, d, e, f, g] gs ps) : ∃ y0 y1 y2 y3 y4 y5 y6, gs = [y0, y1, y2, y3, y4, y5, y6] := by
  have step : ∀ (n : String) (ns : List String) (gs : List (DataW H)) (ps : List MemPlace), DataW.TrodVars enc P w spare (n :: ns) gs ps → ∃ y gs' ps', gs = y :: gs' ∧ DataW.TrodVars enc P w spare ns gs' ps' := by
    intro n ns gs ps h
    cases gs with
    | nil => simp [DataW.TrodVars] at h
    | cons y gs =>
      obtain ⟨_, _, _, _, _, q, _, _, _, _, hs, _⟩ := h
      exact ⟨y, gs, q, rfl, hs⟩
  obtain ⟨y0, g0, p0, e0, h0⟩ := step _ _ _ _ h
  subst e0
  obtain ⟨y1, g1, p1, e1, h1⟩ := step _ _ _ _ h0
  subst e1
  obtain ⟨y2, g2, p2, e2, h2⟩ := step _ _ _ _ h1
  subst e2
  obtain ⟨y3, g3, p3, e3, h3⟩ := step _ _ _ _ h2
  subst e3
  obtain ⟨y4, g4, p4, e4, h4⟩ := step _ _ _ _ h3
  subst e4
  obtain ⟨y5, g5, p5, e5, h5⟩ := step _ _ _ _ h4
  subst e5
  obtain ⟨y6, g6, p6, e6, h6⟩ := step _ _ _ _ h5
  subst e6
  cases g6 with
  | nil => exact ⟨_, _, _, _, _, _, _, rfl⟩
  | cons y g => simp [DataW.TrodVars] at h6
/-- the door's own heap meets the condition -/
theorem fnExactPinGreedily_door (os : Os) (args : Array Value) : laidMetH Tryd.prog Rows.fnExactPinGreedilyRow.laid ((World.doorLaid Tryd.prog 147 os).forCall (fun _ _ => 0) ⟨#[], args, []⟩).memory :=
  laidMetH_of_parts3 (fuel := 8) (laidMet_of_run' 8 (by kernel_rfl) (by kernel_rfl)) (by kernel_rfl) (by kernel_rfl)
/-- what the row's list gives: the table's cells -/
theorem fnExactPinGreedily_tab0 {W : World} (h : laidMetH Tryd.prog Rows.fnExactPinGreedilyRow.laid W) : TabW W := by
  intro j hj
  have hT := Lib.tabIs_of_head (P := Tryd.prog) (W := W) (g := 7) (k := .u8) (zs := Lib.deBruijn32tab.map fun (n : Nat) => (n : Int)) (rest := erL) (by kernel_rfl) (by kernel_rfl) Tryd.underlying129 Tryd.underlying5 (by kernel_rfl) (by kernel_rfl) h
  have hl : j < Lib.deBruijn32tab.length := hj
  have h2 := hT.cell (g := 7) (by kernel_rfl) j (by rw [List.length_map]; exact hl)
  rw [h2]
  simp only [List.getD, List.getElem?_map, List.getElem?_eq_getElem hl, Option.map_some, Option.getD_some]
/-- the table, and the seven errors -/
theorem fnExactPinGreedily_tab {W : World} (h : laidMetH Tryd.prog Rows.fnExactPinGreedilyRow.laid W) : TabE W := ⟨fnExactPinGreedily_tab0 h, err_of_laid (show laidMet Tryd.prog Rows.fnExactPinGreedilyRow.laid W from h).tail⟩

set_option maxRecDepth 100000 in
theorem fnExactPinGreedily_lifted (os : Os) (started : os.Started) (H : Type) (enc : TypeId × Value → H) :
    ReturnsInHanded {} Tryd.checked os 4 .any (fun w args => (Rows.fnExactPinGreedilySpec.pre enc Tryd.prog Tryd.f4 [] false w args ∧ laidMetH Tryd.prog Rows.fnExactPinGreedilyRow.laid w) ∧ sizedMet enc Tryd.prog Tryd.f4 (OpenSpec.ofChange Rows.fnExactPinGreedilySpec) false w args) (Rows.fnExactPinGreedilySpec.post enc Tryd.prog Tryd.f4 false true false false) := by
  refine returnsInHanded_of_change_and (C := Tryd.checked) (X := fun w _ => laidMetH Tryd.prog Rows.fnExactPinGreedilyRow.laid w) (fun _ _ _ hh h => h.of_heap hh) Tryd.own started (by kernel_rfl) Tryd.func4
    (ChangeSpec.witness_shaped (enc := enc) (C := Tryd.checked) (os := os) (X := fun w _ => laidMetH Tryd.prog Rows.fnExactPinGreedilyRow.laid w) false (World.doorLaid Tryd.prog 147 os) #[.agg #[.int .i16 0, .slice none 0 0], .slice none 0 0] 8 rfl (World.shaped_of_RefB (by kernel_rfl) (by kernel_rfl)) (by kernel_rfl) (by kernel_rfl) (by kernel_rfl) (fnExactPinGreedily_door os _)) ?_
  intro W base args ds gs before hval0 hW _ _ hL _
  have hval : ∀ (j : Nat) t v, Tryd.f4.params[j]? = some t → args[j]? = some v → Value.okWide Tryd.prog W .any base t v := hval0
  have hT := fnExactPinGreedily_tab hL
  have hW' := hW
  obtain ⟨p, q, hA0, hV, rfl, hfz, hnd⟩ := hW
  have hA : DataW.TrodAll enc Tryd.prog W 0 (fun _ => true) true Tryd.f4.params.toList args.toList ds p := hA0
  rw [Tryd.params4] at hA hval
  obtain ⟨v0, v1, d0, d1, p0, p1, rfl, rfl, rfl, h0, h1⟩ := trodAll_two hA
  have hV' := hV
  obtain ⟨y0, y1, y2, y3, y4, y5, y6, rfl⟩ := gs_7 hV
  clear hA0 hval0
  skip
  have h0k := h0
  obtain ⟨fuel0, hf0⟩ := h0
  obtain ⟨s0, a0, cap0, l0, rfl, hlm0, hHA0, hWF0, hs0⟩ := frame_of (hval 0 25 v0 rfl rfl) hf0
  have hlt0 : ∀ x ∈ p0, x.block < W.heap.size := fun x hx => by simpa using hW'.lt x (by simp [hx])
  have h1k := h1
  obtain ⟨fuel1, hf1⟩ := h1
  obtain ⟨a1, cap1, l1, rfl, hlm1, hHA1, hWF1⟩ := tune_of (hval 1 26 v1 rfl rfl) hf1
  have hlt1 : ∀ x ∈ p1, x.block < W.heap.size := fun x hx => by simpa using hW'.lt x (by simp [hx])
  refine (lawPinGreedily_any s0 a0 cap0 l0 a1 cap1 l1 W hHA0 hWF0 hs0 hHA1 hWF1 hT hlm0 hlm1 ).mono fun e W' ⟨he, hb⟩ => ?_
  subst he
  exact ⟨_, rfl, _, _, _, [], p0 ++ p1, _, hW', trodAll_mk1 (shut_bool Tryd.underlying4 true), trodAll_mk2 (Below.trod Tryd.laidOut (by kernel_rfl) (of_decide_eq_true (by kernel_rfl)) h0k hb hlt0) (Below.trod Tryd.laidOut (by kernel_rfl) (of_decide_eq_true (by kernel_rfl)) h1k hb hlt1), Below.trodVars Tryd.laidOut hb (by kernel_rfl) hV', hb.frame _, fun h => by cases h⟩

theorem fnExactPinGreedily_holds : Rows.FnExactPinGreedilySaid :=
  OpenClaim.holds_of_wide 4 Tryd.f4 rfl rfl rfl rfl rfl rfl rfl ⟨rfl, rfl, rfl, rfl, rfl⟩ rfl rfl rfl rfl rfl (by kernel_rfl) Tryd.func4 (by kernel_rfl)
    (of_decide_eq_true (by kernel_rfl)) (by unfold Func.isWrapper; first | (rw [if_pos (by decide +kernel)]; kernel_rfl) | (rw [if_neg (by decide +kernel)]; exact ⟨rfl, rfl⟩))
    (fun os started H enc _ => fnExactPinGreedily_lifted os started H enc)
/-- no parameter wants a stand-in -/
theorem fnExactPinGreedily_plain (f : FuncId) (fn : Func) (hf : Tryd.pinned.checked.prog.funcNamed Rows.fnExactPinGreedilyRow.func = some f) (hfn : Tryd.pinned.checked.prog.funcs[f]? = some fn) :
    true = Tryd.pinned.checked.prog.looks [] ∧ ∀ (j : Nat) t, fn.params[j]? = some t → Tryd.pinned.checked.prog.wantsStandIn t = false := by
  obtain rfl : f = 4 := Option.some.inj ((show Tryd.prog.funcNamed Rows.fnExactPinGreedilyRow.func = some 4 by kernel_rfl).symm.trans hf) |>.symm
  obtain rfl : fn = Tryd.f4 := (Option.some.inj (Tryd.func4.symm.trans hfn)).symm
  refine ⟨by kernel_rfl, fun j t ht => ?_⟩
  rw [Tryd.params4] at ht
  have hm : t ∈ [25, 26] := by simpa using Array.mem_of_getElem? ht
  have hall : ([25, 26].all fun u => !Tryd.prog.wantsStandIn u) = true := by kernel_rfl
  exact (show Tryd.prog.wantsStandIn t = false by simpa using List.all_eq_true.1 hall t hm)
theorem fnExactPinGreedily_card : Rows.FnExactPinGreedilyCardSaid :=
  Claim7.holds_tied_plain_at .later [] _ _ _ _ fnExactPinGreedily_holds (fun _ h => by cases h) (by kernel_rfl) (fun _ h => by cases h) fnExactPinGreedily_row_tie rfl ⟨rfl, rfl⟩ (by kernel_rfl) rfl fnExactPinGreedily_plain (by kernel_rfl)
end Go.Proofs.YtdglhgfhlcdflaaDoor
