import Derived.Test.YtnmfkgapiccjmaaDoorBase
import Derived.Test.YtnmfkgapiccjmaaDoorChecked
import Derived.ProofKit
import Derived.Lib.LaidTab
namespace Go.Proofs.YtnmfkgapiccjmaaDoor
open Go.RowKit

def inB (n l m : Int) : Bool := decide (l ≤ n ∧ n ≤ m)
theorem l00In_any (n l m : Int) (w : World) :
    Calls Tryd.prog 9 #[.int .i64 n, .int .i64 l, .int .i64 m] w fun e w' => e = .returned (.bool (inB n l m)) ∧ w = w' := by
  go_enter Tryd.func9, Tryd.ntmps9
  go_wp2
  all_goals go_ret
  all_goals exact ⟨ret_bool (by simp [inB] <;> omega), rfl⟩
theorem within_any (n l m : Int) (w : World) :
    Calls Tryd.prog 10 #[.int .i64 n, .int .i64 l, .int .i64 m] w fun e w' => e = .returned (.bool (inB n l m)) ∧ w = w' := by
  go_enter Tryd.func10, Tryd.ntmps10
  go_wp2
  all_goals go_ret
  all_goals exact ⟨ret_bool (by simp [inB] <;> omega), rfl⟩

/-- a table of texts as a row lists it -/
def strData {H : Type} (zs : List (List UInt8)) : DataW H := .agg (zs.map fun z => .lit (.string z))
theorem cells_of_strs {H : Type} {enc : TypeId × Value → H} {P : Program} {w : World} {base : Nat} {sp : Nat → Bool} {held : Bool} {fuel : Nat} {t e : TypeId} {n : Nat} {cs : List Value} {zs : List (List UInt8)} {p : List MemPlace}
    (ht : P.underlying t = some (.array n e)) (he : P.underlying e = some .string) (hce : P.cellsOf e = 1) (hct : P.cellsOf t = n)
    (h : DataW.trod enc P w base sp held fuel t cs = some (strData zs, p)) : cs = zs.map fun z => Value.string ⟨z.toArray⟩ := by
  cases fuel with
  | zero => simp [DataW.trod] at h
  | succ fuel =>
    simp only [DataW.trod, ht, hce, hct, Nat.mul_one] at h
    split at h
    · rename_i hl
      obtain ⟨xs, hm, hx⟩ := Option.map_eq_some_iff.1 h
      have hxs : xs.map (·.1) = zs.map fun z => (DataW.lit (.string z) : DataW H) := by
        have := congrArg Prod.fst hx
        simpa [strData] using this
      have hxl : xs.length = n := by simpa using Lib.mapM_length hm
      have hzl : zs.length = n := by
        have := congrArg List.length hxs
        simp at this
        omega
      apply List.ext_getElem?
      intro i
      by_cases hi : i < n
      · obtain ⟨b, hb, hf⟩ := Lib.mapM_at hm i i (by simp [hi])
        obtain ⟨z, hc, rfl, _⟩ := DataW.trod_string he hf
        have h1 : cs[i]? = some (.string z) := by
          have := congrArg (·[0]?) hc
          simpa [List.getElem?_take, List.getElem?_drop] using this
        have h2 : (xs.map (·.1))[i]? = some (DataW.lit (.string z.data.toList) : DataW H) := by simp [hb]
        rw [hxs] at h2
        simp only [List.getElem?_map, Option.map_eq_some_iff, DataW.lit.injEq, Lit.string.injEq] at h2
        obtain ⟨z', hz', rfl⟩ := h2
        simp [h1, hz']
      · rw [List.getElem?_eq_none (by omega), List.getElem?_eq_none (by simp; omega)]
    · cases h
/-- from a row's condition: the table of texts stands first on the list -/
theorem strs_of_head {P : Program} {W : World} {name : String} {zs : List (List UInt8)} {rest : List (String × DataW Unit)} {g : Nat} {t e : TypeId} {n : Nat}
    (hg : P.globalNamed name = some g) (hty : (P.globals[g]?).map (·.type) = some t) (ht : P.underlying t = some (.array n e)) (he : P.underlying e = some .string) (hce : P.cellsOf e = 1) (hct : P.cellsOf t = n)
    (h : laidMet P ((name, strData zs) :: rest) W) (i : Nat) (hi : i < zs.length) : W.cell? ⟨g, i, none⟩ = some (.string ⟨(zs.getD i []).toArray⟩) := by
  obtain ⟨ps, ⟨g', t', cs, fuel, p, q, hg', ht', hvar, hd, _, _⟩, _⟩ := h
  obtain rfl := Option.some.inj (hg.symm.trans hg')
  obtain rfl := Option.some.inj (hty.symm.trans ht')
  have e := cells_of_strs ht he hce hct hd
  have h1 := World.var?_cell hg hvar i
  rw [h1, ← Array.getElem?_toList, e]
  simp [List.getD, hi]

/-- the names of the codes -/
def cnT : List (List UInt8) := [[111, 107], [105, 110, 118, 97, 108, 105, 100], [114, 97, 110, 103, 101], [108, 105, 109, 105, 116], [115, 116, 97, 116, 101], [115, 121, 110, 116, 97, 120], [110, 111, 116, 102, 111, 117, 110, 100], [98, 117, 100, 103, 101, 116], [112, 114, 111, 111, 102]]
def cnV (x : Int) : ByteArray := if inB x 0 8 = true then ⟨(cnT.getD x.toNat []).toArray⟩ else ⟨#[]⟩
def NamW (w : World) : Prop := ∀ j, j < 9 → w.cell? ⟨0, j, none⟩ = some (.string ⟨(cnT.getD j []).toArray⟩)

set_option maxRecDepth 20000 in
set_option maxHeartbeats 2000000 in
theorem specCodeName_any (x : Int) (w : World) :
    Calls Tryd.prog 5 #[.int .i64 x] w fun e w' => e = .returned (.string (cnV x)) ∧ Below w.heap.size w w' := by
  go_enter Tryd.func5, Tryd.ntmps5
  cases hx : inB x 0 8
  · have KI : ∀ W, Calls Tryd.prog 9 #[.int .i64 x, .int .i64 0, .int .i64 8] W fun e w' => e = .returned (.bool false) ∧ W = w' := fun W => by rw [← hx]; exact l00In_any x 0 8 W
    have HV := hide (show cnV x = ⟨#[]⟩ by simp [cnV, hx])
    clear hx
    go_wp2_with (go_at_call 9; refine (KI _).mono ?_; rintro e w' ⟨rfl, rfl⟩)
    go_ret
    exact ⟨by rw [HV.out]; rfl, (Below.refl _ _).alloc (Nat.le_refl _) _⟩
  · have KI : ∀ W, Calls Tryd.prog 9 #[.int .i64 x, .int .i64 0, .int .i64 8] W fun e w' => e = .returned (.bool true) ∧ W = w' := fun W => by rw [← hx]; exact l00In_any x 0 8 W
    have hr : 0 ≤ x ∧ x ≤ 8 := by simpa [inB] using hx
    have hc : x = 0 ∨ x = 1 ∨ x = 2 ∨ x = 3 ∨ x = 4 ∨ x = 5 ∨ x = 6 ∨ x = 7 ∨ x = 8 := by omega
    clear hr hx
    rcases hc with rfl | rfl | rfl | rfl | rfl | rfl | rfl | rfl | rfl
    all_goals
      go_wp2_with (go_at_call 9; refine (KI _).mono ?_; rintro e w' ⟨rfl, rfl⟩)
      go_ret
      exact ⟨rfl, (Below.refl _ _).alloc (Nat.le_refl _) _⟩

set_option maxRecDepth 20000 in
set_option maxHeartbeats 2000000 in
theorem implCodeName_any (x : Int) (w : World) (hT : NamW w) :
    Calls Tryd.prog 6 #[.int .i64 x] w fun e w' => e = .returned (.string (cnV x)) ∧ w = w' := by
  go_enter Tryd.func6, Tryd.ntmps6
  cases hx : inB x 0 8
  · have KI : ∀ W, Calls Tryd.prog 10 #[.int .i64 x, .int .i64 0, .int .i64 8] W fun e w' => e = .returned (.bool false) ∧ W = w' := fun W => by rw [← hx]; exact within_any x 0 8 W
    have HV := hide (show cnV x = ⟨#[]⟩ by simp [cnV, hx])
    clear hx
    go_wp2_with (go_at_call 10; refine (KI _).mono ?_; rintro e w' ⟨rfl, rfl⟩)
    go_ret
    exact ⟨by rw [HV.out]; rfl, rfl⟩
  · have KI : ∀ W, Calls Tryd.prog 10 #[.int .i64 x, .int .i64 0, .int .i64 8] W fun e w' => e = .returned (.bool true) ∧ W = w' := fun W => by rw [← hx]; exact within_any x 0 8 W
    have hr : 0 ≤ x ∧ x ≤ 8 := by simpa [inB] using hx
    obtain ⟨k, rfl⟩ := Int.eq_ofNat_of_zero_le hr.1
    have hk : k < 9 := by omega
    have c1 := hT k hk
    have hki : (k : Int) < 9 := by omega
    have HV := hide (show cnV (k : Int) = ⟨(cnT.getD k []).toArray⟩ by rw [cnV, if_pos hx, Int.toNat_natCast])
    obtain ⟨z, hz⟩ : ∃ z : ByteArray, ⟨(cnT.getD k []).toArray⟩ = z := ⟨_, rfl⟩
    rw [hz] at c1 HV
    clear hr hx hz
    go_wp2_with (go_at_call 10; refine (KI _).mono ?_; rintro e w' ⟨rfl, rfl⟩)
    go_ret
    exact ⟨by rw [HV.out]; rfl, rfl⟩

theorem lawCodeName_any (x : Int) (w : World) (hT : NamW w) (_hx : -9223372036854775808 ≤ x ∧ x ≤ 9223372036854775807) :
    Calls Tryd.prog 3 #[.int .i64 x] w fun e w' => e = .returned (.bool true) ∧ Below w.heap.size w w' := by
  go_enter Tryd.func3, Tryd.ntmps3
  go_wp2_with fail
  refine (specCodeName_any x w).mono ?_
  rintro e w1 ⟨rfl, hb⟩
  have hT1 : NamW w1 := fun j hj => (hb.cell (p := ⟨_, j, none⟩) (World.block_lt_of_cell? w _ (hT j hj))).trans (hT j hj)
  obtain ⟨z, hz⟩ : ∃ z, cnV x = z := ⟨_, rfl⟩
  have KI := implCodeName_any x w1 hT1
  rw [hz] at KI ⊢
  clear hz
  go_wp2_with fail
  refine KI.mono ?_
  rintro e w2 ⟨rfl, rfl⟩
  go_wp2
  go_ret
  exact ⟨rfl, hb⟩
end Go.Proofs.YtnmfkgapiccjmaaDoor
