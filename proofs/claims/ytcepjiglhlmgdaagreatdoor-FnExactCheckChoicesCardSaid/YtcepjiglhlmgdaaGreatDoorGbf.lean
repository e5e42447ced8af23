import Derived.Test.YtcepjiglhlmgdaaGreatDoorPcd
import Derived.Test.YtcepjiglhlmgdaaGreatDoorUne
import Derived.Test.YtcepjiglhlmgdaaGreatDoorAch
import Derived.Test.YtcepjiglhlmgdaaGreatDoorGbe
import Derived.Maps.AppendAt
import Derived.Test.YtcepjiglhlmgdaaGreatDoorGap
namespace Go.Proofs.YtcepjiglhlmgdaaGreatDoor
open Go.RowKit
abbrev xk (L : List Xc) (k : Nat) : Bool × Int × Int × Int := (chA L k, chL L k, chO L k, chT L k)
theorem tog_wfP {d : Nat → Int} (hd : DWF d) (k t : Nat) : DWF (togD d k t) := by
  intro i hi
  unfold togD
  split
  · exact bounds_u32 (wf_bits .xor .u32 _ _)
  · exact hd i hi
theorem zero_wfP : DWF fun _ => 0 := fun i hi => by simp
/-- the drum behind the first k choices; none if one of them does not fit -/
def dfS (S : Nat) (hl t : List (Int × Int)) (L : List Xc) : Nat → Option (Nat → Int)
  | 0 => some fun _ => 0
  | k + 1 => match dfS S hl t L k with
    | none => none
    | some d => if xk L k ∈ chS S hl (nAt t k) (nPi t k) ∧ plO S hl d (nAt t k) (xk L k) = true then some (plN d (nAt t k) (xk L k)) else none
theorem dfS_yes {S : Nat} {hl t : List (Int × Int)} {L : List Xc} {k : Nat} {d : Nat → Int} (h : dfS S hl t L k = some d) (h1 : xk L k ∈ chS S hl (nAt t k) (nPi t k)) (h2 : plO S hl d (nAt t k) (xk L k) = true) : dfS S hl t L (k + 1) = some (plN d (nAt t k) (xk L k)) := by
  simp only [dfS, h]; rw [if_pos ⟨h1, h2⟩]
theorem dfS_no {S : Nat} {hl t : List (Int × Int)} {L : List Xc} {k : Nat} {d : Nat → Int} (h : dfS S hl t L k = some d) (h1 : ¬ (xk L k ∈ chS S hl (nAt t k) (nPi t k) ∧ plO S hl d (nAt t k) (xk L k) = true)) : dfS S hl t L (k + 1) = none := by
  simp only [dfS, h]; rw [if_neg h1]
theorem dfS_none {S : Nat} {hl t : List (Int × Int)} {L : List Xc} {k : Nat} (h : dfS S hl t L k = none) : ∀ m, dfS S hl t L (k + m) = none := by
  intro m
  induction m with
  | zero => exact h
  | succ m ih => rw [← Nat.add_assoc]; simp only [dfS, ih]
/-- the first choice that does not fit -/
def dfF (S : Nat) (hl t : List (Int × Int)) (L : List Xc) : Option Nat := (List.range L.length).find? fun k => (dfS S hl t L (k + 1)).isNone
theorem dfF_some {S : Nat} {hl t : List (Int × Int)} {L : List Xc} {k : Nat} {d : Nat → Int} (hk : k < L.length) (h : dfS S hl t L k = some d) (h1 : dfS S hl t L (k + 1) = none) : dfF S hl t L = some k := by
  unfold dfF
  rw [List.find?_range_eq_some]
  refine ⟨by simp [h1], by simpa using hk, fun j hj => ?_⟩
  cases hc : dfS S hl t L (j + 1) with
  | none =>
    have := dfS_none hc (k - (j + 1))
    rw [show j + 1 + (k - (j + 1)) = k by omega, h] at this
    cases this
  | some _ => simp
theorem dfF_none {S : Nat} {hl t : List (Int × Int)} {L : List Xc} {d : Nat → Int} (h : dfS S hl t L L.length = some d) : dfF S hl t L = none := by
  unfold dfF
  rw [List.find?_range_eq_none]
  intro j hj
  cases hc : dfS S hl t L (j + 1) with
  | none =>
    have := dfS_none hc (L.length - (j + 1))
    rw [show j + 1 + (L.length - (j + 1)) = L.length by omega, h] at this
    cases this
  | some _ => simp
theorem plN_wf {d : Nat → Int} (hd : DWF d) (a : Int) (x : Bool × Int × Int × Int) : DWF (plN d a x) := by
  unfold plN
  split
  · exact hd
  · exact tog_wfP hd _ _
theorem dfS_wf {S : Nat} {hl t : List (Int × Int)} {L : List Xc} : ∀ {k : Nat} {d : Nat → Int}, dfS S hl t L k = some d → DWF d := by
  intro k
  induction k with
  | zero =>
    intro d h
    simp only [dfS, Option.some.injEq] at h
    subst h
    exact zero_wfP
  | succ k ih =>
    intro d h
    simp only [dfS] at h
    split at h
    · cases h
    · rename_i q hq
      split at h
      · cases h
        exact plN_wf (ih hq) _ _
      · cases h
/-- what is asked of an arrangement, the code, the drum, and the error -/
def dfQ (s : Int) (hl t : List (Int × Int)) (L : List Xc) : Int := if frB s hl = true ∧ okB t = true ∧ xsB L = true then (if L.length = t.length then 0 else 2) else 1
def dfC (s : Int) (hl t : List (Int × Int)) (L : List Xc) : Int := if dfQ s hl t L = 0 then (if (dfF s.toNat hl t L).isSome then 4 else 0) else dfQ s hl t L
def dfD (s : Int) (hl t : List (Int × Int)) (L : List Xc) : Nat → Int := if dfC s hl t L = 0 then (dfS s.toNat hl t L L.length).getD fun _ => 0 else fun _ => 0
def dfV (p : Nat → Addr) (s : Int) (hl t : List (Int × Int)) (L : List Xc) : Value := if dfQ s hl t L = 1 then erV (p 0) else if dfQ s hl t L = 2 then unevenV else match dfF s.toNat hl t L with | some k => unfitV k | none => .nilIface
theorem dfQ_no {s : Int} {hl t : List (Int × Int)} {L : List Xc} (h : ¬ (frB s hl = true ∧ okB t = true ∧ xsB L = true)) : dfQ s hl t L = 1 := if_neg h
theorem dfQ_uneven {s : Int} {hl t : List (Int × Int)} {L : List Xc} (h : frB s hl = true ∧ okB t = true ∧ xsB L = true) (h1 : L.length ≠ t.length) : dfQ s hl t L = 2 := by rw [dfQ, if_pos h, if_neg h1]
theorem dfQ_yes {s : Int} {hl t : List (Int × Int)} {L : List Xc} (h : frB s hl = true ∧ okB t = true ∧ xsB L = true) (h1 : L.length = t.length) : dfQ s hl t L = 0 := by rw [dfQ, if_pos h, if_pos h1]
theorem dfR_1 {p : Nat → Addr} {s : Int} {hl t : List (Int × Int)} {L : List Xc} (h : dfQ s hl t L = 1) : dfC s hl t L = 1 ∧ dfD s hl t L = (fun _ => 0) ∧ dfV p s hl t L = erV (p 0) := by
  have hc : dfC s hl t L = 1 := by rw [dfC, h]; rfl
  exact ⟨hc, by rw [dfD, hc]; rfl, by rw [dfV, if_pos h]⟩
theorem dfR_2 {p : Nat → Addr} {s : Int} {hl t : List (Int × Int)} {L : List Xc} (h : dfQ s hl t L = 2) : dfC s hl t L = 2 ∧ dfD s hl t L = (fun _ => 0) ∧ dfV p s hl t L = unevenV := by
  have hc : dfC s hl t L = 2 := by rw [dfC, h]; rfl
  exact ⟨hc, by rw [dfD, hc]; rfl, by rw [dfV, h]; rfl⟩
theorem dfR_4 {p : Nat → Addr} {s : Int} {hl t : List (Int × Int)} {L : List Xc} {k : Nat} (h : dfQ s hl t L = 0) (hf : dfF s.toNat hl t L = some k) : dfC s hl t L = 4 ∧ dfD s hl t L = (fun _ => 0) ∧ dfV p s hl t L = unfitV k := by
  have hc : dfC s hl t L = 4 := by rw [dfC, h, hf]; rfl
  exact ⟨hc, by rw [dfD, hc]; rfl, by rw [dfV, h, hf]; rfl⟩
theorem dfR_0 {p : Nat → Addr} {s : Int} {hl t : List (Int × Int)} {L : List Xc} {d : Nat → Int} (h : dfQ s hl t L = 0) (hf : dfF s.toNat hl t L = none) (hd : dfS s.toNat hl t L L.length = some d) : dfC s hl t L = 0 ∧ dfD s hl t L = d ∧ dfV p s hl t L = .nilIface := by
  have hc : dfC s hl t L = 0 := by rw [dfC, h, hf]; rfl
  exact ⟨hc, by rw [dfD, if_pos hc, hd]; rfl, by rw [dfV, h, hf]; rfl⟩
theorem dfS_ex {S : Nat} {hl t : List (Int × Int)} {L : List Xc} (hf : dfF S hl t L = none) : ∃ d, dfS S hl t L L.length = some d := by
  by_cases h0 : L.length = 0
  · rw [h0]; exact ⟨_, rfl⟩
  · unfold dfF at hf
    rw [List.find?_range_eq_none] at hf
    have := hf (L.length - 1) (by omega)
    rw [show L.length - 1 + 1 = L.length by omega] at this
    cases hc : dfS S hl t L L.length with
    | none => rw [hc] at this; simp at this
    | some d => exact ⟨d, rfl⟩
end Go.Proofs.YtcepjiglhlmgdaaGreatDoor
namespace Go.Proofs.YtcepjiglhlmgdaaGreatDoor
open Go.RowKit
theorem info57 : (Tryz.prog.info? 57).map (fun i => (i.zero, i.size, i.bytes)) = some (some (.int .i8 0), 1, 1) := by kernel_rfl
/-- 0, -1, 1, -2, 2 and so on -/
def sgL (m : Nat) : List Int := 0 :: (List.range m).flatMap fun (j : Nat) => [-((j : Int) + 1), (j : Int) + 1]
def bcells (l : List Int) : List Value := l.map fun x => .int .i8 x
theorem sgL_succ (m : Nat) : sgL (m + 1) = sgL m ++ [-((m : Int) + 1), (m : Int) + 1] := by simp [sgL, List.range_succ, List.flatMap_append]
theorem sgL_len (m : Nat) : (sgL m).length = 2 * m + 1 := by
  induction m with
  | zero => rfl
  | succ m ih => rw [sgL_succ, List.length_append, ih]; simp; omega
theorem own_shapeG {w : World} {base : Nat} {e : TypeId} {size n : Nat} {v : Value} {xs : List Value} (h : w.ownsRow base e size v n xs) : ∃ A c, v = .slice A n c := by
  rcases h.2 with ⟨h', h0⟩ | ⟨g, cap, cur, h', _⟩
  · exact ⟨none, 0, by rw [h', h0]⟩
  · exact ⟨_, _, h'⟩
theorem own_one8 {w : World} {base : Nat} (x : Int) (h : base ≤ w.heap.size) : (w.alloc (.cells #[.int .i8 x] 57)).ownsRow base 57 1 (.slice (some ⟨w.heap.size, 0, none⟩) 1 1) 1 [.int .i8 x] :=
  ⟨by simp, Or.inr ⟨w.heap.size, 1, #[.int .i8 x], rfl, h, heap_alloc_new _ _, by simp, by unfold maxLen; omega, by simp, by simp⟩⟩
theorem cells_two (w : World) (x y : Value) (t : TypeId) : ∀ j u, ([x, y] : List Value)[j]? = some u → (w.alloc (.cells #[x, y] t)).cell? ((⟨w.heap.size, 0, none⟩ : Addr).add j) = some u := by
  intro j u hu
  rw [Addr.add_lit]
  match j, hu with
  | 0, hu => simp at hu; subst hu; simp [go_sem]
  | 1, hu => simp at hu; subst hu; simp [go_sem]
set_option maxRecDepth 20000 in
set_option maxHeartbeats 2000000 in
theorem l07Signed_any (m : Nat) (hm : m ≤ 100) (w : World) :
    Calls Tryz.prog 52 #[.int .i8 m] w fun e w' => ∃ (g c : Nat), e = .returned (.slice (some ⟨g, 0, none⟩) (2 * m + 1) c) ∧ w'.ownsRow w.heap.size 57 1 (.slice (some ⟨g, 0, none⟩) (2 * m + 1) c) (2 * m + 1) (bcells (sgL m)) ∧ Below w.heap.size w w' := by
  obtain ⟨i0, hi, hz0, hz1, hz2⟩ := info_parts info57
  have hw0 : Below w.heap.size w (w.alloc (.cells #[.int .i8 0] 57)) := (Below.refl _ _).alloc (Nat.le_refl _) _
  go_enter Tryz.func52, Tryz.ntmps52
  go_wp2_with fail
  go_loopw [3, 4] (fun v i wr => ∃ k : Nat, k ≤ m ∧ i = .int .i8 (k + 1) ∧ wr.ownsRow w.heap.size 57 1 v (2 * k + 1) (bcells (sgL k)) ∧ Below w.heap.size w wr)
    (fun _ i _ => m + 1 - (intOf i).toNat)
  case atStart => exact ⟨0, Nat.zero_le _, rfl, own_one8 0 (Nat.le_refl _), hw0⟩
  case round =>
    obtain ⟨k, hk, rfl, hown, hb⟩ := hrel
    obtain ⟨A', c', rfl⟩ := own_shapeG hown
    by_cases hlt : k < m
    · have hz : (k : Int) + 1 ≤ (m : Int) := by omega
      have w1 : IntKind.i8.wrap (-((k : Int) + 1)) = -((k : Int) + 1) := by simp [IntKind.wrap, IntKind.signed, IntKind.bits]; omega
      have w2 : IntKind.i8.wrap ((k : Int) + 1 + 1) = (k : Int) + 1 + 1 := by simp [IntKind.wrap, IntKind.signed, IntKind.bits]; omega
      have HS := hide (sgL_succ k)
      have hnew := cells_two wr (.int .i8 (-((k : Int) + 1))) (.int .i8 ((k : Int) + 1)) 57
      have own3 := hown.alloc (.cells #[.int .i8 (-((k : Int) + 1)), .int .i8 ((k : Int) + 1)] 57)
      go_wp2_with (at_builtin; refine wpList_append_own _ rfl _ _ 120 rfl w.heap.size 57 i0 (.int .i8 0) 1 1 Tryz.underlying120 hi hz0 hz1 hz2 rfl (by decide) _ _ _ rfl own3 ⟨wr.heap.size, 0, none⟩ 2 2 [.int .i8 (-((k : Int) + 1)), .int .i8 ((k : Int) + 1)] rfl rfl hnew (fun x hx => by simp at hx; rcases hx with rfl | rfl <;> rfl) (by unfold maxLen; omega) (by omega) (by simp; have := hb.size; omega) ?_; intro v' w6 hown6 hgrow6 hnil6)
      have hb6 := (hb.alloc hb.size (.cells #[.int .i8 (-((k : Int) + 1)), .int .i8 ((k : Int) + 1)] 57)).grown hgrow6 (by simp; have := hb.size; omega) (fun j hj => (hown.lt j hj).1)
      go_roundw
      case rel => exact ⟨k + 1, hlt, by go_num, by rw [HS.out, bcells, List.map_append, show 2 * (k + 1) + 1 = 2 * k + 1 + 2 by omega]; exact hown6, hb6⟩
      case measure => simp [intOf]; omega
    · obtain rfl : k = m := by omega
      obtain ⟨g, rfl⟩ : ∃ g, A' = some ⟨g, 0, none⟩ := by
        rcases hown.2 with ⟨_, h0⟩ | ⟨g, cap, cur, h', _⟩
        · omega
        · cases h'; exact ⟨g, rfl⟩
      go_wp2
      go_ret
      exact ⟨g, c', rfl, hown, hb⟩
end Go.Proofs.YtcepjiglhlmgdaaGreatDoor
namespace Go.Proofs.YtcepjiglhlmgdaaGreatDoor
open Go.RowKit
theorem cell_two_new' (w : World) (x y : Value) (t : TypeId) : ∀ j u, ([x, y] : List Value)[j]? = some u → (w.alloc (.cells #[x, y] t)).cell? ((⟨w.heap.size, 0, none⟩ : Addr).add j) = some u := by
  intro j u hu
  rw [Addr.add_lit]
  match j, hu with
  | 0, hu => simp at hu; subst hu; simp [go_sem]
  | 1, hu => simp at hu; subst hu; simp [go_sem]
theorem own_emptyT {w : World} {base : Nat} (t : TypeId) (size : Nat) (h : base ≤ w.heap.size) : (w.alloc (.cells #[] t)).ownsRow base t size (.slice (some ⟨w.heap.size, 0, none⟩) 0 0) 0 [] :=
  ⟨by simp, Or.inr ⟨w.heap.size, 0, #[], rfl, h, heap_alloc_new _ _, by simp, by simp, by simp, by simp⟩⟩
/-- notes of the call's own, and a code -/
def OwnN (w : World) (l : List (Int × Int)) (cc : Int) (e : Ending) (w' : World) : Prop := ∃ (C : Option Addr) (q : Nat), e = .returned (.tuple #[.slice C l.length q, .int .i64 cc]) ∧ w'.ownsRow w.heap.size 59 2 (.slice C l.length q) l.length (cellsOf l) ∧ Below w.heap.size w w'
end Go.Proofs.YtcepjiglhlmgdaaGreatDoor
