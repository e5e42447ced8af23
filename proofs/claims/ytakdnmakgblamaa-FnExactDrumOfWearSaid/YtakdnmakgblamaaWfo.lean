import Derived.Test.YtakdnmakgblamaaWcw
import Derived.Maps.Own
import Derived.Maps.OwnOps
import Derived.Lib.SliceRun
import Derived.Lib.AppendZeros
import Derived.Deep.RegionHeld3
namespace Go.Proofs.Ytakdnmakgblamaa
open Go.RowKit Go.Maps
theorem SZ.cells {w : World} {ad : Addr} {l : List Int} (h : SZ w (some ad) l) : ∀ j u, (icells l)[j]? = some u → w.cell? (ad.add j) = some u := by
  intro j u hu
  have hj : j < (icells l).length := (List.getElem?_eq_some_iff.1 hu).1
  rw [icells_length] at hj
  obtain ⟨b, o, e, _, c0⟩ := h j hj
  obtain rfl : ad = ⟨b, o, none⟩ := Option.some.inj e
  rw [Addr.add_lit, c0, ← hu, icells_get l j hj]
theorem SZ.none {w : World} {l : List Int} (h : SZ w none l) : l = [] := by
  rcases Nat.eq_zero_or_pos l.length with e | e
  · exact List.length_eq_zero_iff.1 e
  · obtain ⟨b, o, h1, _⟩ := h 0 e
    cases h1
theorem icells_one (l : List Int) : ∀ u ∈ icells l, u.oneCell' = true := by
  intro u hu
  simp only [icells, List.mem_map] at hu
  obtain ⟨n, _, rfl⟩ := hu
  rfl
theorem own_shapeZ {w : World} {base : Nat} {e : TypeId} {size n : Nat} {v : Value} {xs : List Value} (h : w.ownsRow base e size v n xs) : ∃ A c, v = .slice A n c := by
  rcases h.2 with ⟨rfl, rfl⟩ | ⟨g, cap, cur, rfl, _⟩
  · exact ⟨_, _, rfl⟩
  · exact ⟨_, _, rfl⟩
/-- append of numbers that lie somewhere to a row of the call's own -/
theorem run_append_z (w : World) (t : TypeId) (ht : Try.prog.underlying t = some (.slice 2)) (base : Nat) (i0 : TypeInfo) (hi : Try.prog.info? 2 = some i0)
    (hz0 : i0.zero = some (.int .i64 0)) (hz1 : i0.size = 1) (hz2 : i0.bytes = 8) (v : Value) (n : Nat) (xs : List Value) (hown : w.ownsRow base 2 1 v n xs) (ad : Addr) (c : Nat) (l : List Int) (hA : SZ w (some ad) l)
    (hn : n ≤ 4194304) (hl : l.length ≤ 4194304) (hb : base ≤ w.heap.size) :
    ∃ A' c' w', (∀ ty, (Builtin.append_ #[t, t] ty #[v, .slice (some ad) l.length c]).run Try.prog w = .ok (.slice A' (n + l.length) c') w') ∧ w'.ownsRow base 2 1 (.slice A' (n + l.length) c') (n + l.length) (xs ++ icells l) ∧ w.grownBy w' v.ownBlock := by
  obtain ⟨Av, cv, rfl⟩ := own_shapeZ hown
  have key : ∀ ty, ∃ v' w', (Builtin.append_ #[t, t] ty #[.slice Av n cv, .slice (some ad) l.length c]).run Try.prog w = .ok v' w' ∧ w'.ownsRow base 2 1 v' (n + l.length) (xs ++ icells l) ∧ w.grownBy w' (Value.slice Av n cv).ownBlock ∧ (v' = .slice none 0 0 ↔ Value.slice Av n cv = .slice none 0 0 ∧ l.length = 0) := fun ty =>
    run_append_own w base t ty 2 i0 (.int .i64 0) 1 8 ht hi hz0 hz1 hz2 rfl (by decide) _ n xs hown ad l.length c (icells l) (by rw [icells_length, Nat.mul_one]) (SZ.cells hA) (icells_one l) (by unfold maxLen; omega) (by omega) hb
  obtain ⟨v', w', hr, h2, h3, _⟩ := key 0
  obtain ⟨A', c', rfl⟩ := own_shapeZ h2
  exact ⟨A', c', w', fun ty => hr, h2, h3⟩
/-- numbers of the call's own -/
def OwnI (w : World) (l : List Int) (e : Ending) (w' : World) : Prop := ∃ (C : Option Addr) (q : Nat), e = .returned (.slice C l.length q) ∧ w'.ownsRow w.heap.size 2 1 (.slice C l.length q) l.length (icells l) ∧ Below w.heap.size w w'
theorem own_emptyI {w : World} {base : Nat} (t : TypeId) (size : Nat) (h : base ≤ w.heap.size) : (w.alloc (.cells #[] t)).ownsRow base t size (.slice (some ⟨w.heap.size, 0, none⟩) 0 0) 0 [] :=
  World.ownsRow_made w #[] 0 h (by unfold maxLen; omega) (by simp)
set_option maxRecDepth 20000 in
theorem cloneZ_any (A : Option Addr) (c : Nat) (l : List Int) (w : World) (hA : SZ w A l) (hn : l.length ≤ 1048576) :
    Calls Try.prog 88 #[.slice A l.length c] w (OwnI w l) := by
  obtain ⟨i0, hi, hz0, hz1, hz2⟩ := info_parts info2
  have q22 : ∀ (w : World) (a : Option Addr) (n c n' c' : Nat), (binOp .eql 33 (.slice a n c) (.slice none n' c')).run Try.prog w = .ok (.bool a.isNone) w := fun w a n c n' c' => Lib.run_eql_slice_nil w _ _ a n c n' c' Try.underlying33
  cases A with
  | none =>
    obtain rfl := SZ.none hA
    go_enter Try.func88, Try.ntmps88
    go_wp2
    go_ret
    exact ⟨none, 0, rfl, World.ownsRow_nil _ _ _ _, Below.refl _ _⟩
  | some ad =>
    have hal : Below w.heap.size w (w.alloc (.cells #[] 2)) := (Below.refl _ _).alloc (Nat.le_refl _) _
    have hE : (w.alloc (.cells #[] 2)).ownsRow w.heap.size 2 1 (.slice (some ⟨w.heap.size, 0, none⟩) 0 0) 0 [] := own_emptyI _ _ (Nat.le_refl _)
    obtain ⟨A3, c3, w3, hr3, own3, gr3⟩ := run_append_z _ 33 Try.underlying33 w.heap.size i0 hi hz0 hz1 hz2 _ 0 [] hE ad c l (hA.below hal) (by omega) (by omega) hal.size
    simp only [Nat.zero_add, List.nil_append] at hr3 own3
    have hb3 : Below w.heap.size w w3 := hal.grown gr3 hal.size (fun j hj => (hE.lt j hj).1)
    clear hE gr3 hal
    go_enter Try.func88, Try.ntmps88
    go_wp2_with (at_builtin; refine Lib.wpList_append_run _ rfl _ _ _ _ rfl _ _ rfl rfl _ _ (hr3 _) ?_)
    go_ret
    exact ⟨A3, c3, rfl, own3, hb3⟩

theorem keyTypeP : Try.prog.keyType 105 = true := by kernel_rfl
theorem rowP : (105 : TypeId) < Try.prog.types.size := of_decide_eq_true (by kernel_rfl)
theorem Try.laidW : laidOutB Try.prog = true := by kernel_rfl
theorem lawP : Keyed Try.prog 105 := Keyed.of_law (deep_law_laid Try.laidW (m := 2) (by omega) rowP (by kernel_rfl) (by kernel_rfl))
theorem cellsP : Try.prog.cellsOf 105 = 2 := by kernel_rfl
theorem cellsPi : Try.prog.cellsOf 2 = 1 := by kernel_rfl
theorem typesP : ∃ d, Try.prog.types.size + 1 = d + 1 + 1 := ⟨Try.prog.types.size - 1, by have h : (105 : Nat) < Try.prog.types.size := rowP; omega⟩
theorem wf64 {x : Int} (h : -9223372036854775808 ≤ x ∧ x ≤ 9223372036854775807) : (Lit.int .i64 x).wf = true := by simp [Lit.wf, IntKind.min, IntKind.max, IntKind.signed, IntKind.bits]; omega
/-- what a place reads as, as a key -/
noncomputable def kP (x y : Int) : Lit := (keyOf Try.prog 105 (.agg #[.int .i64 x, .int .i64 y])).getD (.bool false)
theorem key_place (x y : Int) (hx : -9223372036854775808 ≤ x ∧ x ≤ 9223372036854775807) (hy : -9223372036854775808 ≤ y ∧ y ≤ 9223372036854775807) : keyOf Try.prog 105 (.agg #[.int .i64 x, .int .i64 y]) = some (kP x y) := by
  obtain ⟨d, hd⟩ := typesP
  have hf : (Value.agg #[.int .i64 x, .int .i64 y]).formed Try.prog 105 = true := by simp [Value.formed, Try.underlying105, cellsP]
  have hL : ∃ s, keyOf Try.prog 105 (.agg #[.int .i64 x, .int .i64 y]) = some s := by
    unfold keyOf
    rw [hd, Try.underlying105]
    simp only [keyTypeP, hf, Bool.and_self, if_true, Value.cells]
    simp [Program.keyLits, Try.underlying105, Try.underlying2, cellsPi, cellsP, wf64 hx, wf64 hy]
  obtain ⟨s, hs⟩ := hL
  rw [kP, hs]
  rfl
/-- the map of the first k pins -/
noncomputable def mapW (l : List (Int × Int × Int)) : Nat → DataW Unit
  | 0 => .map []
  | k + 1 => (mapW l k).put (kP (wnS l k) (wnT l k)) (.lit (.int .i64 (wnP l k)))
theorem i64_of8 {x : Int} (h : -128 ≤ x ∧ x ≤ 127) : -9223372036854775808 ≤ x ∧ x ≤ 9223372036854775807 := ⟨by omega, by omega⟩
theorem wp_mapUpdate_own {P : Program} {o : Oper} {a : Act} {w : World} {K : Act → World → Prop} {Q : Exit → Act → World → Prop} (m x v : Operand) (t : TypeId) (hop : o.op = Op.mapUpdate t m x v)
    (k e : TypeId) (KK : Keyed P k) (ht : P.underlying t = some (.map k e)) (R : Value → Option (DataW Unit × List MemPlace)) (b n : Nat) (D : DataW Unit)
    (hm : a.eval m = .map (some b)) (hown : w.ownsMap P k R b n D) (hn : n < maxLen) (key val : Value) (kl : Lit) (hx : a.eval x = key) (hv : a.eval v = val) (hkey : keyOf P k key = some kl)
    (d : DataW Unit) (ps : List MemPlace) (hval : R val = some (d, ps))
    (hK : ∀ w', w'.ownsMap P k R b (n + 1) (D.put kl d) → w.grownBy w' (some b) → K (a.put o.dst undef) w') : o.wp P a w K Q := by
  obtain ⟨w', hrun, r1, r2⟩ := hown.update KK ht hn hkey hval
  unfold Oper.wp
  simp [execOp, hop, hm, hx, hv, hrun, Result.andThen]
  exact hK w' r1 r2
theorem areLives_nil (w : World) : Calls Try.prog 87 #[.slice none 0 0] w (Says true w) := by
  have K1 : ∀ W, Calls Try.prog 129 #[.slice none 0 0, .func (.func 114) #[] #[]] W fun e w' => e = .returned (.int .i64 (-1)) ∧ W = w' := by
    intro W
    go_enter Try.func129, Try.ntmps129
    go_wp2_with fail
    go_loopw [8] (fun i wr => i = .int .i64 0 ∧ wr = W) (fun _ _ => 0)
    case atStart => exact ⟨rfl, by trivial⟩
    case round =>
      obtain ⟨rfl, rfl⟩ := hrel
      go_wp2
      go_ret
      exact ⟨rfl, rfl⟩
  have K2 : ∀ W, Calls Try.prog 113 #[.slice none 0 0, .func (.func 114) #[] #[]] W fun e w' => e = .returned (.bool false) ∧ W = w' := by
    intro W
    go_enter Try.func113, Try.ntmps113
    go_wp2_with fail
    refine (K1 _).mono ?_
    rintro e w' ⟨rfl, rfl⟩
    go_wp2
    go_ret
    exact ⟨rfl, rfl⟩
  go_enter Try.func87, Try.ntmps87
  go_wp2_with fail
  refine (K2 _).mono ?_
  rintro e w' ⟨rfl, rfl⟩
  go_wp2
  go_ret
  exact ⟨rfl, Below.refl _ _⟩
end Go.Proofs.Ytakdnmakgblamaa
