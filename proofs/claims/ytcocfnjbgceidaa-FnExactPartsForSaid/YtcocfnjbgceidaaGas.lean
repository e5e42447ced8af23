import Derived.Test.YtcocfnjbgceidaaWcw
import Derived.Maps.Own
import Derived.Maps.OwnOps
import Derived.Lib.SliceRun
import Derived.Lib.AppendZeros
import Derived.Deep.RegionHeld3
import Derived.Test.YtcocfnjbgceidaaGaj
import Derived.Maps.Views
namespace Go.Proofs.Ytcocfnjbgceidaa
open Go.RowKit Go.Maps
theorem SZ.cells {w : World} {ad : Addr} {l : List Int} (h : SZ w (some ad) l) : ∀ j u, (icells l)[j]? = some u → w.cell? (ad.add j) = some u := by
  intro j u hu
  have hj : j < (icells l).length := (List.getElem?_eq_some_iff.1 hu).1
  rw [icells_length] at hj
  obtain ⟨b, o, e, _, c0⟩ := h j hj
  obtain rfl : ad = ⟨b, o, none⟩ := Option.some.inj e
  rw [Addr.add_lit, c0, ← hu, icells_get l j hj]
theorem SZ.none {w : World} {l : List Int} (h : SZ w none l) : l = [] := by
  rcases Nat.eq_zero_or_pos l.length with e | e
  · exact List.length_eq_zero_iff.1 e
  · obtain ⟨b, o, h1, _⟩ := h 0 e
    cases h1
theorem icells_one (l : List Int) : ∀ u ∈ icells l, u.oneCell' = true := by
  intro u hu
  simp only [icells, List.mem_map] at hu
  obtain ⟨n, _, rfl⟩ := hu
  rfl
theorem own_shapeZ {w : World} {base : Nat} {e : TypeId} {size n : Nat} {v : Value} {xs : List Value} (h : w.ownsRow base e size v n xs) : ∃ A c, v = .slice A n c := by
  rcases h.2 with ⟨rfl, rfl⟩ | ⟨g, cap, cur, rfl, _⟩
  · exact ⟨_, _, rfl⟩
  · exact ⟨_, _, rfl⟩
/-- append of numbers that lie somewhere to a row of the call's own -/
theorem run_append_z (w : World) (t : TypeId) (ht : Try.prog.underlying t = some (.slice 2)) (base : Nat) (i0 : TypeInfo) (hi : Try.prog.info? 2 = some i0)
    (hz0 : i0.zero = some (.int .i64 0)) (hz1 : i0.size = 1) (hz2 : i0.bytes = 8) (v : Value) (n : Nat) (xs : List Value) (hown : w.ownsRow base 2 1 v n xs) (ad : Addr) (c : Nat) (l : List Int) (hA : SZ w (some ad) l)
    (hn : n ≤ 4194304) (hl : l.length ≤ 4194304) (hb : base ≤ w.heap.size) :
    ∃ A' c' w', (∀ ty, (Builtin.append_ #[t, t] ty #[v, .slice (some ad) l.length c]).run Try.prog w = .ok (.slice A' (n + l.length) c') w') ∧ w'.ownsRow base 2 1 (.slice A' (n + l.length) c') (n + l.length) (xs ++ icells l) ∧ w.grownBy w' v.ownBlock := by
  obtain ⟨Av, cv, rfl⟩ := own_shapeZ hown
  have key : ∀ ty, ∃ v' w', (Builtin.append_ #[t, t] ty #[.slice Av n cv, .slice (some ad) l.length c]).run Try.prog w = .ok v' w' ∧ w'.ownsRow base 2 1 v' (n + l.length) (xs ++ icells l) ∧ w.grownBy w' (Value.slice Av n cv).ownBlock ∧ (v' = .slice none 0 0 ↔ Value.slice Av n cv = .slice none 0 0 ∧ l.length = 0) := fun ty =>
    run_append_own w base t ty 2 i0 (.int .i64 0) 1 8 ht hi hz0 hz1 hz2 rfl (by decide) _ n xs hown ad l.length c (icells l) (by rw [icells_length, Nat.mul_one]) (SZ.cells hA) (icells_one l) (by unfold maxLen; omega) (by omega) hb
  obtain ⟨v', w', hr, h2, h3, _⟩ := key 0
  obtain ⟨A', c', rfl⟩ := own_shapeZ h2
  exact ⟨A', c', w', fun ty => hr, h2, h3⟩
/-- numbers of the call's own -/
def OwnI (w : World) (l : List Int) (e : Ending) (w' : World) : Prop := ∃ (C : Option Addr) (q : Nat), e = .returned (.slice C l.length q) ∧ w'.ownsRow w.heap.size 2 1 (.slice C l.length q) l.length (icells l) ∧ Below w.heap.size w w'
theorem own_emptyI {w : World} {base : Nat} (t : TypeId) (size : Nat) (h : base ≤ w.heap.size) : (w.alloc (.cells #[] t)).ownsRow base t size (.slice (some ⟨w.heap.size, 0, none⟩) 0 0) 0 [] :=
  World.ownsRow_made w #[] 0 h (by unfold maxLen; omega) (by simp)
set_option maxRecDepth 20000 in
theorem cloneZ_any (A : Option Addr) (c : Nat) (l : List Int) (w : World) (hA : SZ w A l) (hn : l.length ≤ 1048576) :
    Calls Try.prog 103 #[.slice A l.length c] w (OwnI w l) := by
  obtain ⟨i0, hi, hz0, hz1, hz2⟩ := info_parts info2
  have q22 : ∀ (w : World) (a : Option Addr) (n c n' c' : Nat), (binOp .eql 48 (.slice a n c) (.slice none n' c')).run Try.prog w = .ok (.bool a.isNone) w := fun w a n c n' c' => Lib.run_eql_slice_nil w _ _ a n c n' c' Try.underlying48
  cases A with
  | none =>
    obtain rfl := SZ.none hA
    go_enter Try.func103, Try.ntmps103
    go_wp2
    go_ret
    exact ⟨none, 0, rfl, World.ownsRow_nil _ _ _ _, Below.refl _ _⟩
  | some ad =>
    have hal : Below w.heap.size w (w.alloc (.cells #[] 2)) := (Below.refl _ _).alloc (Nat.le_refl _) _
    have hE : (w.alloc (.cells #[] 2)).ownsRow w.heap.size 2 1 (.slice (some ⟨w.heap.size, 0, none⟩) 0 0) 0 [] := own_emptyI _ _ (Nat.le_refl _)
    obtain ⟨A3, c3, w3, hr3, own3, gr3⟩ := run_append_z _ 48 Try.underlying48 w.heap.size i0 hi hz0 hz1 hz2 _ 0 [] hE ad c l (hA.below hal) (by omega) (by omega) hal.size
    simp only [Nat.zero_add, List.nil_append] at hr3 own3
    have hb3 : Below w.heap.size w w3 := hal.grown gr3 hal.size (fun j hj => (hE.lt j hj).1)
    clear hE gr3 hal
    go_enter Try.func103, Try.ntmps103
    go_wp2_with (at_builtin; refine Lib.wpList_append_run _ rfl _ _ _ _ rfl _ _ rfl rfl _ _ (hr3 _) ?_)
    go_ret
    exact ⟨A3, c3, rfl, own3, hb3⟩

theorem keyTypeP : Try.prog.keyType 175 = true := by kernel_rfl
theorem rowP : (175 : TypeId) < Try.prog.types.size := of_decide_eq_true (by kernel_rfl)
theorem Try.laidW : laidOutB Try.prog = true := by kernel_rfl
theorem lawP : Keyed Try.prog 175 := Keyed.of_law (deep_law_laid Try.laidW (m := 2) (by omega) rowP (by kernel_rfl) (by kernel_rfl))
theorem cellsP : Try.prog.cellsOf 175 = 2 := by kernel_rfl
theorem cellsPi : Try.prog.cellsOf 2 = 1 := by kernel_rfl
theorem typesP : ∃ d, Try.prog.types.size + 1 = d + 1 + 1 := ⟨Try.prog.types.size - 1, by have h : (175 : Nat) < Try.prog.types.size := rowP; omega⟩
theorem wf64 {x : Int} (h : -9223372036854775808 ≤ x ∧ x ≤ 9223372036854775807) : (Lit.int .i64 x).wf = true := by simp [Lit.wf, IntKind.min, IntKind.max, IntKind.signed, IntKind.bits]; omega
/-- what a place reads as, as a key -/
noncomputable def kP (x y : Int) : Lit := (keyOf Try.prog 175 (.agg #[.int .i64 x, .int .i64 y])).getD (.bool false)
theorem key_place (x y : Int) (hx : -9223372036854775808 ≤ x ∧ x ≤ 9223372036854775807) (hy : -9223372036854775808 ≤ y ∧ y ≤ 9223372036854775807) : keyOf Try.prog 175 (.agg #[.int .i64 x, .int .i64 y]) = some (kP x y) := by
  obtain ⟨d, hd⟩ := typesP
  have hf : (Value.agg #[.int .i64 x, .int .i64 y]).formed Try.prog 175 = true := by simp [Value.formed, Try.underlying175, cellsP]
  have hL : ∃ s, keyOf Try.prog 175 (.agg #[.int .i64 x, .int .i64 y]) = some s := by
    unfold keyOf
    rw [hd, Try.underlying175]
    simp only [keyTypeP, hf, Bool.and_self, if_true, Value.cells]
    simp [Program.keyLits, Try.underlying175, Try.underlying2, cellsPi, cellsP, wf64 hx, wf64 hy]
  obtain ⟨s, hs⟩ := hL
  rw [kP, hs]
  rfl
/-- the map of the first k pins -/
noncomputable def mapW (l : List (Int × Int × Int)) : Nat → DataW Unit
  | 0 => .map []
  | k + 1 => (mapW l k).put (kP (wnS l k) (wnT l k)) (.lit (.int .i64 (wnP l k)))
theorem i64_of8 {x : Int} (h : -128 ≤ x ∧ x ≤ 127) : -9223372036854775808 ≤ x ∧ x ≤ 9223372036854775807 := ⟨by omega, by omega⟩
theorem wp_mapUpdate_own {P : Program} {o : Oper} {a : Act} {w : World} {K : Act → World → Prop} {Q : Exit → Act → World → Prop} (m x v : Operand) (t : TypeId) (hop : o.op = Op.mapUpdate t m x v)
    (k e : TypeId) (KK : Keyed P k) (ht : P.underlying t = some (.map k e)) (R : Value → Option (DataW Unit × List MemPlace)) (b n : Nat) (D : DataW Unit)
    (hm : a.eval m = .map (some b)) (hown : w.ownsMap P k R b n D) (hn : n < maxLen) (key val : Value) (kl : Lit) (hx : a.eval x = key) (hv : a.eval v = val) (hkey : keyOf P k key = some kl)
    (d : DataW Unit) (ps : List MemPlace) (hval : R val = some (d, ps))
    (hK : ∀ w', w'.ownsMap P k R b (n + 1) (D.put kl d) → w.grownBy w' (some b) → K (a.put o.dst undef) w') : o.wp P a w K Q := by
  obtain ⟨w', hrun, r1, r2⟩ := hown.update KK ht hn hkey hval
  unfold Oper.wp
  simp [execOp, hop, hm, hx, hv, hrun, Result.andThen]
  exact hK w' r1 r2
theorem areLives_nil (w : World) : Calls Try.prog 102 #[.slice none 0 0] w (Says true w) := by
  have K1 : ∀ W, Calls Try.prog 175 #[.slice none 0 0, .func (.func 142) #[] #[]] W fun e w' => e = .returned (.int .i64 (-1)) ∧ W = w' := by
    intro W
    go_enter Try.func175, Try.ntmps175
    go_wp2_with fail
    go_loopw [8] (fun i wr => i = .int .i64 0 ∧ wr = W) (fun _ _ => 0)
    case atStart => exact ⟨rfl, by trivial⟩
    case round =>
      obtain ⟨rfl, rfl⟩ := hrel
      go_wp2
      go_ret
      exact ⟨rfl, rfl⟩
  have K2 : ∀ W, Calls Try.prog 141 #[.slice none 0 0, .func (.func 142) #[] #[]] W fun e w' => e = .returned (.bool false) ∧ W = w' := by
    intro W
    go_enter Try.func141, Try.ntmps141
    go_wp2_with fail
    refine (K1 _).mono ?_
    rintro e w' ⟨rfl, rfl⟩
    go_wp2
    go_ret
    exact ⟨rfl, rfl⟩
  go_enter Try.func102, Try.ntmps102
  go_wp2_with fail
  refine (K2 _).mono ?_
  rintro e w' ⟨rfl, rfl⟩
  go_wp2
  go_ret
  exact ⟨rfl, Below.refl _ _⟩
end Go.Proofs.Ytcocfnjbgceidaa
namespace Go.Proofs.Ytcocfnjbgceidaa
open Go.RowKit Go.Maps
theorem tog_wfW {d : Nat → Int} (hd : DWF d) (k t : Nat) : DWF (togD d k t) := by
  intro i hi
  unfold togD
  split
  · exact bounds_u32 (wf_bits .xor .u32 _ _)
  · exact hd i hi
theorem zero_wfW : DWF (fun _ => 0) := fun _ _ => by show (0 : Int) ≤ 0 ∧ (0 : Int) ≤ 4294967295; omega
theorem zero_pinW (k t : Nat) : pinB (fun _ => 0) k t = false := by simp [pinB]
theorem tog_pinW {d : Nat → Int} (hd : DWF d) {k t k' t' : Nat} (hk' : k' < 96) (ht : t < 32) : pinB (togD d k t) k' t' = (pinB d k' t' ^^ (decide (k' = k) && decide (t' = t))) := by
  rw [pin_bit (tog_wfW hd k t k' hk').1, pin_bit (hd k' hk').1]
  unfold togD
  by_cases e : k' = k
  · subst e
    rw [if_pos rfl]
    obtain ⟨x, hx⟩ := Int.eq_ofNat_of_zero_le (hd k' hk').1
    have hxb : x < 4294967296 := by have := (hd k' hk').2; omega
    have hp : (2 : Nat) ^ t < 2 ^ 32 := Nat.pow_lt_pow_right (by decide) ht
    rw [pow_nat t ht, hx, xor_nat x (2 ^ t) hxb (by omega), Int.toNat_natCast, Int.toNat_natCast, Nat.testBit_xor, Nat.testBit_two_pow]
    simp [eq_comm]
  · rw [if_neg e]
    simp [e]
/-- the drum with one pin put in -/
def orW (d : Nat → Int) (k t : Nat) (i : Nat) : Int := if i = k then bits .or .u32 (d k) (2 ^ t % 4294967296) else d i
theorem or_wfW {d : Nat → Int} (hd : DWF d) (k t : Nat) : DWF (orW d k t) := by
  intro i hi
  unfold orW
  split
  · exact bounds_u32 (wf_bits .or .u32 _ _)
  · exact hd i hi
theorem or_pinW {d : Nat → Int} (hd : DWF d) {k t k' t' : Nat} (hk' : k' < 96) (ht : t < 32) : pinB (orW d k t) k' t' = (pinB d k' t' || (decide (k' = k) && decide (t' = t))) := by
  rw [pin_bit (or_wfW hd k t k' hk').1, pin_bit (hd k' hk').1]
  unfold orW
  by_cases e : k' = k
  · subst e
    rw [if_pos rfl]
    obtain ⟨x, hx⟩ := Int.eq_ofNat_of_zero_le (hd k' hk').1
    have hxb : x < 4294967296 := by have := (hd k' hk').2; omega
    have hp : (2 : Nat) ^ t < 2 ^ 32 := Nat.pow_lt_pow_right (by decide) ht
    rw [pow_nat t ht, hx, or_nat x (2 ^ t) hxb (by omega), Int.toNat_natCast, Int.toNat_natCast, Nat.testBit_or, Nat.testBit_two_pow]
    simp [eq_comm]
  · rw [if_neg e]
    simp [e]
theorem drum_of_pins {p q : Nat → Int} (hp : DWF p) (hq : DWF q) (h : ∀ i, i < 96 → ∀ t, pinB p i t = pinB q i t) : da p = da q := by
  unfold da
  rw [dv_congr fun i hi => ?_]
  have e : (p i).toNat = (q i).toNat := by
    apply Nat.eq_of_testBit_eq
    intro t
    rw [← pin_bit (hp i hi).1, ← pin_bit (hq i hi).1, h i hi t]
  have h1 := (hp i hi).1
  have h2 := (hq i hi).1
  omega
/-- one of the first k pins is there, and S holds of it -/
def atW (l : List (Int × Int × Int)) (S : Nat → Bool) (k i t : Nat) : Bool := (List.range k).any fun j => decide (wnS l j = i ∧ wnT l j = t) && S j
theorem atW_succ (l : List (Int × Int × Int)) (S : Nat → Bool) (k i t : Nat) : atW l S (k + 1) i t = (atW l S k i t || (decide (wnS l k = i ∧ wnT l k = t) && S k)) := by
  simp [atW, List.range_succ]
theorem atW_none (l : List (Int × Int × Int)) (S : Nat → Bool) (k i t : Nat) (h : ∀ j, j < k → S j = false) : atW l S k i t = false := by
  rw [atW, List.any_eq_false]
  intro j hj
  rw [h j (List.mem_range.1 hj)]
  simp
theorem atW_congr (l : List (Int × Int × Int)) {S S' : Nat → Bool} {k i t : Nat} (h : ∀ j, j < k → (wnS l j = i ∧ wnT l j = t) → S j = S' j) : atW l S k i t = atW l S' k i t := by
  unfold atW
  rw [Bool.eq_iff_iff]
  simp only [List.any_eq_true, List.mem_range, Bool.and_eq_true, decide_eq_true_eq]
  constructor
  · rintro ⟨j, hj, hp, hs⟩
    exact ⟨j, hj, hp, by rw [← h j hj hp]; exact hs⟩
  · rintro ⟨j, hj, hp, hs⟩
    exact ⟨j, hj, hp, by rw [h j hj hp]; exact hs⟩
theorem atW_hit (l : List (Int × Int × Int)) {S : Nat → Bool} {k j i t : Nat} (hj : j < k) (hp : wnS l j = i ∧ wnT l j = t) (hs : S j = true) : atW l S k i t = true := by
  simp only [atW, List.any_eq_true, List.mem_range, Bool.and_eq_true, decide_eq_true_eq]
  exact ⟨j, hj, hp, hs⟩
/-- pins lie on a drum -/
def OnD (l : List (Int × Int × Int)) : Prop := ∀ k, k < l.length → (0 ≤ wnS l k ∧ wnS l k < 96) ∧ (0 ≤ wnT l k ∧ wnT l k < 24)
theorem onD_of {s : Int} {h : List (Int × Int)} {l : List (Int × Int × Int)} {z : List Int} (hw : weB s h l z = true) : OnD l := by
  intro k hk
  simp only [weB, Bool.and_eq_true, frB, inB, decide_eq_true_eq] at hw
  obtain ⟨⟨⟨hf, _⟩, hp⟩, _⟩ := hw
  simp only [pinsB, List.all_eq_true, List.mem_range, Bool.and_eq_true, wnOk, plW, inB, decide_eq_true_eq] at hp
  have := (hp k hk).1.1
  omega
/-- the drum of the first k pins -/
def dwD (l : List (Int × Int × Int)) : Nat → Nat → Int
  | 0 => fun _ => 0
  | k + 1 => orW (dwD l k) (wnS l k).toNat (wnT l k).toNat
set_option maxRecDepth 20000 in
theorem dwD_facts {l : List (Int × Int × Int)} (hl : OnD l) : ∀ k, k ≤ l.length → DWF (dwD l k) ∧ ∀ i, i < 96 → ∀ t, pinB (dwD l k) i t = atW l (fun _ => true) k i t
  | 0, _ => ⟨zero_wfW, fun i _ t => by rw [dwD, zero_pinW]; rfl⟩
  | k + 1, hk => by
    obtain ⟨h1, h2⟩ := dwD_facts hl k (by omega)
    obtain ⟨⟨a1, a2⟩, b1, b2⟩ := hl k hk
    refine ⟨or_wfW h1 _ _, fun i hi t => ?_⟩
    rw [dwD, or_pinW h1 hi (by omega), h2 i hi t, atW_succ, Bool.and_true]
    congr 1
    rw [← Bool.decide_and]
    exact decide_eq_decide.2 (by omega)
set_option maxRecDepth 20000 in
theorem kP_inj {x y x' y' : Int} (hx : -9223372036854775808 ≤ x ∧ x ≤ 9223372036854775807) (hy : -9223372036854775808 ≤ y ∧ y ≤ 9223372036854775807) (hx' : -9223372036854775808 ≤ x' ∧ x' ≤ 9223372036854775807) (hy' : -9223372036854775808 ≤ y' ∧ y' ≤ 9223372036854775807)
    (h : kP x y = kP x' y') : x = x' ∧ y = y' := by
  have h1 := key_place x y hx hy
  have h2 := key_place x' y' hx' hy'
  rw [h] at h1
  have := lawP.inj h1 h2
  simpa using this
theorem mapW_isMap (l : List (Int × Int × Int)) : ∀ k, IsMap (mapW l k)
  | 0 => isMap_empty
  | k + 1 => (mapW_isMap l k).put _ _
set_option maxRecDepth 20000 in
theorem mapW_has {l : List (Int × Int × Int)} (hw : WnWF l) : ∀ k, k ≤ l.length → ∀ kl, has (mapW l k) kl = true → ∃ j, j < k ∧ kl = kP (wnS l j) (wnT l j)
  | 0, _, kl, h => by simp [mapW, has] at h
  | k + 1, hk, kl, h => by
    by_cases e : kl = kP (wnS l k) (wnT l k)
    · exact ⟨k, Nat.lt_succ_self k, e⟩
    · rw [mapW, has_put_other e] at h
      obtain ⟨j, hj, e'⟩ := mapW_has hw k (by omega) kl h
      exact ⟨j, by omega, e'⟩
set_option maxRecDepth 20000 in
theorem mapW_has' {l : List (Int × Int × Int)} (hw : WnWF l) : ∀ k, k ≤ l.length → ∀ j, j < k → has (mapW l k) (kP (wnS l j) (wnT l j)) = true
  | 0, _, j, h => absurd h (Nat.not_lt_zero j)
  | k + 1, hk, j, h => by
    obtain ⟨m1, m2, _⟩ := hw k (by omega)
    by_cases e : kP (wnS l j) (wnT l j) = kP (wnS l k) (wnT l k)
    · rw [mapW, e]
      exact has_put_same (mapW_isMap l k) (lawP.key (key_place _ _ (i64_of8 m1) (i64_of8 m2))) _
    · rw [mapW, has_put_other e]
      refine mapW_has' hw k (by omega) j ?_
      rcases Nat.lt_or_ge j k with h1 | h1
      · exact h1
      · exact absurd (by rw [show j = k by omega]) e
/-- the pins that have come: their keys are not left -/
noncomputable def doneW (l : List (Int × Int × Int)) (left : Lit → Bool) (i t : Nat) : Bool := atW l (fun j => !left (kP (wnS l j) (wnT l j))) l.length i t
set_option maxRecDepth 20000 in
theorem doneW_start {l : List (Int × Int × Int)} (hw : WnWF l) (i t : Nat) : doneW l (has (mapW l l.length)) i t = false :=
  atW_none _ _ _ _ _ fun j hj => by rw [mapW_has' hw _ (Nat.le_refl _) j hj]; rfl
set_option maxRecDepth 20000 in
theorem doneW_end {l : List (Int × Int × Int)} {left : Lit → Bool} (h : ∀ kl, left kl = false) (i t : Nat) : doneW l left i t = atW l (fun _ => true) l.length i t :=
  atW_congr l fun j _ _ => by rw [h]; rfl
set_option maxRecDepth 20000 in
theorem doneW_step {l : List (Int × Int × Int)} (hw : WnWF l) (ho : OnD l) {left : Lit → Bool} {j0 : Nat} (hj : j0 < l.length) (hlf : left (kP (wnS l j0) (wnT l j0)) = true) (i t : Nat) :
    doneW l (fun z => left z && !z.sameKey (kP (wnS l j0) (wnT l j0))) i t = (doneW l left i t ^^ (decide (i = (wnS l j0).toNat) && decide (t = (wnT l j0).toNat))) := by
  obtain ⟨⟨a1, a2⟩, b1, b2⟩ := ho j0 hj
  obtain ⟨m1, m2, _⟩ := hw j0 hj
  have hk := lawP.key (key_place _ _ (i64_of8 m1) (i64_of8 m2))
  by_cases e : wnS l j0 = i ∧ wnT l j0 = t
  · have e1 : doneW l left i t = false := by
      unfold doneW
      rw [atW, List.any_eq_false]
      intro j hj'
      simp only [Bool.and_eq_true, decide_eq_true_eq, not_and]
      intro hp
      rw [hp.1, hp.2, ← e.1, ← e.2, hlf]
      simp
    have e2 : doneW l (fun z => left z && !z.sameKey (kP (wnS l j0) (wnT l j0))) i t = true := atW_hit l hj e (by simp [WideAt.sameKey_self hk])
    rw [e1, e2]
    have : i = (wnS l j0).toNat ∧ t = (wnT l j0).toNat := by omega
    simp [this.1, this.2]
  · have hne : ¬ (i = (wnS l j0).toNat ∧ t = (wnT l j0).toNat) := by omega
    have e3 : (decide (i = (wnS l j0).toNat) && decide (t = (wnT l j0).toNat)) = false := by rw [← Bool.decide_and]; exact decide_eq_false hne
    rw [e3, Bool.xor_false]
    refine atW_congr l fun j hj' hp => ?_
    have hkk : kP (wnS l j) (wnT l j) ≠ kP (wnS l j0) (wnT l j0) := by
      intro h
      obtain ⟨n1, n2, _⟩ := hw j hj'
      obtain ⟨h1, h2⟩ := kP_inj (i64_of8 n1) (i64_of8 n2) (i64_of8 m1) (i64_of8 m2) h
      exact e ⟨by rw [← h1]; exact hp.1, by rw [← h2]; exact hp.2⟩
    simp [sameKey_ne hkk]
end Go.Proofs.Ytcocfnjbgceidaa
