import Derived.Test.YtcocfnjbgceidaaGaa
import Derived.Lib.AppendZeros
import Derived.Test.YtcocfnjbgceidaaGab
import Derived.Maps.OwnOps
import Derived.Lib.SliceRun
import Derived.Test.YtcocfnjbgceidaaGaj
import Derived.Test.YtcocfnjbgceidaaGai
import Derived.IntWalk
import Derived.Deep.CutRange
import Derived.Test.YtcocfnjbgceidaaGad
namespace Go.Proofs.Ytcocfnjbgceidaa
open Go.RowKit
theorem append_second {P : Program} (w : World) (t t2 ty e e2 : TypeId) (ht : P.underlying t = some (.slice e)) (ht2 : P.underlying t2 = some (.slice e2)) (i : TypeInfo) (hi : P.info? e = some i) (B : Option Addr) (n c : Nat) (x : Value) :
    (Builtin.append_ #[t, t2] ty #[.slice B n c, x]).run P w = (Builtin.append_ #[t, t] ty #[.slice B n c, x]).run P w := by
  simp [Builtin.append_, run_underlying ht, run_underlying ht2, Go.sizeOf, typeInfo, hi]
theorem run_append_none {P : Program} (w : World) (t ty e : TypeId) (i : TypeInfo) (ht : P.underlying t = some (.slice e)) (hi : P.info? e = some i) (base : Nat) (size n m c : Nat) (xs : List Value) (v : Value) (hown : w.ownsRow base e size v n xs) (hm : m = 0) :
    (Builtin.append_ #[t, t] ty #[v, .slice none m c]).run P w = .ok v w := by
  subst hm
  rcases hown.2 with ⟨rfl, rfl⟩ | ⟨g, cap, cur, rfl, _, _, hnc, _⟩
  · simp [Builtin.append_, run_underlying ht, Go.sizeOf, typeInfo, hi, Builtin.lenOf, Builtin.firstCells]
  · simp [Builtin.append_, run_underlying ht, Go.sizeOf, typeInfo, hi, Builtin.lenOf, Builtin.firstCells, hnc, storeCells]
end Go.Proofs.Ytcocfnjbgceidaa
namespace Go.Proofs.Ytcocfnjbgceidaa
open Go.RowKit
theorem HA.cells {w : World} {ad : Addr} {l : List (Int × Int)} (h : HA w (some ad) l) : ∀ j u, (hcells l)[j]? = some u → w.cell? (ad.add j) = some u := by
  intro j u hu
  have hj : j < (hcells l).length := (List.getElem?_eq_some_iff.1 hu).1
  rw [hcells_length] at hj
  obtain ⟨b, o, e, _, c1, c2⟩ := h (j / 2) (by omega)
  obtain rfl : ad = ⟨b, o, none⟩ := Option.some.inj e
  rcases Nat.mod_two_eq_zero_or_one j with h0 | h0
  · have e0 : j = j / 2 * 2 := by omega
    have hv := hcells_even l (j / 2) (by omega)
    rw [← e0, hu] at hv
    rw [← e0] at c1
    rw [Option.some.inj hv]
    rw [Addr.add_lit]
    exact c1
  · have e0 : j = j / 2 * 2 + 1 := by omega
    have hv := hcells_odd l (j / 2) (by omega)
    rw [← e0, hu] at hv
    have e1 : o + j / 2 * 2 + 1 = o + j := by omega
    rw [e1] at c2
    rw [Option.some.inj hv]
    rw [Addr.add_lit]
    exact c2
theorem HA.none {w : World} {l : List (Int × Int)} (h : HA w none l) : l = [] := by
  rcases Nat.eq_zero_or_pos l.length with e | e
  · exact List.length_eq_zero_iff.1 e
  · obtain ⟨b, o, h1, _⟩ := h 0 e
    cases h1
theorem hcells_one (l : List (Int × Int)) : ∀ u ∈ hcells l, u.oneCell' = true := by
  intro u hu
  simp only [hcells, List.mem_flatMap] at hu
  obtain ⟨n, _, hu⟩ := hu
  simp at hu
  rcases hu with rfl | rfl <;> rfl
theorem own_shapeH {w : World} {base : Nat} {e : TypeId} {size n : Nat} {v : Value} {xs : List Value} (h : w.ownsRow base e size v n xs) : ∃ A c, v = .slice A n c := by
  rcases h.2 with ⟨rfl, rfl⟩ | ⟨g, cap, cur, rfl, _⟩
  · exact ⟨_, _, rfl⟩
  · exact ⟨_, _, rfl⟩
theorem own_emptyH {w : World} {base : Nat} (t : TypeId) (size : Nat) (h : base ≤ w.heap.size) : (w.alloc (.cells #[] t)).ownsRow base t size (.slice (some ⟨w.heap.size, 0, none⟩) 0 0) 0 [] :=
  World.ownsRow_made w #[] 0 h (by unfold maxLen; omega) (by simp)
/-- append of hammers that lie somewhere to a row of the call's own -/
theorem run_append_ha (w : World) (t t2 : TypeId) (e2 : TypeId) (ht : Try.prog.underlying t = some (.slice 164)) (ht2 : Try.prog.underlying t2 = some (.slice e2)) (base : Nat) (i0 : TypeInfo) (hi : Try.prog.info? 164 = some i0)
    (hz0 : i0.zero = some (.agg #[.int .i8 0, .int .i8 0])) (hz1 : i0.size = 2) (hz2 : i0.bytes = 2) (v : Value) (n : Nat) (xs : List Value) (hown : w.ownsRow base 164 2 v n xs) (A : Option Addr) (c : Nat) (l : List (Int × Int)) (hA : HA w A l)
    (hn : n ≤ 4194304) (hl : l.length ≤ 4194304) (hb : base ≤ w.heap.size) :
    ∃ A' c' w', (∀ ty, (Builtin.append_ #[t, t2] ty #[v, .slice A l.length c]).run Try.prog w = .ok (.slice A' (n + l.length) c') w') ∧ w'.ownsRow base 164 2 (.slice A' (n + l.length) c') (n + l.length) (xs ++ hcells l) ∧ w.grownBy w' v.ownBlock := by
  cases A with
  | none =>
    obtain rfl := HA.none hA
    obtain ⟨A', c', rfl⟩ := own_shapeH hown
    refine ⟨A', c', w, fun ty => ?_, ?_, ?_⟩
    · rw [append_second w t t2 ty _ e2 ht ht2 i0 hi]
      exact run_append_none w t ty _ i0 ht hi base 2 n _ c xs _ hown rfl
    · simpa [hcells_nil] using hown
    · exact ⟨rfl, rfl, rfl, Nat.le_refl _, fun _ _ _ => rfl⟩
  | some ad =>
    obtain ⟨Av, cv, rfl⟩ := own_shapeH hown
    have key : ∀ ty, ∃ v' w', (Builtin.append_ #[t, t] ty #[.slice Av n cv, .slice (some ad) l.length c]).run Try.prog w = .ok v' w' ∧ w'.ownsRow base 164 2 v' (n + l.length) (xs ++ hcells l) ∧ w.grownBy w' (Value.slice Av n cv).ownBlock ∧ (v' = .slice none 0 0 ↔ Value.slice Av n cv = .slice none 0 0 ∧ l.length = 0) := fun ty =>
      run_append_own w base t ty 164 i0 (.agg #[.int .i8 0, .int .i8 0]) 2 2 ht hi hz0 hz1 hz2 rfl (by decide) _ n xs hown ad l.length c (hcells l) (hcells_length l) (HA.cells hA) (hcells_one l) (by unfold maxLen; omega) (by omega) hb
    obtain ⟨v', w', hr, h2, h3, _⟩ := key 0
    obtain ⟨A', c', rfl⟩ := own_shapeH h2
    refine ⟨A', c', w', fun ty => ?_, h2, h3⟩
    rw [append_second w t t2 ty _ e2 ht ht2 i0 hi]
    exact hr
/-- hammers of the call's own -/
def OwnH (w : World) (l : List (Int × Int)) (e : Ending) (w' : World) : Prop := ∃ (C : Option Addr) (q : Nat), e = .returned (.slice C l.length q) ∧ w'.ownsRow w.heap.size 164 2 (.slice C l.length q) l.length (hcells l) ∧ Below w.heap.size w w'
end Go.Proofs.Ytcocfnjbgceidaa
namespace Go.Proofs.Ytcocfnjbgceidaa
open Go.RowKit

/-- a row without a track -/
def dropD (d : Nat → Int) (t k : Nat) : Int := bits .or .u32 (bits .and .u32 (d k) (2 ^ t - 1)) (bits .andNot .u32 (d k / 2) (2 ^ t - 1))
def drT (d : Nat → Int) (t k i : Nat) : Int := if i < k then dropD d t i else d i
theorem drT_step (d : Nat → Int) (t k i : Nat) : (if i = k then dropD d t k else drT d t k i) = drT d t (k + 1) i := by
  unfold drT
  by_cases h : i = k
  · subst h; simp
  · rw [if_neg h]
    by_cases h1 : i < k
    · rw [if_pos h1, if_pos (by omega)]
    · rw [if_neg h1, if_neg (by omega)]
theorem drT_zero (d : Nat → Int) (t : Nat) : drT d t 0 = d := by funext i; simp [drT]
theorem drT_at (d : Nat → Int) (t k : Nat) : drT d t k k = d k := by simp [drT]
theorem pow_u32 (t : Nat) (ht : t < 32) : (2 : Int) ^ t % 4294967296 = (2 : Int) ^ t := (pow_nat t ht).trans (by push_cast; rfl)
theorem pow_pos' (t : Nat) : (1 : Int) ≤ (2 : Int) ^ t := by
  have : (1 : Nat) ≤ 2 ^ t := Nat.one_le_two_pow
  exact_mod_cast this
theorem pow_sub (t : Nat) (ht : t < 32) : ((2 : Int) ^ t - 1) % 4294967296 = (2 : Int) ^ t - 1 := by
  have h1 := pow_u32 t ht
  have h2 := pow_pos' t
  have h3 : (2 : Int) ^ t % 4294967296 < 4294967296 := Int.emod_lt_of_pos _ (by decide)
  exact Int.emod_eq_of_lt (by omega) (by omega)

end Go.Proofs.Ytcocfnjbgceidaa
namespace Go.Proofs.Ytcocfnjbgceidaa
open Go.RowKit
theorem ownH_of {w w' : World} (A : Option Addr) (c n : Nat) (l : List (Int × Int)) (hn : n = l.length) (h : w'.ownsRow w.heap.size 164 2 (.slice A n c) n (hcells l)) (hb : Below w.heap.size w w') : OwnH w l (.returned (.slice A n c)) w' := by
  subst hn
  exact ⟨A, c, rfl, h, hb⟩
def OwnZH (w : World) (e : Ending) (w' : World) : Prop := ∃ (C : Option Addr) (q : Nat), e = .returned (.slice C 0 q) ∧ w'.ownsRow w.heap.size 164 2 (.slice C 0 q) 0 [] ∧ Below w.heap.size w w'
end Go.Proofs.Ytcocfnjbgceidaa
namespace Go.Proofs.Ytcocfnjbgceidaa
open Go.RowKit

def dropL (l : List (Int × Int)) (t : Nat) : List (Int × Int) := l.take t ++ l.drop (t + 1)
theorem dropL_length (l : List (Int × Int)) (t : Nat) (h : t < l.length) : (dropL l t).length = t + (l.length - (t + 1)) := by
  simp [dropL]; omega
theorem ha_at {w : World} {B o : Nat} {l : List (Int × Int)} (h : HA w (some ⟨B, o, none⟩) l) (k : Nat) (hk : k < l.length) : B < w.heap.size ∧ w.cell? ⟨B, o + k * 2, none⟩ = some (.int .i8 (hPi l k)) ∧ w.cell? ⟨B, o + k * 2 + 1, none⟩ = some (.int .i8 (hRe l k)) := by
  obtain ⟨b, o', e, h1, h2, h3⟩ := h k hk
  cases e
  exact ⟨h1, h2, h3⟩
theorem ha_take {w : World} {B o : Nat} {l : List (Int × Int)} (h : HA w (some ⟨B, o, none⟩) l) (t : Nat) : HA w (some ⟨B, o, none⟩) (l.take t) := by
  intro k hk
  rw [List.length_take] at hk
  obtain ⟨h1, h2, h3⟩ := ha_at h k (by omega)
  have e : (l.take t).getD k (0, 0) = l.getD k (0, 0) := by
    simp only [List.getD_eq_getElem?_getD, List.getElem?_take]
    rw [if_pos (by omega)]
  exact ⟨B, o, rfl, h1, by rw [hPi, e]; exact h2, by rw [hRe, e]; exact h3⟩
theorem ha_drop {w : World} {B o : Nat} {l : List (Int × Int)} (h : HA w (some ⟨B, o, none⟩) l) (t : Nat) : HA w (some ⟨B, o + t * 2, none⟩) (l.drop t) := by
  intro k hk
  rw [List.length_drop] at hk
  obtain ⟨h1, h2, h3⟩ := ha_at h (t + k) (by omega)
  have e : (l.drop t).getD k (0, 0) = l.getD (t + k) (0, 0) := by
    simp only [List.getD_eq_getElem?_getD, List.getElem?_drop]
  rw [show o + (t + k) * 2 = o + t * 2 + k * 2 by omega] at h2 h3
  exact ⟨B, o + t * 2, rfl, h1, by rw [hPi, e]; exact h2, by rw [hRe, e]; exact h3⟩
theorem ha_rest {w : World} {B o : Nat} {l : List (Int × Int)} (h : HA w (some ⟨B, o, none⟩) l) (t : Nat) (ht : t < l.length) : ∃ R : Addr, ((l.length = t + 1 ∧ R = ⟨B, o, none⟩) ∨ (¬ l.length = t + 1 ∧ R = ⟨B, o + (t + 1) * 2, none⟩)) ∧ HA w (some R) (l.drop (t + 1)) := by
  by_cases e : l.length = t + 1
  · refine ⟨_, Or.inl ⟨e, rfl⟩, ?_⟩
    intro k hk
    rw [List.length_drop] at hk
    omega
  · exact ⟨_, Or.inr ⟨e, rfl⟩, ha_drop h (t + 1)⟩
theorem own_keepS {w : World} {base g n : Nat} {e : TypeId} {size : Nat} {v : Value} {xs : List Value} (h : w.ownsRow base e size v n xs) (hg : g < base) (u : Value) (i : Nat) : (w.setCell ⟨g, i, none⟩ u).ownsRow base e size v n xs := ownsRow_setCell_below (a := ⟨g, i, none⟩) h hg u
theorem infoFr : (Try.prog.info? 60).map (·.size) = some 2 := by kernel_rfl
/-- a frame of the call's own -/
def OwnFr (s : Int) (m : List (Int × Int)) (w : World) (e : Ending) (w' : World) : Prop := ∃ (C : Option Addr) (q : Nat), e = .returned (.agg #[.int .i16 s, .slice C m.length q]) ∧ w'.ownsRow w.heap.size 164 2 (.slice C m.length q) m.length (hcells m) ∧ Below w.heap.size w w'

end Go.Proofs.Ytcocfnjbgceidaa
namespace Go.Proofs.Ytcocfnjbgceidaa
open Go.RowKit

end Go.Proofs.Ytcocfnjbgceidaa
namespace Go.Proofs.Ytcocfnjbgceidaa
open Go.RowKit

theorem results_fd {fn : Func} {p q r : Tmp} (h : fn.results = #[.cell p 60, .cell q 248, .tmp r]) (tmps : Array Value) (w : World) (g g' : Nat) (t t' : TypeId) (cs : Array Value) (z : Nat → Int) (c : Value) (hi : cs.size = 2)
    (hp : tmps.getD p undef = .pointer (some ⟨g, 0, none⟩)) (hq : tmps.getD q undef = .pointer (some ⟨g', 0, none⟩)) (hr : tmps.getD r undef = c) (hg : w.heap[g]? = some (.cells cs t (0, 0))) (hg' : w.heap[g']? = some (.cells (da z) t' (0, 0))) :
    (results fn tmps).run Try.prog w = .ok (.tuple #[.agg cs, .agg (da z), c]) w := by
  have hp' : tmps[p]?.getD undef = .pointer (some ⟨g, 0, none⟩) := by simpa using hp
  have hq' : tmps[q]?.getD undef = .pointer (some ⟨g', 0, none⟩) := by simpa using hq
  have hr' : tmps[r]?.getD undef = c := by simpa using hr
  simp [results, h, hp', hq', hr', asAddr, run_loadVar_row w g t 60 cs (0, 0) _ hg Try.underlying60 rfl (by rw [hi]; exact infoFr), run_loadVar_row w g' t' 248 (da z) (0, 0) _ hg' Try.underlying248 rfl (by rw [da_size]; exact info248)]
theorem infoF2 (a b : Value) : (Try.prog.info? 60).map (·.size) = some #[a, b].size := infoFr
theorem sz22 (a b c d : Value) : #[a, b].size = #[c, d].size := rfl
theorem oneF (s : Int) (C : Option Addr) (n q : Nat) : (#[.int .i16 s, .slice C n q] : Array Value).all (·.oneCell') = true := by simp [Value.oneCell']
theorem own_keepR {w : World} {base g n : Nat} {e : TypeId} {size : Nat} {v : Value} {xs : List Value} (h : w.ownsRow base e size v n xs) (hg : g < base) (cs : Array Value) : (w.setRow g cs).ownsRow base e size v n xs :=
  h.kept (row := some g) ⟨rfl, rfl, rfl, by simp, fun k _ hk => setRow_other _ _ _ _ (fun e => hk (by rw [e]))⟩ (by
    cases hv : v.ownBlock with
    | none => exact Or.inl rfl
    | some k => exact Or.inr (fun e => by have h1 := h.lt k hv; cases e; omega))
def wtC (s : Int) (l : List (Int × Int)) (d : Nat → Int) (x : Int) : Int := if askB s l d then (if plB s l.length 0 x then (if useT d x.toNat 96 || l.length == 1 then 4 else 0) else 2) else 1
def wtS (s : Int) (l : List (Int × Int)) (d : Nat → Int) (x : Int) : Int := if wtC s l d x = 0 then s else 0
def wtL (s : Int) (l : List (Int × Int)) (d : Nat → Int) (x : Int) : List (Int × Int) := if wtC s l d x = 0 then dropL l x.toNat else []
def wtD (s : Int) (l : List (Int × Int)) (d : Nat → Int) (x : Int) : Nat → Int := if wtC s l d x = 0 then drT d x.toNat 96 else fun _ => 0
/-- a frame of the call's own, a drum and a code come back -/
def FdC (rs : Int) (rl : List (Int × Int)) (rd : Nat → Int) (rc : Int) (w : World) (e : Ending) (w' : World) : Prop := ∃ (C : Option Addr) (q : Nat), e = .returned (.tuple #[.agg #[.int .i16 rs, .slice C rl.length q], .agg (da rd), .int .i64 rc]) ∧ w'.ownsRow w.heap.size 164 2 (.slice C rl.length q) rl.length (hcells rl) ∧ Below w.heap.size w w'
theorem pl_step0 {s x : Int} {l : List (Int × Int)} {d : Nat → Int} (h : askB s l d = true) : plB s l.length 0 x = inB x 0 ((l.length : Int) - 1) := by
  have hl := (ask_all h).1
  have h2 : inB 0 0 (s - 1) = true := by simp [inB]; omega
  rw [plB, h2, Bool.true_and]

end Go.Proofs.Ytcocfnjbgceidaa
namespace Go.Proofs.Ytcocfnjbgceidaa
open Go.RowKit

theorem shr_one (x t : Nat) (hx : x < 4294967296) : (bits .and .u32 ((x : Int) / 2 ^ t) 1 == 1) = x.testBit t := by
  have hb := shr_bounds (x : Int) t (by omega) (by omega)
  rw [and_one32 _ hb.1 hb.2, Nat.testBit_eq_decide_div_mod_eq]
  have e : ((x : Int) / 2 ^ t) = ((x / 2 ^ t : Nat) : Int) := by push_cast; rfl
  rw [e]
  generalize x / 2 ^ t = y
  rcases Nat.mod_two_eq_zero_or_one y with h | h
  · have : (y : Int) % 2 = 0 := by omega
    simp [this, h]
  · have : (y : Int) % 2 = 1 := by omega
    simp [this, h]

end Go.Proofs.Ytcocfnjbgceidaa
namespace Go.Proofs.Ytcocfnjbgceidaa
open Go.RowKit

theorem own_neK {w : World} {base g n : Nat} {e t : TypeId} {size : Nat} {v : Value} {xs : List Value} {cs : Array Value} (h : w.ownsRow base e size v n xs) (z : Bk w g t cs) (ht : t ≠ e) : v.ownBlock ≠ some g := by
  intro hv
  rcases h.2 with ⟨rfl, _⟩ | ⟨g', cap, cur, rfl, hb, hg, _⟩
  · cases hv
  · have hz : w.heap[g]? = some (.cells cs t (0, 0)) := z
    have e1 : g' = g := by simpa [Value.ownBlock] using hv
    subst e1
    rw [hg] at hz
    simp at hz
    exact ht hz.2.symm
theorem own_rowK {w : World} {base g n : Nat} {e t : TypeId} {size : Nat} {v : Value} {xs : List Value} {cs : Array Value} (h : w.ownsRow base e size v n xs) (z : Bk w g t cs) (ht : t ≠ e) (cs' : Array Value) : (w.setRow g cs').ownsRow base e size v n xs :=
  h.kept (row := some g) ⟨rfl, rfl, rfl, by simp, fun k _ hk => setRow_other _ _ _ _ (fun e => hk (by rw [e]))⟩ (Or.inr (own_neK h z ht))
theorem bk_ne {w : World} {g g' : Nat} {t t' : TypeId} {cs cs' : Array Value} (h : Bk w g t cs) (h' : Bk w g' t' cs') (ht : t ≠ t') : g ≠ g' := by
  intro e
  subst e
  have a : w.heap[g]? = some (.cells cs t (0, 0)) := h
  have b : w.heap[g]? = some (.cells cs' t' (0, 0)) := h'
  rw [a] at b
  simp at b
  exact ht b.2
theorem wpList_load_rowG {P : Program} {ops : Array Oper} {rest : List Oper} {o : Oper} {a : Act} {w : World} {Q : Exit → Act → World → Prop} (hw : Region.wanted o (yielded ops a.tmps) = true) (ty : TypeId) (x : Operand) (ho : o.op = .load ty x)
    (g : Nat) (hx : a.eval x = .pointer (some ⟨g, 0, none⟩)) (t : TypeId) (cs : Array Value) (fr : Nat × Nat) (d : TypeDesc) (hg : w.heap[g]? = some (.cells cs t fr))
    (hu : P.underlying ty = some d) (hd : (match d with | .struct _ | .array _ _ => true | _ => false) = true) (hi : (P.info? ty).map (·.size) = some cs.size)
    (h : wpList P ops Q rest (a.put o.dst (.agg cs)) w) : wpList P ops Q (o :: rest) a w := by
  unfold wpList
  rw [if_pos hw]
  exact Or.inl (wp_load_row ty x ho g hx t cs fr d hg hu hd hi h)
theorem jn {F P : Nat → Nat → World → Prop} {G : Prop} (h1 : (∀ (g0 g1 : Nat) (W : World), F g0 g1 W → P g0 g1 W) → G) (h2 : ∀ (g0 g1 : Nat) (W : World), F g0 g1 W → P g0 g1 W) : G := h1 h2
theorem jnF {F P : Nat → Nat → World → Nat → Prop} {G : Prop} (h1 : (∀ (g0 g1 : Nat) (W : World) (ga : Nat), F g0 g1 W ga → P g0 g1 W ga) → G) (h2 : ∀ (g0 g1 : Nat) (W : World) (ga : Nat), F g0 g1 W ga → P g0 g1 W ga) : G := h1 h2
theorem jnA {F P : Nat → Nat → World → Option Addr → Nat → Prop} {G : Prop} (h1 : (∀ (g0 g1 : Nat) (W : World) (C : Option Addr) (e : Nat), F g0 g1 W C e → P g0 g1 W C e) → G) (h2 : ∀ (g0 g1 : Nat) (W : World) (C : Option Addr) (e : Nat), F g0 g1 W C e → P g0 g1 W C e) : G := h1 h2
theorem jnFA {F P : Nat → Nat → World → Nat → Option Addr → Nat → Prop} {G : Prop} (h1 : (∀ (g0 g1 : Nat) (W : World) (ga : Nat) (C : Option Addr) (e : Nat), F g0 g1 W ga C e → P g0 g1 W ga C e) → G) (h2 : ∀ (g0 g1 : Nat) (W : World) (ga : Nat) (C : Option Addr) (e : Nat), F g0 g1 W ga C e → P g0 g1 W ga C e) : G := h1 h2
theorem wtL_len (s : Int) (l : List (Int × Int)) (d : Nat → Int) (x : Int) (hn : l.length ≤ 1048576) : (wtL s l d x).length ≤ 1048576 := by
  unfold wtL
  split
  · simp [dropL]; omega
  · simp
end Go.Proofs.Ytcocfnjbgceidaa
