import Derived.Test.YtcocfnjbgceidaaGreatGai
import Derived.Test.YtcocfnjbgceidaaGreatGah
import Derived.Deep.CutRange
import Derived.Test.YtcocfnjbgceidaaGreatGad
import Derived.Test.YtcocfnjbgceidaaGreatGac
import Derived.IntWalk
namespace Go.Proofs.YtcocfnjbgceidaaGreat
open Go.RowKit

def dropL (l : List (Int × Int)) (t : Nat) : List (Int × Int) := l.take t ++ l.drop (t + 1)
theorem dropL_length (l : List (Int × Int)) (t : Nat) (h : t < l.length) : (dropL l t).length = t + (l.length - (t + 1)) := by
  simp [dropL]; omega
theorem ha_at {w : World} {B o : Nat} {l : List (Int × Int)} (h : HA w (some ⟨B, o, none⟩) l) (k : Nat) (hk : k < l.length) : B < w.heap.size ∧ w.cell? ⟨B, o + k * 2, none⟩ = some (.int .i8 (hPi l k)) ∧ w.cell? ⟨B, o + k * 2 + 1, none⟩ = some (.int .i8 (hRe l k)) := by
  obtain ⟨b, o', e, h1, h2, h3⟩ := h k hk
  cases e
  exact ⟨h1, h2, h3⟩
theorem ha_take {w : World} {B o : Nat} {l : List (Int × Int)} (h : HA w (some ⟨B, o, none⟩) l) (t : Nat) : HA w (some ⟨B, o, none⟩) (l.take t) := by
  intro k hk
  rw [List.length_take] at hk
  obtain ⟨h1, h2, h3⟩ := ha_at h k (by omega)
  have e : (l.take t).getD k (0, 0) = l.getD k (0, 0) := by
    simp only [List.getD_eq_getElem?_getD, List.getElem?_take]
    rw [if_pos (by omega)]
  exact ⟨B, o, rfl, h1, by rw [hPi, e]; exact h2, by rw [hRe, e]; exact h3⟩
theorem ha_drop {w : World} {B o : Nat} {l : List (Int × Int)} (h : HA w (some ⟨B, o, none⟩) l) (t : Nat) : HA w (some ⟨B, o + t * 2, none⟩) (l.drop t) := by
  intro k hk
  rw [List.length_drop] at hk
  obtain ⟨h1, h2, h3⟩ := ha_at h (t + k) (by omega)
  have e : (l.drop t).getD k (0, 0) = l.getD (t + k) (0, 0) := by
    simp only [List.getD_eq_getElem?_getD, List.getElem?_drop]
  rw [show o + (t + k) * 2 = o + t * 2 + k * 2 by omega] at h2 h3
  exact ⟨B, o + t * 2, rfl, h1, by rw [hPi, e]; exact h2, by rw [hRe, e]; exact h3⟩
theorem ha_rest {w : World} {B o : Nat} {l : List (Int × Int)} (h : HA w (some ⟨B, o, none⟩) l) (t : Nat) (ht : t < l.length) : ∃ R : Addr, ((l.length = t + 1 ∧ R = ⟨B, o, none⟩) ∨ (¬ l.length = t + 1 ∧ R = ⟨B, o + (t + 1) * 2, none⟩)) ∧ HA w (some R) (l.drop (t + 1)) := by
  by_cases e : l.length = t + 1
  · refine ⟨_, Or.inl ⟨e, rfl⟩, ?_⟩
    intro k hk
    rw [List.length_drop] at hk
    omega
  · exact ⟨_, Or.inr ⟨e, rfl⟩, ha_drop h (t + 1)⟩
theorem own_keepS {w : World} {base g n : Nat} {e : TypeId} {size : Nat} {v : Value} {xs : List Value} (h : w.ownsRow base e size v n xs) (hg : g < base) (u : Value) (i : Nat) : (w.setCell ⟨g, i, none⟩ u).ownsRow base e size v n xs := ownsRow_setCell_below (a := ⟨g, i, none⟩) h hg u
theorem infoFr : (Tryz.prog.info? 39).map (·.size) = some 2 := by kernel_rfl
/-- a frame of the call's own -/
def OwnFr (s : Int) (m : List (Int × Int)) (w : World) (e : Ending) (w' : World) : Prop := ∃ (C : Option Addr) (q : Nat), e = .returned (.agg #[.int .i16 s, .slice C m.length q]) ∧ w'.ownsRow w.heap.size 127 2 (.slice C m.length q) m.length (hcells m) ∧ Below w.heap.size w w'

end Go.Proofs.YtcocfnjbgceidaaGreat
namespace Go.Proofs.YtcocfnjbgceidaaGreat
open Go.RowKit

end Go.Proofs.YtcocfnjbgceidaaGreat
namespace Go.Proofs.YtcocfnjbgceidaaGreat
open Go.RowKit

theorem results_fd {fn : Func} {p q r : Tmp} (h : fn.results = #[.cell p 39, .cell q 185, .tmp r]) (tmps : Array Value) (w : World) (g g' : Nat) (t t' : TypeId) (cs : Array Value) (z : Nat → Int) (c : Value) (hi : cs.size = 2)
    (hp : tmps.getD p undef = .pointer (some ⟨g, 0, none⟩)) (hq : tmps.getD q undef = .pointer (some ⟨g', 0, none⟩)) (hr : tmps.getD r undef = c) (hg : w.heap[g]? = some (.cells cs t (0, 0))) (hg' : w.heap[g']? = some (.cells (da z) t' (0, 0))) :
    (results fn tmps).run Tryz.prog w = .ok (.tuple #[.agg cs, .agg (da z), c]) w := by
  have hp' : tmps[p]?.getD undef = .pointer (some ⟨g, 0, none⟩) := by simpa using hp
  have hq' : tmps[q]?.getD undef = .pointer (some ⟨g', 0, none⟩) := by simpa using hq
  have hr' : tmps[r]?.getD undef = c := by simpa using hr
  simp [results, h, hp', hq', hr', asAddr, run_loadVar_row w g t 39 cs (0, 0) _ hg Tryz.underlying39 rfl (by rw [hi]; exact infoFr), run_loadVar_row w g' t' 185 (da z) (0, 0) _ hg' Tryz.underlying185 rfl (by rw [da_size]; exact info185)]
theorem infoF2 (a b : Value) : (Tryz.prog.info? 39).map (·.size) = some #[a, b].size := infoFr
theorem sz22 (a b c d : Value) : #[a, b].size = #[c, d].size := rfl
theorem oneF (s : Int) (C : Option Addr) (n q : Nat) : (#[.int .i16 s, .slice C n q] : Array Value).all (·.oneCell') = true := by simp [Value.oneCell']
theorem own_keepR {w : World} {base g n : Nat} {e : TypeId} {size : Nat} {v : Value} {xs : List Value} (h : w.ownsRow base e size v n xs) (hg : g < base) (cs : Array Value) : (w.setRow g cs).ownsRow base e size v n xs :=
  h.kept (row := some g) ⟨rfl, rfl, rfl, by simp, fun k _ hk => setRow_other _ _ _ _ (fun e => hk (by rw [e]))⟩ (by
    cases hv : v.ownBlock with
    | none => exact Or.inl rfl
    | some k => exact Or.inr (fun e => by have h1 := h.lt k hv; cases e; omega))
def wtC (s : Int) (l : List (Int × Int)) (d : Nat → Int) (x : Int) : Int := if askB s l d then (if plB s l.length 0 x then (if useT d x.toNat 96 || l.length == 1 then 4 else 0) else 2) else 1
def wtS (s : Int) (l : List (Int × Int)) (d : Nat → Int) (x : Int) : Int := if wtC s l d x = 0 then s else 0
def wtL (s : Int) (l : List (Int × Int)) (d : Nat → Int) (x : Int) : List (Int × Int) := if wtC s l d x = 0 then dropL l x.toNat else []
def wtD (s : Int) (l : List (Int × Int)) (d : Nat → Int) (x : Int) : Nat → Int := if wtC s l d x = 0 then drT d x.toNat 96 else fun _ => 0
/-- a frame of the call's own, a drum and a code come back -/
def FdC (rs : Int) (rl : List (Int × Int)) (rd : Nat → Int) (rc : Int) (w : World) (e : Ending) (w' : World) : Prop := ∃ (C : Option Addr) (q : Nat), e = .returned (.tuple #[.agg #[.int .i16 rs, .slice C rl.length q], .agg (da rd), .int .i64 rc]) ∧ w'.ownsRow w.heap.size 127 2 (.slice C rl.length q) rl.length (hcells rl) ∧ Below w.heap.size w w'
theorem pl_step0 {s x : Int} {l : List (Int × Int)} {d : Nat → Int} (h : askB s l d = true) : plB s l.length 0 x = inB x 0 ((l.length : Int) - 1) := by
  have hl := (ask_all h).1
  have h2 : inB 0 0 (s - 1) = true := by simp [inB]; omega
  rw [plB, h2, Bool.true_and]

end Go.Proofs.YtcocfnjbgceidaaGreat
namespace Go.Proofs.YtcocfnjbgceidaaGreat
open Go.RowKit

theorem shr_one (x t : Nat) (hx : x < 4294967296) : (bits .and .u32 ((x : Int) / 2 ^ t) 1 == 1) = x.testBit t := by
  have hb := shr_bounds (x : Int) t (by omega) (by omega)
  rw [and_one32 _ hb.1 hb.2, Nat.testBit_eq_decide_div_mod_eq]
  have e : ((x : Int) / 2 ^ t) = ((x / 2 ^ t : Nat) : Int) := by push_cast; rfl
  rw [e]
  generalize x / 2 ^ t = y
  rcases Nat.mod_two_eq_zero_or_one y with h | h
  · have : (y : Int) % 2 = 0 := by omega
    simp [this, h]
  · have : (y : Int) % 2 = 1 := by omega
    simp [this, h]

end Go.Proofs.YtcocfnjbgceidaaGreat
namespace Go.Proofs.YtcocfnjbgceidaaGreat
open Go.RowKit

theorem own_neK {w : World} {base g n : Nat} {e t : TypeId} {size : Nat} {v : Value} {xs : List Value} {cs : Array Value} (h : w.ownsRow base e size v n xs) (z : Bk w g t cs) (ht : t ≠ e) : v.ownBlock ≠ some g := by
  intro hv
  rcases h.2 with ⟨rfl, _⟩ | ⟨g', cap, cur, rfl, hb, hg, _⟩
  · cases hv
  · have hz : w.heap[g]? = some (.cells cs t (0, 0)) := z
    have e1 : g' = g := by simpa [Value.ownBlock] using hv
    subst e1
    rw [hg] at hz
    simp at hz
    exact ht hz.2.symm
theorem own_rowK {w : World} {base g n : Nat} {e t : TypeId} {size : Nat} {v : Value} {xs : List Value} {cs : Array Value} (h : w.ownsRow base e size v n xs) (z : Bk w g t cs) (ht : t ≠ e) (cs' : Array Value) : (w.setRow g cs').ownsRow base e size v n xs :=
  h.kept (row := some g) ⟨rfl, rfl, rfl, by simp, fun k _ hk => setRow_other _ _ _ _ (fun e => hk (by rw [e]))⟩ (Or.inr (own_neK h z ht))
theorem bk_ne {w : World} {g g' : Nat} {t t' : TypeId} {cs cs' : Array Value} (h : Bk w g t cs) (h' : Bk w g' t' cs') (ht : t ≠ t') : g ≠ g' := by
  intro e
  subst e
  have a : w.heap[g]? = some (.cells cs t (0, 0)) := h
  have b : w.heap[g]? = some (.cells cs' t' (0, 0)) := h'
  rw [a] at b
  simp at b
  exact ht b.2
theorem wpList_load_rowG {P : Program} {ops : Array Oper} {rest : List Oper} {o : Oper} {a : Act} {w : World} {Q : Exit → Act → World → Prop} (hw : Region.wanted o (yielded ops a.tmps) = true) (ty : TypeId) (x : Operand) (ho : o.op = .load ty x)
    (g : Nat) (hx : a.eval x = .pointer (some ⟨g, 0, none⟩)) (t : TypeId) (cs : Array Value) (fr : Nat × Nat) (d : TypeDesc) (hg : w.heap[g]? = some (.cells cs t fr))
    (hu : P.underlying ty = some d) (hd : (match d with | .struct _ | .array _ _ => true | _ => false) = true) (hi : (P.info? ty).map (·.size) = some cs.size)
    (h : wpList P ops Q rest (a.put o.dst (.agg cs)) w) : wpList P ops Q (o :: rest) a w := by
  unfold wpList
  rw [if_pos hw]
  exact Or.inl (wp_load_row ty x ho g hx t cs fr d hg hu hd hi h)
theorem jn {F P : Nat → Nat → World → Prop} {G : Prop} (h1 : (∀ (g0 g1 : Nat) (W : World), F g0 g1 W → P g0 g1 W) → G) (h2 : ∀ (g0 g1 : Nat) (W : World), F g0 g1 W → P g0 g1 W) : G := h1 h2
theorem jnF {F P : Nat → Nat → World → Nat → Prop} {G : Prop} (h1 : (∀ (g0 g1 : Nat) (W : World) (ga : Nat), F g0 g1 W ga → P g0 g1 W ga) → G) (h2 : ∀ (g0 g1 : Nat) (W : World) (ga : Nat), F g0 g1 W ga → P g0 g1 W ga) : G := h1 h2
theorem jnA {F P : Nat → Nat → World → Option Addr → Nat → Prop} {G : Prop} (h1 : (∀ (g0 g1 : Nat) (W : World) (C : Option Addr) (e : Nat), F g0 g1 W C e → P g0 g1 W C e) → G) (h2 : ∀ (g0 g1 : Nat) (W : World) (C : Option Addr) (e : Nat), F g0 g1 W C e → P g0 g1 W C e) : G := h1 h2
theorem jnFA {F P : Nat → Nat → World → Nat → Option Addr → Nat → Prop} {G : Prop} (h1 : (∀ (g0 g1 : Nat) (W : World) (ga : Nat) (C : Option Addr) (e : Nat), F g0 g1 W ga C e → P g0 g1 W ga C e) → G) (h2 : ∀ (g0 g1 : Nat) (W : World) (ga : Nat) (C : Option Addr) (e : Nat), F g0 g1 W ga C e → P g0 g1 W ga C e) : G := h1 h2
theorem wtL_len (s : Int) (l : List (Int × Int)) (d : Nat → Int) (x : Int) (hn : l.length ≤ 1048576) : (wtL s l d x).length ≤ 1048576 := by
  unfold wtL
  split
  · simp [dropL]; omega
  · simp
end Go.Proofs.YtcocfnjbgceidaaGreat
namespace Go.Proofs.YtcocfnjbgceidaaGreat
open Go.RowKit
def pcC (l : List (Int × Int × Int × Int × Int)) : List Value := l.flatMap fun n => [.int .i64 n.1, .int .i64 n.2.1, .int .i64 n.2.2.1, .int .i64 n.2.2.2.1, .int .i64 n.2.2.2.2]
def pcA (l : List (Int × Int × Int × Int × Int)) (k : Nat) : Int := (l.getD k (0, 0, 0, 0, 0)).1
def pcB (l : List (Int × Int × Int × Int × Int)) (k : Nat) : Int := (l.getD k (0, 0, 0, 0, 0)).2.1
def pcU (l : List (Int × Int × Int × Int × Int)) (k : Nat) : Int := (l.getD k (0, 0, 0, 0, 0)).2.2.1
def pcM (l : List (Int × Int × Int × Int × Int)) (k : Nat) : Int := (l.getD k (0, 0, 0, 0, 0)).2.2.2.1
def pcL (l : List (Int × Int × Int × Int × Int)) (k : Nat) : Int := (l.getD k (0, 0, 0, 0, 0)).2.2.2.2
def PcWF (l : List (Int × Int × Int × Int × Int)) : Prop := ∀ k, k < l.length → (-9223372036854775808 ≤ pcA l k ∧ pcA l k ≤ 9223372036854775807) ∧ (-9223372036854775808 ≤ pcB l k ∧ pcB l k ≤ 9223372036854775807) ∧ (-9223372036854775808 ≤ pcU l k ∧ pcU l k ≤ 9223372036854775807) ∧ (-9223372036854775808 ≤ pcM l k ∧ pcM l k ≤ 9223372036854775807) ∧ (-9223372036854775808 ≤ pcL l k ∧ pcL l k ≤ 9223372036854775807)
theorem pcC_nil : pcC [] = [] := rfl
theorem pcC_cons (n : Int × Int × Int × Int × Int) (l : List (Int × Int × Int × Int × Int)) : pcC (n :: l) = .int .i64 n.1 :: .int .i64 n.2.1 :: .int .i64 n.2.2.1 :: .int .i64 n.2.2.2.1 :: .int .i64 n.2.2.2.2 :: pcC l := rfl
theorem pcC_append (l m : List (Int × Int × Int × Int × Int)) : pcC (l ++ m) = pcC l ++ pcC m := by simp [pcC]
theorem pcC_length (l : List (Int × Int × Int × Int × Int)) : (pcC l).length = l.length * 5 := by
  induction l with
  | nil => rfl
  | cons n l ih => simp [pcC_cons, ih]; omega
theorem pcC_at (l : List (Int × Int × Int × Int × Int)) : ∀ k, k < l.length → (pcC l)[k * 5]? = some (.int .i64 (pcA l k)) ∧ (pcC l)[k * 5 + 1]? = some (.int .i64 (pcB l k)) ∧ (pcC l)[k * 5 + 2]? = some (.int .i64 (pcU l k)) ∧ (pcC l)[k * 5 + 3]? = some (.int .i64 (pcM l k)) ∧ (pcC l)[k * 5 + 4]? = some (.int .i64 (pcL l k)) := by
  induction l with
  | nil => intro k h; simp at h
  | cons n l ih =>
    intro k h
    cases k with
    | zero => simp [pcC_cons, pcA, pcB, pcU, pcM, pcL]
    | succ k =>
      have := ih k (by simpa using h)
      rw [show (k + 1) * 5 = k * 5 + 1 + 1 + 1 + 1 + 1 from by omega, show k * 5 + 1 + 1 + 1 + 1 + 1 + 1 = (k * 5 + 1) + 1 + 1 + 1 + 1 + 1 from rfl, show k * 5 + 1 + 1 + 1 + 1 + 1 + 2 = (k * 5 + 2) + 1 + 1 + 1 + 1 + 1 from rfl, show k * 5 + 1 + 1 + 1 + 1 + 1 + 3 = (k * 5 + 3) + 1 + 1 + 1 + 1 + 1 from rfl, show k * 5 + 1 + 1 + 1 + 1 + 1 + 4 = (k * 5 + 4) + 1 + 1 + 1 + 1 + 1 from rfl]
      simpa [pcC_cons, pcA, pcB, pcU, pcM, pcL] using this
theorem pcC_set (l : List (Int × Int × Int × Int × Int)) : ∀ (k : Nat) (a0 : Int) (a1 : Int) (a2 : Int) (a3 : Int) (a4 : Int), pcC (l.set k (a0, a1, a2, a3, a4)) = ((((((pcC l).set (k * 5) (.int .i64 a0)).set (k * 5 + 1) (.int .i64 a1)).set (k * 5 + 2) (.int .i64 a2)).set (k * 5 + 3) (.int .i64 a3)).set (k * 5 + 4) (.int .i64 a4)) := by
  induction l with
  | nil => intro k a0 a1 a2 a3 a4; simp [pcC_nil]
  | cons n l ih =>
    intro k a0 a1 a2 a3 a4
    cases k with
    | zero => simp [pcC_cons]
    | succ k =>
      rw [show (k + 1) * 5 = k * 5 + 1 + 1 + 1 + 1 + 1 from by omega, show k * 5 + 1 + 1 + 1 + 1 + 1 + 1 = (k * 5 + 1) + 1 + 1 + 1 + 1 + 1 from rfl, show k * 5 + 1 + 1 + 1 + 1 + 1 + 2 = (k * 5 + 2) + 1 + 1 + 1 + 1 + 1 from rfl, show k * 5 + 1 + 1 + 1 + 1 + 1 + 3 = (k * 5 + 3) + 1 + 1 + 1 + 1 + 1 from rfl, show k * 5 + 1 + 1 + 1 + 1 + 1 + 4 = (k * 5 + 4) + 1 + 1 + 1 + 1 + 1 from rfl]
      simp [pcC_cons, ih]
theorem pcC_replicate (n : Nat) : pcC (List.replicate n (0, 0, 0, 0, 0)) = (madeCells #[.int .i64 0, .int .i64 0, .int .i64 0, .int .i64 0, .int .i64 0] (n * 5)).toList := by
  apply List.ext_getElem?
  intro j
  by_cases hj : j < n * 5
  · have hk : j / 5 < (List.replicate n ((0 : Int), (0 : Int), (0 : Int), (0 : Int), (0 : Int))).length := by simp; omega
    obtain ⟨h0, h1, h2, h3, h4⟩ := pcC_at (List.replicate n (0, 0, 0, 0, 0)) (j / 5) hk
    have hm : j % 5 = 0 ∨ j % 5 = 1 ∨ j % 5 = 2 ∨ j % 5 = 3 ∨ j % 5 = 4 := by omega
    rcases hm with h | h | h | h | h
    · rw [show j = j / 5 * 5 by omega, h0]
      simp [madeCells, pcA, List.getD, List.getElem?_replicate, show j / 5 < n by omega, show j / 5 * 5 < n * 5 by omega]
    · rw [show j = j / 5 * 5 + 1 by omega, h1]
      simp [madeCells, pcB, List.getD, List.getElem?_replicate, show j / 5 < n by omega, show j / 5 * 5 + 1 < n * 5 by omega, show (j / 5 * 5 + 1) % 5 = 1 by omega]
    · rw [show j = j / 5 * 5 + 2 by omega, h2]
      simp [madeCells, pcU, List.getD, List.getElem?_replicate, show j / 5 < n by omega, show j / 5 * 5 + 2 < n * 5 by omega, show (j / 5 * 5 + 2) % 5 = 2 by omega]
    · rw [show j = j / 5 * 5 + 3 by omega, h3]
      simp [madeCells, pcM, List.getD, List.getElem?_replicate, show j / 5 < n by omega, show j / 5 * 5 + 3 < n * 5 by omega, show (j / 5 * 5 + 3) % 5 = 3 by omega]
    · rw [show j = j / 5 * 5 + 4 by omega, h4]
      simp [madeCells, pcL, List.getD, List.getElem?_replicate, show j / 5 < n by omega, show j / 5 * 5 + 4 < n * 5 by omega, show (j / 5 * 5 + 4) % 5 = 4 by omega]
  · rw [List.getElem?_eq_none (by rw [pcC_length]; simp; omega), List.getElem?_eq_none (by simp [madeCells]; omega)]
def PcA (w : World) (A : Option Addr) (l : List (Int × Int × Int × Int × Int)) : Prop :=
  ∀ k, k < l.length → ∃ b o, A = some ⟨b, o, none⟩ ∧ b < w.heap.size ∧ w.cell? ⟨b, o + k * 5, none⟩ = some (.int .i64 (pcA l k)) ∧ w.cell? ⟨b, o + k * 5 + 1, none⟩ = some (.int .i64 (pcB l k)) ∧ w.cell? ⟨b, o + k * 5 + 2, none⟩ = some (.int .i64 (pcU l k)) ∧ w.cell? ⟨b, o + k * 5 + 3, none⟩ = some (.int .i64 (pcM l k)) ∧ w.cell? ⟨b, o + k * 5 + 4, none⟩ = some (.int .i64 (pcL l k))
theorem PcA.below {w w' : World} {A : Option Addr} {l : List (Int × Int × Int × Int × Int)} (h : PcA w A l) (hb : Below w.heap.size w w') : PcA w' A l := by
  intro k hk
  obtain ⟨b, o, rfl, hlt, h0, h1, h2, h3, h4⟩ := h k hk
  exact ⟨b, o, rfl, Nat.lt_of_lt_of_le hlt hb.size, (hb.cell (p := ⟨b, _, none⟩) hlt).trans h0, (hb.cell (p := ⟨b, _, none⟩) hlt).trans h1, (hb.cell (p := ⟨b, _, none⟩) hlt).trans h2, (hb.cell (p := ⟨b, _, none⟩) hlt).trans h3, (hb.cell (p := ⟨b, _, none⟩) hlt).trans h4⟩
theorem PcA.of_own {w : World} {base : Nat} {e : TypeId} {A : Option Addr} {c : Nat} {l : List (Int × Int × Int × Int × Int)} (h : w.ownsRow base e 5 (.slice A l.length c) l.length (pcC l)) : PcA w A l := by
  intro k hk
  rcases h.2 with ⟨h', h0⟩ | ⟨g, cap, cur, h', hb, hg, _⟩
  · omega
  · simp only [Value.slice.injEq, true_and] at h'
    obtain ⟨rfl, rfl⟩ := h'
    obtain ⟨h0, h1, h2, h3, h4⟩ := pcC_at l k hk
    refine ⟨g, 0, rfl, (Array.getElem?_eq_some_iff.1 hg).1, ?_, ?_, ?_, ?_, ?_⟩
    · rw [Nat.zero_add, h.cellAt (k * 5) (by omega), h0]
    · rw [Nat.zero_add, h.cellAt (k * 5 + 1) (by omega), h1]
    · rw [Nat.zero_add, h.cellAt (k * 5 + 2) (by omega), h2]
    · rw [Nat.zero_add, h.cellAt (k * 5 + 3) (by omega), h3]
    · rw [Nat.zero_add, h.cellAt (k * 5 + 4) (by omega), h4]
theorem pcown_set {w : World} {base : Nat} {e : TypeId} {g n c : Nat} {l : List (Int × Int × Int × Int × Int)} (h : w.ownsRow base e 5 (.slice (some ⟨g, 0, none⟩) n c) n (pcC l)) (k : Nat) (a0 : Int) (a1 : Int) (a2 : Int) (a3 : Int) (a4 : Int) :
    (((((w.setCell ⟨g, k * 5, none⟩ (.int .i64 a0)).setCell ⟨g, k * 5 + 1, none⟩ (.int .i64 a1)).setCell ⟨g, k * 5 + 2, none⟩ (.int .i64 a2)).setCell ⟨g, k * 5 + 3, none⟩ (.int .i64 a3)).setCell ⟨g, k * 5 + 4, none⟩ (.int .i64 a4)).ownsRow base e 5 (.slice (some ⟨g, 0, none⟩) n c) n (pcC (l.set k (a0, a1, a2, a3, a4))) := by
  rw [pcC_set]
  exact (((((h.stored (k * 5) (.int .i64 a0)).1.stored (k * 5 + 1) (.int .i64 a1)).1.stored (k * 5 + 2) (.int .i64 a2)).1.stored (k * 5 + 3) (.int .i64 a3)).1.stored (k * 5 + 4) (.int .i64 a4)).1
def pcup (l : List (Int × Int × Int × Int × Int)) (k : Nat) : List (Int × Int × Int × Int × Int) := l.take k ++ List.replicate (l.length - k) (0, 0, 0, 0, 0)
theorem pcup_length (l : List (Int × Int × Int × Int × Int)) (k : Nat) (h : k ≤ l.length) : (pcup l k).length = l.length := by simp [pcup]; omega
theorem pc_get (l : List (Int × Int × Int × Int × Int)) (k : Nat) (h : k < l.length) : (pcA l k, pcB l k, pcU l k, pcM l k, pcL l k) = l[k] := by simp [pcA, pcB, pcU, pcM, pcL, List.getD, h]
theorem pcup_set (l : List (Int × Int × Int × Int × Int)) (k : Nat) (h : k < l.length) : (pcup l k).set k (pcA l k, pcB l k, pcU l k, pcM l k, pcL l k) = pcup l (k + 1) := by
  have e1 : l.length - k = (l.length - (k + 1)) + 1 := by omega
  have e2 : (pcA l k, pcB l k, pcU l k, pcM l k, pcL l k) = l[k] := pc_get l k h
  rw [pcup, pcup, e1, List.replicate_succ, e2, List.take_succ_eq_append_getElem h, List.set_append_right _ _ (by simp; omega)]
  simp only [List.length_take, show k - min k l.length = 0 by omega, List.set_cons_zero, List.append_assoc, List.cons_append, List.nil_append]
theorem pcup_zero (l : List (Int × Int × Int × Int × Int)) : pcup l 0 = List.replicate l.length (0, 0, 0, 0, 0) := by simp [pcup]
theorem pcup_all (l : List (Int × Int × Int × Int × Int)) : pcup l l.length = l := by simp [pcup]
theorem info156 : (Tryz.prog.info? 156).map (fun i => (i.zero, i.size, i.bytes)) = some (some (.agg #[.int .i64 0, .int .i64 0, .int .i64 0, .int .i64 0, .int .i64 0]), 5, 40) := by kernel_rfl
end Go.Proofs.YtcocfnjbgceidaaGreat
