import Derived.Test.YtehcghaficbhiaaWi
import Derived.Test.YtehcghaficbhiaaRw
namespace Go.Proofs.Ytehcghaficbhiaa
open Go.RowKit

theorem own_neK {w : World} {base g n : Nat} {e t : TypeId} {size : Nat} {v : Value} {xs : List Value} {cs : Array Value} (h : w.ownsRow base e size v n xs) (z : Bk w g t cs) (ht : t ≠ e) : v.ownBlock ≠ some g := by
  intro hv
  rcases h.2 with ⟨rfl, _⟩ | ⟨g', cap, cur, rfl, hb, hg, _⟩
  · cases hv
  · have hz : w.heap[g]? = some (.cells cs t (0, 0)) := z
    have e1 : g' = g := by simpa [Value.ownBlock] using hv
    subst e1
    rw [hg] at hz
    simp at hz
    exact ht hz.2.symm
theorem own_rowK {w : World} {base g n : Nat} {e t : TypeId} {size : Nat} {v : Value} {xs : List Value} {cs : Array Value} (h : w.ownsRow base e size v n xs) (z : Bk w g t cs) (ht : t ≠ e) (cs' : Array Value) : (w.setRow g cs').ownsRow base e size v n xs :=
  h.kept (row := some g) ⟨rfl, rfl, rfl, by simp, fun k _ hk => setRow_other _ _ _ _ (fun e => hk (by rw [e]))⟩ (Or.inr (own_neK h z ht))
theorem bk_ne {w : World} {g g' : Nat} {t t' : TypeId} {cs cs' : Array Value} (h : Bk w g t cs) (h' : Bk w g' t' cs') (ht : t ≠ t') : g ≠ g' := by
  intro e
  subst e
  have a : w.heap[g]? = some (.cells cs t (0, 0)) := h
  have b : w.heap[g]? = some (.cells cs' t' (0, 0)) := h'
  rw [a] at b
  simp at b
  exact ht b.2
theorem wpList_load_rowG {P : Program} {ops : Array Oper} {rest : List Oper} {o : Oper} {a : Act} {w : World} {Q : Exit → Act → World → Prop} (hw : Region.wanted o (yielded ops a.tmps) = true) (ty : TypeId) (x : Operand) (ho : o.op = .load ty x)
    (g : Nat) (hx : a.eval x = .pointer (some ⟨g, 0, none⟩)) (t : TypeId) (cs : Array Value) (fr : Nat × Nat) (d : TypeDesc) (hg : w.heap[g]? = some (.cells cs t fr))
    (hu : P.underlying ty = some d) (hd : (match d with | .struct _ | .array _ _ => true | _ => false) = true) (hi : (P.info? ty).map (·.size) = some cs.size)
    (h : wpList P ops Q rest (a.put o.dst (.agg cs)) w) : wpList P ops Q (o :: rest) a w := by
  unfold wpList
  rw [if_pos hw]
  exact Or.inl (wp_load_row ty x ho g hx t cs fr d hg hu hd hi h)
theorem jn {F P : Nat → Nat → World → Prop} {G : Prop} (h1 : (∀ (g0 g1 : Nat) (W : World), F g0 g1 W → P g0 g1 W) → G) (h2 : ∀ (g0 g1 : Nat) (W : World), F g0 g1 W → P g0 g1 W) : G := h1 h2
theorem jnF {F P : Nat → Nat → World → Nat → Prop} {G : Prop} (h1 : (∀ (g0 g1 : Nat) (W : World) (ga : Nat), F g0 g1 W ga → P g0 g1 W ga) → G) (h2 : ∀ (g0 g1 : Nat) (W : World) (ga : Nat), F g0 g1 W ga → P g0 g1 W ga) : G := h1 h2
theorem jnA {F P : Nat → Nat → World → Option Addr → Nat → Prop} {G : Prop} (h1 : (∀ (g0 g1 : Nat) (W : World) (C : Option Addr) (e : Nat), F g0 g1 W C e → P g0 g1 W C e) → G) (h2 : ∀ (g0 g1 : Nat) (W : World) (C : Option Addr) (e : Nat), F g0 g1 W C e → P g0 g1 W C e) : G := h1 h2
theorem jnFA {F P : Nat → Nat → World → Nat → Option Addr → Nat → Prop} {G : Prop} (h1 : (∀ (g0 g1 : Nat) (W : World) (ga : Nat) (C : Option Addr) (e : Nat), F g0 g1 W ga C e → P g0 g1 W ga C e) → G) (h2 : ∀ (g0 g1 : Nat) (W : World) (ga : Nat) (C : Option Addr) (e : Nat), F g0 g1 W ga C e → P g0 g1 W ga C e) : G := h1 h2
theorem wtL_len (s : Int) (l : List (Int × Int)) (d : Nat → Int) (x : Int) (hn : l.length ≤ 1048576) : (wtL s l d x).length ≤ 1048576 := by
  unfold wtL
  split
  · simp [dropL]; omega
  · simp
end Go.Proofs.Ytehcghaficbhiaa
