import Derived.Test.YtghkcfghkbihcaaGreatDoorGar
import Derived.StillTailTactics
import Derived.Deep.CutRange
import Derived.Maps.RangeWalk
import Derived.Test.YtghkcfghkbihcaaGreatDoorGal
import Derived.Sort.KeysCollected
import Derived.Sort.OwnSorted
import Derived.Test.YtghkcfghkbihcaaGreatDoorGak
import Derived.Test.YtghkcfghkbihcaaGreatDoorGaj
import Derived.Deep.RegionHeld3
import Derived.IntWalk
import Derived.Test.YtghkcfghkbihcaaGreatDoorGai
import Derived.Test.YtghkcfghkbihcaaGreatDoorGap
namespace Go.Proofs.YtghkcfghkbihcaaGreatDoor
open Go.RowKit Go.Maps
def dwC (s : Int) (h : List (Int × Int)) (l : List (Int × Int × Int)) (z : List Int) : Int := codeI (weB s h l z)
def dwR (s : Int) (h : List (Int × Int)) (l : List (Int × Int × Int)) (z : List Int) : Nat → Int := if weB s h l z then dwD l l.length else fun _ => 0
theorem or_set {l : List (Int × Int × Int)} {k a t : Nat} (ha : wnS l k = a) (ht : wnT l k = t) (i : Nat) : (if i = a then bits .or .u32 (dwD l k a) (2 ^ t % 4294967296) else dwD l k i) = dwD l (k + 1) i := by
  rw [dwD, orW, ha, ht]
  simp
end Go.Proofs.YtghkcfghkbihcaaGreatDoor
namespace Go.Proofs.YtghkcfghkbihcaaGreatDoor
open Go.RowKit Go.Maps
theorem ranges_below {w w' : World} {k : TypeId} {R : Value → Option (DataW Unit × List MemPlace)} {b r n : Nat} {D : DataW Unit} {left : Lit → Bool} {cnt : Nat} (h : w.ranges Tryz.prog k R b r n D left cnt) (hb : Below w.heap.size w w') : w'.ranges Tryz.prog k R b r n D left cnt := by
  obtain ⟨es, clock, since, seen, c0, h1, h2, h3, h4, h5, hr⟩ := h
  exact ⟨es, clock, since, seen, c0, (hb.block _ (Array.getElem?_eq_some_iff.1 h1).1).trans h1, h2, h3, h4, (hb.block _ (Array.getElem?_eq_some_iff.1 h5).1).trans h5, hr⟩
theorem ranges_setRow {w : World} {k : TypeId} {R : Value → Option (DataW Unit × List MemPlace)} {b r n g : Nat} {D : DataW Unit} {left : Lit → Bool} {cnt : Nat} (h : w.ranges Tryz.prog k R b r n D left cnt) (hb : g ≠ b) (hr' : g ≠ r) (cs : Array Value) : (w.setRow g cs).ranges Tryz.prog k R b r n D left cnt := by
  obtain ⟨es, clock, since, seen, c0, h1, h2, h3, h4, h5, hr⟩ := h
  exact ⟨es, clock, since, seen, c0, (setRow_other _ _ _ _ (fun e => hb e.symm)).trans h1, h2, h3, h4, (setRow_other _ _ _ _ (fun e => hr' e.symm)).trans h5, hr⟩
theorem int_invW : ∀ (v : Value) (y : DataW Unit × List MemPlace), plainElem Tryz.prog 2 v = some y → ∃ c : Int, v = .int .i64 c := by
  intro v y hv
  obtain ⟨c, rfl, _⟩ := plainElem_int_inv Tryz.underlying2 hv
  exact ⟨c, rfl⟩
end Go.Proofs.YtghkcfghkbihcaaGreatDoor
namespace Go.Proofs.YtghkcfghkbihcaaGreatDoor
open Go.RowKit Go.Maps
/-- numbers of a list of worn pins -/
def In8 (T : List (Int × Int × Int)) : Prop := ∀ x ∈ T, (-128 ≤ x.1 ∧ x.1 ≤ 127) ∧ (-128 ≤ x.2.1 ∧ x.2.1 ≤ 127)
theorem ascL_nodup {T : List (Int × Int × Int)} (h : AscL T) : T.Nodup := List.Pairwise.imp (fun {a b} hab e => by subst e; simp [befW] at hab) h
theorem ascL_place {T : List (Int × Int × Int)} (hT : AscL T) {a b : Int × Int × Int} (ha : a ∈ T) (hb : b ∈ T) (h1 : a.1 = b.1) (h2 : a.2.1 = b.2.1) : a = b :=
  ascL_same hT ha hb (by rw [cfW_lt, h1, h2]; simp [befW]) (by rw [cfW_lt, h1, h2]; simp [befW])
theorem own_neW {w : World} {base g n : Nat} {e t : TypeId} {size : Nat} {v : Value} {xs : List Value} {cs : Array Value} (h : w.ownsRow base e size v n xs) (z : Bk w g t cs) (ht : t ≠ e) : v.ownBlock ≠ some g := by
  intro hv
  rcases h.2 with ⟨rfl, _⟩ | ⟨g', cap, cur, rfl, hb, hg, _⟩
  · cases hv
  · have hz : w.heap[g]? = some (.cells cs t (0, 0)) := z
    have e1 : g' = g := by simpa [Value.ownBlock] using hv
    subst e1
    rw [hg] at hz
    simp at hz
    exact ht hz.2.symm
theorem cell_threeW (w : World) (u v x : Value) (t : TypeId) : ∀ j y, ([u, v, x] : List Value)[j]? = some y → (w.alloc (.cells #[u, v, x] t)).cell? ((⟨w.heap.size, 0, none⟩ : Addr).add j) = some y := by
  intro j y hy
  have h := (Bk.new w t #[u, v, x] rfl).cell (i := j) (v := y) (by simpa using hy)
  rw [Addr.add_lit, Nat.zero_add]
  exact h
theorem own_setW {w : World} {base g o n : Nat} {e : TypeId} {size : Nat} {v : Value} {xs : List Value} (h : w.ownsRow base e size v n xs) (hne : v.ownBlock ≠ some g) (u : Value) : (w.setCell ⟨g, o, none⟩ u).ownsRow base e size v n xs :=
  h.kept (row := some g) ⟨rfl, rfl, rfl, by simp, fun k _ hk => heap_setCell_other w ⟨g, o, none⟩ k u (fun e => hk (by rw [e]))⟩ (Or.inr hne)
theorem ranges_setCell {w : World} {k : TypeId} {R : Value → Option (DataW Unit × List MemPlace)} {b r n g o : Nat} {D : DataW Unit} {left : Lit → Bool} {cnt : Nat} (h : w.ranges Tryz.prog k R b r n D left cnt) (hb : g ≠ b) (hr' : g ≠ r) (u : Value) : (w.setCell ⟨g, o, none⟩ u).ranges Tryz.prog k R b r n D left cnt := by
  obtain ⟨es, clock, since, seen, c0, h1, h2, h3, h4, h5, hr⟩ := h
  exact ⟨es, clock, since, seen, c0, (heap_setCell_other w ⟨g, o, none⟩ b u (fun e => hb e.symm)).trans h1, h2, h3, h4, (heap_setCell_other w ⟨g, o, none⟩ r u (fun e => hr' e.symm)).trans h5, hr⟩
theorem w8_wrap {x : Int} (h : -128 ≤ x ∧ x ≤ 127) : IntKind.i8.wrap x = x := by simp [IntKind.wrap, IntKind.bits, IntKind.signed]; omega
end Go.Proofs.YtghkcfghkbihcaaGreatDoor
namespace Go.Proofs.YtghkcfghkbihcaaGreatDoor
open Go.RowKit
theorem mkWn_at (K : Int) (n k : Nat) (h : k < n) : wnS (mkWn K n) k = IntKind.i8.wrap (K + 3 * (k : Int)) ∧ wnT (mkWn K n) k = IntKind.i8.wrap (K + 3 * (k : Int) + 1) ∧ wnP (mkWn K n) k = IntKind.i64.wrap (K + 3 * (k : Int) + 1 + 1) := by simp [wnS, wnT, wnP, mkWn, h]
theorem own_ne2 {w : World} {b b' n n' : Nat} {e e' : TypeId} {s s' : Nat} {v v' : Value} {xs xs' : List Value} (h : w.ownsRow b e s v n xs) (h' : w.ownsRow b' e' s' v' n' xs') (he : e ≠ e') : v.ownBlock = none ∨ v.ownBlock ≠ v'.ownBlock := by
  rcases h.2 with ⟨rfl, _⟩ | ⟨g, cap, cur, rfl, hb, hg, _⟩
  · exact Or.inl rfl
  · refine Or.inr fun hv => ?_
    rcases h'.2 with ⟨rfl, _⟩ | ⟨g', cap', cur', rfl, hb', hg', _⟩
    · cases hv
    · have e1 : g = g' := by simpa [Value.ownBlock] using hv
      subst e1
      rw [hg] at hg'
      simp at hg'
      exact he hg'.2
end Go.Proofs.YtghkcfghkbihcaaGreatDoor
namespace Go.Proofs.YtghkcfghkbihcaaGreatDoor
open Go.RowKit
/-- a slice of numbers of the call's own, and a code -/
def OwnZ (w : World) (zs : List Int) (cc : Int) (e : Ending) (w' : World) : Prop := ∃ (A : Option Addr) (c : Nat), e = .returned (.tuple #[.slice A zs.length c, .int .i64 cc]) ∧ w'.ownsRow w.heap.size 2 1 (.slice A zs.length c) zs.length (icells zs) ∧ Below w.heap.size w w'
end Go.Proofs.YtghkcfghkbihcaaGreatDoor
namespace Go.Proofs.YtghkcfghkbihcaaGreatDoor
open Go.RowKit

end Go.Proofs.YtghkcfghkbihcaaGreatDoor
namespace Go.Proofs.YtghkcfghkbihcaaGreatDoor
open Go.RowKit
end Go.Proofs.YtghkcfghkbihcaaGreatDoor
