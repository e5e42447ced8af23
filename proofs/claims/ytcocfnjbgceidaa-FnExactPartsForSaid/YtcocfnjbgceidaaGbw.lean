import Derived.Test.YtcocfnjbgceidaaGag
import Derived.Test.YtcocfnjbgceidaaGan
import Derived.ProofKit
import Derived.Deep.Slices
import Derived.Deep.Strs
import Derived.OpenShut
import Derived.Test.YtcocfnjbgceidaaGbl
namespace Go.Proofs.Ytcocfnjbgceidaa
open Go.ChangeShapes Go.WideShapes Go.ChangeAt Go.RowKit Go.Deep Go.Proofs.Ytcocfnjbgceidaa
set_option maxRecDepth 20000 in
theorem ints_of {H : Type} {enc : TypeId × Value → H} {W : World} {base b0 : Nat} {r : Reach} {spare : Nat → Bool} {held : Bool} {fuel : Nat} {v : Value} {x : DataW H × List MemPlace}
    (hv : Value.okWide Try.prog W r b0 48 v) (h : DataW.trod enc Try.prog W base spare held fuel 48 v.cells.toList = some x) :
    ∃ (A : Option Addr) (cap : Nat) (zs : List Int), v = .slice A zs.length cap ∧ zs.length ≤ maxLen ∧ SZ W A zs ∧ ZWF zs := by
  obtain ⟨a0, n0, c0, rfl⟩ := okWide_slice Try.underlying48 hv
  rcases open_ints Try.underlying48 Try.underlying2 Try.cells2 (by simpa [Value.cells] using h) with ⟨hcs, _⟩ | ⟨a, len, cap, zs, hcs, _, hl, hm, hzl, _, hi, hw⟩
  · simp at hcs
    obtain ⟨rfl, rfl, rfl⟩ := hcs
    exact ⟨none, 0, [], rfl, by decide, fun k hk => absurd hk (by simp), fun k hk => absurd hk (by simp)⟩
  · simp at hcs
    obtain ⟨rfl, rfl, rfl⟩ := hcs
    have hlm : n0 ≤ zs.length := by rw [hzl]; split <;> omega
    have hlen : (zs.take n0).length = n0 := by simp; omega
    have hget : ∀ k, k < n0 → zAt (zs.take n0) k = zs.getD k 0 := fun k hk => by simp [zAt, List.getD, List.getElem?_take, hk]
    refine ⟨some a, c0, zs.take n0, by rw [hlen], by rw [hlen]; omega, ?_, ?_⟩
    · intro k hk
      rw [hlen] at hk
      have c1 := hi k (by omega)
      have z0 := hi 0 (by omega)
      obtain ⟨b, off, spot⟩ := a
      have hspot : spot = none := by simpa [Addr.add] using World.cell?_spot z0
      subst hspot
      have hlt := World.block_lt_of_cell? W _ z0
      refine ⟨b, off, rfl, by simpa [Addr.add] using hlt, ?_⟩
      rw [Addr.add_lit] at c1
      rw [c1, hget k hk]
    · intro k hk
      rw [hlen] at hk
      rw [hget k hk]
      have hmem : zs.getD k 0 ∈ zs := by
        have : k < zs.length := by omega
        simp [List.getD, this]
      have hw1 := hw _ hmem
      exact bounds_i64 hw1
end Go.Proofs.Ytcocfnjbgceidaa
namespace Go.Proofs.Ytcocfnjbgceidaa
open Go.ChangeShapes Go.WideShapes Go.ChangeAt Go.RowKit Go.Deep Go.Proofs.Ytcocfnjbgceidaa
theorem Try.cells168 : Try.prog.cellsOf 168 = 3 := by kernel_rfl
set_option maxRecDepth 100000 in
theorem wornpin_cells {H : Type} {enc : TypeId × Value → H} {W : World} {base : Nat} {spare : Nat → Bool} {held : Bool} {fuel : Nat} {cs : List Value} {x : DataW H × List MemPlace}
    (hcs : cs.length = 3) (h : DataW.trod enc Try.prog W base spare held fuel 168 cs = some x) : ∃ q : Int × Int × Int, cs = [.int .i8 q.1, .int .i8 q.2.1, .int .i64 q.2.2] ∧ (-128 ≤ q.1 ∧ q.1 ≤ 127) ∧ (-128 ≤ q.2.1 ∧ q.2.1 ≤ 127) ∧ (-9223372036854775808 ≤ q.2.2 ∧ q.2.2 ≤ 9223372036854775807) := by
  obtain ⟨y0, y1, y2, n, _, _, h0, h1, h2⟩ := trod_struct3 Try.underlying168 h
  match cs, hcs with
  | [a, b, c], _ =>
    simp only [Try.cells29, Try.cells2, List.drop_zero, List.drop_succ_cons, List.take_succ_cons, List.take_zero] at h0 h1 h2
    obtain ⟨s, e0, _, w0⟩ := DataW.trod_int Try.underlying29 h0
    obtain ⟨t, e1, _, w1⟩ := DataW.trod_int Try.underlying29 h1
    obtain ⟨p, e2, _, w2⟩ := DataW.trod_int Try.underlying2 h2
    simp only [List.cons.injEq, and_true] at e0 e1 e2
    subst e0 e1 e2
    exact ⟨(s, t, p), rfl, bounds_i8 w0, bounds_i8 w1, bounds_i64 w2⟩
set_option maxRecDepth 100000 in
theorem wornpins_of {H : Type} {enc : TypeId × Value → H} {W : World} {base : Nat} {spare : Nat → Bool} {held : Bool} {fuel : Nat} {v : Value} {x : DataW H × List MemPlace}
    (h : DataW.trod enc Try.prog W base spare held fuel 47 [v] = some x) :
    ∃ (A : Option Addr) (cap : Nat) (l : List (Int × Int × Int)), v = .slice A l.length cap ∧ l.length ≤ maxLen ∧ WnA W A l ∧ WnWF l := by
  rcases open_slice Try.underlying47 h with ⟨hcs, _⟩ | ⟨a, n0, c0, m, n, D, Pl, hcs, _, hl, hm, hmm, _, hi⟩
  · simp at hcs
    subst hcs
    exact ⟨none, 0, [], rfl, by decide, fun k hk => absurd hk (by simp), fun k hk => absurd hk (by simp)⟩
  · simp at hcs
    subst hcs
    have hlm : n0 ≤ m := by rw [hmm]; split <;> omega
    have each : ∀ i, i < m → ∃ q : Int × Int × Int, ((-128 ≤ q.1 ∧ q.1 ≤ 127) ∧ (-128 ≤ q.2.1 ∧ q.2.1 ≤ 127) ∧ (-9223372036854775808 ≤ q.2.2 ∧ q.2.2 ≤ 9223372036854775807)) ∧ W.cell? ((a.add (i * 3)).add 0) = some (.int .i8 q.1) ∧ W.cell? ((a.add (i * 3)).add 1) = some (.int .i8 q.2.1) ∧ W.cell? ((a.add (i * 3)).add 2) = some (.int .i64 q.2.2) := by
      intro i him
      obtain ⟨cs', h1, h2⟩ := hi i him
      rw [Try.cells168] at h1
      obtain ⟨_, hlen, hcell⟩ := World.cells?_some h1
      obtain ⟨q, rfl, hq⟩ := wornpin_cells hlen h2
      exact ⟨q, hq, hcell 0 (by omega), hcell 1 (by omega), hcell 2 (by omega)⟩
    obtain ⟨Q, hQ⟩ := choose_lt (α := Int × Int × Int) (p := fun i q => ((-128 ≤ q.1 ∧ q.1 ≤ 127) ∧ (-128 ≤ q.2.1 ∧ q.2.1 ≤ 127) ∧ (-9223372036854775808 ≤ q.2.2 ∧ q.2.2 ≤ 9223372036854775807)) ∧ W.cell? ((a.add (i * 3)).add 0) = some (.int .i8 q.1) ∧ W.cell? ((a.add (i * 3)).add 1) = some (.int .i8 q.2.1) ∧ W.cell? ((a.add (i * 3)).add 2) = some (.int .i64 q.2.2)) each
    have hget : ∀ k, k < n0 → ((List.range n0).map Q).getD k (0, 0, 0) = Q k := fun k hk => by simp [List.getD, hk]
    refine ⟨some a, c0, (List.range n0).map Q, by simp, by simp; omega, ?_, ?_⟩
    · intro k hk
      have hk' : k < n0 := by simpa using hk
      obtain ⟨b, off, spot⟩ := a
      have z0 := (hQ 0 (by omega)).2.1
      have hspot : spot = none := by simpa [Addr.add] using World.cell?_spot z0
      subst hspot
      have hlt := World.block_lt_of_cell? W _ z0
      obtain ⟨_, c1, c2, c3⟩ := hQ k (by omega)
      rw [Addr.add_lit, Addr.add_lit] at c1 c2 c3
      refine ⟨b, off, rfl, by simpa [Addr.add] using hlt, ?_, ?_, ?_⟩
      · rw [wnS, hget k hk']; exact c1
      · rw [wnT, hget k hk']; exact c2
      · rw [wnP, hget k hk']; exact c3
    · intro k hk
      have hk' : k < n0 := by simpa using hk
      rw [wnS, wnT, wnP, hget k hk']
      exact (hQ k (by omega)).1
set_option maxRecDepth 20000 in
theorem intsF_of {H : Type} {enc : TypeId × Value → H} {W : World} {base : Nat} {spare : Nat → Bool} {held : Bool} {fuel : Nat} {v : Value} {x : DataW H × List MemPlace}
    (h : DataW.trod enc Try.prog W base spare held fuel 48 [v] = some x) :
    ∃ (A : Option Addr) (cap : Nat) (zs : List Int), v = .slice A zs.length cap ∧ zs.length ≤ maxLen ∧ SZ W A zs ∧ ZWF zs := by
  rcases open_ints Try.underlying48 Try.underlying2 Try.cells2 h with ⟨hcs, _⟩ | ⟨a, n0, c0, zs, hcs, _, hl, hm, hzl, _, hi, hw⟩
  · simp at hcs
    subst hcs
    exact ⟨none, 0, [], rfl, by decide, fun k hk => absurd hk (by simp), fun k hk => absurd hk (by simp)⟩
  · simp at hcs
    subst hcs
    have hlm : n0 ≤ zs.length := by rw [hzl]; split <;> omega
    have hlen : (zs.take n0).length = n0 := by simp; omega
    have hget : ∀ k, k < n0 → zAt (zs.take n0) k = zs.getD k 0 := fun k hk => by simp [zAt, List.getD, List.getElem?_take, hk]
    refine ⟨some a, c0, zs.take n0, by rw [hlen], by rw [hlen]; omega, ?_, ?_⟩
    · intro k hk
      rw [hlen] at hk
      have c1 := hi k (by omega)
      have z0 := hi 0 (by omega)
      obtain ⟨b, off, spot⟩ := a
      have hspot : spot = none := by simpa [Addr.add] using World.cell?_spot z0
      subst hspot
      have hlt := World.block_lt_of_cell? W _ z0
      refine ⟨b, off, rfl, by simpa [Addr.add] using hlt, ?_⟩
      rw [Addr.add_lit] at c1
      rw [c1, hget k hk]
    · intro k hk
      rw [hlen] at hk
      rw [hget k hk]
      have hmem : zs.getD k 0 ∈ zs := by
        have : k < zs.length := by omega
        simp [List.getD, this]
      have hw1 := hw _ hmem
      exact bounds_i64 hw1
theorem Try.cells50 : Try.prog.cellsOf 50 = 2 := by kernel_rfl
theorem Try.cells47 : Try.prog.cellsOf 47 = 1 := by kernel_rfl
theorem Try.cells48 : Try.prog.cellsOf 48 = 1 := by kernel_rfl
set_option maxRecDepth 100000 in
theorem wear_of {H : Type} {enc : TypeId × Value → H} {W : World} {base b0 : Nat} {r : Reach} {spare : Nat → Bool} {held : Bool} {fuel : Nat} {v : Value} {x : DataW H × List MemPlace}
    (hv : Value.okWide Try.prog W r b0 50 v) (h : DataW.trod enc Try.prog W base spare held fuel 50 v.cells.toList = some x) :
    ∃ (A : Option Addr) (cap : Nat) (l : List (Int × Int × Int)) (U : Option Addr) (kap : Nat) (z : List Int), v = .agg #[.slice A l.length cap, .slice U z.length kap] ∧ l.length ≤ maxLen ∧ z.length ≤ maxLen ∧ WnA W A l ∧ SZ W U z ∧ WnWF l ∧ ZWF z := by
  obtain ⟨cs, rfl, hcs⟩ := okWide_struct Try.underlying50 hv
  rw [Try.cells50] at hcs
  obtain ⟨y0, y1, n, _, _, h0, h1⟩ := trod_struct2 Try.underlying50 h
  obtain ⟨a, b, hab⟩ : ∃ a b, cs = #[a, b] := by
    obtain ⟨ls⟩ := cs
    match ls, hcs with
    | [a, b], _ => exact ⟨a, b, rfl⟩
  subst hab
  simp only [Value.cells, List.drop_zero, Try.cells47, Try.cells48] at h0 h1
  obtain ⟨A, cap, l, rfl, hl, hA, hwf⟩ := wornpins_of h0
  obtain ⟨U, kap, z, rfl, hz, hU, hzwf⟩ := intsF_of h1
  exact ⟨A, cap, l, U, kap, z, rfl, hl, hz, hA, hU, hwf, hzwf⟩
end Go.Proofs.Ytcocfnjbgceidaa
namespace Go.Proofs.Ytcocfnjbgceidaa
open Go.ChangeShapes Go.WideShapes Go.ChangeAt Go.RowKit Go.Deep Go.Proofs.Ytcocfnjbgceidaa
theorem Try.cells52 : Try.prog.cellsOf 52 = 2 := by kernel_rfl
set_option maxRecDepth 100000 in
theorem lives_of {H : Type} {enc : TypeId × Value → H} {W : World} {base b0 : Nat} {r : Reach} {spare : Nat → Bool} {held : Bool} {fuel : Nat} {v : Value} {x : DataW H × List MemPlace}
    (hv : Value.okWide Try.prog W r b0 52 v) (h : DataW.trod enc Try.prog W base spare held fuel 52 v.cells.toList = some x) :
    ∃ (p q : Int), v = .agg #[.int .i64 p, .int .i64 q] ∧ LvWF p q := by
  obtain ⟨cs, rfl, hcs⟩ := okWide_struct Try.underlying52 hv
  rw [Try.cells52] at hcs
  obtain ⟨y0, y1, n, _, _, h0, h1⟩ := trod_struct2 Try.underlying52 h
  obtain ⟨a, b, hab⟩ : ∃ a b, cs = #[a, b] := by
    obtain ⟨ls⟩ := cs
    match ls, hcs with
    | [a, b], _ => exact ⟨a, b, rfl⟩
  subst hab
  simp only [Value.cells, List.drop_zero, Try.cells2] at h0 h1
  obtain ⟨p, e0, _, w0⟩ := DataW.trod_int Try.underlying2 h0
  obtain ⟨q, e1, _, w1⟩ := DataW.trod_int Try.underlying2 h1
  simp at e0 e1
  subst e0 e1
  exact ⟨p, q, rfl, bounds_i64 w0, bounds_i64 w1⟩
end Go.Proofs.Ytcocfnjbgceidaa
