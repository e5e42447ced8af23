import Derived.Test.YtcocfnjbgceidaaGreatGaj
import Derived.Test.YtcocfnjbgceidaaGreatGag
import Derived.ProofKit
import Derived.Deep.Slices
import Derived.Deep.Strs
import Derived.OpenShut
import Derived.Test.YtcocfnjbgceidaaGreatGbn
import Derived.Test.YtcocfnjbgceidaaGreatAct
import Derived.Lib.SmallJoins
namespace Go.Proofs.YtcocfnjbgceidaaGreat
open Go.ChangeShapes Go.WideShapes Go.ChangeAt Go.RowKit Go.Deep Go.Proofs.YtcocfnjbgceidaaGreat
set_option maxRecDepth 20000 in
theorem ints_of {H : Type} {enc : TypeId × Value → H} {W : World} {base b0 : Nat} {r : Reach} {spare : Nat → Bool} {held : Bool} {fuel : Nat} {v : Value} {x : DataW H × List MemPlace}
    (hv : Value.okWide Tryz.prog W r b0 27 v) (h : DataW.trod enc Tryz.prog W base spare held fuel 27 v.cells.toList = some x) :
    ∃ (A : Option Addr) (cap : Nat) (zs : List Int), v = .slice A zs.length cap ∧ zs.length ≤ maxLen ∧ SZ W A zs ∧ ZWF zs := by
  obtain ⟨a0, n0, c0, rfl⟩ := okWide_slice Tryz.underlying27 hv
  rcases open_ints Tryz.underlying27 Tryz.underlying2 Tryz.cells2 (by simpa [Value.cells] using h) with ⟨hcs, _⟩ | ⟨a, len, cap, zs, hcs, _, hl, hm, hzl, _, hi, hw⟩
  · simp at hcs
    obtain ⟨rfl, rfl, rfl⟩ := hcs
    exact ⟨none, 0, [], rfl, by decide, fun k hk => absurd hk (by simp), fun k hk => absurd hk (by simp)⟩
  · simp at hcs
    obtain ⟨rfl, rfl, rfl⟩ := hcs
    have hlm : n0 ≤ zs.length := by rw [hzl]; split <;> omega
    have hlen : (zs.take n0).length = n0 := by simp; omega
    have hget : ∀ k, k < n0 → zAt (zs.take n0) k = zs.getD k 0 := fun k hk => by simp [zAt, List.getD, List.getElem?_take, hk]
    refine ⟨some a, c0, zs.take n0, by rw [hlen], by rw [hlen]; omega, ?_, ?_⟩
    · intro k hk
      rw [hlen] at hk
      have c1 := hi k (by omega)
      have z0 := hi 0 (by omega)
      obtain ⟨b, off, spot⟩ := a
      have hspot : spot = none := by simpa [Addr.add] using World.cell?_spot z0
      subst hspot
      have hlt := World.block_lt_of_cell? W _ z0
      refine ⟨b, off, rfl, by simpa [Addr.add] using hlt, ?_⟩
      rw [Addr.add_lit] at c1
      rw [c1, hget k hk]
    · intro k hk
      rw [hlen] at hk
      rw [hget k hk]
      have hmem : zs.getD k 0 ∈ zs := by
        have : k < zs.length := by omega
        simp [List.getD, this]
      have hw1 := hw _ hmem
      exact bounds_i64 hw1
end Go.Proofs.YtcocfnjbgceidaaGreat
namespace Go.Proofs.YtcocfnjbgceidaaGreat
open Go.ChangeShapes Go.WideShapes Go.ChangeAt Go.RowKit Go.Deep Go.Proofs.YtcocfnjbgceidaaGreat
theorem Tryz.cells131 : Tryz.prog.cellsOf 131 = 3 := by kernel_rfl
set_option maxRecDepth 100000 in
theorem wornpin_cells {H : Type} {enc : TypeId × Value → H} {W : World} {base : Nat} {spare : Nat → Bool} {held : Bool} {fuel : Nat} {cs : List Value} {x : DataW H × List MemPlace}
    (hcs : cs.length = 3) (h : DataW.trod enc Tryz.prog W base spare held fuel 131 cs = some x) : ∃ q : Int × Int × Int, cs = [.int .i8 q.1, .int .i8 q.2.1, .int .i64 q.2.2] ∧ (-128 ≤ q.1 ∧ q.1 ≤ 127) ∧ (-128 ≤ q.2.1 ∧ q.2.1 ≤ 127) ∧ (-9223372036854775808 ≤ q.2.2 ∧ q.2.2 ≤ 9223372036854775807) := by
  obtain ⟨y0, y1, y2, n, _, _, h0, h1, h2⟩ := trod_struct3 Tryz.underlying131 h
  match cs, hcs with
  | [a, b, c], _ =>
    simp only [Tryz.cells51, Tryz.cells2, List.drop_zero, List.drop_succ_cons, List.take_succ_cons, List.take_zero] at h0 h1 h2
    obtain ⟨s, e0, _, w0⟩ := DataW.trod_int Tryz.underlying51 h0
    obtain ⟨t, e1, _, w1⟩ := DataW.trod_int Tryz.underlying51 h1
    obtain ⟨p, e2, _, w2⟩ := DataW.trod_int Tryz.underlying2 h2
    simp only [List.cons.injEq, and_true] at e0 e1 e2
    subst e0 e1 e2
    exact ⟨(s, t, p), rfl, bounds_i8 w0, bounds_i8 w1, bounds_i64 w2⟩
set_option maxRecDepth 100000 in
theorem wornpins_of {H : Type} {enc : TypeId × Value → H} {W : World} {base : Nat} {spare : Nat → Bool} {held : Bool} {fuel : Nat} {v : Value} {x : DataW H × List MemPlace}
    (h : DataW.trod enc Tryz.prog W base spare held fuel 26 [v] = some x) :
    ∃ (A : Option Addr) (cap : Nat) (l : List (Int × Int × Int)), v = .slice A l.length cap ∧ l.length ≤ maxLen ∧ WnA W A l ∧ WnWF l := by
  rcases open_slice Tryz.underlying26 h with ⟨hcs, _⟩ | ⟨a, n0, c0, m, n, D, Pl, hcs, _, hl, hm, hmm, _, hi⟩
  · simp at hcs
    subst hcs
    exact ⟨none, 0, [], rfl, by decide, fun k hk => absurd hk (by simp), fun k hk => absurd hk (by simp)⟩
  · simp at hcs
    subst hcs
    have hlm : n0 ≤ m := by rw [hmm]; split <;> omega
    have each : ∀ i, i < m → ∃ q : Int × Int × Int, ((-128 ≤ q.1 ∧ q.1 ≤ 127) ∧ (-128 ≤ q.2.1 ∧ q.2.1 ≤ 127) ∧ (-9223372036854775808 ≤ q.2.2 ∧ q.2.2 ≤ 9223372036854775807)) ∧ W.cell? ((a.add (i * 3)).add 0) = some (.int .i8 q.1) ∧ W.cell? ((a.add (i * 3)).add 1) = some (.int .i8 q.2.1) ∧ W.cell? ((a.add (i * 3)).add 2) = some (.int .i64 q.2.2) := by
      intro i him
      obtain ⟨cs', h1, h2⟩ := hi i him
      rw [Tryz.cells131] at h1
      obtain ⟨_, hlen, hcell⟩ := World.cells?_some h1
      obtain ⟨q, rfl, hq⟩ := wornpin_cells hlen h2
      exact ⟨q, hq, hcell 0 (by omega), hcell 1 (by omega), hcell 2 (by omega)⟩
    obtain ⟨Q, hQ⟩ := choose_lt (α := Int × Int × Int) (p := fun i q => ((-128 ≤ q.1 ∧ q.1 ≤ 127) ∧ (-128 ≤ q.2.1 ∧ q.2.1 ≤ 127) ∧ (-9223372036854775808 ≤ q.2.2 ∧ q.2.2 ≤ 9223372036854775807)) ∧ W.cell? ((a.add (i * 3)).add 0) = some (.int .i8 q.1) ∧ W.cell? ((a.add (i * 3)).add 1) = some (.int .i8 q.2.1) ∧ W.cell? ((a.add (i * 3)).add 2) = some (.int .i64 q.2.2)) each
    have hget : ∀ k, k < n0 → ((List.range n0).map Q).getD k (0, 0, 0) = Q k := fun k hk => by simp [List.getD, hk]
    refine ⟨some a, c0, (List.range n0).map Q, by simp, by simp; omega, ?_, ?_⟩
    · intro k hk
      have hk' : k < n0 := by simpa using hk
      obtain ⟨b, off, spot⟩ := a
      have z0 := (hQ 0 (by omega)).2.1
      have hspot : spot = none := by simpa [Addr.add] using World.cell?_spot z0
      subst hspot
      have hlt := World.block_lt_of_cell? W _ z0
      obtain ⟨_, c1, c2, c3⟩ := hQ k (by omega)
      rw [Addr.add_lit, Addr.add_lit] at c1 c2 c3
      refine ⟨b, off, rfl, by simpa [Addr.add] using hlt, ?_, ?_, ?_⟩
      · rw [wnS, hget k hk']; exact c1
      · rw [wnT, hget k hk']; exact c2
      · rw [wnP, hget k hk']; exact c3
    · intro k hk
      have hk' : k < n0 := by simpa using hk
      rw [wnS, wnT, wnP, hget k hk']
      exact (hQ k (by omega)).1
set_option maxRecDepth 20000 in
theorem intsF_of {H : Type} {enc : TypeId × Value → H} {W : World} {base : Nat} {spare : Nat → Bool} {held : Bool} {fuel : Nat} {v : Value} {x : DataW H × List MemPlace}
    (h : DataW.trod enc Tryz.prog W base spare held fuel 27 [v] = some x) :
    ∃ (A : Option Addr) (cap : Nat) (zs : List Int), v = .slice A zs.length cap ∧ zs.length ≤ maxLen ∧ SZ W A zs ∧ ZWF zs := by
  rcases open_ints Tryz.underlying27 Tryz.underlying2 Tryz.cells2 h with ⟨hcs, _⟩ | ⟨a, n0, c0, zs, hcs, _, hl, hm, hzl, _, hi, hw⟩
  · simp at hcs
    subst hcs
    exact ⟨none, 0, [], rfl, by decide, fun k hk => absurd hk (by simp), fun k hk => absurd hk (by simp)⟩
  · simp at hcs
    subst hcs
    have hlm : n0 ≤ zs.length := by rw [hzl]; split <;> omega
    have hlen : (zs.take n0).length = n0 := by simp; omega
    have hget : ∀ k, k < n0 → zAt (zs.take n0) k = zs.getD k 0 := fun k hk => by simp [zAt, List.getD, List.getElem?_take, hk]
    refine ⟨some a, c0, zs.take n0, by rw [hlen], by rw [hlen]; omega, ?_, ?_⟩
    · intro k hk
      rw [hlen] at hk
      have c1 := hi k (by omega)
      have z0 := hi 0 (by omega)
      obtain ⟨b, off, spot⟩ := a
      have hspot : spot = none := by simpa [Addr.add] using World.cell?_spot z0
      subst hspot
      have hlt := World.block_lt_of_cell? W _ z0
      refine ⟨b, off, rfl, by simpa [Addr.add] using hlt, ?_⟩
      rw [Addr.add_lit] at c1
      rw [c1, hget k hk]
    · intro k hk
      rw [hlen] at hk
      rw [hget k hk]
      have hmem : zs.getD k 0 ∈ zs := by
        have : k < zs.length := by omega
        simp [List.getD, this]
      have hw1 := hw _ hmem
      exact bounds_i64 hw1
theorem Tryz.cells29 : Tryz.prog.cellsOf 29 = 2 := by kernel_rfl
theorem Tryz.cells26 : Tryz.prog.cellsOf 26 = 1 := by kernel_rfl
theorem Tryz.cells27 : Tryz.prog.cellsOf 27 = 1 := by kernel_rfl
set_option maxRecDepth 100000 in
theorem wear_of {H : Type} {enc : TypeId × Value → H} {W : World} {base b0 : Nat} {r : Reach} {spare : Nat → Bool} {held : Bool} {fuel : Nat} {v : Value} {x : DataW H × List MemPlace}
    (hv : Value.okWide Tryz.prog W r b0 29 v) (h : DataW.trod enc Tryz.prog W base spare held fuel 29 v.cells.toList = some x) :
    ∃ (A : Option Addr) (cap : Nat) (l : List (Int × Int × Int)) (U : Option Addr) (kap : Nat) (z : List Int), v = .agg #[.slice A l.length cap, .slice U z.length kap] ∧ l.length ≤ maxLen ∧ z.length ≤ maxLen ∧ WnA W A l ∧ SZ W U z ∧ WnWF l ∧ ZWF z := by
  obtain ⟨cs, rfl, hcs⟩ := okWide_struct Tryz.underlying29 hv
  rw [Tryz.cells29] at hcs
  obtain ⟨y0, y1, n, _, _, h0, h1⟩ := trod_struct2 Tryz.underlying29 h
  obtain ⟨a, b, hab⟩ : ∃ a b, cs = #[a, b] := by
    obtain ⟨ls⟩ := cs
    match ls, hcs with
    | [a, b], _ => exact ⟨a, b, rfl⟩
  subst hab
  simp only [Value.cells, List.drop_zero, Tryz.cells26, Tryz.cells27] at h0 h1
  obtain ⟨A, cap, l, rfl, hl, hA, hwf⟩ := wornpins_of h0
  obtain ⟨U, kap, z, rfl, hz, hU, hzwf⟩ := intsF_of h1
  exact ⟨A, cap, l, U, kap, z, rfl, hl, hz, hA, hU, hwf, hzwf⟩
end Go.Proofs.YtcocfnjbgceidaaGreat
namespace Go.Proofs.YtcocfnjbgceidaaGreat
open Go.ChangeShapes Go.WideShapes Go.ChangeAt Go.RowKit Go.Deep Go.Proofs.YtcocfnjbgceidaaGreat
theorem Tryz.cells59 : Tryz.prog.cellsOf 59 = 2 := by kernel_rfl
set_option maxRecDepth 100000 in
theorem lives_of {H : Type} {enc : TypeId × Value → H} {W : World} {base b0 : Nat} {r : Reach} {spare : Nat → Bool} {held : Bool} {fuel : Nat} {v : Value} {x : DataW H × List MemPlace}
    (hv : Value.okWide Tryz.prog W r b0 59 v) (h : DataW.trod enc Tryz.prog W base spare held fuel 59 v.cells.toList = some x) :
    ∃ (p q : Int), v = .agg #[.int .i64 p, .int .i64 q] ∧ LvWF p q := by
  obtain ⟨cs, rfl, hcs⟩ := okWide_struct Tryz.underlying59 hv
  rw [Tryz.cells59] at hcs
  obtain ⟨y0, y1, n, _, _, h0, h1⟩ := trod_struct2 Tryz.underlying59 h
  obtain ⟨a, b, hab⟩ : ∃ a b, cs = #[a, b] := by
    obtain ⟨ls⟩ := cs
    match ls, hcs with
    | [a, b], _ => exact ⟨a, b, rfl⟩
  subst hab
  simp only [Value.cells, List.drop_zero, Tryz.cells2] at h0 h1
  obtain ⟨p, e0, _, w0⟩ := DataW.trod_int Tryz.underlying2 h0
  obtain ⟨q, e1, _, w1⟩ := DataW.trod_int Tryz.underlying2 h1
  simp at e0 e1
  subst e0 e1
  exact ⟨p, q, rfl, bounds_i64 w0, bounds_i64 w1⟩
end Go.Proofs.YtcocfnjbgceidaaGreat
namespace Go.Proofs.YtcocfnjbgceidaaGreat
open Go.ChangeShapes Go.WideShapes Go.ChangeAt Go.RowKit Go.Deep Go.Joins Go.Proofs.YtcocfnjbgceidaaGreat
theorem cellsSAct : Tryz.prog.cellsOf 53 = 5 := by kernel_rfl
theorem cSActi64 : Tryz.prog.cellsOf 2 = 1 := by kernel_rfl
theorem cSActi8 : Tryz.prog.cellsOf 51 = 1 := by kernel_rfl
theorem trod_struct5 {H : Type} {enc : TypeId × Value → H} {P : Program} {w : World} {base : Nat} {spare : Nat → Bool} {held : Bool} {t : TypeId} {f0 f1 f2 f3 f4 : Field} {fuel : Nat} {cs : List Value} {x : DataW H × List MemPlace} (ht : P.underlying t = some (.struct #[f0, f1, f2, f3, f4])) (h : DataW.trod enc P w base spare held fuel t cs = some x) :
    ∃ y0 y1 y2 y3 y4 n, x = (.agg [y0.1, y1.1, y2.1, y3.1, y4.1], y0.2 ++ (y1.2 ++ (y2.2 ++ (y3.2 ++ y4.2)))) ∧ cs.length = P.cellsOf t ∧ DataW.trod enc P w base spare held n f0.type ((cs.drop f0.offset).take (P.cellsOf f0.type)) = some y0 ∧ DataW.trod enc P w base spare held n f1.type ((cs.drop f1.offset).take (P.cellsOf f1.type)) = some y1 ∧ DataW.trod enc P w base spare held n f2.type ((cs.drop f2.offset).take (P.cellsOf f2.type)) = some y2 ∧ DataW.trod enc P w base spare held n f3.type ((cs.drop f3.offset).take (P.cellsOf f3.type)) = some y3 ∧ DataW.trod enc P w base spare held n f4.type ((cs.drop f4.offset).take (P.cellsOf f4.type)) = some y4 := by
  obtain ⟨xs, n, _, rfl, hl, hlen, hf⟩ := DataW.trod_struct ht h
  match xs, hlen with
  | [y0, y1, y2, y3, y4], _ => exact ⟨y0, y1, y2, y3, y4, n, by simp, hl, by simpa using hf 0 f0 rfl, by simpa using hf 1 f1 rfl, by simpa using hf 2 f2 rfl, by simpa using hf 3 f3 rfl, by simpa using hf 4 f4 rfl⟩
set_option maxRecDepth 100000 in
theorem acts_cells {H : Type} {enc : TypeId × Value → H} {W : World} {base : Nat} {spare : Nat → Bool} {held : Bool} {fuel : Nat} {cs : List Value} {x : DataW H × List MemPlace}
    (hcs : cs.length = 5) (h : DataW.trod enc Tryz.prog W base spare held fuel 53 cs = some x) : ∃ q : Int × Int × Int × Int × Int, cs = [.int .i8 q.1, .int .i64 q.2.1, .int .i64 q.2.2.1, .int .i64 q.2.2.2.1, .int .i64 q.2.2.2.2] ∧ (-128 ≤ q.1 ∧ q.1 ≤ 127) ∧ (-9223372036854775808 ≤ q.2.1 ∧ q.2.1 ≤ 9223372036854775807) ∧ (-9223372036854775808 ≤ q.2.2.1 ∧ q.2.2.1 ≤ 9223372036854775807) ∧ (-9223372036854775808 ≤ q.2.2.2.1 ∧ q.2.2.2.1 ≤ 9223372036854775807) ∧ (-9223372036854775808 ≤ q.2.2.2.2 ∧ q.2.2.2.2 ≤ 9223372036854775807) := by
  obtain ⟨y0, y1, y2, y3, y4, n, _, _, h0, h1, h2, h3, h4⟩ := trod_struct5 Tryz.underlying53 h
  match cs, hcs with
  | [a0, a1, a2, a3, a4], _ =>
    simp only [List.drop_zero, List.drop_succ_cons, List.take_succ_cons, List.take_zero, cSActi64, cSActi8] at h0 h1 h2 h3 h4
    obtain ⟨x0, e0, _, w0⟩ := DataW.trod_int Tryz.underlying51 h0
    obtain ⟨x1, e1, _, w1⟩ := DataW.trod_int Tryz.underlying2 h1
    obtain ⟨x2, e2, _, w2⟩ := DataW.trod_int Tryz.underlying2 h2
    obtain ⟨x3, e3, _, w3⟩ := DataW.trod_int Tryz.underlying2 h3
    obtain ⟨x4, e4, _, w4⟩ := DataW.trod_int Tryz.underlying2 h4
    simp only [List.cons.injEq, and_true] at e0 e1 e2 e3 e4
    subst e0 e1 e2 e3 e4
    exact ⟨(x0, x1, x2, x3, x4), rfl, bounds_i8 w0, bounds_i64 w1, bounds_i64 w2, bounds_i64 w3, bounds_i64 w4⟩
set_option maxRecDepth 100000 in
theorem acts_of {H : Type} {enc : TypeId × Value → H} {W : World} {base b0 : Nat} {r : Reach} {spare : Nat → Bool} {held : Bool} {fuel : Nat} {v : Value} {x : DataW H × List MemPlace}
    (hv : Value.okWide Tryz.prog W r b0 60 v) (h : DataW.trod enc Tryz.prog W base spare held fuel 60 v.cells.toList = some x) :
    ∃ (A : Option Addr) (cap : Nat) (l : List (Int × Int × Int × Int × Int)), v = .slice A l.length cap ∧ l.length ≤ maxLen ∧ AcA W A l ∧ AcWF l := by
  obtain ⟨a0, n0, c0, rfl⟩ := okWide_slice Tryz.underlying60 hv
  rcases open_slice Tryz.underlying60 (by simpa [Value.cells] using h) with ⟨hcs, _⟩ | ⟨a, len, cap, m, n, D, Pl, hcs, _, hl, hm, hmm, _, hi⟩
  · simp at hcs
    obtain ⟨rfl, rfl, rfl⟩ := hcs
    exact ⟨none, 0, [], rfl, by decide, fun k hk => absurd hk (by simp), fun k hk => absurd hk (by simp)⟩
  · simp at hcs
    obtain ⟨rfl, rfl, rfl⟩ := hcs
    have hlm : n0 ≤ m := by rw [hmm]; split <;> omega
    have each : ∀ i, i < m → ∃ q : Int × Int × Int × Int × Int, ((-128 ≤ q.1 ∧ q.1 ≤ 127) ∧ (-9223372036854775808 ≤ q.2.1 ∧ q.2.1 ≤ 9223372036854775807) ∧ (-9223372036854775808 ≤ q.2.2.1 ∧ q.2.2.1 ≤ 9223372036854775807) ∧ (-9223372036854775808 ≤ q.2.2.2.1 ∧ q.2.2.2.1 ≤ 9223372036854775807) ∧ (-9223372036854775808 ≤ q.2.2.2.2 ∧ q.2.2.2.2 ≤ 9223372036854775807)) ∧ W.cell? ((a.add (i * 5)).add 0) = some (.int .i8 q.1) ∧ W.cell? ((a.add (i * 5)).add 1) = some (.int .i64 q.2.1) ∧ W.cell? ((a.add (i * 5)).add 2) = some (.int .i64 q.2.2.1) ∧ W.cell? ((a.add (i * 5)).add 3) = some (.int .i64 q.2.2.2.1) ∧ W.cell? ((a.add (i * 5)).add 4) = some (.int .i64 q.2.2.2.2) := by
      intro i him
      obtain ⟨cs', h1, h2⟩ := hi i him
      rw [cellsSAct] at h1
      obtain ⟨_, hlen, hcell⟩ := World.cells?_some h1
      obtain ⟨q, rfl, hq⟩ := acts_cells hlen h2
      exact ⟨q, hq, hcell 0 (by omega), hcell 1 (by omega), hcell 2 (by omega), hcell 3 (by omega), hcell 4 (by omega)⟩
    obtain ⟨Q, hQ⟩ := choose_lt (α := Int × Int × Int × Int × Int) (p := fun i q => ((-128 ≤ q.1 ∧ q.1 ≤ 127) ∧ (-9223372036854775808 ≤ q.2.1 ∧ q.2.1 ≤ 9223372036854775807) ∧ (-9223372036854775808 ≤ q.2.2.1 ∧ q.2.2.1 ≤ 9223372036854775807) ∧ (-9223372036854775808 ≤ q.2.2.2.1 ∧ q.2.2.2.1 ≤ 9223372036854775807) ∧ (-9223372036854775808 ≤ q.2.2.2.2 ∧ q.2.2.2.2 ≤ 9223372036854775807)) ∧ W.cell? ((a.add (i * 5)).add 0) = some (.int .i8 q.1) ∧ W.cell? ((a.add (i * 5)).add 1) = some (.int .i64 q.2.1) ∧ W.cell? ((a.add (i * 5)).add 2) = some (.int .i64 q.2.2.1) ∧ W.cell? ((a.add (i * 5)).add 3) = some (.int .i64 q.2.2.2.1) ∧ W.cell? ((a.add (i * 5)).add 4) = some (.int .i64 q.2.2.2.2)) each
    have hget : ∀ k, k < n0 → ((List.range n0).map Q).getD k (0, 0, 0, 0, 0) = Q k := fun k hk => by simp [List.getD, hk]
    refine ⟨some a, c0, (List.range n0).map Q, by simp, by simp; omega, ?_, ?_⟩
    · intro k hk
      have hk' : k < n0 := by simpa using hk
      obtain ⟨b, off, spot⟩ := a
      have z0 := (hQ 0 (by omega)).2.1
      have hspot : spot = none := by simpa [Addr.add] using World.cell?_spot z0
      subst hspot
      have hlt := World.block_lt_of_cell? W _ z0
      obtain ⟨_, c1, c2, c3, c4, c5⟩ := hQ k (by omega)
      rw [Addr.add_lit, Addr.add_lit] at c1 c2 c3 c4 c5
      refine ⟨b, off, rfl, by simpa [Addr.add] using hlt, ?_, ?_, ?_, ?_, ?_⟩
      · rw [qaK, hget k hk']; exact c1
      · rw [qaA, hget k hk']; exact c2
      · rw [qaB, hget k hk']; exact c3
      · rw [qaE, hget k hk']; exact c4
      · rw [qaD, hget k hk']; exact c5
    · intro k hk
      have hk' : k < n0 := by simpa using hk
      rw [qaK, qaA, qaB, qaE, qaD, hget k hk']
      exact (hQ k (by omega)).1
end Go.Proofs.YtcocfnjbgceidaaGreat
