import Derived.Test.YtcepjiglhlmgdaaGreatDoorCod
import Derived.Stop.LaidTwo
import Derived.Stop.LaidErr
import Derived.Stop.JoinedAt
import Derived.ProofKit
import Derived.Test.YtcepjiglhlmgdaaGreatDoorRows
import Derived.Test.YtcepjiglhlmgdaaGreatDoorGbr
import Derived.Test.YtcepjiglhlmgdaaGreatDoorGbn
namespace Go.Proofs.YtcepjiglhlmgdaaGreatDoor
open Go.ChangeShapes Go.WideShapes Go.ChangeAt Go.RowKit Go.Kit
open Go.Extern.Stop Go.Stop Go.Extern

abbrev erL : List (String × DataW Unit) := [("loop.example/g01311/impl.errInvalid", Rows.laid_loop_example_g01311_impl_errInvalid), ("loop.example/g01311/impl.errRange", Rows.laid_loop_example_g01311_impl_errRange), ("loop.example/g01311/impl.errLimit", Rows.laid_loop_example_g01311_impl_errLimit), ("loop.example/g01311/impl.errState", Rows.laid_loop_example_g01311_impl_errState), ("loop.example/g01311/impl.errNotFound", Rows.laid_loop_example_g01311_impl_errNotFound), ("loop.example/g01311/impl.errBudget", Rows.laid_loop_example_g01311_impl_errBudget), ("loop.example/g01311/impl.errProof", Rows.laid_loop_example_g01311_impl_errProof)]
theorem erStar : "*errors.errorString" = String.singleton '*' ++ "errors.errorString" := by decide
theorem erRow (u : TypeId) (h : Tryz.prog.typeName? 3 u = some "*errors.errorString") : u = 175 :=
  typeName_ptr_named (nm := "errors.errorString") (by kernel_rfl) (by kernel_rfl) (by decide) u h
theorem erG0 : Tryz.prog.globalNamed "loop.example/g01311/impl.errInvalid" = some 0 := by kernel_rfl
theorem erG1 : Tryz.prog.globalNamed "loop.example/g01311/impl.errRange" = some 2 := by kernel_rfl
theorem erG2 : Tryz.prog.globalNamed "loop.example/g01311/impl.errLimit" = some 3 := by kernel_rfl
theorem erG3 : Tryz.prog.globalNamed "loop.example/g01311/impl.errState" = some 4 := by kernel_rfl
theorem erG4 : Tryz.prog.globalNamed "loop.example/g01311/impl.errNotFound" = some 5 := by kernel_rfl
theorem erG5 : Tryz.prog.globalNamed "loop.example/g01311/impl.errBudget" = some 6 := by kernel_rfl
theorem erG6 : Tryz.prog.globalNamed "loop.example/g01311/impl.errProof" = some 7 := by kernel_rfl
set_option maxRecDepth 20000 in
set_option maxHeartbeats 2000000 in
/-- what a row that lists the seven errors gives -/
theorem err_of_laid {W : World} (h : laidMet Tryz.prog erL W) : ∃ p, ErrP p W := by
  obtain ⟨a0, a1, s0, s1, c0, c1, t0, t1, hv0, hv1, hc0, hs0, -, hc1, hs1, -, -, hb0, hb1⟩ := laid_sentinels2 h erG0 (by kernel_rfl) erG1 (by kernel_rfl) Tryz.underlying67 erRow Tryz.underlying175 Tryz.underlying199 rfl rfl Tryz.underlying9 (by kernel_rfl) (by kernel_rfl)
  obtain ⟨a2, a3, s2, s3, c2, c3, t2, t3, hv2, hv3, hc2, hs2, -, hc3, hs3, -, -, hb2, hb3⟩ := laid_sentinels2 h.tail.tail erG2 (by kernel_rfl) erG3 (by kernel_rfl) Tryz.underlying67 erRow Tryz.underlying175 Tryz.underlying199 rfl rfl Tryz.underlying9 (by kernel_rfl) (by kernel_rfl)
  obtain ⟨a4, a5, s4, s5, c4, c5, t4, t5, hv4, hv5, hc4, hs4, -, hc5, hs5, -, -, hb4, hb5⟩ := laid_sentinels2 h.tail.tail.tail.tail erG4 (by kernel_rfl) erG5 (by kernel_rfl) Tryz.underlying67 erRow Tryz.underlying175 Tryz.underlying199 rfl rfl Tryz.underlying9 (by kernel_rfl) (by kernel_rfl)
  obtain ⟨a5', a6, s5', s6, c5', c6, t5', t6, hv5', hv6, hc5', hs5', -, hc6, hs6, -, -, hb5', hb6⟩ := laid_sentinels2 h.tail.tail.tail.tail.tail erG5 (by kernel_rfl) erG6 (by kernel_rfl) Tryz.underlying67 erRow Tryz.underlying175 Tryz.underlying199 rfl rfl Tryz.underlying9 (by kernel_rfl) (by kernel_rfl)
  have g0 := World.var?_cell erG0 hv0 0
  have g1 := World.var?_cell erG1 hv1 0
  have g2 := World.var?_cell erG2 hv2 0
  have g3 := World.var?_cell erG3 hv3 0
  have g4 := World.var?_cell erG4 hv4 0
  have g5 := World.var?_cell erG5 hv5 0
  have g6 := World.var?_cell erG6 hv6 0
  refine ⟨fun | 0 => a0 | 1 => a1 | 2 => a2 | 3 => a3 | 4 => a4 | 5 => a5 | _ => a6, ?_, ?_, ?_⟩
  · intro i hi
    match i, hi with
    | 0, _ => exact g0
    | 1, _ => exact g1
    | 2, _ => exact g2
    | 3, _ => exact g3
    | 4, _ => exact g4
    | 5, _ => exact g5
    | 6, _ => exact g6
  · intro i hi
    match i, hi with
    | 0, _ => exact ⟨c0, t0, hb0⟩
    | 1, _ => exact ⟨c1, t1, hb1⟩
    | 2, _ => exact ⟨c2, t2, hb2⟩
    | 3, _ => exact ⟨c3, t3, hb3⟩
    | 4, _ => exact ⟨c4, t4, hb4⟩
    | 5, _ => exact ⟨c5, t5, hb5⟩
    | 6, _ => exact ⟨c6, t6, hb6⟩
  · have key : ∀ (a b : Addr) (s s' : ByteArray) (x y : List UInt8), W.cell? a = some (.string s) → s.data.toList = x → W.cell? b = some (.string s') → s'.data.toList = y → x ≠ y → a ≠ b := by
      intro a b s s' x y h1 h2 h3 h4 hne e
      subst e
      rw [h1] at h3
      simp only [Option.some.injEq, Value.string.injEq] at h3
      subst h3
      exact hne (h2.symm.trans h4)
    intro i j hi hj hne
    match i, hi, j, hj, hne with
    | 0, _, 1, _, _ => exact key a0 a1 s0 s1 _ _ hc0 hs0 hc1 hs1 (by decide)
    | 0, _, 2, _, _ => exact key a0 a2 s0 s2 _ _ hc0 hs0 hc2 hs2 (by decide)
    | 0, _, 3, _, _ => exact key a0 a3 s0 s3 _ _ hc0 hs0 hc3 hs3 (by decide)
    | 0, _, 4, _, _ => exact key a0 a4 s0 s4 _ _ hc0 hs0 hc4 hs4 (by decide)
    | 0, _, 5, _, _ => exact key a0 a5 s0 s5 _ _ hc0 hs0 hc5 hs5 (by decide)
    | 0, _, 6, _, _ => exact key a0 a6 s0 s6 _ _ hc0 hs0 hc6 hs6 (by decide)
    | 1, _, 0, _, _ => exact key a1 a0 s1 s0 _ _ hc1 hs1 hc0 hs0 (by decide)
    | 1, _, 2, _, _ => exact key a1 a2 s1 s2 _ _ hc1 hs1 hc2 hs2 (by decide)
    | 1, _, 3, _, _ => exact key a1 a3 s1 s3 _ _ hc1 hs1 hc3 hs3 (by decide)
    | 1, _, 4, _, _ => exact key a1 a4 s1 s4 _ _ hc1 hs1 hc4 hs4 (by decide)
    | 1, _, 5, _, _ => exact key a1 a5 s1 s5 _ _ hc1 hs1 hc5 hs5 (by decide)
    | 1, _, 6, _, _ => exact key a1 a6 s1 s6 _ _ hc1 hs1 hc6 hs6 (by decide)
    | 2, _, 0, _, _ => exact key a2 a0 s2 s0 _ _ hc2 hs2 hc0 hs0 (by decide)
    | 2, _, 1, _, _ => exact key a2 a1 s2 s1 _ _ hc2 hs2 hc1 hs1 (by decide)
    | 2, _, 3, _, _ => exact key a2 a3 s2 s3 _ _ hc2 hs2 hc3 hs3 (by decide)
    | 2, _, 4, _, _ => exact key a2 a4 s2 s4 _ _ hc2 hs2 hc4 hs4 (by decide)
    | 2, _, 5, _, _ => exact key a2 a5 s2 s5 _ _ hc2 hs2 hc5 hs5 (by decide)
    | 2, _, 6, _, _ => exact key a2 a6 s2 s6 _ _ hc2 hs2 hc6 hs6 (by decide)
    | 3, _, 0, _, _ => exact key a3 a0 s3 s0 _ _ hc3 hs3 hc0 hs0 (by decide)
    | 3, _, 1, _, _ => exact key a3 a1 s3 s1 _ _ hc3 hs3 hc1 hs1 (by decide)
    | 3, _, 2, _, _ => exact key a3 a2 s3 s2 _ _ hc3 hs3 hc2 hs2 (by decide)
    | 3, _, 4, _, _ => exact key a3 a4 s3 s4 _ _ hc3 hs3 hc4 hs4 (by decide)
    | 3, _, 5, _, _ => exact key a3 a5 s3 s5 _ _ hc3 hs3 hc5 hs5 (by decide)
    | 3, _, 6, _, _ => exact key a3 a6 s3 s6 _ _ hc3 hs3 hc6 hs6 (by decide)
    | 4, _, 0, _, _ => exact key a4 a0 s4 s0 _ _ hc4 hs4 hc0 hs0 (by decide)
    | 4, _, 1, _, _ => exact key a4 a1 s4 s1 _ _ hc4 hs4 hc1 hs1 (by decide)
    | 4, _, 2, _, _ => exact key a4 a2 s4 s2 _ _ hc4 hs4 hc2 hs2 (by decide)
    | 4, _, 3, _, _ => exact key a4 a3 s4 s3 _ _ hc4 hs4 hc3 hs3 (by decide)
    | 4, _, 5, _, _ => exact key a4 a5 s4 s5 _ _ hc4 hs4 hc5 hs5 (by decide)
    | 4, _, 6, _, _ => exact key a4 a6 s4 s6 _ _ hc4 hs4 hc6 hs6 (by decide)
    | 5, _, 0, _, _ => exact key a5 a0 s5 s0 _ _ hc5 hs5 hc0 hs0 (by decide)
    | 5, _, 1, _, _ => exact key a5 a1 s5 s1 _ _ hc5 hs5 hc1 hs1 (by decide)
    | 5, _, 2, _, _ => exact key a5 a2 s5 s2 _ _ hc5 hs5 hc2 hs2 (by decide)
    | 5, _, 3, _, _ => exact key a5 a3 s5 s3 _ _ hc5 hs5 hc3 hs3 (by decide)
    | 5, _, 4, _, _ => exact key a5 a4 s5 s4 _ _ hc5 hs5 hc4 hs4 (by decide)
    | 5, _, 6, _, _ => exact key a5 a6 s5 s6 _ _ hc5 hs5 hc6 hs6 (by decide)
    | 6, _, 0, _, _ => exact key a6 a0 s6 s0 _ _ hc6 hs6 hc0 hs0 (by decide)
    | 6, _, 1, _, _ => exact key a6 a1 s6 s1 _ _ hc6 hs6 hc1 hs1 (by decide)
    | 6, _, 2, _, _ => exact key a6 a2 s6 s2 _ _ hc6 hs6 hc2 hs2 (by decide)
    | 6, _, 3, _, _ => exact key a6 a3 s6 s3 _ _ hc6 hs6 hc3 hs3 (by decide)
    | 6, _, 4, _, _ => exact key a6 a4 s6 s4 _ _ hc6 hs6 hc4 hs4 (by decide)
    | 6, _, 5, _, _ => exact key a6 a5 s6 s5 _ _ hc6 hs6 hc5 hs5 (by decide)
    | 0, _, 0, _, h => exact (h rfl).elim
    | 1, _, 1, _, h => exact (h rfl).elim
    | 2, _, 2, _, h => exact (h rfl).elim
    | 3, _, 3, _, h => exact (h rfl).elim
    | 4, _, 4, _, h => exact (h rfl).elim
    | 5, _, 5, _, h => exact (h rfl).elim
    | 6, _, 6, _, h => exact (h rfl).elim
end Go.Proofs.YtcepjiglhlmgdaaGreatDoor
namespace Go.Proofs.YtcepjiglhlmgdaaGreatDoor
open Go.RowKit

/-- the drum behind the first k places, each of which must have (b) or not have a pin -/
def amF (zs : List Int) (b : Bool) (d : Nat → Int) : Nat → Option (Nat → Int)
  | 0 => some d
  | k + 1 => match amF zs b d k with
    | none => none
    | some q => if pinB q (zAt zs (k * 2)).toNat (zAt zs (k * 2 + 1)).toNat = b then some (togD q (zAt zs (k * 2)).toNat (zAt zs (k * 2 + 1)).toNat) else none
theorem amF_succ {zs : List Int} {b : Bool} {d q : Nat → Int} {k : Nat} (h : amF zs b d k = some q) : amF zs b d (k + 1) = if pinB q (zAt zs (k * 2)).toNat (zAt zs (k * 2 + 1)).toNat = b then some (togD q (zAt zs (k * 2)).toNat (zAt zs (k * 2 + 1)).toNat) else none := by
  simp only [amF, h]
theorem amF_none {zs : List Int} {b : Bool} {d : Nat → Int} {k : Nat} (h : amF zs b d k = none) : ∀ n, k ≤ n → amF zs b d n = none
  | 0, hn => by
    obtain rfl : k = 0 := by omega
    exact h
  | n + 1, hn => by
    by_cases e : k = n + 1
    · rw [← e]; exact h
    · have := amF_none h n (by omega)
      simp only [amF, this]
theorem amF_wf {zs : List Int} {b : Bool} {d : Nat → Int} (hd : DWF d) : ∀ {k : Nat} {q : Nat → Int}, amF zs b d k = some q → DWF q
  | 0, q, h => by
    simp only [amF, Option.some.injEq] at h
    rw [← h]; exact hd
  | k + 1, q, h => by
    cases hk : amF zs b d k with
    | none => simp only [amF, hk] at h; cases h
    | some q' =>
      rw [amF_succ hk] at h
      split at h
      · simp only [Option.some.injEq] at h
        rw [← h]
        exact tog_wf (amF_wf hd hk) _ _
      · cases h
/-- what toggledAll hands back -/
def TgA (p : Nat → Addr) (r : Option (Nat → Int)) (w : World) (e : Ending) (w' : World) : Prop := (match r with | some q => e = .returned (.tuple #[.agg (da q), .nilIface]) | none => e = .returned (.tuple #[.agg (da fun _ => 0), erV (p 3)])) ∧ Below w.heap.size w w'

end Go.Proofs.YtcepjiglhlmgdaaGreatDoor
namespace Go.Proofs.YtcepjiglhlmgdaaGreatDoor
open Go.RowKit

theorem own_nil' {w : World} {base : Nat} : w.ownsRow base 2 1 (.slice none 0 0) 0 [] := ⟨rfl, Or.inl ⟨rfl, rfl⟩⟩

end Go.Proofs.YtcepjiglhlmgdaaGreatDoor
namespace Go.Proofs.YtcepjiglhlmgdaaGreatDoor
open Go.RowKit

/-- the drum and the code of ApplyMoves -/
def amX (s : Int) (l : List (Int × Int)) (d : Nat → Int) (zs1 : List Int) (n1 : Nat) (zs2 : List Int) (n2 : Nat) : (Nat → Int) × Int :=
  if askB s l d then (if thB s l.length zs1 n1 && thB s l.length zs2 n2 then (match amF zs1 true d n1 with | none => (fun _ => 0, 4) | some q => match amF zs2 false q n2 with | none => (fun _ => 0, 4) | some r => (r, 0)) else (fun _ => 0, 2)) else (fun _ => 0, 1)
theorem amX_none {s : Int} {l : List (Int × Int)} {d : Nat → Int} {zs1 zs2 : List Int} {n1 n2 : Nat} (ha : askB s l d = true) (h1 : thB s l.length zs1 n1 = true) (h2 : thB s l.length zs2 n2 = true) (hq : amF zs1 true d n1 = none) : amX s l d zs1 n1 zs2 n2 = (fun _ => 0, 4) := by
  simp [amX, ha, h1, h2, hq]
theorem amX_none2 {s : Int} {l : List (Int × Int)} {d q : Nat → Int} {zs1 zs2 : List Int} {n1 n2 : Nat} (ha : askB s l d = true) (h1 : thB s l.length zs1 n1 = true) (h2 : thB s l.length zs2 n2 = true) (hq : amF zs1 true d n1 = some q) (hr : amF zs2 false q n2 = none) : amX s l d zs1 n1 zs2 n2 = (fun _ => 0, 4) := by
  simp [amX, ha, h1, h2, hq, hr]
theorem amX_some {s : Int} {l : List (Int × Int)} {d q r : Nat → Int} {zs1 zs2 : List Int} {n1 n2 : Nat} (ha : askB s l d = true) (h1 : thB s l.length zs1 n1 = true) (h2 : thB s l.length zs2 n2 = true) (hq : amF zs1 true d n1 = some q) (hr : amF zs2 false q n2 = some r) : amX s l d zs1 n1 zs2 n2 = (r, 0) := by
  simp [amX, ha, h1, h2, hq, hr]
theorem thB_all {s : Int} {m n : Nat} {zs : List Int} (h : thB s m zs n = true) : ∀ k, k < n → plB s m (zAt zs (k * 2)) (zAt zs (k * 2 + 1)) = true := by
  simp only [thB, List.all_eq_true, List.mem_range] at h
  exact h
theorem pow_mod (t : Nat) (ht : t < 32) : (2 : Int) ^ t % 4294967296 = (2 : Int) ^ t := (pow_nat t ht).trans (by push_cast; rfl)
theorem and_pow_eq {d : Nat → Int} {k t : Nat} (h0 : 0 ≤ d k) (h1 : d k ≤ 4294967295) (ht : t < 32) : (bits .and .u32 (d k) ((2 : Int) ^ t) == 0) = !pinB d k t := by
  rw [← and_pow_ne h0 h1 ht]
  simp [bne]

end Go.Proofs.YtcepjiglhlmgdaaGreatDoor
namespace Go.Proofs.YtcepjiglhlmgdaaGreatDoor
open Go.RowKit

end Go.Proofs.YtcepjiglhlmgdaaGreatDoor
