import Derived.Test.YtncdgjaadlpncaaDoorApl
import Derived.Test.YtncdgjaadlpncaaDoorOpenD
namespace Go.Proofs.YtncdgjaadlpncaaDoor
open Go.ChangeShapes Go.WideShapes Go.ChangeAt Go.RowKit Go.Deep
/-- the seven errors lie somewhere -/
def ErrW (w : World) : Prop := ∃ p, ErrP p w
theorem ErrW.keep {w w' : World} (h : ErrW w) (hb : Below w.heap.size w w') : ErrW w' := let ⟨p, hp⟩ := h; ⟨p, hp.keep hb⟩
theorem implApplyMoves_e (s : Int) (A : Option Addr) (c : Nat) (l : List (Int × Int)) (d : Nat → Int) (A1 : Option Addr) (n1 c1 : Nat) (zs1 : List Int) (A2 : Option Addr) (n2 c2 : Nat) (zs2 : List Int) (w : World) (hA : HA w A l) (hn : l.length ≤ 1048576) (hwf : HWF l) (hs : -32768 ≤ s ∧ s ≤ 32767) (hd : DWF d) (h1 : SA w w.heap.size A1 n1 zs1) (hn1 : n1 ≤ 1048576) (h2 : SA w w.heap.size A2 n2 zs2) (hn2 : n2 ≤ 1048576) (hE : ErrW w) :
    Calls Tryd.prog 12 #[.agg #[.int .i16 s, .slice A l.length c], .agg (da d), .slice A1 n1 c1, .slice A2 n2 c2] w (DrC (amX s l d zs1 n1 zs2 n2).1 (amX s l d zs1 n1 zs2 n2).2 w) :=
  let ⟨p, hp⟩ := hE
  implApplyMoves_any p s A c l d A1 n1 c1 zs1 A2 n2 c2 zs2 w hA hn hwf hs hd h1 hn1 h2 hn2 hp
theorem toInt64A2S_ex (A : Option Addr) (n c : Nat) (zs : List Int) (w : World) (hA : SO w A n zs) (hz : zs.length = n * 2) (hn : n ≤ 1048576) :
    Calls Tryd.prog 11 #[.slice A n c] w fun e w' => ∃ g : Nat, e = .returned (.slice (some ⟨g, 0, none⟩) n n) ∧ w.heap.size ≤ g ∧ w'.ownsRow w.heap.size 59 2 (.slice (some ⟨g, 0, none⟩) n n) n (icells zs) ∧ Below w.heap.size w w' :=
  (toInt64A2S_any A n c zs w hA hz hn).mono fun _ _ h => ⟨w.heap.size, h.1, Nat.le_refl _, h.2⟩
theorem cellsQ : Tryd.prog.cellsOf 59 = 2 := by kernel_rfl
theorem cellsI : Tryd.prog.cellsOf 2 = 1 := by kernel_rfl
set_option maxRecDepth 100000 in
theorem pairs_of {H : Type} {enc : TypeId × Value → H} {W : World} {base b0 : Nat} {r : Reach} {spare : Nat → Bool} {held : Bool} {fuel : Nat} {v : Value} {x : DataW H × List MemPlace}
    (hv : Value.okWide Tryd.prog W r b0 28 v) (h : DataW.trod enc Tryd.prog W base spare held fuel 28 v.cells.toList = some x) :
    ∃ (A : Option Addr) (n cap : Nat) (zs : List Int), v = .slice A n cap ∧ n ≤ maxLen ∧ SO W A n zs ∧ zs.length = n * 2 := by
  obtain ⟨a0, n0, c0, rfl⟩ := okWide_slice Tryd.underlying28 hv
  rcases open_slice Tryd.underlying28 (by simpa [Value.cells] using h) with ⟨hcs, _⟩ | ⟨a, len, cap, m, n, D, Pl, hcs, _, hl, hm, hmm, _, hi⟩
  · simp at hcs
    obtain ⟨rfl, rfl, rfl⟩ := hcs
    exact ⟨none, 0, 0, [], rfl, by decide, fun k hk => absurd hk (by simp), rfl⟩
  · simp at hcs
    obtain ⟨rfl, rfl, rfl⟩ := hcs
    have hlm : n0 ≤ m := by rw [hmm]; split <;> omega
    have each : ∀ i, i < m → ∃ q : Int × Int, W.cell? ((a.add (i * 2)).add 0) = some (.int .i64 q.1) ∧ W.cell? ((a.add (i * 2)).add 1) = some (.int .i64 q.2) := by
      intro i him
      obtain ⟨cs', h1, h2⟩ := hi i him
      rw [cellsQ] at h1
      obtain ⟨_, hlen, hcell⟩ := World.cells?_some h1
      obtain ⟨xs, k, _, _, _, hxl, hel⟩ := DataW.trod_array Tryd.underlying59 h2
      have g0 := hel 0 (by omega)
      have g1 := hel 1 (by omega)
      rw [cellsI, List.getElem?_eq_getElem (by omega)] at g0 g1
      match cs', hlen with
      | [u, v], _ =>
        obtain ⟨z0, e0, _⟩ := DataW.trod_int Tryd.underlying2 g0
        obtain ⟨z1, e1, _⟩ := DataW.trod_int Tryd.underlying2 g1
        simp at e0 e1
        subst e0 e1
        exact ⟨(z0, z1), hcell 0 (by omega), hcell 1 (by omega)⟩
    obtain ⟨Q, hQ⟩ := choose_lt (α := Int × Int) (p := fun i q => W.cell? ((a.add (i * 2)).add 0) = some (.int .i64 q.1) ∧ W.cell? ((a.add (i * 2)).add 1) = some (.int .i64 q.2)) each
    refine ⟨some a, n0, c0, (List.range (n0 * 2)).map (fun i => if i % 2 = 0 then (Q (i / 2)).1 else (Q (i / 2)).2), rfl, by omega, ?_, by simp⟩
    intro k hk
    obtain ⟨b, off, spot⟩ := a
    have z0 := (hQ 0 (by omega)).1
    have hspot : spot = none := by simpa [Addr.add] using World.cell?_spot z0
    subst hspot
    have hlt := World.block_lt_of_cell? W _ z0
    obtain ⟨c1, c2⟩ := hQ k (by omega)
    rw [Addr.add_lit, Addr.add_lit] at c1 c2
    refine ⟨b, off, rfl, by simpa [Addr.add] using hlt, ?_, ?_⟩
    · rw [Nat.add_zero] at c1
      rw [c1]
      simp [zAt, show k * 2 < n0 * 2 by omega]
    · rw [c2]
      simp [zAt, show k * 2 + 1 < n0 * 2 by omega, show (k * 2 + 1) % 2 = 1 by omega, show (k * 2 + 1) / 2 = k by omega]
end Go.Proofs.YtncdgjaadlpncaaDoor
