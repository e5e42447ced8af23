import Derived.Test.YtakdnmakgblamaaOpn
import Derived.Test.YtakdnmakgblamaaSzi
namespace Go.Proofs.Ytakdnmakgblamaa
open Go.ChangeShapes Go.WideShapes Go.ChangeAt Go.RowKit Go.Deep Go.Proofs.Ytakdnmakgblamaa
set_option maxRecDepth 20000 in
theorem ints_of {H : Type} {enc : TypeId × Value → H} {W : World} {base b0 : Nat} {r : Reach} {spare : Nat → Bool} {held : Bool} {fuel : Nat} {v : Value} {x : DataW H × List MemPlace}
    (hv : Value.okWide Try.prog W r b0 33 v) (h : DataW.trod enc Try.prog W base spare held fuel 33 v.cells.toList = some x) :
    ∃ (A : Option Addr) (cap : Nat) (zs : List Int), v = .slice A zs.length cap ∧ zs.length ≤ maxLen ∧ SZ W A zs ∧ ZWF zs := by
  obtain ⟨a0, n0, c0, rfl⟩ := okWide_slice Try.underlying33 hv
  rcases open_ints Try.underlying33 Try.underlying2 Try.cells2 (by simpa [Value.cells] using h) with ⟨hcs, _⟩ | ⟨a, len, cap, zs, hcs, _, hl, hm, hzl, _, hi, hw⟩
  · simp at hcs
    obtain ⟨rfl, rfl, rfl⟩ := hcs
    exact ⟨none, 0, [], rfl, by decide, fun k hk => absurd hk (by simp), fun k hk => absurd hk (by simp)⟩
  · simp at hcs
    obtain ⟨rfl, rfl, rfl⟩ := hcs
    have hlm : n0 ≤ zs.length := by rw [hzl]; split <;> omega
    have hlen : (zs.take n0).length = n0 := by simp; omega
    have hget : ∀ k, k < n0 → zAt (zs.take n0) k = zs.getD k 0 := fun k hk => by simp [zAt, List.getD, List.getElem?_take, hk]
    refine ⟨some a, c0, zs.take n0, by rw [hlen], by rw [hlen]; omega, ?_, ?_⟩
    · intro k hk
      rw [hlen] at hk
      have c1 := hi k (by omega)
      have z0 := hi 0 (by omega)
      obtain ⟨b, off, spot⟩ := a
      have hspot : spot = none := by simpa [Addr.add] using World.cell?_spot z0
      subst hspot
      have hlt := World.block_lt_of_cell? W _ z0
      refine ⟨b, off, rfl, by simpa [Addr.add] using hlt, ?_⟩
      rw [Addr.add_lit] at c1
      rw [c1, hget k hk]
    · intro k hk
      rw [hlen] at hk
      rw [hget k hk]
      have hmem : zs.getD k 0 ∈ zs := by
        have : k < zs.length := by omega
        simp [List.getD, this]
      have hw1 := hw _ hmem
      exact bounds_i64 hw1
end Go.Proofs.Ytakdnmakgblamaa
