import Derived.Test.YtehcghaficbhiaaWt
import Derived.Lib.AppendZeros
import Derived.IntWalk
namespace Go.Proofs.Ytehcghaficbhiaa
open Go.RowKit
theorem ownH_of {w w' : World} (A : Option Addr) (c n : Nat) (l : List (Int × Int)) (hn : n = l.length) (h : w'.ownsRow w.heap.size 49 2 (.slice A n c) n (hcells l)) (hb : Below w.heap.size w w') : OwnH w l (.returned (.slice A n c)) w' := by
  subst hn
  exact ⟨A, c, rfl, h, hb⟩
def OwnZH (w : World) (e : Ending) (w' : World) : Prop := ∃ (C : Option Addr) (q : Nat), e = .returned (.slice C 0 q) ∧ w'.ownsRow w.heap.size 49 2 (.slice C 0 q) 0 [] ∧ Below w.heap.size w w'
set_option maxRecDepth 20000 in
set_option maxHeartbeats 1000000 in
theorem growH_any (n : Nat) (w : World) (hn : n ≤ 4194304) :
    Calls Try.prog 46 #[.slice none 0 0, .int .i64 n] w (OwnZH w) := by
  obtain ⟨i0, hi, hz0, hz1, hz2⟩ := info_parts info49
  rcases Nat.eq_zero_or_pos n with rfl | h0
  · go_enter Try.func46, Try.ntmps46
    go_wp2
    go_ret
    exact ⟨none, 0, rfl, World.ownsRow_nil _ _ _ _, Below.refl _ _⟩
  · obtain ⟨G, hG⟩ : ∃ G, G = grownCap w n 0 49 := ⟨_, rfl⟩
    obtain ⟨Z, hZ⟩ : ∃ Z, Z = Builtin.zeroCells (Value.agg #[.int .i8 0, .int .i8 0]).cells n ++ Builtin.zeroCells (Value.agg #[.int .i8 0, .int .i8 0]).cells (G - n) := ⟨_, rfl⟩
    have hGn : n ≤ G := by rw [hG]; exact grownCap_ge _ _ _ _
    have hGm : G ≤ maxLen := by rw [hG]; exact grownCap_le_maxLen _ _ _ _ (by unfold maxLen; omega)
    have hZs : Z.size = G * 2 := by
      rw [hZ]
      simp only [Array.size_append, size_zeroCells]
      show n * 2 + (G - n) * 2 = G * 2
      omega
    have hrz : ∀ ty, (Builtin.append_ #[29, 3] ty #[.slice none 0 0, .int .i64 n]).run Try.prog w = .ok (.slice (some ⟨w.heap.size, 0, none⟩) n G) (w.drew.alloc (.cells Z 49)) := fun ty => by
      rw [hZ, hG]
      exact Lib.run_append_nil_zeros w 29 3 ty 49 i0 (.agg #[.int .i8 0, .int .i8 0]) .i64 .i64 Try.underlying29 Try.underlying3 hi hz0 n h0 (by omega) (by omega) (by rw [hz2]; omega)
    have hb : Below w.heap.size w (w.drew.alloc (.cells Z 49)) := (Below.refl _ _).drew.alloc (Nat.le_refl _) _
    have hown : (w.drew.alloc (.cells Z 49)).ownsRow w.heap.size 49 2 (.slice (some ⟨w.heap.size, 0, none⟩) 0 G) 0 [] := World.ownsRow_made w.drew Z G (Nat.le_refl _) hGm hZs
    have hGi : (G : Int) ≤ 9223372036854775807 := by unfold maxLen at hGm; omega
    have h1 : ¬ ((n : Int) < 0) := by omega
    have h4 : (0 : Int) < (n : Int) := by omega
    clear hG hZ hZs
    go_enter Try.func46, Try.ntmps46
    go_wp2_with (at_builtin; refine Lib.wpList_append_run _ rfl _ _ _ _ rfl _ _ rfl rfl _ _ (hrz _) ?_)
    all_goals (go_ret; exact ⟨_, _, rfl, hown, hb⟩)
set_option maxRecDepth 20000 in
set_option maxHeartbeats 4000000 in
theorem concatH_any (g : Nat) (A : Option Addr) (c : Nat) (l : List (Int × Int)) (B : Option Addr) (d : Nat) (m : List (Int × Int)) (w : World) (hg : w.cell? ⟨g, 0, none⟩ = some (.slice A l.length c)) (hg1 : w.cell? ⟨g, 1, none⟩ = some (.slice B m.length d)) (hgs : g < w.heap.size)
    (hA : HA w A l) (hB : HA w B m) (hl : l.length ≤ 1048576) (hm : m.length ≤ 1048576) :
    Calls Try.prog 42 #[.slice (some ⟨g, 0, none⟩) 2 2] w (OwnH w (l ++ m)) := by
  obtain ⟨i0, hi, hz0, hz1, hz2⟩ := info_parts info49
  have KG : ∀ W, Below w.heap.size w W → Calls Try.prog 46 #[.slice none 0 0, .int .i64 ((l.length : Int) + (m.length : Int))] W (OwnZH W) := fun W _ => by
    have h := growH_any (l.length + m.length) W (by omega)
    rwa [Int.natCast_add] at h
  have hw1 : IntKind.i64.wrap (l.length : Int) = l.length := IntWalk.i64_in _ (by omega)
  have hw2 : IntKind.i64.wrap ((l.length : Int) + (m.length : Int)) = (l.length : Int) + (m.length : Int) := IntWalk.i64_in _ (by omega)
  have hn1 : ¬ ((l.length : Int) < 0) := by omega
  have hn2 : ¬ ((l.length : Int) + (m.length : Int) < 0) := by omega
  go_enter Try.func42, Try.ntmps42
  go_wp2_with fail
  go_loopw [3, 11] (fun s i wr => ((i = .int .i64 0 ∧ s = .int .i64 0) ∨ (i = .int .i64 1 ∧ s = .int .i64 l.length) ∨ (i = .int .i64 2 ∧ s = .int .i64 ((l.length : Int) + (m.length : Int)))) ∧ Below w.heap.size w wr)
    (fun _ i _ => 2 - (intOf i).toNat)
  case atStart => exact ⟨Or.inl ⟨rfl, rfl⟩, Below.refl _ _⟩
  case round =>
    obtain ⟨hc, hb⟩ := hrel
    have f0 := (hb.cell (p := ⟨g, 0, none⟩) hgs).trans hg
    have f1 := (hb.cell (p := ⟨g, 1, none⟩) hgs).trans hg1
    rcases hc with ⟨rfl, rfl⟩ | ⟨rfl, rfl⟩ | ⟨rfl, rfl⟩
    · go_wp2_with fail
      go_roundw
      case rel => exact ⟨Or.inr (Or.inl ⟨rfl, rfl⟩), hb⟩
      case measure => simp [intOf]
    · go_wp2_with fail
      go_roundw
      case rel => exact ⟨Or.inr (Or.inr ⟨rfl, rfl⟩), hb⟩
      case measure => simp [intOf]
    · have KG1 := KG wr hb
      go_wp2_with fail
      refine KG1.mono ?_
      rintro e w2 ⟨C2, q2, rfl, own2', hb2'⟩
      have own2 := own_base own2' hb.size
      have hb2 := step_below hb2' hb
      clear own2' hb2' KG1 KG f0 f1
      go_wp2_with fail
      go_loopw [6, 27] (fun v i wr => ((i = .int .i64 0 ∧ wr.ownsRow w.heap.size 49 2 v 0 []) ∨ (i = .int .i64 1 ∧ wr.ownsRow w.heap.size 49 2 v l.length (hcells l)) ∨ (i = .int .i64 2 ∧ wr.ownsRow w.heap.size 49 2 v (l.length + m.length) (hcells (l ++ m)))) ∧ Below w.heap.size w wr)
        (fun _ i _ => 2 - (intOf i).toNat)
      case atStart => exact ⟨Or.inl ⟨rfl, own2⟩, hb2⟩
      case round =>
        obtain ⟨hc, hb⟩ := hrel
        have f0 := (hb.cell (p := ⟨g, 0, none⟩) hgs).trans hg
        have f1 := (hb.cell (p := ⟨g, 1, none⟩) hgs).trans hg1
        rcases hc with ⟨rfl, own3⟩ | ⟨rfl, own3⟩ | ⟨rfl, own3⟩
        · obtain ⟨A3, c3, rfl⟩ := own_shapeH own3
          obtain ⟨A4, c4, w4, hr4, own4, gr4⟩ := run_append_ha wr 29 29 49 Try.underlying29 Try.underlying29 w.heap.size i0 hi hz0 hz1 hz2 _ 0 [] own3 A c l (hA.below hb) (by omega) (by omega) hb.size
          simp only [Nat.zero_add, List.nil_append] at hr4 own4
          have hb4 : Below w.heap.size w w4 := hb.grown gr4 hb.size (fun j hj => (own3.lt j hj).1)
          clear gr4
          go_wp2_with (at_builtin; refine Lib.wpList_append_run _ rfl _ _ _ _ rfl _ _ rfl rfl _ _ (hr4 _) ?_)
          go_roundw
          case rel => exact ⟨Or.inr (Or.inl ⟨rfl, own4⟩), hb4⟩
          case measure => simp [intOf]
        · obtain ⟨A3, c3, rfl⟩ := own_shapeH own3
          obtain ⟨A4, c4, w4, hr4, own4, gr4⟩ := run_append_ha wr 29 29 49 Try.underlying29 Try.underlying29 w.heap.size i0 hi hz0 hz1 hz2 _ l.length (hcells l) own3 B d m (hB.below hb) (by omega) (by omega) hb.size
          rw [← hcells_append] at own4
          have hb4 : Below w.heap.size w w4 := hb.grown gr4 hb.size (fun j hj => (own3.lt j hj).1)
          clear gr4
          go_wp2_with (at_builtin; refine Lib.wpList_append_run _ rfl _ _ _ _ rfl _ _ rfl rfl _ _ (hr4 _) ?_)
          go_roundw
          case rel => exact ⟨Or.inr (Or.inr ⟨rfl, own4⟩), hb4⟩
          case measure => simp [intOf]
        · obtain ⟨A3, c3, rfl⟩ := own_shapeH own3
          go_wp2
          go_ret
          exact ownH_of A3 c3 _ _ (by rw [List.length_append]) own3 hb
end Go.Proofs.Ytehcghaficbhiaa
