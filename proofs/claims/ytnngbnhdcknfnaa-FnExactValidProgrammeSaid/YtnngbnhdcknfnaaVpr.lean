import Derived.Test.YtnngbnhdcknfnaaPfo
namespace Go.Proofs.Ytnngbnhdcknfnaa
open Go.RowKit

set_option maxRecDepth 20000 in
set_option maxHeartbeats 2000000 in
theorem specValidProgramme_any (s : Int) (A : Option Addr) (c : Nat) (l : List (Int × Int)) (B : Option Addr) (d : Nat) (m : List (Int × Int)) (o : Nat → Int) (w : World) (hA : HA w A l) (hn : l.length ≤ 1048576) (hwf : HWF l) (hs : -32768 ≤ s ∧ s ≤ 32767) (hB : SecA w B m) (hm : m.length ≤ 1048576) (hswf : SWF m) (howf : OWF o) :
    Calls Try.prog 15 #[.agg #[.int .i16 s, .slice A l.length c], .agg (prA B m.length d o)] w (Says (prgB s l m o) w) := by
  go_enter Try.func15, Try.ntmps15
  go_upto_region 1 with fail
  obtain ⟨X, hX⟩ : ∃ X, X = (w.alloc (.cells #[.int .i16 s, .slice A l.length c] 36)).alloc (.cells (prA B m.length d o) 40) := ⟨_, rfl⟩
  have hb0 : Below w.heap.size w X := by rw [hX]; exact ((Below.refl _ _).alloc (Nat.le_refl _) _).alloc (by simp) _
  have F0 : FP X w.heap.size s A l.length c := by
    have h : Bk X w.heap.size 36 #[.int .i16 s, .slice A l.length c] := by rw [hX]; exact (Bk.new _ _ _ rfl).old _
    exact ⟨h.cell rfl, h.cell rfl⟩
  have P0 : Bk X (w.heap.size + 1) 40 (prA B m.length d o) := by rw [hX]; exact Bk.new _ _ _ (by simp)
  rw [← hX]
  clear hX
  go_wp2_with fail
  refine (l04Ok_any w.heap.size (w.heap.size + 1) s A c l B d m o X F0 (hA.below hb0) hn hwf hs P0 (hB.below hb0) hm hswf howf).mono ?_
  rintro e w1 ⟨rfl, hb1⟩
  have b1 := step_below hb1 hb0
  have F1 := F0.keep hb1
  have P1 := P0.keep hb1
  have A1 := hA.below b1
  have B1 := hB.below b1
  go_wp2
  go_ret
  exact ⟨rfl, b1⟩
set_option maxRecDepth 20000 in
set_option maxHeartbeats 2000000 in
theorem implValidProgramme_any (s : Int) (A : Option Addr) (c : Nat) (l : List (Int × Int)) (B : Option Addr) (d : Nat) (m : List (Int × Int)) (o : Nat → Int) (w : World) (hA : HA w A l) (hn : l.length ≤ 1048576) (hwf : HWF l) (hs : -32768 ≤ s ∧ s ≤ 32767) (hB : SecA w B m) (hm : m.length ≤ 1048576) (hswf : SWF m) (howf : OWF o) :
    Calls Try.prog 18 #[.agg #[.int .i16 s, .slice A l.length c], .agg (prA B m.length d o)] w (Says (prgB s l m o) w) := by
  have hz := zeroPln
  go_enter Try.func18, Try.ntmps18
  go_upto_region 1 with fail
  obtain ⟨X, hX⟩ : ∃ X, X = (w.alloc (.cells #[.int .i16 s, .slice A l.length c] 36)).alloc (.cells (prA B m.length d o) 40) := ⟨_, rfl⟩
  have hb0 : Below w.heap.size w X := by rw [hX]; exact ((Below.refl _ _).alloc (Nat.le_refl _) _).alloc (by simp) _
  have F0 : FP X w.heap.size s A l.length c := by
    have h : Bk X w.heap.size 36 #[.int .i16 s, .slice A l.length c] := by rw [hX]; exact (Bk.new _ _ _ rfl).old _
    exact ⟨h.cell rfl, h.cell rfl⟩
  have P0 : Bk X (w.heap.size + 1) 40 (prA B m.length d o) := by rw [hX]; exact Bk.new _ _ _ (by simp)
  rw [← hX]
  clear hX
  have f0 := F0.1
  have f1 := F0.2
  have HP := hide P0.range49
  obtain ⟨b, hb⟩ : ∃ b, prgB s l m o = b := ⟨_, rfl⟩
  go_wp2_with (first | (with_reducible refine wpList_load_pr rfl 40 (.tmp 3) rfl (w.heap.size + 1) 0 rfl _ _ _ _ _ HP.out Try.underlying40 rfl (pInfo _ _ _ _) ?_))
  refine (planFor0_any s A c l B d m o _ (hA.below hb0) hn hwf hs (hB.below hb0) hm hswf howf b hb).mono ?_
  rintro e w1 ⟨rfl, hb1⟩
  have b1 := step_below hb1 hb0
  clear f0 f1 HP
  have hzi : (Try.prog.info? 84).map (·.size) = some zpl.size := by rw [zpl_eq]; exact plInfo
  have hzo : zpl.all (·.oneCell') = true := by rw [zpl_eq]; exact plA_one
  cases b
  · simp only [Bool.false_eq_true, if_false]
    have HB := hide hb
    clear hb
    go_wp2_with (with_reducible refine wpList_store_newG rfl 84 (.tmp 5) (.tmp 11) rfl zpl rfl rfl 84 _ hzi rfl hzo ?_)
    go_ret
    exact ⟨by rw [HB.out]; rfl, b1.alloc b1.size _⟩
  simp only [if_true]
  have hal : Below w1.heap.size w1 (w1.alloc (.cells (plA s A l.length c B m.length d o) 84)) := (Below.refl _ _).alloc (Nat.le_refl _) _
  have Q0 : Bk (w1.alloc (.cells (plA s A l.length c B m.length d o) 84)) w1.heap.size 84 (plA s A l.length c B m.length d o) := Bk.new _ _ _ rfl
  have b2 := step_below hal b1
  go_upto_region 2 with (with_reducible refine wpList_store_newG rfl 84 (.tmp 5) (.tmp 11) rfl (plA s A l.length c B m.length d o) rfl rfl 84 _ plInfo (by rw [zpl_eq, plA_size, plA_size]) plA_one ?_)
  obtain ⟨Y, hY⟩ : ∃ Y, Y = w1.alloc (.cells (plA s A l.length c B m.length d o) 84) := ⟨_, rfl⟩
  rw [← hY] at hal Q0 b2 ⊢
  clear hY hz hzi hzo hb1 b1
  have A2 := hA.below b2
  have B2 := hB.below b2
  have HB := hide hb
  clear hb
  go_wp2
  go_ret
  exact ⟨by rw [HB.out]; rfl, b2⟩
end Go.Proofs.Ytnngbnhdcknfnaa
